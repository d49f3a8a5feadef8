/- Part. -/
import Derived.Test.YtiblmbpfcmcccaaGreatDoorKX11
import Derived.Lib.SmallJoins
set_option linter.unusedVariables false
set_option linter.defProp false
set_option linter.unusedSimpArgs false
set_option maxRecDepth 100000
set_option maxHeartbeats 16000000
namespace Go.Proofs.YtiblmbpfcmcccaaGreatDoor
open Go.Proofs.Tryz
open Go.ChangeShapes Go.WideShapes Go.ChangeAt Go.RowKit Go.Lib Go.Joins
def zjG {α:Type}(P:Nat->α->Prop):∀ n,(∀ i,i<n->∃ a,P i a)->∃ l:List α,l.length=n/\∀ i a,l[i]?=some a->P i a
 | 0,_=>⟨[],rfl,fun i a h=>by simp at h⟩
 | n+1,h=>by
  obtain⟨l,hl,hp⟩:=zjG P n (fun i hi=>h i (by omega));obtain⟨a,ha⟩:=h n (by omega);refine⟨l++[a],by simp[hl],fun i b hb=>?_⟩
  by_cases hi:i<n
  exact hp i b (by rw[<- hb,zqal (by omega)]);have hlt:=(zqae.1 hb).1;rw[zqag,hl] at hlt;simp at hlt;obtain rfl:i=n:=by omega
  rw[zqaq (by omega),hl,zqbr] at hb;simp at hb;rw[<- hb];exact ha
def zmo {α:Type}(f:α->List Value)(n:Nat)(hn:∀ a,(f a).length=n)(h0:0<n){w:World}{ad:Addr}{l:List α}(hb:0<l.length->ad.block<w.heap.size)
  (h:∀ i a,l[i]?=some a->∀ r,r<n->w.cell? (ad.add (i*n+r))=(f a)[r]?):Reads w w.heap.size n (some ad) l.length (l.flatMap f):=by
 refine⟨zpx f n hn l,fun hl=>⟨ad,rfl,hb hl,fun j u hu=>?_⟩⟩
 have hj:j<l.length*n:=by
  have:=(zqae.1 hu).1;rw[zpx f n hn l] at this;exact this
 have hq:j/n<l.length:=Nat.div_lt_of_lt_mul (by rw[zqbc];exact hj);have hx:l[j/n]?=some l[j/n]:=zqac hq;have hr:=Nat.mod_lt j h0;have e:j/n*n+j%n=j:=by rw[zqbc];exact zqbt j n
 have h1:=h _ _ hx _ hr;have h2:=flat_get f n hn l _ _ _ hx hr;rw[e] at h1 h2;rw[h1,<- h2,hu]
def slA:prog.underlying 38=some (.slice 45):=underlying38
def slT:prog.underlying 22=some (.slice 40):=underlying22
def zxd:prog.cellsOf 45=4:=by kernel_rfl
def zzI:prog.cellsOf 40=2:=by kernel_rfl
def zIK:prog.bytesOf 45=40:=by kernel_rfl
def zKL:prog.bytesOf 40=40:=by kernel_rfl
def zFt:prog.cellsOf 3=1:=by kernel_rfl
def ztY:prog.cellsOf 9=1:=by kernel_rfl
def zIL:prog.cellsOf 38=1:=by kernel_rfl
section
variable {H:Type} {enc:TypeId×Value->H} {w:World}
def zIM {fuel:Nat}{cs:List Value}{x:DataW H×List MemPlace}(h:DataW.trod enc prog w 0 (fun _=>true) true fuel 45 cs=some x) :
  ∃ a:zaI,cs=zea a/\a.w.size<=maxLen:=by
 obtain⟨xs,n,rfl,hx,hl,hxl,hall⟩:=DataW.trod_struct underlying45 h;rw[zxd] at hl
 match cs,hl with
 | [u0,u1,u2,u3],_ =>
  match xs,hxl with
  | [x0,x1,x2,x3],_ =>
   have h0:DataW.trod enc prog w 0 (fun _=>true) true n 3 (([u0,u1,u2,u3].drop 0).take (prog.cellsOf 3))=some x0:=hall 0 _ rfl;have h1:DataW.trod enc prog w 0 (fun _=>true) true n 3 (([u0,u1,u2,u3].drop 1).take (prog.cellsOf 3))=some x1:=hall 1 _ rfl;have h2:DataW.trod enc prog w 0 (fun _=>true) true n 9 (([u0,u1,u2,u3].drop 2).take (prog.cellsOf 9))=some x2:=hall 2 _ rfl;have h3:DataW.trod enc prog w 0 (fun _=>true) true n 3 (([u0,u1,u2,u3].drop 3).take (prog.cellsOf 3))=some x3:=hall 3 _ rfl;rw[zFt] at h0 h1 h3;rw[ztY] at h2;obtain⟨z0,c0,d0,_⟩:=DataW.trod_int underlying3 h0;obtain⟨z1,c1,d1,_⟩:=DataW.trod_int underlying3 h1;obtain⟨s2,c2,d2,hs2⟩:=DataW.trod_string underlying9 h2;obtain⟨z3,c3,d3,_⟩:=DataW.trod_int underlying3 h3;simp at c0 c1 c2 c3;exact⟨⟨z0,z1,s2,z3⟩,by rw[c0,c1,c2,c3];rfl,hs2⟩
def zFu {fuel:Nat}{cs:List Value}{x:DataW H×List MemPlace}(h:DataW.trod enc prog w 0 (fun _=>true) true fuel 38 cs=some x) :
  ∃ v l,cs=[v]/\zcP w v l/\(∀ a∈l,a.w.size<=maxLen)/\((∀ y∈DataW.weights prog 38 x.1,y<=reachBytes)->l.length<=140737488355328):=by
 rcases DataW.trod_slice slA h with⟨rfl,rfl⟩|⟨a,len,cap,elems,rest,n,rfl,rfl,rfl,_,hlc,hcm,hel,he,_,_⟩;exact⟨_,[],rfl,zcP.nil _,fun a ha=>by simp at ha,fun _=>by simp⟩
 have hex:∀ i,i<len->∃ m:zaI,(a.add (i*4)).block<w.heap.size/\(∀ r,r<4->w.cell? ((a.add (i*4)).add r)=(zea m)[r]?)/\m.w.size<=maxLen:=by
  intro i hi;have h1:=he i hi;rw[zqac (by omega:i<elems.length),zxd] at h1;obtain⟨cs,hcs,ht⟩:=Option.bind_eq_some_iff.1 h1;obtain⟨m,rfl,hm⟩:=zIM ht;exact⟨m,World.cells?_block hcs (by omega),(World.cells?_some hcs).2.2,hm⟩
 obtain⟨l,hl,hp⟩:=zjG _ len hex;refine⟨_,l,rfl,⟨some a,cap,by rw[hl],zmo zea 4 zjy (by omega) (fun h0=>?_) (fun i m hm r hr=>?_)⟩,fun m hm=>?_,fun hw=>?_⟩
 ·have:=(hp 0 _ (zqac h0)).1
  rw[zcN] at this;exact this
 ·have:=(hp i m hm).2.1 r hr
  rw[zqk] at this;exact this
 ·obtain⟨i,hi⟩:=List.mem_iff_getElem?.1 hm
  exact(hp i m hi).2.2
 have h1:=hw ((elems.length+rest.length)*40) (by simp[DataW.weights,slA,zIK]);have h2:=reachBytes_lt;have h5:(2:Nat) ^ 47=140737488355328:=by decide
 omega
def zrx {t0 t1:TypeId}(d0 d1:DataW H):DataW.weightsEach prog [t0,t1] [d0,d1]=DataW.weights prog t0 d0++(DataW.weights prog t1 d1++[]):=by
 simp[DataW.weightsEach]
structure StIn (w:World)(p:zah×Value):Prop where
 arcs:zcP w p.2 p.1.arcs
 fin:p.1.fin.size<=maxLen
 w:∀ a∈p.1.arcs,a.w.size<=maxLen
def zBL {fuel:Nat}{cs:List Value}{x:DataW H×List MemPlace}(h:DataW.trod enc prog w 0 (fun _=>true) true fuel 40 cs=some x) :
  ∃ p:zah×Value,cs=stC p/\StIn w p/\((∀ y∈DataW.weights prog 40 x.1,y<=reachBytes)->p.1.arcs.length<=140737488355328):=by
 obtain⟨xs,n,rfl,rfl,hl,hxl,hall⟩:=DataW.trod_struct underlying40 h;rw[zzI] at hl
 match cs,hl with
 | [u0,u1],_ =>
  match xs,hxl with
  | [x0,x1],_ =>
   have h0:DataW.trod enc prog w 0 (fun _=>true) true n 9 (([u0,u1].drop 0).take (prog.cellsOf 9))=some x0:=hall 0 _ rfl;have h1:DataW.trod enc prog w 0 (fun _=>true) true n 38 (([u0,u1].drop 1).take (prog.cellsOf 38))=some x1:=hall 1 _ rfl;rw[ztY] at h0;rw[zIL] at h1;obtain⟨f,c0,d0,hf⟩:=DataW.trod_string underlying9 h0;obtain⟨v,l,c1,ha,hw,hn⟩:=zFu h1;simp at c0 c1;subst c0 c1;refine⟨(⟨f,l⟩,u1),rfl,⟨ha,hf,hw⟩,fun hy=>hn (fun y hm=>hy y ?_)⟩;show y∈DataW.weights prog 40 (.agg [x0.1,x1.1]);rw[DataW.weights,underlying40];show y∈DataW.weightsEach prog [9,38] [x0.1,x1.1];rw[zrx];simp[hm]
def znB {e:TypeId}:∀ (l:List (DataW H)) (d:DataW H),d∈l->∀ y∈DataW.weights prog e d,y∈DataW.weightsAll prog e l
 | [],_,h,_,_=>by cases h
 | x::l,d,h,y,hy=>by
  rw[DataW.weightsAll,zqbo];rcases List.mem_cons.1 h with rfl|h
  exact .inl hy;exact .inr (znB l d h y hy)
def zyx {fuel:Nat}{cs:List Value}{x:DataW H×List MemPlace}(h:DataW.trod enc prog w 0 (fun _=>true) true fuel 22 cs=some x) :
  ∃ v l,cs=[v]/\zfL w v l/\(∀ s∈l,s.fin.size<=maxLen)/\(∀ s∈l,∀ a∈s.arcs,a.w.size<=maxLen)/\((∀ y∈DataW.weights prog 22 x.1,y<=reachBytes)->l.length<=140737488355328/\∀ s∈l,s.arcs.length<=140737488355328):=by
 rcases DataW.trod_slice slT h with⟨rfl,rfl⟩|⟨a,len,cap,elems,rest,n,rfl,rfl,rfl,_,hlc,hcm,hel,he,_,_⟩;exact⟨_,[],rfl,zfL.nil _,fun a ha=>by simp at ha,fun a ha=>by simp at ha,fun _=>⟨by simp,fun a ha=>by simp at ha⟩⟩
 have hex:∀ i,i<len->∃ p:zah×Value,(a.add (i*2)).block<w.heap.size/\(∀ r,r<2->w.cell? ((a.add (i*2)).add r)=(stC p)[r]?)/\StIn w p /\
   ((∀ y∈DataW.weightsAll prog 40 (elems.map (·.1)),y<=reachBytes)->p.1.arcs.length<=140737488355328):=by
  intro i hi;have h1:=he i hi;have hx:elems[i]?=some (elems[i]'(by omega)):=zqac (by omega);rw[hx,zzI] at h1;obtain⟨cs,hcs,ht⟩:=Option.bind_eq_some_iff.1 h1;obtain⟨p,rfl,hp,hn⟩:=zBL ht;exact⟨p,World.cells?_block hcs (by omega),(World.cells?_some hcs).2.2,hp,fun hy=>hn (fun y hm=>hy y (znB _ _ (List.mem_map_of_mem (zqak hx)) y hm))⟩
 obtain⟨l,hl,hp⟩:=zjG _ len hex
 have hz:(l.map (·.1)).zip (l.map (·.2))=l:=by
  have:=List.zip_unzip l;rw[List.unzip_eq_map] at this;exact this
 have hr:Reads w w.heap.size 2 (some a) l.length (l.flatMap stC):=zmo stC 2 zfo (by omega) (fun h0=>by
  have:=(hp 0 _ (zqac h0)).1;rw[zcN] at this;exact this) (fun i m hm r hr=>by
  have:=(hp i m hm).2.1 r hr;rw[zqk] at this;exact this)
 have zm:∀ s∈l.map (·.1),∃ p∈l,p.1=s:=fun s hs=>by simpa using zqbf.1 hs
 refine⟨_,l.map (·.1),rfl,⟨some a,cap,l.map (·.2),by rw[zqbn,hl],by simp,by rw[hz,zqbn];exact hr,fun k s u hs hu=>?_⟩,fun s hs=>?_,fun s hs=>?_,fun hw=>⟨?_,fun s hs=>?_⟩⟩
 ·rw[zqaj] at hs hu
  obtain⟨p,hp1,rfl⟩:=Option.map_eq_some_iff.1 hs;rw[hp1] at hu;simp at hu;rw[<- hu];exact(hp k p hp1).2.2.1.arcs
 ·obtain⟨p,hpm,rfl⟩:=zm s hs
  obtain⟨i,hi⟩:=List.mem_iff_getElem?.1 hpm;exact(hp i p hi).2.2.1.fin
 ·obtain⟨p,hpm,rfl⟩:=zm s hs
  obtain⟨i,hi⟩:=List.mem_iff_getElem?.1 hpm;exact(hp i p hi).2.2.1.w
 ·have h1:=hw ((elems.length+rest.length)*40) (by simp[DataW.weights,slT,zKL])
  have h2:=reachBytes_lt;have h5:(2:Nat) ^ 47=140737488355328:=by decide
  rw[zqbn];omega
 obtain⟨p,hpm,rfl⟩:=zm s hs;obtain⟨i,hi⟩:=List.mem_iff_getElem?.1 hpm;exact(hp i p hi).2.2.2 (fun y hy=>hw y (by rw[DataW.weights,slT];simp only[List.mem_cons,zqbo];exact .inr (.inl hy)))
def zFv {base:Nat}{v:Value}{d:DataW H}{p:List MemPlace}(zV:Value.okWide prog w .any base 24 v)(h:DataW.Trod enc prog w 0 (fun _=>true) true 24 v d p)
  (hw:∀ y∈DataW.weights prog 24 d,y<=reachBytes):∃ m:zaj,zbJ w v m/\zdD m:=by
 obtain⟨v0,v1,v2,v3,y0,y1,y2,y3,n,rfl,rfl,rfl,h0,h1,h2,h3⟩:=open_agg4 underlying24 (by kernel_rfl) (by kernel_rfl) zV h;obtain⟨k,e0,d0,_⟩:=DataW.trod_int underlying3 h0;obtain⟨s,e1,d1,_⟩:=DataW.trod_int underlying3 h1;obtain⟨f,e2,d2,hf⟩:=DataW.trod_string underlying9 h2;obtain⟨u,l,e3,hst,hfin,haw,hb⟩:=zyx h3;simp at e0 e1 e2 e3;subst e0 e1 e2 e3
 have hb2:=hb (fun y hy=>hw y (by
  rw[DataW.weights,underlying24];show y∈DataW.weightsEach prog [3,3,9,22] [y0.1,y1.1,y2.1,y3.1];simp[DataW.weightsEach,hy]))
 exact⟨⟨k,s,f,l⟩,⟨v3,rfl,hst⟩,⟨hb2.1,hf,hfin,hb2.2,haw⟩⟩
end
open Go.RowKit
instance:Inhabited zaI:=⟨⟨0,0,ByteArray.empty,0⟩⟩
def zjH {α:Type}[Inhabited α](enc:α->Value)(w:World)(blk off n:Nat)(d:Array α)(os:Array Obj):w.grownBy (Go.Sort.grow (Go.Sort.putRow enc (Go.Sort.ahead w n) blk off d) os) (some blk):=by
 refine⟨rfl,rfl,rfl,by simp,fun k hk hne=>?_⟩;rw[Go.Sort.heap_grow_old _ _ (by simpa using hk)];show((Go.Sort.ahead w n).heap.modify blk _)[k]?=w.heap[k]?;rw[Array.getElem?_modify,if_neg (fun e=>hne (by rw[e]))];rfl
open Go.RowKit
def zhU {W:World}{g:Nat}{m n:zaj}{u v:Value}(h:zas W g m u) :
  zas ((((W.setCell ⟨g,0,none⟩ (.int .i64 n.kind)).setCell ⟨g,1,none⟩ (.int .i64 n.start)).setCell ⟨g,2,none⟩ (.string n.lead)).setCell ⟨g,3,none⟩ v) g n v /\
  W.grownBy ((((W.setCell ⟨g,0,none⟩ (.int .i64 n.kind)).setCell ⟨g,1,none⟩ (.int .i64 n.start)).setCell ⟨g,2,none⟩ (.string n.lead)).setCell ⟨g,3,none⟩ v) (some g):=by
 have g1:=zac W ⟨g,0,none⟩ (.int .i64 n.kind);have g2:=zac (W.setCell ⟨g,0,none⟩ (.int .i64 n.kind)) ⟨g,1,none⟩ (.int .i64 n.start);have g3:=zac ((W.setCell ⟨g,0,none⟩ (.int .i64 n.kind)).setCell ⟨g,1,none⟩ (.int .i64 n.start)) ⟨g,2,none⟩ (.string n.lead);have g4:=zac (((W.setCell ⟨g,0,none⟩ (.int .i64 n.kind)).setCell ⟨g,1,none⟩ (.int .i64 n.start)).setCell ⟨g,2,none⟩ (.string n.lead)) ⟨g,3,none⟩ v;exact⟨h.set,World.grownBy.trans g1 (World.grownBy.trans g2 (World.grownBy.trans g3 g4))⟩
open Go.RowKit
open Go.RowKit
section
variable {k:Int}
def zBM (hk:zad k)(gc:Nat)(fin:ByteArray)(Au:Option Addr)(nu cu:Nat)(w:World)(hf:fin=⟨#[]⟩∨∃ v,Val k fin v)(hcal:zcZ w gc k) :
  Calls prog 46 #[.agg #[.string fin,.slice Au nu cu],.pointer (some ⟨gc,0,none⟩)] w fun e w'=>∃ g,e=.returned (.slice (some ⟨g,0,none⟩) 1 1)/\w.heap.size<=g/\zar w' g 0 1 (txs (fun _=>finE hk fin))/\w.grownBy w' none:=by
 have hW:=zGA w (.cells #[.string fin,.slice Au nu cu] 40) none;have b0:=zan w #[.string fin,.slice Au nu cu] 40 (j:=0) rfl;have c0:=hW.cell hcal.1 (by simp);have c1:=hW.cell hcal.2.1 (by simp);have c2:=hW.cell hcal.2.2 (by simp);have hz:=fun w'=>zgU k 1 w' (by omega);have HZ:=zHd hz;have HW:=zHd hW;clear hz hcal;unfold zbl at *
 by_cases he:fin=⟨#[]⟩
 ·have hv:finE hk fin=(srE k hk).zero:=by unfold finE;rw[if_pos he]
  have f1:(fin.toList==[])=true:=by rw[he,Lib.toList_data];rfl
  have HV:=zHd hv;clear hv he hf hW;go_enter func46,ntmps46;go_wp2_with fail;refine(HZ.out _).mono ?_;rintro e w1 ⟨g,rfl,hgW,zW,hg1⟩;have H1:=zHd (zAI hgW (zAI zW hg1));clear hgW zW hg1;go_wp2;go_ret;obtain⟨hgW,zW,hg1⟩:=H1.out;have:=HW.out.size;refine⟨g,rfl,by omega,⟨(zkZ zW).1,fun j hj=>((zkZ zW).2 j hj).trans ?_⟩,zaa HW.out hg1⟩;unfold txs;rw[HV.out,zdj]
 have zV:∃ v,Val k fin v:=hf.resolve_left he;have hv:finE hk fin=vE hk fin:=by unfold finE;rw[if_neg he]
 have f1:(fin.toList==[])=false:=by
  rw[Bool.eq_false_iff];intro h;have h2:=eq_of_beq h;rw[Lib.toList_data] at h2;exact he (ByteArray.ext (Array.toList_inj.1 (by rw[h2])))
 have HV:=zHd (zAI hv (zgt hk zV).1);clear hv he hf zV hW;go_enter func46,ntmps46;go_wp2;go_ret;refine⟨w.heap.size+1,by simp,by omega,?_,zaa HW.out (zGA _ _ none)⟩;have h:=zsL (w.alloc (.cells #[.string fin,.slice Au nu cu] 40)) (.string fin) 9;rw[show(w.alloc (.cells #[.string fin,.slice Au nu cu] 40)).heap.size=w.heap.size+1 by simp] at h;refine⟨h.1,fun j hj=>(h.2 j hj).trans ?_⟩;unfold txs;rw[HV.out.1,<- HV.out.2]
def zta (gc:Nat)(v:Value)(fin:ByteArray)(Au:Option Addr)(nu cu:Nat)(hk:zad k)(w:World)(hcal:zcZ w gc k) :
  Calls prog 50 #[.agg #[.string fin,.slice Au nu cu],.pointer (some ⟨gc,0,none⟩)] w fun e w'=>∃ g,e=.returned (.slice (some ⟨g,0,none⟩) 1 1)/\w.heap.size<=g/\zar w' g 0 1 (txs (fun _=>(srE k hk).zero))/\w.grownBy w' none:=by
 have hW:=zGA w (.cells #[.string fin,.slice Au nu cu] 40) none;have c0:=hW.cell hcal.1 (by simp);have c1:=hW.cell hcal.2.1 (by simp);have c2:=hW.cell hcal.2.2 (by simp);have hz:=fun w'=>zgU k 1 w' (by omega);have HZ:=zHd hz;have HW:=zHd hW;clear hz hcal hW;unfold zbl at *;go_enter func50,ntmps50;go_wp2_with fail;refine(HZ.out _).mono ?_;rintro e w1 ⟨g,rfl,hgW,zW,hg1⟩;have H1:=zHd (zAI hgW (zAI zW hg1));clear hgW zW hg1;go_wp2;go_ret;obtain⟨hgW,zW,hg1⟩:=H1.out;have:=HW.out.size;refine⟨g,rfl,by omega,⟨(zkZ zW).1,fun j hj=>((zkZ zW).2 j hj).trans ?_⟩,zaa HW.out hg1⟩;unfold txs;rw[zdj]
def zdv (w:World)(g:Nat)(kd st:Int)(ld:ByteArray)(As:Option Addr)(n cs:Nat):Prop :=
 w.cell? ⟨g,0,none⟩=some (.int .i64 kd)/\w.cell? ⟨g,1,none⟩=some (.int .i64 st)/\w.cell? ⟨g,2,none⟩=some (.string ld)/\w.cell? ⟨g,3,none⟩=some (.slice As n cs)
def zdv.grown {w w':World}{g:Nat}{kd st:Int}{ld:ByteArray}{As:Option Addr}{n cs:Nat}(h:zdv w g kd st ld As n cs)(hg:w.grownBy w' none):zdv w' g kd st ld As n cs :=
 ⟨hg.cell h.1 (by simp),hg.cell h.2.1 (by simp),hg.cell h.2.2.1 (by simp),hg.cell h.2.2.2 (by simp)⟩
def zdv.new (w:World)(kd st:Int)(ld:ByteArray)(As:Option Addr)(n cs:Nat):zdv (w.alloc (.cells #[.int .i64 kd,.int .i64 st,.string ld,.slice As n cs] 24)) w.heap.size kd st ld As n cs:=⟨zan w _ _ rfl,zan w _ _ rfl,zan w _ _ rfl,zan w _ _ rfl⟩
noncomputable def toE (hk:zad k)(l:List zah)(i:Nat):El k:=zbN (srE k hk) (arcM hk l) l.length (finM hk l) i
def zhx (hk:zad k)(l:List zah):Prop:=zdE hk l/\SolveFits (srE k hk) zam l.length l.length 1 (arcM hk l) (fun x _=>finM hk l x)
def zBN (hk:zad k)(l:List zah)(us:List Value)(As:Option Addr)(cs gc:Nat)(w:World)(hok:zda k l)(hst:zhv w l us As cs)(hcal:zcZ w gc k) :
  Calls prog 45 #[.slice As l.length cs,.func (.func 46) #[] #[.pointer (some ⟨gc,0,none⟩)]] w fun e w'=>∃ zs,e=.returned (.slice (some ⟨w.heap.size,0,none⟩) l.length l.length)/\zfE w' w.heap.size w.heap.size l.length 1 zs (fun i=>txs (fun _=>finM hk l i))/\w.grownBy w' none:=by
 have h:=ziJ 46 zuJ #[] #[.pointer (some ⟨gc,0,none⟩)] l us As cs 1 (fun _=>True) (fun i=>txs (fun _=>finM hk l i)) w (by have:=hok.n60;omega) hst (fun i s u hs hu w' hw' ha=>by
  obtain⟨Au,cu,rfl,_⟩:=ha;have hil:=(zqae.1 hs).1;have h1:=zBM hk gc s.fin Au s.arcs.length cu w' (by have:=hok.fins i hil;rw[zgo hs] at this;exact this) (hcal.grown hw');refine h1.mono (fun e w3 h=>?_);obtain⟨g,e1,q1,q2,q3⟩:=h;refine .inl ⟨trivial,_,e1,⟨g,0,1,rfl,zqab _,by unfold maxLen;omega,.inr q1,?_⟩,q3⟩;show zar w3 g 0 1 (txs (fun _=>finM hk l i));unfold finM;rw[zgo hs];exact q2)
 refine h.mono (fun e w3 h=>?_);rcases h with⟨_,v,e1,⟨zs,rfl,q1,_⟩,q3⟩|⟨hn,_⟩
 exact⟨zs,e1,q1,q3⟩;exact zQcg
def ztZ (hk:zad k)(l:List zah)(us:List Value)(As:Option Addr)(cs:Nat)(st:Int)(ld:ByteArray)(w:World)(hok:zda k l)(hst:zhv w l us As cs) :
  Calls prog 21 #[.agg #[.int .i64 k,.int .i64 st,.string ld,.slice As l.length cs]] w (zbQ (zhx hk l) (fun v w'=>∃ g,v=.slice (some ⟨g,0,none⟩) l.length l.length/\w.heap.size<=g/\zar w' g 0 l.length (txs (toE hk l))) w):=by
 have hmf := @zMF prog;have hof:=fun w'=>zot k w';have hfin:=fun(gc:Nat) (w':World) (hg:w.grownBy w' none) (hcal:zcZ w' gc k)=>zBN hk l us As cs gc w' hok (hst.grown hg) hcal;have hsteps:=fun(w':World) (hg:w.grownBy w' none)=>ztX hk l us As cs k st ld w' hok (hst.grown hg)
 have hsolve:=fun(av bv:Value) (w':World) (ha:zbv w' av l.length l.length (arcM hk l)) (hb:zbv w' bv l.length 1 (fun i _=>finM hk l i)) (hf:zdE hk l)=>zkj hk 1 (zqab _) l.length l.length (arcM hk l) (fun x _=>finM hk l x) av bv w' (zqab _) (by have:=hok.n60;omega)
  ⟨ha,hb,fun i hi j _=>zwW hk hf hi j,fun i hi j _=>zwX hk (hok.fins i hi)⟩
 have hcol:=fun(v:Value) (w':World) (hv:zbv w' v l.length 1 (solveF (srE k hk) l.length l.length (arcM hk l) (fun x _=>finM hk l x))) =>
  (show Calls prog 48 #[v] w' (fun e w2=>∃ u,e=.returned u/\u=.slice (some ⟨w'.heap.size,0,none⟩) l.length l.length/\zar w2 w'.heap.size 0 l.length (fun i=>.string (tx (solveF (srE k hk) l.length l.length (arcM hk l) (fun x _=>finM hk l x) i 0)))/\w'.grownBy w2 none) from by
   obtain⟨rs,h1,h2⟩:=hv;exact zrv l.length 1 rs (fun i=>txs (solveF (srE k hk) l.length l.length (arcM hk l) (fun x _=>finM hk l x) i)) _ v w' (by have:=hok.n60;omega) (by omega) h1 (fun i hi=>(h2 i hi).row) (fun i hi=>rfl))
 have zV:∀ i,i<l.length->solveF (srE k hk) l.length l.length (arcM hk l) (fun x _=>finM hk l x) i 0=toE hk l i:=fun i hi=>zgH _ _ _ _ _ (zqab _) i 0 hi;have HO:=zHd hof;have HF:=zHd hfin;have HT:=zHd hsteps;have HS:=zHd hsolve;have HC:=zHd hcol;have HV:=zHd zV;have HN:=zHd hok.n60;have hal:=zGA w (.cells #[.int .i64 k,.int .i64 st,.string ld,.slice As l.length cs] 24) none;obtain⟨x0,x1,x2,x3⟩:=zdv.new w k st ld As l.length cs;have HW:=zHd hal;clear hof hfin hsteps hsolve hcol zV hok hst hal;unfold zbl at *;go_enter func21,ntmps21;go_wp2_with fail;refine(HO.out _).mono ?_;rintro e w1 ⟨rfl,hg1⟩;have hal:=zGA w1 (.cells #[.int .i64 k,.string (zag k),.string (zal k)] 57) none;have hg2:=zaa hg1 hal;have y0:=hg2.cell x0 (by simp);have y1:=hg2.cell x1 (by simp);have y2:=hg2.cell x2 (by simp);have y3:=hg2.cell x3 (by simp);have xc:zcZ (w1.alloc (.cells #[.int .i64 k,.string (zag k),.string (zal k)] 57)) w1.heap.size k:=⟨zan w1 _ _ rfl,zan w1 _ _ rfl,zan w1 _ _ rfl⟩;have HG2:=zHd (zaa HW.out hg2);have HXC:=zHd xc;clear x0 x1 x2 x3 hg1 hal hg2 xc HO HW;go_wp2_with fail;refine(HF.out w1.heap.size _ HG2.out HXC.out).mono ?_;rintro e w3 ⟨zs,rfl,hzs,hg3⟩;have z0:=hg3.cell y0 (by simp);have z1:=hg3.cell y1 (by simp);have z2:=hg3.cell y2 (by simp);have z3:=hg3.cell y3 (by simp);obtain⟨c0,c1,c2⟩:=HXC.out.grown hg3;have hfm:=hzs.mat (F:=fun i _=>finM hk l i) (by have:=HN.out;omega);rw[show(w1.alloc (.cells #[.int .i64 k,.string (zag k),.string (zal k)] 57)).heap.size=w1.heap.size+1 by simp] at hfm;have HG3:=zHd (zaa HG2.out hg3);have HFM:=zHd hfm;clear y0 y1 y2 y3 hzs hfm hg3 HXC HF;have S3:(fun W':World=>W'.cell? ⟨w1.heap.size,0,none⟩=some (.int .i64 k)/\W'.cell? ⟨w1.heap.size,1,none⟩=some (.string (zag k))/\W'.cell? ⟨w1.heap.size,2,none⟩=some (.string (zal k))/\W'.cell? ⟨w.heap.size,0,none⟩=some (.int .i64 k)/\W'.cell? ⟨w.heap.size,1,none⟩=some (.int .i64 st)/\W'.cell? ⟨w.heap.size,2,none⟩=some (.string ld)/\W'.cell? ⟨w.heap.size,3,none⟩=some (.slice As l.length cs)) w3.drew:=⟨c0,c1,c2,z0,z1,z2,z3⟩;have HGD:=zHd (zaa HG3.out (zaf w3 none));clear c0 c1 c2 z0 z1 z2 z3;go_upto_region 3 with(fail)
 go_region_held2 (fun W'=>W'.cell? ⟨w1.heap.size,0,none⟩=some (.int .i64 k)/\W'.cell? ⟨w1.heap.size,1,none⟩=some (.string (zag k))/\W'.cell? ⟨w1.heap.size,2,none⟩=some (.string (zal k))/\W'.cell? ⟨w.heap.size,0,none⟩=some (.int .i64 k)/\W'.cell? ⟨w.heap.size,1,none⟩=some (.int .i64 st)/\W'.cell? ⟨w.heap.size,2,none⟩=some (.string ld)/\W'.cell? ⟨w.heap.size,3,none⟩=some (.slice As l.length cs)) (first|exact S3|exact S5|exact S6|exact S7|go_keep)
  (first
  | (go_at_call 49;refine(HT.out _ HGD.out).mono ?_;rintro e w5 (⟨hp,v5,rfl,hm5,hg5⟩|⟨hn,rfl,hg5⟩);rotate_left 1;(exact⟨rfl,.inr ⟨fun h=>hn h.1,rfl,zaa HGD.out hg5⟩⟩);obtain⟨A5,e5,rfl⟩:=hm5.shape;have S5:(fun W':World=>W'.cell? ⟨w1.heap.size,0,none⟩=some (.int .i64 k)/\W'.cell? ⟨w1.heap.size,1,none⟩=some (.string (zag k))/\W'.cell? ⟨w1.heap.size,2,none⟩=some (.string (zal k))/\W'.cell? ⟨w.heap.size,0,none⟩=some (.int .i64 k)/\W'.cell? ⟨w.heap.size,1,none⟩=some (.int .i64 st)/\W'.cell? ⟨w.heap.size,2,none⟩=some (.string ld)/\W'.cell? ⟨w.heap.size,3,none⟩=some (.slice As l.length cs)) w5:=⟨hg5.cell S3.1 (by simp),hg5.cell S3.2.1 (by simp),hg5.cell S3.2.2.1 (by simp),hg5.cell S3.2.2.2.1 (by simp),hg5.cell S3.2.2.2.2.1 (by simp),hg5.cell S3.2.2.2.2.2.1 (by simp),hg5.cell S3.2.2.2.2.2.2 (by simp)⟩;have H5:=zHd (zAI hp (zAI hm5 hg5));clear hp hm5 hg5)
  | (go_at_call 41;refine(HS.out _ _ w5 H5.out.2.1 ((HFM.out.grown (zaf w3 none)).grown H5.out.2.2) H5.out.1).mono ?_;rintro e w6 (⟨hp,v6,rfl,hm6,hg6⟩|⟨hn,rfl,hg6⟩);rotate_left 1;(exact⟨rfl,.inr ⟨fun h=>hn h.2,rfl,zaa (zaa HGD.out H5.out.2.2) hg6⟩⟩);obtain⟨A6,e6,rfl⟩:=hm6.shape;have S6:(fun W':World=>W'.cell? ⟨w1.heap.size,0,none⟩=some (.int .i64 k)/\W'.cell? ⟨w1.heap.size,1,none⟩=some (.string (zag k))/\W'.cell? ⟨w1.heap.size,2,none⟩=some (.string (zal k))/\W'.cell? ⟨w.heap.size,0,none⟩=some (.int .i64 k)/\W'.cell? ⟨w.heap.size,1,none⟩=some (.int .i64 st)/\W'.cell? ⟨w.heap.size,2,none⟩=some (.string ld)/\W'.cell? ⟨w.heap.size,3,none⟩=some (.slice As l.length cs)) w6:=⟨hg6.cell S5.1 (by simp),hg6.cell S5.2.1 (by simp),hg6.cell S5.2.2.1 (by simp),hg6.cell S5.2.2.2.1 (by simp),hg6.cell S5.2.2.2.2.1 (by simp),hg6.cell S5.2.2.2.2.2.1 (by simp),hg6.cell S5.2.2.2.2.2.2 (by simp)⟩;have H6:=zHd (zAI hp (zAI hm6 hg6));clear hp hm6 hg6)
  | (go_at_call 48;refine(HC.out _ w6 H6.out.2.1).mono ?_;rintro e w7 ⟨u7,rfl,rfl,hr7,hg7⟩;have S7:(fun W':World=>W'.cell? ⟨w1.heap.size,0,none⟩=some (.int .i64 k)/\W'.cell? ⟨w1.heap.size,1,none⟩=some (.string (zag k))/\W'.cell? ⟨w1.heap.size,2,none⟩=some (.string (zal k))/\W'.cell? ⟨w.heap.size,0,none⟩=some (.int .i64 k)/\W'.cell? ⟨w.heap.size,1,none⟩=some (.int .i64 st)/\W'.cell? ⟨w.heap.size,2,none⟩=some (.string ld)/\W'.cell? ⟨w.heap.size,3,none⟩=some (.slice As l.length cs)) w7:=⟨hg7.cell S6.1 (by simp),hg7.cell S6.2.1 (by simp),hg7.cell S6.2.2.1 (by simp),hg7.cell S6.2.2.2.1 (by simp),hg7.cell S6.2.2.2.2.1 (by simp),hg7.cell S6.2.2.2.2.2.1 (by simp),hg7.cell S6.2.2.2.2.2.2 (by simp)⟩;have H7:=zHd (zAI hr7 hg7);clear hr7 hg7))
 all_goals
  go_wp2;go_ret;refine .inl ⟨⟨H5.out.1,H6.out.1⟩,_,rfl,⟨w6.heap.size,rfl,?_,H7.out.1.1,fun j hj=>(H7.out.1.2 j hj).trans ?_⟩,zaa (zaa (zaa HGD.out H5.out.2.2) H6.out.2.2) H7.out.2⟩
  ·have h1:=HGD.out.size
   have h2:=H5.out.2.2.size;have h3:=H6.out.2.2.size;omega
  unfold txs;rw[<- HV.out j hj]
end
open Go.RowKit
def zeD (m:zaj)(k j x:Nat):List Nat:=(List.range k).flatMap (fun i=>(zaX m i).filterMap (fun t=>if t=x then some i else none))++((zaX m k).take j).filterMap (fun t=>if t=x then some k else none)
def zes (m:zaj)(n k j:Nat):List (List Nat):=(List.range n).map (zeD m k j)
def znC (m:zaj)(n k j:Nat):(zes m n k j).length=n:=by simp[zes]
def znD {m:zaj}{n k j x:Nat}(h:x<n):(zes m n k j)[x]?=some (zeD m k j x):=by unfold zes;rw[zqaj,zqbe h];rfl
def zBO {m:zaj}{k j y:Nat}(h:(zaX m k)[j]?=some y)(x:Nat):zeD m k (j+1) x=if x=y then zeD m k j x++[k] else zeD m k j x:=by
 unfold zeD;rw[zcA h,List.filterMap_append]
 by_cases e:x=y
 ·subst e
  rw[if_pos rfl,zqbj];congr 2;simp
 rw[if_neg e];congr 1;have:([y].filterMap (fun t=>if t=x then some k else none))=[]:=by simp[Ne.symm e]
 rw[this,List.append_nil]
def zBP {m:zaj}{n k j y:Nat}(h:(zaX m k)[j]?=some y)(hy:y<n):(zes m n k j).set y (zeD m k j y++[k])=zes m n k (j+1):=by
 apply List.ext_getElem?;intro i
 by_cases hi:i<n
 ·rw[znD hi,zBO h]
  by_cases e:i=y
  ·subst e
   rw[zqbi (by rw[znC];exact hi),if_pos rfl]
  rw[zqbl (Ne.symm e),znD hi,if_neg e]
 rw[zqas (by rw[List.length_set,znC];omega),zqas (by rw[znC];omega)]
def zBQ (m:zaj)(k x:Nat){j:Nat}(h:(zaX m k).length<=j):zeD m k j x=zeD m (k+1) 0 x:=by
 unfold zeD;rw[zqaf h,List.range_succ,List.flatMap_append,List.take_zero];simp
def zBR (m:zaj)(n k:Nat){j:Nat}(h:(zaX m k).length<=j):zes m n k j=zes m n (k+1) 0:=by
 unfold zes;apply List.map_congr_left;intro x _;exact zBQ m k x h
def zua (m:zaj)(x:Nat):zeD m m.states.length 0 x=zbn m x:=by unfold zeD zbn;simp
def zyy (m:zaj)(n:Nat):zes m n 0 0=List.replicate n []:=by
 unfold zes;apply List.ext_getElem?;intro i;rw[zqaj,zqbg]
 by_cases hi:i<n
 rw[zqbe hi,if_pos hi];simp[zeD];rw[zqas (by rw[List.length_range];omega),if_neg hi];rfl
structure zfw (W:World)(C r n:Nat)(vals:List Value)(rows:List (List Nat)):Prop where
 row:W.heap[r]?=some (.cells vals.toArray 64 (0,0))
 vl:vals.length=n
 rl:rows.length=n
 own:∀ (k:Nat) (v:Value) (q:List Nat),vals[k]?=some v->rows[k]?=some q->W.ownsRow C 3 1 v q.length (nvL q)
 dis:∀ (i j:Nat) (v v':Value),i≠j->vals[i]?=some v->vals[j]?=some v'->v.ownBlock=none∨v.ownBlock≠v'.ownBlock
 hr:r<C
 hC:C<=W.heap.size
def zfw.next {W W':World}{C r n:Nat}{vals:List Value}{rows:List (List Nat)}(h:zfw W C r n vals rows)(hg:W.grownBy W' none):zfw W' C r n vals rows :=
 ⟨(hg.block r (by have:=h.hr;have:=h.hC;omega) (by simp)).trans h.row,h.vl,h.rl,fun k v q hv hq=>(h.own k v q hv hq).kept hg (by cases e:v.ownBlock <;> simp),h.dis,h.hr,by have:=hg.size;have:=h.hC;omega⟩
def zfw.at_ {W:World}{C r n:Nat}{vals:List Value}{rows:List (List Nat)}(h:zfw W C r n vals rows){y:Nat}(hy:y<n):∃ v q,vals[y]?=some v/\rows[y]?=some q/\W.cell? ⟨r,y,none⟩=some v/\W.frozen? ⟨r,y,none⟩=false/\W.ownsRow C 3 1 v q.length (nvL q):=by
 have h1:vals[y]?=some (vals[y]'(by rw[h.vl];exact hy)):=zqac (by rw[h.vl];exact hy);have h2:rows[y]?=some (rows[y]'(by rw[h.rl];exact hy)):=zqac (by rw[h.rl];exact hy);refine⟨_,_,h1,h2,?_,zqbx W r y _ _ h.row,h.own y _ _ h1 h2⟩;rw[zqbw W r y _ _ (0,0) h.row,zqap];exact h1
def zfw.push {W w1:World}{C r n y i g c:Nat}{vals:List Value}{rows:List (List Nat)}{v:Value}{q:List Nat}(h:zfw W C r n vals rows)(hv:vals[y]?=some v)(hq:rows[y]?=some q)
  (zO:w1.ownsRow C 3 1 (.slice (some ⟨g,0,none⟩) (q.length+1) c) (q.length+1) (nvL q++[.int .i64 (i:Int)])) (hg:W.grownBy w1 v.ownBlock) (hat:v.ownBlock=some g∨g=W.heap.size) :
  zfw (w1.setCell ⟨r,y,none⟩ (.slice (some ⟨g,0,none⟩) (q.length+1) c)) C r n (vals.set y (.slice (some ⟨g,0,none⟩) (q.length+1) c)) (rows.set y (q++[i])):=by
 have hyl:y<n:=by have:=(zqae.1 hv).1;rw[h.vl] at this;exact this
 have hvo:=(h.own y v q hv hq).lt;have hr:=h.hr;have hC:=h.hC;have h1:w1.heap[r]?=some (.cells vals.toArray 64 (0,0)):=(hg.block r (by omega) (fun e=>by have:=(hvo r e.symm).1;omega)).trans h.row;have gs:=zac w1 ⟨r,y,none⟩ (.slice (some ⟨g,0,none⟩) (q.length+1) c)
 have hgC:C<=g:=by
  have:=(zO.lt g rfl).1;exact this
 refine⟨?_,by rw[List.length_set];exact h.vl,by rw[List.length_set];exact h.rl,fun k u p hu hp=>?_,fun a b u u' hne hu hu'=>?_,hr,by have:=hg.size;simp;omega⟩;rw[heap_setCell_same w1 r y _ _ _ h1];simp
 ·by_cases e:k=y
  ·subst e
   rw[zqbi (by rw[h.vl];exact hyl)] at hu;rw[zqbi (by rw[h.rl];exact hyl)] at hp;cases hu;cases hp;have hh:=zO.kept gs (.inr (by show some g≠some r;intro e;cases e;omega));rw[zqag,zqbq];unfold nvL;rw[List.map_append];exact hh
  rw[zqbl (Ne.symm e)] at hu hp;have ho:=h.own k u p hu hp
  have h2:w1.ownsRow C 3 1 u p.length (nvL p):=ho.kept hg (by
   rcases h.dis k y u v e hu hv with h|h;exact .inl h;exact .inr h)
  exact h2.kept gs (by
   cases eb:u.ownBlock with
   | none=>exact .inl rfl
   | some b=>exact .inr (by have:=(ho.lt b eb).1;show some b≠some r;intro e;cases e;omega))
 have hlt:∀ (k:Nat) (z:Value),vals[k]?=some z->z.ownBlock≠some W.heap.size:=fun k z hz e=>by
  obtain⟨p,hp⟩:∃ p,rows[k]?=some p:=⟨_,zqac (by have:=(zqae.1 hz).1;rw[h.rl,<- h.vl];exact this)⟩;have:=((h.own k z p hz hp).lt _ e).2;omega
 by_cases ea:a=y
 ·subst ea
  rw[zqbi (by rw[h.vl];exact hyl)] at hu;rw[zqbl hne] at hu';cases hu;right;show some g≠u'.ownBlock;rcases hat with e|e
  ·intro e2
   rcases h.dis a b v u' hne hv hu' with h3|h3;rw[e] at h3;cases h3;exact h3 (e.trans e2)
  intro e2;exact hlt b u' hu' (by rw[<- e2,e])
 rw[zqbl (Ne.symm ea)] at hu
 by_cases eb:b=y
 ·subst eb
  rw[zqbi (by rw[h.vl];exact hyl)] at hu';cases hu';show u.ownBlock=none∨u.ownBlock≠some g;rcases hat with e|e
  ·rcases h.dis a b u v hne hu hv with h3|h3
   ·exact .inl h3
   exact .inr (by rw[<- e];exact h3)
  exact .inr (by rw[e];exact hlt a u hu)
 rw[zqbl (Ne.symm eb)] at hu';exact h.dis a b u u' hne hu hu'
def zfw.start {W:World}{B g n:Nat}{l:List Value}(hc:W.heap[g]?=some (.cells (List.replicate n (Value.slice none 0 0)).toArray 64 (0,0))):zfw W W.heap.size g n (List.replicate n (.slice none 0 0)) (List.replicate n []):=by
 refine⟨hc,by simp,by simp,fun k v q hv hq=>?_,fun i j v v' _ hv _=>?_,lt_of_block hc,zqab _⟩
 ·rw[zqbg] at hv hq
  split at hv
  ·cases hv
   exact zQbT
  cases hv
 rw[zqbg] at hv;split at hv;cases hv;exact .inl rfl;cases hv
def zub:(prog.info? 3).map (fun i=>(i.zero,i.size,i.bytes))=some (some (.int .i64 0),1,8):=by kernel_rfl
def zFw:(prog.info? 64).map (fun i=>(i.zero,i.size,i.bytes))=some (some (.slice none 0 0),1,24):=by kernel_rfl
open Go.RowKit
def zyz:Enters 156:=enters_of func156 (by kernel_rfl) rfl
structure zlb (w0:World)(p n:Nat)(f:Nat->List Nat):Prop where
 ex:∃ r,w0.heap[p]?=some (.cells #[.slice (some ⟨r,0,none⟩) n n] 63 (0,0))/\r<w0.heap.size/\∀ x,x<n->∃ v,w0.cell? ⟨r,x,none⟩=some v/\NSl w0 v (f x)
def zBS {w:World}{B n:Nat}{v:Value}{xs:List Value}(h:w.ownsRow B 3 1 v n xs):∃ A cap,v=.slice A n cap/\Reads w w.heap.size 1 A n xs:=znw h
def zlb.of {W:World}{C r p n:Nat}{vals:List Value}{f:Nat->List Nat}(h:zfw W C r n vals ((List.range n).map f))(hp:W.heap[p]?=some (.cells #[.slice (some ⟨r,0,none⟩) n n] 63 (0,0))):zlb W p n f:=by
 refine⟨r,hp,by have:=h.hr;have:=h.hC;omega,fun x hx=>?_⟩;obtain⟨v,q,h1,h2,h3,_,h5⟩:=h.at_ hx;rw[zqaj,zqbe hx] at h2;simp at h2;subst h2;obtain⟨A,cap,hv,hr⟩:=zBS h5;exact⟨v,h3,A,cap,hv,hr⟩
def zBT {w0:World}{p:Nat}{m:zaj}(hbk:zlb w0 p m.states.length (zbn m))(hm:Small m)(zN:∀ x,(zbn m x).length<=1000000000):Steps w0 156 p m.states.length (zbn m):=by
 intro W B C s r t x o v hB0 hBB zm hx hnd hlt;obtain⟨rb,hp,hrb,zW⟩:=hbk;obtain⟨vx,hcx,hns⟩:=zW x hx;obtain⟨x0,_⟩:=one_cell ((hB0.block p (lt_of_block hp)).trans hp);have y0:=(hB0.cell (p:=⟨rb,x,none⟩) hrb).trans hcx;obtain⟨A,cap,rfl,hr⟩:=hns;have n1:(0:Int)<=(x:Int):=by omega
 have n2:(x:Int)<(m.states.length:Int):=by omega
 have hln:=zN x;have hn3:=hm.n;have HMEM:=zHd zm;have HR:=zHd hr;have HB0:=zHd hB0;have HND:=zHd hnd;have HLT:=zHd hlt;clear hp hrb zW hcx zm hr hm hnd hlt hB0 zN;go_enter func156,ntmps156;go_wp2;clear x0 y0
 go_loopw [12] (fun i wr=>∃ (j:Nat) (v:Value),i=.int .i64 j/\j<=(zbn m x).length/\zff wr B C s r t m.states.length (((zbn m x).take j).foldl zbg o) v/\Below B W wr) (fun i _=>(zbn m x).length-(intOf i).toNat)
 case atStart=>exact⟨0,v,rfl,by omega,HMEM.out,Below.refl _ _⟩
 case round =>
  obtain⟨j,v',rfl,hj,zm,hb⟩:=hrel;have HMEM2:=zHd zm;have HB:=zHd hb;have hB1:Below w0.heap.size w0 wr:=HB0.out.trans (hb.mono hBB);clear zm hb
  by_cases hjl:j<(zbn m x).length
  ·obtain⟨ad,y,hA,hst,hc⟩:=zix ((HR.out.below hB1).more hB1.size) hjl
   subst hA;have hyn:y<m.states.length:=zhu x y (zqak hst)
   have htk:((zbn m x).take (j+1)).foldl zbg o=zbg (((zbn m x).take j).foldl zbg o) y:=by
    rw[zcA hst,zlU]
   have zN:(((zbn m x).take j).foldl zbg o).length<=1000000:=by
    have:=short_list (zcw (l:=(zbn m x).take j) HND.out) (zdT (l:=(zbn m x).take j) HLT.out (fun z hz=>zhu x z (zqau hz)));omega
   have n3:(j:Int)<((zbn m x).length:Int):=by omega
   have n4:IntKind.i64.wrap ((j:Int)+1)=(j:Int)+1:=by rw[zqah];omega
   have HTK:=zHd htk;have HRR:=zHd (zny HMEM2.out hyn zN);clear hst htk hB1;go_wp2_with fail;refine HRR.out.mono ?_;rintro e w5 ⟨rfl,⟨v5,hm5⟩,hb5⟩;have HM5:=zHd hm5;have HB5:=zHd (HB.out.trans hb5);clear hm5 hb5 hc;go_wp2
   go_roundw
   case rel=>exact⟨j+1,v5,by go_num,by omega,by rw[HTK.out];exact HM5.out,HB5.out⟩
   case measure=>simp[intOf];omega
  have n3:¬ (j:Int)<((zbn m x).length:Int):=by omega
  have e:(zbn m x).take j=zbn m x:=zqaf (by omega);rw[e] at HMEM2;clear hB1;go_wp2
  go_end0
  exact⟨rfl,⟨v',HMEM2.out⟩,HB.out⟩
def zIN (m:zaj)(w:World)(e:Ending)(w':World):Prop:=∃ p,e=.returned (.func (.func 156) #[] #[.pointer (some ⟨p,0,none⟩)])/\zlb w' p m.states.length (zbn m)/\w.grownBy w' none
def zxe {w:World}{B g n:Nat}{e:TypeId}{l:List Value}(h:w.ownsRow B e 1 (.slice (some ⟨g,0,none⟩) n n) n l):w.heap[g]?=some (.cells l.toArray e (0,0)):=by
 rcases h.2 with⟨h',_⟩|⟨g',cap',cur,h',hb,hg,_,_,hs,ht⟩;simp at h';simp only[Value.slice.injEq,Option.some.injEq,Addr.mk.injEq,and_true,true_and] at h';obtain⟨rfl,rfl⟩:=h';rw[zqaf (by rw[zqbs,hs];exact zqab _)] at ht;subst ht;rw[hg]
def zdw {W3 w1:World}{ob:Obj}{v:Value}{a:Addr}{x:Value}(h:W3.cell? a=some x)(hg:((W3.alloc ob).drew).grownBy w1 v.ownBlock)(hne:some a.block≠v.ownBlock):w1.cell? a=some x :=
 hg.cell (show(W3.alloc ob).cell? a=some x from(zGA W3 ob none).cell h (by simp)) hne
def zuc {W3 w1:World}{ob:Obj}{v:Value}{a:Addr}(hlt:a.block<W3.heap.size)(h:W3.frozen? a=false)(hg:((W3.alloc ob).drew).grownBy w1 v.ownBlock)(hne:some a.block≠v.ownBlock):w1.frozen? a=false :=
 (World.frozen?_of_block ((hg.block a.block (by show a.block<(W3.alloc ob).heap.size;simp;omega) hne).trans ((zGA W3 ob none).block a.block hlt (by simp)))).trans h
def zfg {W3:World}{ob:Obj}{a:Addr}{x:Value}(h:W3.cell? a=some x):((W3.alloc ob).drew).cell? a=some x:=(zGA W3 ob none).cell h (by simp)
def zxf {m:zaj}(hm:Small m):∀ k j x,(zeD m k j x).length<=(k+1)*30000:=by
 have hs:∀ i,(zaX m i).length<=30000:=fun i=>by
  unfold zaX;split
  ·rename_i s h
   rw[zqbn];exact hm.a s (zqak h)
  simp
 intro k j x;unfold zeD;rw[zqag]
 have h1:((List.range k).flatMap (fun i=>(zaX m i).filterMap (fun t=>if t=x then some i else none))).length<=k*30000:=by
  induction k with
  | zero=>simp
  | succ k ih =>
   rw[List.range_succ,List.flatMap_append,zqag];have:=List.length_filterMap_le (fun t=>if t=x then some k else none) (zaX m k);have:=hs k;simp only[List.flatMap_cons,List.flatMap_nil,List.append_nil];omega
 have h2:=List.length_filterMap_le (fun t=>if t=x then some k else none) ((zaX m k).take j);have h3:=hs k;rw[zqan] at h2;omega
def zpL {w:World}{v:Value}{m:zaj}(hv:zbJ w v m)(hm:Small m):Calls prog 115 #[v] w (zIN m w):=by
 obtain⟨i0,hi,hz0,hz1,hz2⟩:=zdo zFw;obtain⟨i1,hj,hy0,hy1,hy2⟩:=zdo zub;obtain⟨u,rfl,hst0⟩:=hv;obtain⟨A,cap,us,rfl,hS0⟩:=zeg.of hst0;have hg:w.grownBy (w.alloc (.cells #[.int .i64 m.kind,.int .i64 m.start,.string m.lead,.slice A m.states.length cap] 24)) none:=zGA _ _ _;have hbx:=zas.new w m (.slice A m.states.length cap);have HS:=zHd hS0;have HBX:=zHd hbx;have HG:=zHd hg;have HM:=zHd hm;have hn3:=hm.n;obtain⟨x0,x1,x2,x3⟩:=hbx.cells;clear hbx hg hst0 hS0 hm;go_enter func115,ntmps115;go_wp2_with (at_make;refine wpList_make_full _ rfl _ _ 63 rfl (w.heap.size+1) 64 i0 (.slice none 0 0) 1 underlying63 hi hz0 hz1 _ _ _ _ m.states.length rfl rfl rfl rfl (by rw[hz2];omega) (by unfold maxLen;omega) (by simp) ?_);intro w1 zO hgr;have zW:=zxe zO;rw[toList_madeCells_one] at zW;have hga:=zGA w1 (.cells #[.slice (some ⟨w.heap.size+1,0,none⟩) m.states.length m.states.length] 63) none
 have hpv:(w1.alloc (.cells #[.slice (some ⟨w.heap.size+1,0,none⟩) m.states.length m.states.length] 63)).heap[w1.heap.size]?=some (.cells #[.slice (some ⟨w.heap.size+1,0,none⟩) m.states.length m.states.length] 63 (0,0)):=by
  show(w1.heap.push _)[w1.heap.size]?=_;rw[zqaz]
 have hr1:=zfw.start (B:=0) (l:=[]) ((hga.block _ (lt_of_block zW) (by simp)).trans zW);have hbx1:=(HBX.out.grown hgr).grown hga;obtain⟨y0,y1,y2,y3⟩:=hbx1.cells;have HG1:=zHd (zaa HG.out (zaa hgr hga));have hsz:(w1.alloc (.cells #[.slice (some ⟨w.heap.size+1,0,none⟩) m.states.length m.states.length] 63)).heap.size=w1.heap.size+1:=by simp
 rw[hsz] at hr1;rw[<- zyy m] at hr1;have HPV:=zHd hpv;have HR1:=zHd hr1;have hlt1:w.heap.size+1<w1.heap.size:=lt_of_block zW;clear zO hgr zW hga hpv hr1 hbx1 hsz x0 x1 x2 x3;go_wp2;generalize hW:w1.alloc (.cells #[.slice (some ⟨w.heap.size+1,0,none⟩) m.states.length m.states.length] 63)=W at *;clear hW y0 y1 y2 y3
 go_loopw [15] (fun i wr=>∃ (k:Nat) (vals:List Value),i=.int .i64 k/\k<=m.states.length/\zfw wr (w1.heap.size+1) (w.heap.size+1) m.states.length vals (zes m m.states.length k 0) /\
  wr.heap[w1.heap.size]?=some (.cells #[.slice (some ⟨w.heap.size+1,0,none⟩) m.states.length m.states.length] 63 (0,0))/\Below w.heap.size w wr) (fun i _=>m.states.length-(intOf i).toNat)
 case atStart=>exact⟨0,_,rfl,by omega,HR1.out,HPV.out,zbb HG1.out⟩
 case round =>
  obtain⟨k,vals,rfl,hk,zR,hpv,hb⟩:=hrel;have HROWS:=zHd zR;have HPV2:=zHd hpv;have HB:=zHd hb;clear zR hpv hb
  by_cases hlt:k<m.states.length
  ·obtain⟨ad,s,Br,cb,hA,hs,hu,hc,hra⟩:=(HS.out.below HB.out).at_ hlt
   subst hA;obtain⟨z0,z1⟩:=hc;have hal:=HM.out.a s (zqak hs);have n1:(k:Int)<(m.states.length:Int):=by omega
   have n2:IntKind.i64.wrap ((k:Int)+1)=(k:Int)+1:=by rw[zqah];omega
   have hga:=zGA wr (.cells #[.string s.fin,.slice Br s.arcs.length cb] 40) none;have HSS:=zHd hs;have HU:=zHd hu;have HR2:=zHd (HROWS.out.next hga);have HP2:=zHd ((hga.block _ (lt_of_block HPV2.out) (by simp)).trans HPV2.out);have HB2:=zHd (zbe HB.out |> fun h=>zbb (zaa h hga));clear hs hu hra hga;go_wp2;generalize hW2:wr.alloc (.cells #[.string s.fin,.slice Br s.arcs.length cb] 40)=W2 at *;clear hW2 z0 z1;generalize wr=w4 at *
   go_loopw [23] (fun i wr=>∃ (j:Nat) (vals:List Value),i=.int .i64 j/\j<=s.arcs.length/\zfw wr (w1.heap.size+1) (w.heap.size+1) m.states.length vals (zes m m.states.length k j) /\
    wr.heap[w1.heap.size]?=some (.cells #[.slice (some ⟨w.heap.size+1,0,none⟩) m.states.length m.states.length] 63 (0,0))/\Below w.heap.size w wr) (fun i _=>s.arcs.length-(intOf i).toNat)
   case atStart=>exact⟨0,vals,rfl,by omega,HR2.out,HP2.out,HB2.out⟩
   case round =>
    obtain⟨j,vals2,rfl,hj2,zR,hpv,hb⟩:=hrel;have HROWS3:=zHd zR;have HPV3:=zHd hpv;have HB3:=zHd hb;clear zR hpv hb
    by_cases hjl:j<s.arcs.length
    ·obtain⟨ad2,a,hBr,hab,haj,hat⟩:=zgV ((HS.out.below HB3.out).arcs_at HSS.out HU.out) hjl
     subst hBr;obtain⟨z0,z1,z2,z3⟩:=hat;have harc:=HM.out.wf.arcs s (zqak HSS.out) a (zqak haj);obtain⟨y,hy⟩:∃ y:Nat,a.t=(y:Int):=⟨a.t.toNat,by omega⟩;have hyn:y<m.states.length:=(by omega);have hst:(zaX m k)[j]?=some y:=(by rw[zkf HSS.out,zqaj,haj];simp[hy]);have hnx:=zBP hst hyn;rw[hy] at z3;have n3:(j:Int)<(s.arcs.length:Int):=(by omega);have n4:IntKind.i64.wrap ((j:Int)+1)=(j:Int)+1:=(by rw[zqah];omega);have n5:(0:Int)<=(y:Int):=(by omega);have n6:(y:Int)<(m.states.length:Int):=(by omega);have hga:=zGA wr (.cells #[.int .i64 a.i,.int .i64 a.o,.string a.w,.int .i64 (y:Int)] 45) none;have hr4:=HROWS3.out.next hga;obtain⟨vy,q,hvy,hq,c3,f3,zO⟩:=hr4.at_ hyn;have hqe:q=zeD m k j y:=(by rw[znD hyn] at hq;exact(Option.some.inj hq).symm);have hql:q.length<=3001*30000:=(by rw[hqe];exact zqam (zxf HM.out k j y) (Nat.mul_le_mul_right _ (by omega)));have hownr:=HROWS3.out.own y vy q hvy hq;obtain⟨c1,_⟩:=one_cell ((hga.block _ (lt_of_block HPV3.out) (by simp)).trans HPV3.out);have HNX:=zHd (by rw[hqe];exact hnx:(zes m m.states.length k j).set y (q++[k])=zes m m.states.length k (j+1));have HB4:=zHd (zbb (zaa (zbe HB3.out) hga));have HR4:=zHd hr4;have HVY:=zHd hvy;have HQ:=zHd hq;have HOWN:=zHd zO;have N1:some w1.heap.size≠vy.ownBlock:=fun e=>by have:=(zO.lt _ e.symm).1;omega
     have N2:some wr.heap.size≠vy.ownBlock:=fun e=>by have:=(hownr.lt _ e.symm).2;omega
     have N3:some (w.heap.size+1)≠vy.ownBlock:=fun e=>by have:=(zO.lt _ e.symm).1;omega
     have hlt3:=HROWS3.out.hC;have HPV4:=zHd ((hga.block _ (lt_of_block HPV3.out) (by simp)).trans HPV3.out);have HC1:=zHd c1;have HC3:=zHd c3;have HF3:=zHd f3;have HN1:=zHd N1;have HN2:=zHd N2;have HN3:=zHd N3;clear haj harc hy hst hnx hr4 hvy hq hqe hownr hga zO c1 c3 f3 N1 N2 N3;go_upto_region 8 with(fail);have c2:=(zsH wr ⟨a.i,a.o,a.w,(y:Int)⟩).c3;simp only[zqat] at c2;have hsz4:(wr.alloc (.cells #[.int .i64 a.i,.int .i64 a.o,.string a.w,.int .i64 (y:Int)] 45)).heap.size=wr.heap.size+1:=(by simp);generalize hW3:wr.alloc (.cells #[.int .i64 a.i,.int .i64 a.o,.string a.w,.int .i64 (y:Int)] 45)=W3 at *;clear hW3 z0 z1 z2 z3;have c1:=HC1.out;have c3:=HC3.out;have f3:=HF3.out;have N1:=HN1.out;have N2:=HN2.out;have N3:=HN3.out;have q1:=World.new_ne W3 _ c1;have q2:=World.new_ne W3 _ c2;have q3:=World.new_ne W3 _ c3;have HSZ4:=zHd hsz4;have hle4:w1.heap.size+1<=W3.heap.size:=(by omega);clear hsz4;refine zdU (e:=12) (n:=12) (fun W'=>W'.cell? ⟨w1.heap.size,0,none⟩=some (.slice (some ⟨w.heap.size+1,0,none⟩) m.states.length m.states.length)/\W'.cell? ⟨wr.heap.size,3,none⟩=some (.int .i64 (y:Int))/\W'.cell? ⟨w.heap.size+1,y,none⟩=some vy) (by kernel_rfl) (by kernel_rfl) rfl ?_;have hS0:(fun W':World=>W'.cell? ⟨w1.heap.size,0,none⟩=some (.slice (some ⟨w.heap.size+1,0,none⟩) m.states.length m.states.length)/\W'.cell? ⟨wr.heap.size,3,none⟩=some (.int .i64 (y:Int))/\W'.cell? ⟨w.heap.size+1,y,none⟩=some vy) W3.drew:=⟨c1,c2,c3⟩;refine zTk 0 (.slice (some ⟨w.heap.size+1,0,none⟩) m.states.length m.states.length) rfl hS0 ?_;(try simp only[zS,Act.put]);refine zTk 1 (.pointer (some ⟨wr.heap.size,3,none⟩)) rfl hS0 ?_;(try simp only[zS,Act.put]);refine zTk 2 (.int .i64 (y:Int)) rfl hS0 ?_;(try simp only[zS,Act.put]);refine zTk 3 (.slice (some ⟨w.heap.size+1,0,none⟩) m.states.length m.states.length) rfl hS0 ?_;(try simp only[zS,Act.put]);refine zTk 4 (.pointer (some ⟨wr.heap.size,3,none⟩)) rfl hS0 ?_;(try simp only[zS,Act.put]);refine zTk 5 (.int .i64 (y:Int)) rfl hS0 ?_;(try simp only[zS,Act.put]);refine zTk 6 (.pointer (some ⟨w.heap.size+1,y,none⟩)) rfl hS0 ?_;(try simp only[zS,Act.put]);refine zTk 7 (vy) rfl hS0 ?_;(try simp only[zS,Act.put]);refine zTk 8 (.int .i64 (k:Int)) rfl hS0 ?_;(try simp only[zS,Act.put]);refine zqcc (rs:=[9]) (by kernel_rfl) (by simp) ?_;refine AllReadyH.cons rfl (fun K hK=>?_) AllReadyH.nil;go_simp;refine hK.out _ _ ⟨zfg c1,zfg c2,zfg c3⟩ (fun zH=>?_);refine zqcc (rs:=[10]) (by kernel_rfl) (by simp) ?_;refine AllReadyH.cons rfl (fun K hK=>?_) AllReadyH.nil;refine step_append_lies _ (by rfl) _ _ _ (by rfl) (w1.heap.size+1) 3 i1 (.int .i64 0) 1 8 underlying64 hj hy0 hy1 hy2 rfl (by omega) vy q.length (nvL q) (by rfl) ((HOWN.out.alloc _).drew) ⟨W3.heap.size,0,none⟩ 1 1 [.int .i64 (k:Int)] (by rfl) (by rfl) (World.news_of_block (cs:=#[.int .i64 (k:Int)]) (t:=3) (fr:=(0,0)) (zqce W3 _)) (by simp[Value.oneCell']) (by omega) (by unfold maxLen;omega) (by omega) (by simp;omega) (W3.heap.size+1) (by simp) ?_;intro gg cc w6 zj zG hat hlt6;refine hK.out _ _ ⟨zdw c1 zG N1,zdw c2 zG N2,zdw c3 zG N3⟩ (fun zH=>?_);have s4:=zuc (a:=⟨w.heap.size+1,y,none⟩) (by show w.heap.size+1<W3.heap.size;omega) f3 zG N3;have s3:=zdw c3 zG N3;refine zTk 11 (.pointer (some ⟨w.heap.size+1,y,none⟩)) rfl zH ?_;(try simp only[zS,Act.put]);refine wpAnyH_done (by kernel_rfl) ?_ _;refine zeZ (by rfl) (fun K hK=>?_);go_simp;refine hK _ _ ?_
     iterate 1
      have hX:W3.grownBy (W3.alloc (.cells #[.int .i64 (k:Int)] 3)).drew none:=zaa (zGA _ _ _) (zaf _ _);have hr7:=(HR4.out.next hX).push HVY.out HQ.out zj zG (by first|exact hat|(simp;exact hat)|simpa using hat);have HR7:=zHd hr7
      have HP7:Hid ((w6.setCell ⟨w.heap.size+1,y,none⟩ (.slice (some ⟨gg,0,none⟩) (q.length+1) cc)).heap[w1.heap.size]?=some (.cells #[.slice (some ⟨w.heap.size+1,0,none⟩) m.states.length m.states.length] 63 (0,0))) :=
       zHd (((zac w6 ⟨w.heap.size+1,y,none⟩ _).block _ (by have:=zG.size;have:W3.heap.size<=(W3.alloc (.cells #[.int .i64 (k:Int)] 3)).drew.heap.size:=hX.size;omega) (by simp;omega)).trans ((zG.block _ (by have:W3.heap.size<=(W3.alloc (.cells #[.int .i64 (k:Int)] 3)).drew.heap.size:=hX.size;omega) N1).trans ((hX.block _ (by omega) (by simp)).trans HPV4.out)))
      have hb7:Below w.heap.size w (w6.setCell ⟨w.heap.size+1,y,none⟩ (.slice (some ⟨gg,0,none⟩) (q.length+1) cc)) :=
       ((zbb (zaa (zbe HB4.out) hX)).grown zG (by have:=hX.size;omega) (fun b e=>by have:=(HOWN.out.lt b e).1;omega)).grown (zac w6 ⟨w.heap.size+1,y,none⟩ _) (by have:=zG.size;have:=hX.size;omega) (fun b e=>by cases e;show w.heap.size<=w.heap.size+1;omega)
      have HB7:=zHd hb7;clear hX hr7 hb7 zj zG hat s3 s4 c1 c2 c3 f3 q1 q2 q3 N1 N2 N3;go_wp2
      go_roundw
      case rel=>exact⟨j+1,_,by go_num,by omega,by rw[<- HNX.out];exact HR7.out,HP7.out,HB7.out⟩
      case measure=>simp[intOf];omega
    have n3:¬ (j:Int)<(s.arcs.length:Int):=(by omega);have he:=zBR m m.states.length k (j:=j) (by rw[zkf HSS.out,zqbn];omega);have hr5:=HROWS3.out;rw[he] at hr5;have HR5:=zHd hr5;clear he hr5;go_wp2
    go_roundw
    case rel=>exact⟨k+1,vals2,by go_num,by omega,HR5.out,HPV3.out,HB3.out⟩
    case measure=>simp[intOf];omega
  have n1:¬ (k:Int)<(m.states.length:Int):=by omega
  have hke:k=m.states.length:=by omega
  have hbk:=zlb.of (f:=zbn m) (by
   have h:=HROWS.out;rw[hke,show zes m m.states.length m.states.length 0=(List.range m.states.length).map (zbn m) by unfold zes;apply List.map_congr_left;intro x _;exact zua m x] at h;exact h) HPV2.out
  have HBK:=zHd hbk;clear hbk;go_wp2;go_ret;exact⟨_,rfl,HBK.out,zbe HB.out⟩
open Go.RowKit
def zdG (W:World)(g n:Nat)(f:Nat->Int):Prop:=W.heap[g]?=some (.cells ((List.range n).map (fun x=>Value.int .i64 (f x))).toArray 3 (0,0))
def zdG.lt {W:World}{g n:Nat}{f:Nat->Int}(h:zdG W g n f):g<W.heap.size:=lt_of_block h
def zdG.cell {W:World}{g n x:Nat}{f:Nat->Int}(h:zdG W g n f)(hx:x<n):W.cell? ⟨g,x,none⟩=some (.int .i64 (f x)):=by
 rw[zqbw W g x _ _ (0,0) h,zqap,zqaj,zqbe hx];rfl
def zdG.free {W:World}{g n:Nat}{f:Nat->Int}(h:zdG W g n f)(x:Nat):W.frozen? ⟨g,x,none⟩=false:=zqbx W g x _ _ h
def zdG.congr {W:World}{g n:Nat}{f f':Nat->Int}(h:zdG W g n f)(he:∀ x,x<n->f x=f' x):zdG W g n f':=by
 unfold zdG at *;rw[h];congr 3;apply List.map_congr_left;intro x hx;rw[he x (List.mem_range.1 hx)]
def zdG.set {W:World}{g n x:Nat}{f:Nat->Int}(h:zdG W g n f)(v:Int):zdG (W.setCell ⟨g,x,none⟩ (.int .i64 v)) g n (fun y=>if y=x then v else f y):=by
 unfold zdG;rw[heap_setCell_same W g x _ _ _ h];congr 3;apply Array.ext';rw[Array.toList_setIfInBounds];apply List.ext_getElem?;intro i;rw[List.getElem?_set]
 by_cases e:x=i
 ·subst e
  rw[if_pos rfl]
  by_cases hx:x<n
  rw[if_pos (by simpa using hx),zqaj,zqbe hx];simp;rw[if_neg (by simpa using hx),zqas (by simpa using hx)]
 rw[if_neg e];simp only[zqaj]
 by_cases hi:i<n
 ·rw[zqbe hi]
  simp[Ne.symm e]
 rw[zqas (by simpa using hi)];rfl
def zdG.kept {W W':World}{g n:Nat}{f:Nat->Int}{r:Option Nat}(h:zdG W g n f)(hg:W.grownBy W' r)(hr:some g≠r):zdG W' g n f:=(hg.block g h.lt hr).trans h
def zdG.of_full {w:World}{B g n:Nat}(h:w.ownsRow B 3 1 (.slice (some ⟨g,0,none⟩) n n) n (madeCells #[Value.int .i64 0] n).toList):zdG w g n (fun _=>0):=by
 have h1:=zxe h;rw[toList_madeCells_one] at h1;unfold zdG;rw[h1];congr 3;apply List.ext_getElem?;intro i;rw[zqbg,zqaj]
 by_cases hi:i<n
 rw[zqbe hi,if_pos hi];rfl;rw[zqas (by simpa using hi),if_neg hi];rfl
structure zdb (W:World)(C g:Nat)(ss:List zah)(us:List Value):Prop where
 row:W.heap[g]?=some (.cells ((ss.zip us).flatMap stC).toArray 40 (0,0))
 len:us.length=ss.length
 own:∀ (k:Nat) (s:zah) (x:Value),ss[k]?=some s->us[k]?=some x->W.ownsRow C 45 4 x s.arcs.length (s.arcs.flatMap zea)
 dis:∀ (i j:Nat) (v v':Value),i≠j->us[i]?=some v->us[j]?=some v'->v.ownBlock=none∨v.ownBlock≠v'.ownBlock
 hr:g<C
 hC:C<=W.heap.size
def zdb.next {W W':World}{C g:Nat}{ss:List zah}{us:List Value}(h:zdb W C g ss us)(hg:W.grownBy W' none):zdb W' C g ss us :=
 ⟨(hg.block g (by have:=h.hr;have:=h.hC;omega) (by simp)).trans h.row,h.len,fun k v q hv hq=>(h.own k v q hv hq).kept hg (by cases e:q.ownBlock <;> simp),h.dis,h.hr,by have:=hg.size;have:=h.hC;omega⟩
def zdb.other {W W':World}{C g b:Nat}{ss:List zah}{us:List Value}(h:zdb W C g ss us)(hg:W.grownBy W' (some b))(hb:b<C)(hne:b≠g):zdb W' C g ss us :=
 ⟨(hg.block g (by have:=h.hr;have:=h.hC;omega) (by simpa using Ne.symm hne)).trans h.row,h.len,fun k v q hv hq=>(h.own k v q hv hq).kept hg (by
   cases e:q.ownBlock with
   | none=>exact .inl rfl
   | some c=>exact .inr (by have:=((h.own k v q hv hq).lt c e).1;intro e2;cases e2;omega)),h.dis,h.hr,by have:=hg.size;have:=h.hC;omega⟩
def zdb.at_ {W:World}{C g k:Nat}{ss:List zah}{us:List Value}(h:zdb W C g ss us){s:zah}(hs:ss[k]?=some s) :
  ∃ x,us[k]?=some x/\W.cell? ⟨g,k*2,none⟩=some (.string s.fin)/\W.cell? ⟨g,k*2+1,none⟩=some x/\(∀ j,W.frozen? ⟨g,j,none⟩=false)/\W.ownsRow C 45 4 x s.arcs.length (s.arcs.flatMap zea):=by
 have hk:=(zqae.1 hs).1;have hu:us[k]?=some (us[k]'(by rw[h.len];exact hk)):=zqac (by rw[h.len];exact hk);have hz:(ss.zip us)[k]?=some (s,us[k]'(by rw[h.len];exact hk)):=by rw[List.getElem?_zip_eq_some];exact⟨hs,hu⟩
 have h0:=flat_get stC 2 zfo (ss.zip us) k 0 _ hz (by omega);have h1:=flat_get stC 2 zfo (ss.zip us) k 1 _ hz (by omega);rw[Nat.add_zero] at h0;refine⟨_,hu,?_,?_,fun j=>zqbx W g j _ _ h.row,h.own k s _ hs hu⟩;rw[zqbw W g _ _ _ (0,0) h.row,zqap];exact h0;rw[zqbw W g _ _ _ (0,0) h.row,zqap];exact h1
def zdb.set_fin {W:World}{C g k:Nat}{ss:List zah}{us:List Value}(h:zdb W C g ss us){s:zah}(hs:ss[k]?=some s)(f:ByteArray) :
  zdb (W.setCell ⟨g,k*2,none⟩ (.string f)) C g (ss.set k ⟨f,s.arcs⟩) us:=by
 have hk:=(zqae.1 hs).1;have hu:us[k]?=some (us[k]'(by rw[h.len];exact hk)):=zqac (by rw[h.len];exact hk);have hz:(ss.zip us)[k]?=some (s,us[k]'(by rw[h.len];exact hk)):=by rw[List.getElem?_zip_eq_some];exact⟨hs,hu⟩
 have hself:us.set k (us[k]'(by rw[h.len];exact hk))=us:=by simp
 have hfl:=zpJ stC 2 zfo (ss.zip us) k 0 _ (⟨f,s.arcs⟩,us[k]'(by rw[h.len];exact hk)) (.string f) hz (by omega) rfl;rw[Nat.add_zero,<- zsW,hself] at hfl;have gs:=zac W ⟨g,k*2,none⟩ (.string f);refine⟨?_,by rw[List.length_set];exact h.len,fun i t x hi hx=>?_,h.dis,h.hr,by have:=h.hC;simp;exact this⟩;rw[heap_setCell_same W g _ _ _ _ h.row,hfl];simp
 have hne:x.ownBlock=none∨x.ownBlock≠some g:=by
  cases eb:x.ownBlock with
  | none=>exact .inl rfl
  | some b =>
   right;intro e;cases e;obtain⟨t2,ht2⟩:∃ t2,ss[i]?=some t2:=⟨_,zqac (by have:=(zqae.1 hx).1;rw[h.len] at this;exact this)⟩;have:=((h.own i t2 x ht2 hx).lt _ eb).1;have:=h.hr;omega
 by_cases e:i=k
 ·subst e
  rw[zqbi hk] at hi;cases hi;exact(h.own i s x hs hx).kept gs hne
 rw[zqbl (Ne.symm e)] at hi;exact(h.own i t x hi hx).kept gs hne
def zdb.push {W w1:World}{C g y gg c:Nat}{ss:List zah}{us:List Value}{s:zah}{v:Value}{a:zaI}(h:zdb W C g ss us)(hs:ss[y]?=some s)(hv:us[y]?=some v)
  (zO:w1.ownsRow C 45 4 (.slice (some ⟨gg,0,none⟩) (s.arcs.length+1) c) (s.arcs.length+1) (s.arcs.flatMap zea++zea a)) (hg:W.grownBy w1 v.ownBlock) (hat:v.ownBlock=some gg∨gg=W.heap.size) :
  zdb (w1.setCell ⟨g,y*2+1,none⟩ (.slice (some ⟨gg,0,none⟩) (s.arcs.length+1) c)) C g (ss.set y ⟨s.fin,s.arcs++[a]⟩) (us.set y (.slice (some ⟨gg,0,none⟩) (s.arcs.length+1) c)):=by
 have hyl:=(zqae.1 hs).1;have hyu:=(zqae.1 hv).1;have hvo:=(h.own y s v hs hv).lt;have hr:=h.hr;have hC:=h.hC;have h1:w1.heap[g]?=some (.cells ((ss.zip us).flatMap stC).toArray 40 (0,0)):=(hg.block g (by omega) (fun e=>by have:=(hvo g e.symm).1;omega)).trans h.row;have gs:=zac w1 ⟨g,y*2+1,none⟩ (.slice (some ⟨gg,0,none⟩) (s.arcs.length+1) c);have hgC:C<=gg:=(zO.lt gg rfl).1;have hz:(ss.zip us)[y]?=some (s,v):=by rw[List.getElem?_zip_eq_some];exact⟨hs,hv⟩
 have hfl:=zpJ stC 2 zfo (ss.zip us) y 1 _ (⟨s.fin,s.arcs++[a]⟩,.slice (some ⟨gg,0,none⟩) (s.arcs.length+1) c) (.slice (some ⟨gg,0,none⟩) (s.arcs.length+1) c) hz (by omega) rfl;rw[<- zsW] at hfl;refine⟨?_,by rw[List.length_set,List.length_set];exact h.len,fun k t u ht hu=>?_,fun i j u u' hne hu hu'=>?_,hr,by have:=hg.size;simp;omega⟩;rw[heap_setCell_same w1 g _ _ _ _ h1,hfl];simp
 ·by_cases e:k=y
  ·subst e
   rw[zqbi hyu] at hu;rw[zqbi hyl] at ht;cases hu;cases ht;have hh:=zO.kept gs (.inr (by show some gg≠some g;intro e;cases e;omega));show World.ownsRow _ _ _ _ _ (s.arcs++[a]).length ((s.arcs++[a]).flatMap zea);rw[zqag,zqbq,List.flatMap_append,List.flatMap_singleton];exact hh
  rw[zqbl (Ne.symm e)] at hu ht;have ho:=h.own k t u ht hu
  have h2:=ho.kept hg (by
   rcases h.dis k y u v e hu hv with h|h;exact .inl h;exact .inr h)
  exact h2.kept gs (by
   cases eb:u.ownBlock with
   | none=>exact .inl rfl
   | some b=>exact .inr (by have:=(ho.lt b eb).1;show some b≠some g;intro e;cases e;omega))
 have hlt:∀ (k:Nat) (z:Value),us[k]?=some z->z.ownBlock≠some W.heap.size:=fun k z hz e=>by
  obtain⟨p,hp⟩:∃ p,ss[k]?=some p:=⟨_,zqac (by have:=(zqae.1 hz).1;rw[h.len] at this;exact this)⟩;have:=((h.own k p z hp hz).lt _ e).2;omega
 by_cases ea:i=y
 ·subst ea
  rw[zqbi hyu] at hu;rw[zqbl hne] at hu';cases hu;right;show some gg≠u'.ownBlock;rcases hat with e|e
  ·intro e2
   rcases h.dis i j v u' hne hv hu' with h3|h3;rw[e] at h3;cases h3;exact h3 (e.trans e2)
  intro e2;exact hlt j u' hu' (by rw[<- e2,e])
 rw[zqbl (Ne.symm ea)] at hu
 by_cases eb:j=y
 ·subst eb
  rw[zqbi hyu] at hu';cases hu';show u.ownBlock=none∨u.ownBlock≠some gg;rcases hat with e|e
  ·rcases h.dis i j u v hne hu hv with h3|h3
   ·exact .inl h3
   exact .inr (by rw[<- e];exact h3)
  exact .inr (by rw[e];exact hlt i u hu)
 rw[zqbl (Ne.symm eb)] at hu';exact h.dis i j u u' hne hu hu'
def zdb.reads {W:World}{C g:Nat}{ss:List zah}{us:List Value}(h:zdb W C g ss us):Reads W W.heap.size 2 (some ⟨g,0,none⟩) ss.length ((ss.zip us).flatMap stC):=by
 refine⟨?_,fun _=>⟨_,rfl,lt_of_block h.row,fun j u hu=>?_⟩⟩
 ·rw[List.length_flatMap]
  have:(ss.zip us).length=ss.length:=by rw[List.length_zip,h.len,Nat.min_self]
  rw[<- this];generalize ss.zip us=z
  induction z with
  | nil=>rfl
  | cons a z ih=>simp[zfo] at ih ⊢;omega
 have hadd:Addr.add ⟨g,0,none⟩ j=⟨g,0+j,none⟩:=by unfold Addr.add;split <;> simp_all
 rw[hadd,zqat,zqbw W g _ _ _ (0,0) h.row,zqap];exact hu
def zdb.stN {W:World}{C g cap B:Nat}{ss:List zah}{us:List Value}(h:zdb W C g ss us)(hC:B<=C)(hg:B<=g):StN W B (.slice (some ⟨g,0,none⟩) ss.length cap) ss:=by
 refine⟨_,cap,us,rfl,h.len,?_,fun _ ad hA=>by cases hA;exact hg,fun k s x hs hx=>⟨zyr (h.own k s x hs hx),fun h0 b hb=>zqam hC ((h.own k s x hs hx).lt b hb).1⟩⟩;exact h.reads
def zdb.start {W:World}{g n:Nat}(hc:W.heap[g]?=some (.cells ((List.replicate n (⟨ByteArray.empty,[]⟩,Value.slice none 0 0)).flatMap stC).toArray 40 (0,0))):zdb W W.heap.size g (List.replicate n ⟨ByteArray.empty,[]⟩) (List.replicate n (.slice none 0 0)):=by
 refine⟨?_,by simp,fun k v q hv hq=>?_,fun i j v v' _ hv _=>?_,lt_of_block hc,zqab _⟩;rw[hc,List.zip_replicate']
 ·rw[zqbg] at hv hq
  split at hv
  ·cases hv
   exact zQbT
  cases hv
 rw[zqbg] at hv;split at hv;cases hv;exact .inl rfl;cases hv
open Go.RowKit
def zkC (l:List Nat)(j x:Nat):Int:=if x∈l.take j then (l.idxOf x:Int) else -1
def zfv (l:List Nat)(x:Nat):Int:=if x∈l then (l.idxOf x:Int) else -1
def zFx (l:List Nat)(x:Nat):zkC l 0 x = -1:=by unfold zkC;simp
def zIO {l:List Nat}{j:Nat}(h:l.length<=j)(x:Nat):zkC l j x=zfv l x:=by unfold zkC zfv;rw[zqaf h]
def zFy {l:List Nat}(hn:l.Nodup){j y:Nat}(h:l[j]?=some y)(x:Nat):(if x=y then (j:Int) else zkC l j x)=zkC l (j+1) x:=by
 unfold zkC;rw[zcA h]
 by_cases e:x=y
 ·subst e
  rw[if_pos rfl,if_pos (by simp),zKJ hn h]
 rw[if_neg e];simp[e]
def st0:zah:=⟨ByteArray.empty,[]⟩
def ssP (m:zaj)(l:List Nat)(k:Nat)(s:zah):List zah:=(l.take k).map (fun x=>zjF l (zhQ m x))++s::List.replicate (l.length-k-1) st0
def ssR (m:zaj)(l:List Nat)(k:Nat):List zah:=(l.take k).map (fun x=>zjF l (zhQ m x))++List.replicate (l.length-k) st0
def zIP (m:zaj)(l:List Nat):ssR m l 0=List.replicate l.length st0:=by unfold ssR;simp
def zKM {m:zaj}{l:List Nat}{k:Nat}(h:l.length<=k):ssR m l k=(zbd m l).states:=by
 unfold ssR;rw[zqaf h,show l.length-k=0 by omega];simp[zbd]
def zud {m:zaj}{l:List Nat}{k:Nat}(h:k<l.length):ssR m l k=ssP m l k st0:=by
 unfold ssR ssP;rw[show l.length-k=(l.length-k-1)+1 by omega,List.replicate_succ];congr 3
def zoy {m:zaj}{l:List Nat}{k:Nat}{s:zah}(h:k<l.length):(ssP m l k s)[k]?=some s:=by
 unfold ssP;rw[zqaq (by simp;omega)];simp[Nat.min_eq_left (Nat.le_of_lt h)]
def zzJ {m:zaj}{l:List Nat}{k:Nat}{s s':zah}(h:k<l.length):(ssP m l k s).set k s'=ssP m l k s':=by
 unfold ssP;rw[List.set_append_right _ _ (by simp;omega)];simp[Nat.min_eq_left (Nat.le_of_lt h)]
def zIQ {m:zaj}{l:List Nat}{k x:Nat}(h:l[k]?=some x):ssP m l k (zjF l (zhQ m x))=ssR m l (k+1):=by
 unfold ssP ssR;rw[zcA h,List.map_append,zqbj,Nat.sub_sub];rfl
def zfh (l:List Nat)(as':List zaI)(j:Nat):List zaI:=(as'.take j).filterMap (zdO l)
def zBU {l:List Nat}{as':List zaI}{j:Nat}{a:zaI}(h:as'[j]?=some a)(hn:zdO l a=none):zfh l as' (j+1)=zfh l as' j:=by
 unfold zfh;rw[zcA h,List.filterMap_append];simp[hn]
def zBV {l:List Nat}{as':List zaI}{j:Nat}{a b:zaI}(h:as'[j]?=some a)(hn:zdO l a=some b):zfh l as' (j+1)=zfh l as' j++[b]:=by
 unfold zfh;rw[zcA h,List.filterMap_append];simp[hn]
def zFz {l:List Nat}{as':List zaI}{j:Nat}(h:as'.length<=j):zfh l as' j=as'.filterMap (zdO l):=by unfold zfh;rw[zqaf h]
def zFA (l:List Nat)(as':List zaI)(j:Nat):(zfh l as' j).length<=as'.length:=by
 unfold zfh;exact zqam (List.length_filterMap_le _ _) (by simp;omega)
structure ziK (w W0 W:World)(C gr:Nat)(ss:List zah)(us:List Value):Prop where
 rows:zdb W C gr ss us
 kp:∀ b,b<C->b≠gr->W.heap[b]?=W0.heap[b]?
 bel:Below w.heap.size w W
 lt:w.heap.size<gr
def ziK.next {w W0 W W':World}{C gr:Nat}{ss:List zah}{us:List Value}(h:ziK w W0 W C gr ss us)(hg:W.grownBy W' none):ziK w W0 W' C gr ss us :=
 ⟨h.rows.next hg,fun b hb hne=>(hg.block b (by have:=h.rows.hC;omega) (by simp)).trans (h.kp b hb hne),zbb (zaa (zbe h.bel) hg),h.lt⟩
def ziK.set_fin {w W0 W:World}{C gr j:Nat}{ss:List zah}{us:List Value}{s:zah}(h:ziK w W0 W C gr ss us)(hs:ss[j]?=some s)(f:ByteArray) :
  ziK w W0 (W.setCell ⟨gr,j*2,none⟩ (.string f)) C gr (ss.set j ⟨f,s.arcs⟩) us:=by
 have gs:=zac W ⟨gr,j*2,none⟩ (.string f);have hl:=h.lt;have hC:=h.rows.hC;exact⟨h.rows.set_fin hs f,fun b hb hne=>(gs.block b (by omega) (by simpa using hne)).trans (h.kp b hb hne),h.bel.grown gs h.bel.size (fun b e=>by cases e;show w.heap.size<=gr;omega),hl⟩
def ziK.push {w W0 W w1:World}{C gr y gg c:Nat}{ss:List zah}{us:List Value}{s:zah}{v:Value}{a:zaI}(h:ziK w W0 W C gr ss us)(hs:ss[y]?=some s)(hv:us[y]?=some v)
  (zO:w1.ownsRow C 45 4 (.slice (some ⟨gg,0,none⟩) (s.arcs.length+1) c) (s.arcs.length+1) (s.arcs.flatMap zea++zea a)) (hg:W.grownBy w1 v.ownBlock) (hat:v.ownBlock=some gg∨gg=W.heap.size) :
  ziK w W0 (w1.setCell ⟨gr,y*2+1,none⟩ (.slice (some ⟨gg,0,none⟩) (s.arcs.length+1) c)) C gr (ss.set y ⟨s.fin,s.arcs++[a]⟩) (us.set y (.slice (some ⟨gg,0,none⟩) (s.arcs.length+1) c)):=by
 have gs:=zac w1 ⟨gr,y*2+1,none⟩ (.slice (some ⟨gg,0,none⟩) (s.arcs.length+1) c);have hl:=h.lt;have hC:=h.rows.hC;have hr:=h.rows.hr;have hvo:=(h.rows.own y s v hs hv).lt;have h1:=h.bel.grown hg h.bel.size (fun b e=>by have:=(hvo b e).1;omega)
 exact⟨h.rows.push hs hv zO hg hat,fun b hb hne=>((gs.block b (by have:=hg.size;omega) (by simpa using hne)).trans (hg.block b (by omega) (fun e=>by have:=(hvo b e.symm).1;omega))).trans (h.kp b hb hne),
  h1.grown gs h1.size (fun b e=>by cases e;show w.heap.size<=gr;omega),hl⟩
open Go.RowKit
def zyA (n:Nat):madeCells (Value.agg #[.string ByteArray.empty,.slice none 0 0]).cells (n*2)=((List.replicate n (st0,Value.slice none 0 0)).flatMap stC).toArray:=by
 have hc:(Value.agg #[.string ByteArray.empty,.slice none 0 0]).cells=#[.string ByteArray.empty,.slice none 0 0]:=by simp[Value.cells]
 rw[hc];apply Array.ext';apply List.ext_getElem?;intro j;unfold madeCells;rw[Array.toList_map,Array.toList_range,zqaj]
 by_cases hj:j<n*2
 ·rw[zqbe hj]
  have hx:(List.replicate n (st0,Value.slice none 0 0))[j/2]?=some (st0,Value.slice none 0 0):=by rw[zqbg,if_pos (by omega)]
  have h1:=flat_get stC 2 zfo (List.replicate n (st0,Value.slice none 0 0)) (j/2) (j%2) _ hx (by omega);rw[show j/2*2+j%2=j by omega] at h1;refine Eq.trans ?_ h1.symm;have:j%2=0∨j%2=1:=by omega
  rcases this with e|e <;> simp[e,stC,st0]
 rw[zqas (by simpa using hj),zqas]
 ·rfl
 have hl:∀ n:Nat,((List.replicate n (st0,Value.slice none 0 0)).flatMap stC).length=n*2:=fun n=>by
  induction n with
  | zero=>rfl
  | succ n ih=>rw[List.replicate_succ,List.flatMap_cons,zqag,ih,zfo];omega
 rw[hl];omega
def zFB {n:Nat}(hn:n<=3000):∃ mk:World->World,(∀ w:World,(Instr.makeSlice 22 (.int .i64 (n:Int)) (.int .i64 (n:Int))).run prog w=.ok (.slice (some ⟨w.heap.size,0,none⟩) n n) (mk w))/\(∀ w:World,w.grownBy (mk w) none)/\(∀ w:World,(mk w).heap.size=w.heap.size+1) /\
  ∀ w:World,(mk w).heap[w.heap.size]?=some (.cells ((List.replicate n (st0,Value.slice none 0 0)).flatMap stC).toArray 40 (0,0)):=by
 obtain⟨i0,hi,hz0,hz1,hz2⟩:=zdo zzC;refine⟨fun w=>w.alloc (.cells ((List.replicate n (st0,Value.slice none 0 0)).flatMap stC).toArray 40),fun w=>?_,fun w=>zGA _ _ _,fun w=>by simp,fun w=>by show(w.heap.push _)[w.heap.size]?=_;rw[zqaz]⟩;have h:=run_makeSlice (w:=w) 22 40 i0 _ underlying22 hi hz0 .i64 .i64 (n:Int) (n:Int) (by omega) (by omega) (by rw[hz1];simp;omega) (by rw[hz2];omega) (by omega);rw[hz1,show((n:Int).toNat)=n by simp,zyA] at h;exact h
def zIR {w:World}{v lv:Value}{m:zaj}{l:List Nat}(hv:zbJ w v m)(hm:Small m)(hl:NSl w lv l)(hn:l.Nodup)(hb:∀ x∈l,x<m.states.length)(hs0:m.start.toNat∈l):Calls prog 90 #[v,lv] w (znp (zbd m l) w):=by
 obtain⟨u,rfl,hst0⟩:=hv;obtain⟨A,cap,us,rfl,hS0⟩:=zeg.of hst0;obtain⟨Al,capl,rfl,hrl⟩:=hl;have hll:=short_list hn hb;have g1:w.grownBy (w.alloc (.cells #[.int .i64 m.kind,.int .i64 m.start,.string m.lead,.slice A m.states.length cap] 24)) none:=zGA _ _ _;have b1:=zas.new w m (.slice A m.states.length cap);have e1:(w.alloc (.cells #[.int .i64 m.kind,.int .i64 m.start,.string m.lead,.slice A m.states.length cap] 24)).heap.size=w.heap.size+1:=by simp
 have g2:=zGA (w.alloc (.cells #[.int .i64 m.kind,.int .i64 m.start,.string m.lead,.slice A m.states.length cap] 24)) (.cells #[.int .i64 0,.int .i64 0,.string ByteArray.empty,.slice none 0 0] 24) none;have b2:=zas.new (w.alloc (.cells #[.int .i64 m.kind,.int .i64 m.start,.string m.lead,.slice A m.states.length cap] 24)) zbm (.slice none 0 0);rw[e1] at b2;have e2:((w.alloc (.cells #[.int .i64 m.kind,.int .i64 m.start,.string m.lead,.slice A m.states.length cap] 24)).alloc (.cells #[.int .i64 0,.int .i64 0,.string ByteArray.empty,.slice none 0 0] 24)).heap.size=w.heap.size+2:=by simp
 have hb1:=b1.grown g2;have hg:=zaa g1 g2;have HG:=zHd hg;have HB1:=zHd hb1;have HB2:=zHd b2;have HS:=zHd hS0;have HM:=zHd hm;have HRL:=zHd hrl;have HND:=zHd hn;have HBL:=zHd hb;have HS0:=zHd hs0;have hn3:=hm.n;obtain⟨i0,hi,hz0,hz1,hz2⟩:=zdo zub;obtain⟨x0,x1,x2,x3⟩:=hb1.cells;clear hst0 hS0 hrl g1 g2 b1 b2 e1 hb1 hg hm hn hb hs0;go_enter func90,ntmps90;go_wp2_with (at_make;refine wpList_make_full _ rfl _ _ 64 rfl (w.heap.size+2) 3 i0 (.int .i64 0) 1 underlying64 hi hz0 hz1 _ _ _ _ m.states.length rfl rfl rfl rfl (by rw[hz2];omega) (by unfold maxLen;omega) (by simp) ?_);intro W zO hgr;have ht:=zdG.of_full zO;have hlt:=ht.lt;have HT:=zHd ht;have HG1:=zHd (zaa HG.out hgr);have HB1a:=zHd (HB1.out.grown hgr);have HB2a:=zHd (HB2.out.grown hgr);clear x0 x1 x2 x3 zO hgr ht;go_wp2
 go_loopw [20] (fun i wr=>∃ k:Nat,i=.int .i64 k/\k<=m.states.length/\zdG wr (w.heap.size+1+1) m.states.length (fun x=>if x<k then -1 else 0)/\W.grownBy wr (some (w.heap.size+1+1))) (fun i _=>m.states.length-(intOf i).toNat)
 case atStart=>exact⟨0,rfl,by omega,HT.out.congr (fun x hx=>by simp),World.grownBy.refl _ _⟩
 case round =>
  obtain⟨k,rfl,hk,ht,hgr⟩:=hrel;have HT2:=zHd ht;have HGR:=zHd hgr;clear ht hgr
  by_cases hlt2:k<m.states.length
  ·have c0:=HT2.out.cell hlt2
   have c1:=HT2.out.free k;have n1:(k:Int)<(m.states.length:Int):=by omega
   have n2:IntKind.i64.wrap ((k:Int)+1)=(k:Int)+1:=by rw[zqah];omega
   have n3:(0:Int)<=(k:Int):=by omega
   have HT3:=zHd ((HT2.out.set (x:=k) (-1)).congr (f':=fun x=>if x<k+1 then -1 else 0) (fun x hx=>by
    by_cases e:x=k
    simp[e]
    by_cases e2:x<k
    ·simp[e,e2];omega
    simp[e,e2];omega))
   have HG2:=zHd (World.grownBy.trans HGR.out (zac wr ⟨w.heap.size+1+1,k,none⟩ (.int .i64 (-1))));go_wp2
   go_roundw
   case rel=>exact⟨k+1,by go_num,by omega,HT3.out,HG2.out⟩
   case measure=>simp[intOf];omega
  have n1:¬ (k:Int)<(m.states.length:Int):=by omega
  have HT3:=zHd (HT2.out.congr (f':=zkC l 0) (fun x hx=>by rw[zFx,if_pos (by omega)]));generalize wr=w4 at *;go_wp2
  go_loopw [29] (fun i wr=>∃ j:Nat,i=.int .i64 j/\j<=l.length/\zdG wr (w.heap.size+1+1) m.states.length (zkC l j)/\W.grownBy wr (some (w.heap.size+1+1))) (fun i _=>l.length-(intOf i).toNat)
  case atStart=>exact⟨0,rfl,by omega,HT3.out,HGR.out⟩
  case round =>
   obtain⟨j,rfl,hj,ht,hgr⟩:=hrel;have HT4:=zHd ht;have HGR2:=zHd hgr;have HBW:=zHd (zbb (zak (g:=w.heap.size+1+1) HG1.out hgr (by omega)));clear ht hgr
   by_cases hjl:j<l.length
   ·obtain⟨ad,x,hA,hx,hcx⟩:=zix ((HRL.out.below HBW.out).more HBW.out.size) hjl
    subst hA;have hxn:=HBL.out x (zqak hx);have c0:=HT4.out.cell hxn;have c1:=HT4.out.free x;have n4:(j:Int)<(l.length:Int):=(by omega);have n5:IntKind.i64.wrap ((j:Int)+1)=(j:Int)+1:=(by rw[zqah];omega);have n6:(0:Int)<=(x:Int):=(by omega);have n7:(x:Int)<(m.states.length:Int):=(by omega);have HT5:=zHd ((HT4.out.set (x:=x) (j:Int)).congr (f':=zkC l (j+1)) (fun y hy=>zFy HND.out hx y));have HG5:=zHd (World.grownBy.trans HGR2.out (zac wr ⟨w.heap.size+1+1,x,none⟩ (.int .i64 (j:Int))));clear hx;go_wp2
    go_roundw
    case rel=>exact⟨j+1,by go_num,by omega,HT5.out,HG5.out⟩
    case measure=>simp[intOf];omega
   have n4:¬ (j:Int)<(l.length:Int):=by omega
   have HT6:=zHd (HT4.out.congr (fun x hx=>zIO (by omega) x));have HB1b:=zHd ((HGR2.out.block _ HB1a.out.lt (by simp;omega)).trans HB1a.out);have HB2b:=zHd ((HGR2.out.block _ HB2a.out.lt (by simp)).trans HB2a.out);obtain⟨y0,y1,y2,y3⟩:=zas.cells HB1b.out;have hst:=HM.out.wf.start;have c0:=HT6.out.cell (x:=m.start.toNat) (by omega);generalize wr=w5 at *;go_upto_region 12 with(fail);have d0:w5.drew.cell? ⟨w.heap.size,0,none⟩=some (.int .i64 m.kind):=y0;have d1:w5.drew.cell? ⟨w.heap.size,1,none⟩=some (.int .i64 m.start):=y1;have d2:w5.drew.cell? ⟨w.heap.size,2,none⟩=some (.string m.lead):=y2;have d3:w5.drew.cell? ⟨w.heap.size+1+1,m.start.toNat,none⟩=some (.int .i64 (zfv l m.start.toNat)):=c0;have q0:=World.new_ne w5 _ y0;have q1:=World.new_ne w5 _ c0;obtain⟨mk,hmk,hmg,hms,hmh⟩:=zFB (n:=l.length) (by omega);have HMG:=zHd hmg;have HMH:=zHd hmh;have p0:=(hmg w5.drew).cell d0 (by simp);have p1:=(hmg w5.drew).cell d1 (by simp);have p2:=(hmg w5.drew).cell d2 (by simp);have p3:=(hmg w5.drew).cell d3 (by simp);have hal:w5.drew.grownBy (w5.alloc (.cells #[.int .i64 0,.int .i64 0,.string ⟨#[]⟩,.slice none 0 0] 24)).drew none:=zGA w5.drew _ none;have hbn:zas (mk (w5.alloc (.cells #[.int .i64 0,.int .i64 0,.string ⟨#[]⟩,.slice none 0 0] 24)).drew) w5.heap.size zbm (.slice none 0 0):=(zas.new w5.drew zbm (.slice none 0 0)).grown (hmg (w5.alloc (.cells #[.int .i64 0,.int .i64 0,.string ⟨#[]⟩,.slice none 0 0] 24)).drew);have HBN:=zHd hbn;obtain⟨t0,t1,t2,t3⟩:=hbn.cells;have f0:=hbn.free 0;have f1:=hbn.free 1;have f2:=hbn.free 2;have f3:=hbn.free 3;simp only[zbm] at t0 t1 t2;have hmg2:=zaa hal (hmg (w5.alloc (.cells #[.int .i64 0,.int .i64 0,.string ⟨#[]⟩,.slice none 0 0] 24)).drew);have r0:=hmg2.cell d0 (by simp);have r1:=hmg2.cell d1 (by simp);have r2:=hmg2.cell d2 (by simp);have r3:=hmg2.cell d3 (by simp);have q2:=World.new_ne (mk w5.drew) _ p0;have q3:=World.new_ne (mk w5.drew) _ p3;clear hmg hmh hal hmg2 hbn
   go_cut [9] from 39 to 51 (fun b wx=>∃ g r:Nat,b=.pointer (some ⟨g,0,none⟩)/\w5.grownBy wx none/\g≠r/\w5.heap.size<=g/\w5.heap.size<=r/\zas wx g ⟨m.kind,zfv l m.start.toNat,m.lead,[]⟩ (.slice (some ⟨r,0,none⟩) l.length l.length)/\wx.heap[r]?=some (.cells ((List.replicate l.length (st0,Value.slice none 0 0)).flatMap stC).toArray 40 (0,0)))
   case first =>
    go_region_held3 (fun W'=>W'.cell? ⟨w.heap.size,0,none⟩=some (.int .i64 m.kind)/\W'.cell? ⟨w.heap.size,1,none⟩=some (.int .i64 m.start)/\W'.cell? ⟨w.heap.size,2,none⟩=some (.string m.lead)/\W'.cell? ⟨w.heap.size+1+1,m.start.toNat,none⟩=some (.int .i64 (zfv l m.start.toNat))) (go_keep) (fail)
    ·go_wp2_with (fail)
     go_meet
     case rel =>
      have hga:=zGA (mk w5.drew) (.cells #[.int .i64 m.kind,.int .i64 (zfv l m.start.toNat),.string m.lead,.slice (some ⟨w5.heap.size,0,none⟩) l.length l.length] 24) none;have hsz:(mk w5.drew).heap.size=w5.heap.size+1:=hms w5.drew;have hbn:=zas.new (mk w5.drew) ⟨m.kind,zfv l m.start.toNat,m.lead,[]⟩ (.slice (some ⟨w5.heap.size,0,none⟩) l.length l.length);rw[hsz] at hbn;exact⟨w5.heap.size+1,w5.heap.size,rfl,zaa (zaa (zaf w5 none) (HMG.out w5.drew)) hga,by omega,by omega,by omega,hbn,(hga.block w5.heap.size (by omega) (by simp)).trans (HMH.out w5.drew)⟩
    go_wp2_with (fail)
    go_meet
    case rel =>
     obtain⟨hbf,hgf⟩:=zhU (n:=⟨m.kind,zfv l m.start.toNat,m.lead,[]⟩) (v:=.slice (some ⟨w5.heap.size+1,0,none⟩) l.length l.length) HBN.out;have hsz:=hms (w5.alloc (.cells #[.int .i64 0,.int .i64 0,.string ⟨#[]⟩,.slice none 0 0] 24)).drew;have hsz2:(w5.alloc (.cells #[.int .i64 0,.int .i64 0,.string ⟨#[]⟩,.slice none 0 0] 24)).drew.heap.size=w5.heap.size+1:=(by simp);have hrw:=HMH.out (w5.alloc (.cells #[.int .i64 0,.int .i64 0,.string ⟨#[]⟩,.slice none 0 0] 24)).drew;rw[hsz2] at hsz hrw;exact⟨w5.heap.size,w5.heap.size+1,rfl,zak (g:=w5.heap.size) (zaa (zaa (zGA w5 _ none) (zaf _ none)) (HMG.out _)) hgf (by omega),by omega,by omega,by omega,hbf,(hgf.block _ (by omega) (by simp)).trans hrw⟩
   case rest =>
    obtain⟨g,r,rfl,hgc,hgr,hg0,hr0,hbox,zW⟩:=hcut;have hro:=zdb.start zW;rw[show List.replicate l.length (⟨ByteArray.empty,[]⟩:zah)=ssR m l 0 from(zIP m l).symm] at hro;have hw5:w.heap.size+1+1<w5.heap.size:=HT6.out.lt;have hgw:=zak (g:=w.heap.size+1+1) HG1.out HGR2.out (by omega);have HI0:Hid (ziK w wc wc wc.heap.size r (ssR m l 0) (List.replicate l.length (.slice none 0 0))):=zHd ⟨hro,fun _ _ _=>rfl,zbb (zaa hgw hgc),by omega⟩;have HBX:=zHd hbox;have HB1c:=zHd (zas.grown HB1b.out hgc);have HB2c:=zHd (zas.grown HB2b.out hgc);have HT7:=zHd (HT6.out.kept hgc (by simp));have hgC:=hbox.lt;have hsC:=hgc.size;have hrC:=hro.hr;clear hgc hbox zW hro hgw y0 y1 y2 y3 c0 hmk hms HMG HMH HBN d0 d1 d2 d3 q0 q1 q2 q3 p0 p1 p2 p3 r0 r1 r2 r3 t0 t1 t2 t3 f0 f1 f2 f3;go_wp2
    go_loopw [54] (fun i wr=>∃ (k:Nat) (us':List Value),i=.int .i64 k/\k<=l.length/\ziK w wc wr wc.heap.size r (ssR m l k) us') (fun i _=>l.length-(intOf i).toNat)
    case atStart=>exact⟨0,_,rfl,by omega,HI0.out⟩
    case round =>
     obtain⟨k,us',rfl,hk,zI⟩:=hrel;have zi:=zHd zI;have HB1d:=zHd ((zI.kp w.heap.size (by omega) (by omega)).trans HB1c.out);have HBXd:=zHd ((zI.kp g hgC hgr).trans HBX.out);have HB2d:=zHd ((zI.kp (w.heap.size+1) (by omega) (by omega)).trans HB2c.out)
     by_cases hlt3:k<l.length
     ·obtain⟨ad,x,hA,hx,hcx⟩:=zix ((HRL.out.below zI.bel).more zI.bel.size) hlt3
      subst hA;have hxn:=HBL.out x (zqak hx);obtain⟨ad2,s,Br,cb,hA2,hs,hu,hc,hra⟩:=(HS.out.below zI.bel).at_ hxn;subst hA2;obtain⟨z0,z1⟩:=hc
      have hadb:ad2.block<w.heap.size:=by
       obtain⟨ad',e,hb',_⟩:=HS.out.row.2 (by omega);cases e;exact hb'
      have hsg:=zoy (m:=m) (s:=st0) hlt3;rw[<- zud hlt3] at hsg;obtain⟨x',hux,w0,w1,hfree,_⟩:=zI.rows.at_ hsg;have n10:(k:Int)<(l.length:Int):=(by omega);have n11:IntKind.i64.wrap ((k:Int)+1)=(k:Int)+1:=(by rw[zqah];omega);have n12:(0:Int)<=(k:Int):=(by omega);have n13:(0:Int)<=(x:Int):=(by omega);have n14:(x:Int)<(m.states.length:Int):=(by omega);obtain⟨_,_,_,y3⟩:=zas.cells HB1d.out;obtain⟨_,_,_,b3⟩:=zas.cells HBXd.out;have f0:=hfree (k*2);have hset:=zI.set_fin hsg s.fin;rw[zud hlt3,zzJ hlt3] at hset;have HI1:=zHd hset;have HSS:=zHd hs;have HU:=zHd hu;have HX:=zHd hx;have hal:=HM.out.a s (zqak hs);simp only[st0] at w0;clear zI hx hs hu hra hset hsg hux hfree w1;go_upto_region 16 with(fail);have d1:g≠r:=hgr;have d2:w.heap.size≠r:=(by omega);have d3:(ad2.add (x*2)).block≠r:=(by rw[zcN];omega);have d4:ad2.block≠r:=(by omega);have hgs:=zac wr ⟨r,k*2,none⟩ (.string s.fin);have e3:(wr.setCell ⟨r,k*2,none⟩ (.string s.fin)).drew.cell? ⟨g,3,none⟩=some (.slice (some ⟨r,0,none⟩) l.length l.length):=hgs.cell b3 (by simp;omega);have e4:(wr.setCell ⟨r,k*2,none⟩ (.string s.fin)).drew.cell? ⟨w.heap.size,3,none⟩=some (.slice (some ad2) m.states.length cap):=hgs.cell y3 (by simp;omega);have e5:(wr.setCell ⟨r,k*2,none⟩ (.string s.fin)).drew.cell? (ad2.add (x*2))=some (.string s.fin):=hgs.cell z0 (by rw[zcN];simp;omega)
      go_region_held3 (fun W'=>W'.cell? ⟨g,3,none⟩=some (.slice (some ⟨r,0,none⟩) l.length l.length)/\W'.cell? ⟨w.heap.size,3,none⟩=some (.slice (some ad2) m.states.length cap)/\W'.cell? (ad2.add (x*2))=some (.string s.fin)) (go_keep) (fail)
      clear y3 b3 w0 z0 z1 f0;clear e3 e4 e5 hgs d3 d4;have HI2:=zHd (HI1.out.next (zaf _ none));generalize hWa:(wr.setCell ⟨r,k*2,none⟩ (.string s.fin)).drew=Wa at *;clear hWa zi HB1d HBXd HB2d HI1;have hb1:=(HI2.out.kp w.heap.size (by omega) (by omega)).trans HB1c.out;obtain⟨_,_,_,y3⟩:=zas.cells hb1;obtain⟨ad3,s3,Br3,cb3,hA3,hs3,hu3,hc3,_⟩:=(HS.out.below HI2.out.bel).at_ hxn;cases hA3;rw[HSS.out] at hs3;cases hs3;rw[HU.out] at hu3;cases hu3;obtain⟨z0,z1⟩:=hc3;clear hb1;go_wp2;clear y3 z0 z1;generalize Wa=wa at *
      go_loopw [77] (fun i wr=>∃ (j:Nat) (us':List Value),i=.int .i64 j/\j<=s.arcs.length/\ziK w wc wr wc.heap.size r (ssP m l k ⟨s.fin,zfh l s.arcs j⟩) us') (fun i _=>s.arcs.length-(intOf i).toNat)
      case atStart=>exact⟨0,_,rfl,by omega,HI2.out⟩
      case round =>
       obtain⟨j,us2,rfl,hj,zI⟩:=hrel;have zi:=zHd zI;clear zI
       by_cases hjl:j<s.arcs.length
       ·obtain⟨ad5,a,hBr,hab,haj,hat⟩:=zgV ((HS.out.below zi.out.bel).arcs_at HSS.out HU.out) hjl
        subst hBr;obtain⟨z0,z1,z2,z3⟩:=hat;have harc:=HM.out.wf.arcs s (zqak HSS.out) a (zqak haj);obtain⟨y,hy⟩:∃ y:Nat,a.t=(y:Int):=⟨a.t.toNat,by omega⟩;have hyn:y<m.states.length:=(by omega);have hyt:a.t.toNat=y:=(by omega);have c0:=zdG.cell (show zdG wr (w.heap.size+1+1) m.states.length (zfv l) from(zi.out.kp _ (by omega) (by omega)).trans HT7.out) hyn;rw[hy] at z3;have n15:(j:Int)<(s.arcs.length:Int):=(by omega);have n16:IntKind.i64.wrap ((j:Int)+1)=(j:Int)+1:=(by rw[zqah];omega);have n17:(0:Int)<=(y:Int):=(by omega);have n18:(y:Int)<(m.states.length:Int):=(by omega);have HAJ:=zHd haj;have HY:=zHd hy;have HYT:=zHd hyt;clear haj harc hy hyt
        by_cases hyl:y∈l
        ·have hnum:zfv l y=(l.idxOf y:Int):=by unfold zfv;rw[if_pos hyl]
         rw[hnum] at c0;have n19:¬ ((l.idxOf y:Int)<0):=(by omega);have c0b:=(zGA wr (.cells #[.int .i64 a.i,.int .i64 a.o,.string a.w,.int .i64 (y:Int)] 45) none).cell c0 (by simp);have hkeep:zdO l a=some ⟨a.i,a.o,a.w,(l.idxOf y:Int)⟩:=(by unfold zdO;rw[HYT.out,if_pos hyl]);have HK:=zHd (zBV HAJ.out hkeep);have hga:=zGA wr (.cells #[.int .i64 a.i,.int .i64 a.o,.string a.w,.int .i64 (l.idxOf y:Int)] 45) none;have hi4:=zi.out.next hga;have HI4:=zHd hi4;obtain⟨vy,hvy,_,c3,hfr,zO⟩:=hi4.rows.at_ (zoy (m:=m) (s:=⟨s.fin,zfh l s.arcs j⟩) hlt3);have HVY:=zHd hvy;have HOWN:=zHd zO;obtain⟨_,_,_,c1⟩:=zas.cells ((hi4.kp g hgC hgr).trans HBX.out);have HC1:=zHd c1;have HC3:=zHd c3;have HF3:=zHd (hfr (k*2+1));have HAR:=zHd (zsH wr ⟨a.i,a.o,a.w,(l.idxOf y:Int)⟩);have hCr:=zi.out.rows.hC;have hlo:=fun b (e:vy.ownBlock=some b)=>(zO.lt b e).1;obtain⟨vx,hvx,_,_,_,hownx⟩:=zi.out.rows.at_ (zoy (m:=m) (s:=⟨s.fin,zfh l s.arcs j⟩) hlt3);rw[hvy] at hvx;cases hvx;have N1:some g≠vy.ownBlock:=fun e=>by have:=hlo _ e.symm;omega
         have N2:some wr.heap.size≠vy.ownBlock:=fun e=>by have:=(hownx.lt _ e.symm).2;omega
         have N3:some r≠vy.ownBlock:=fun e=>by have:=hlo _ e.symm;omega
         have HN1:=zHd N1;have HN2:=zHd N2;have HN3:=zHd N3;have hql:=zFA l s.arcs j;have hsz4:(wr.alloc (.cells #[.int .i64 a.i,.int .i64 a.o,.string a.w,.int .i64 (l.idxOf y:Int)] 45)).heap.size=wr.heap.size+1:=(by simp);obtain⟨i1,hj1,hy0,hy1,hy2⟩:=zdo zIC;clear hnum hkeep hi4 hvy zO hownx c1 c3 hfr N1 N2 N3 hlo hga hyl;go_upto_region 22 with(fail);generalize hW3:wr.alloc (.cells #[.int .i64 a.i,.int .i64 a.o,.string a.w,.int .i64 (l.idxOf y:Int)] 45)=W3 at *;clear hW3 z0 z1 z2 z3 c0 c0b;have HSZ4:=zHd hsz4;have hle4:wc.heap.size<=W3.heap.size:=(by omega);clear hsz4;have c1:=HC1.out;have c3:=HC3.out;have f3:=HF3.out;have hA:=HAR.out;obtain⟨a0,a1,a2,a3⟩:=hA;simp only[zqat] at a1 a2 a3;have N1:=HN1.out;have N2:=HN2.out;have N3:=HN3.out;have q1:=World.new_ne W3 _ c1;have q2:=World.new_ne W3 _ a0;have q3:=World.new_ne W3 _ c3;refine zqm (e:=14) (n:=14) (fun W'=>W'.cell? ⟨g,3,none⟩=some (.slice (some ⟨r,0,none⟩) l.length l.length)/\W'.cell? ⟨wr.heap.size,0,none⟩=some (.int .i64 a.i)/\W'.cell? ⟨wr.heap.size,1,none⟩=some (.int .i64 a.o)/\W'.cell? ⟨wr.heap.size,2,none⟩=some (.string a.w)/\W'.cell? ⟨wr.heap.size,3,none⟩=some (.int .i64 (l.idxOf y:Int))/\W'.cell? ⟨r,k*2+1,none⟩=some vy) (by kernel_rfl) (by kernel_rfl) rfl ?_;have hS0:(fun W':World=>W'.cell? ⟨g,3,none⟩=some (.slice (some ⟨r,0,none⟩) l.length l.length)/\W'.cell? ⟨wr.heap.size,0,none⟩=some (.int .i64 a.i)/\W'.cell? ⟨wr.heap.size,1,none⟩=some (.int .i64 a.o)/\W'.cell? ⟨wr.heap.size,2,none⟩=some (.string a.w)/\W'.cell? ⟨wr.heap.size,3,none⟩=some (.int .i64 (l.idxOf y:Int))/\W'.cell? ⟨r,k*2+1,none⟩=some vy) W3.drew:=⟨c1,a0,a1,a2,a3,c3⟩;refine zTk 0 (.pointer (some ⟨g,3,none⟩)) rfl hS0 ?_;(try simp only[zS,Act.put]);refine zTk 1 (.slice (some ⟨r,0,none⟩) l.length l.length) rfl hS0 ?_;(try simp only[zS,Act.put]);refine zTk 2 (.int .i64 (k:Int)) rfl hS0 ?_;(try simp only[zS,Act.put]);refine zTk 3 (.pointer (some ⟨g,3,none⟩)) rfl hS0 ?_;(try simp only[zS,Act.put]);refine zTk 4 (.slice (some ⟨r,0,none⟩) l.length l.length) rfl hS0 ?_;(try simp only[zS,Act.put]);refine zTk 5 (.int .i64 (k:Int)) rfl hS0 ?_;(try simp only[zS,Act.put]);refine zTk 6 (.pointer (some ⟨r,k*2,none⟩)) rfl hS0 ?_;(try simp only[zS,Act.put]);refine zTk 7 (.pointer (some ⟨r,k*2+1,none⟩)) rfl hS0 ?_;(try simp only[zS,Act.put]);refine zTk 8 (vy) rfl hS0 ?_;(try simp only[zS,Act.put]);refine zTk 9 (.agg #[.int .i64 a.i,.int .i64 a.o,.string a.w,.int .i64 (l.idxOf y:Int)]) rfl hS0 ?_;(try simp only[zS,Act.put]);refine zqcc (rs:=[10]) (by kernel_rfl) (by simp) ?_;refine AllReadyH.cons rfl (fun K hK=>?_) AllReadyH.nil;go_simp;refine hK.out _ _ ⟨zfg c1,zfg a0,zfg a1,zfg a2,zfg a3,zfg c3⟩ (fun zH=>?_);refine zqcc (rs:=[11]) (by kernel_rfl) (by simp) ?_;refine AllReadyH.cons rfl (fun K hK=>?_) AllReadyH.nil;refine step_append_lies _ (by rfl) _ _ _ (by rfl) wc.heap.size 45 i1 (.agg #[.int .i64 0,.int .i64 0,.string ByteArray.empty,.int .i64 0]) 4 40 underlying38 hj1 hy0 hy1 hy2 rfl (by omega) vy (zfh l s.arcs j).length ((zfh l s.arcs j).flatMap zea) (by rfl) ((HOWN.out.alloc _).drew) ⟨W3.heap.size,0,none⟩ 1 1 [.int .i64 a.i,.int .i64 a.o,.string a.w,.int .i64 (l.idxOf y:Int)] (by rfl) (by rfl) (World.news_of_block (cs:=#[.int .i64 a.i,.int .i64 a.o,.string a.w,.int .i64 (l.idxOf y:Int)]) (t:=45) (fr:=(0,0)) (zqce W3 _)) (by simp[Value.oneCell']) (by omega) (by unfold maxLen;omega) (by omega) (by simp;omega) (W3.heap.size+1) (by simp) ?_;intro gg cc w6 zj zG hat hlt6;refine hK.out _ _ ⟨zdw c1 zG N1,zdw a0 zG N2,zdw a1 zG N2,zdw a2 zG N2,zdw a3 zG N2,zdw c3 zG N3⟩ (fun zH=>?_);have s4:=zuc (a:=⟨r,k*2+1,none⟩) (by show r<W3.heap.size;omega) f3 zG N3;have s3:=zdw c3 zG N3;refine zTk 12 (.pointer (some ⟨r,k*2,none⟩)) rfl zH ?_;(try simp only[zS,Act.put]);refine zTk 13 (.pointer (some ⟨r,k*2+1,none⟩)) rfl zH ?_;(try simp only[zS,Act.put]);refine wpAnyH_done (by kernel_rfl) ?_ _;refine zeZ (by rfl) (fun K hK=>?_);go_simp;refine hK _ _ ?_;have hX:W3.grownBy (W3.alloc (.cells #[.int .i64 a.i,.int .i64 a.o,.string a.w,.int .i64 (l.idxOf y:Int)] 45)).drew none:=zaa (zGA _ _ _) (zaf _ _);have hr7:=(HI4.out.next hX).push (a:=⟨a.i,a.o,a.w,(l.idxOf y:Int)⟩) (zoy hlt3) HVY.out zj zG (by first|exact hat|(simp;exact hat)|simpa using hat);rw[zzJ hlt3] at hr7;simp only[] at hr7;rw[<- HK.out] at hr7;have HR7:=zHd hr7;clear hX hr7 zj zG hat s3 s4 c1 c3 f3 q1 q2 q3 N1 N2 N3;go_wp2
         go_roundw
         case rel=>exact⟨j+1,_,by go_num,by omega,HR7.out⟩
         case measure=>simp[intOf];omega
        have hnum:zfv l y = -1:=(by unfold zfv;rw[if_neg hyl]);rw[hnum] at c0;have hkeep:zdO l a=none:=(by unfold zdO;rw[HYT.out,if_neg hyl]);have he:=zBU HAJ.out hkeep;have c0b:=(zGA wr (.cells #[.int .i64 a.i,.int .i64 a.o,.string a.w,.int .i64 (y:Int)] 45) none).cell c0 (by simp);have hga:=zGA wr (.cells #[.int .i64 a.i,.int .i64 a.o,.string a.w,.int .i64 (y:Int)] 45) none;have hi4:=zi.out.next hga;rw[<- he] at hi4;have HI4:=zHd hi4;clear hnum hkeep he hga hi4;go_wp2
        go_roundw
        case rel=>exact⟨j+1,us2,by go_num,by omega,HI4.out⟩
        case measure=>simp[intOf];omega
       have n15:¬ (j:Int)<(s.arcs.length:Int):=(by omega);have zI:=zi.out;rw[zFz (by omega),show(⟨s.fin,s.arcs.filterMap (zdO l)⟩:zah)=zjF l (zhQ m x) by rw[zhR HSS.out];rfl,zIQ HX.out] at zI;have HI5:=zHd zI;clear zI;go_wp2
       go_roundw
       case rel=>exact⟨k+1,us2,by go_num,by omega,HI5.out⟩
       case measure=>simp[intOf];omega
     have n10:¬ (k:Int)<(l.length:Int):=(by omega);rw[zKM (by omega)] at zI;have hlr:(zbd m l).states.length=l.length:=(by simp[zbd]);obtain⟨r0,r1,r2,r3⟩:=zas.cells HBXd.out;obtain⟨v0,v1,v2,v3⟩:=zas.cells HB2d.out;simp only[zbm] at v0 v1 v2;have f0:=zas.free HB2d.out 0;have f1:=zas.free HB2d.out 1;have f2:=zas.free HB2d.out 2;have f3:=zas.free HB2d.out 3;obtain⟨hbf,hgf⟩:=zhU (n:=⟨m.kind,zfv l m.start.toNat,m.lead,[]⟩) (v:=.slice (some ⟨r,0,none⟩) l.length l.length) HB2d.out;have HGF:=zHd (zak (g:=w.heap.size+1) (zbe zI.bel) hgf (by omega));have hsl:=(zI.rows.other hgf (by omega) (by omega)).stN (cap:=l.length) (B:=w.heap.size) (by omega) (by omega);rw[hlr] at hsl;have HSL:=zHd hsl;obtain⟨c0,c1,c2,c3⟩:=hbf.cells;have hst:zfv l m.start.toNat=(l.idxOf m.start.toNat:Int):=(by unfold zfv;rw[if_pos HS0.out]);have HST:=zHd hst;clear hbf hgf hsl zI hst;go_wp2_with fail;generalize (((wr.setCell ⟨w.heap.size+1,0,none⟩ (.int .i64 m.kind)).setCell ⟨w.heap.size+1,1,none⟩ (.int .i64 (zfv l m.start.toNat))).setCell ⟨w.heap.size+1,2,none⟩ (.string m.lead)).setCell ⟨w.heap.size+1,3,none⟩ (.slice (some ⟨r,0,none⟩) l.length l.length)=WW at *;exact zqby (v:=.agg #[.int .i64 m.kind,.int .i64 (zfv l m.start.toNat),.string m.lead,.slice (some ⟨r,0,none⟩) l.length l.length]) (by simp[results,results90,go_sem,c0,c1,c2,c3]) rfl ⟨_,rfl,⟨_,by rw[HST.out];rfl,HSL.out⟩,HGF.out⟩
end Go.Proofs.YtiblmbpfcmcccaaGreatDoor
