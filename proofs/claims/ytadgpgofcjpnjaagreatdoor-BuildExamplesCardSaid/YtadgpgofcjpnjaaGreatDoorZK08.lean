/- Part. -/
import Derived.Test.YtadgpgofcjpnjaaGreatDoorZK07
import Derived.Lib.SmallJoins
import Derived.Deep.RegionHeld2
import Derived.Deep.AppendSrc
set_option linter.unusedVariables false
set_option linter.defProp false
set_option linter.unusedSimpArgs false
set_option maxRecDepth 100000
set_option maxHeartbeats 16000000
namespace Go.Proofs.YtadgpgofcjpnjaaGreatDoor
open Go.Proofs.Tryz
open Go.RowKit
structure zaz where
 i:Int
 o:Int
 w:ByteArray
 t:Int
deriving DecidableEq
structure zac where
 fin:ByteArray
 arcs:List zaz
deriving DecidableEq
structure zah where
 kind:Int
 start:Int
 lead:ByteArray
 states:List zac
deriving DecidableEq
def flat_get {α β:Type}(f:α->List β)(n:Nat)(hn:∀ a,(f a).length=n):∀ (l:List α) (k j:Nat) (a:α),l[k]?=some a->j<n->(l.flatMap f)[k*n+j]?=(f a)[j]?
 | [],k,j,a,h,_=>by simp at h
 | x::l,0,j,a,h,hj=>by
  simp only[List.getElem?_cons_zero,Option.some.injEq] at h;subst h;rw[List.flatMap_cons,Nat.zero_mul,zqat,zqal (by rw[hn];exact hj)]
 | x::l,k+1,j,a,h,hj=>by
  rw[List.getElem?_cons_succ] at h;rw[List.flatMap_cons,zqaq (by rw[hn,Nat.succ_mul];omega),hn,show(k+1)*n+j-n=k*n+j by rw[Nat.succ_mul];omega];exact flat_get f n hn l k j a h hj
def zjE {α β:Type}(f:α->List β)(n:Nat)(hn:∀ a,(f a).length=n):∀ l:List α,(l.flatMap f).length=l.length*n
 | []=>by simp
 | x::l=>by rw[List.flatMap_cons,zqag,hn,zjE f n hn l,zqbu,Nat.succ_mul];omega
def zdw (a:zaz):List Value:=[.int .i64 a.i,.int .i64 a.o,.string a.w,.int .i64 a.t]
def stC (p:zac×Value):List Value:=[.string p.1.fin,p.2]
def zgQ (a:zaz):(zdw a).length=4:=rfl
def zfI (p:zac×Value):(stC p).length=2:=rfl
def zco (w:World)(v:Value)(l:List zaz):Prop:=∃ A cap,v=.slice A l.length cap/\Reads w w.heap.size 4 A l.length (l.flatMap zdw)
def zgE (w:World)(v:Value)(l:List zac):Prop:=∃ A cap us,v=.slice A l.length cap/\us.length=l.length/\Reads w w.heap.size 2 A l.length ((l.zip us).flatMap stC)/\∀ (k:Nat) (s:zac) (u:Value),l[k]?=some s->us[k]?=some u->zco w u s.arcs
def zan (w:World)(v:Value)(m:zah):Prop:=∃ u,v=.agg #[.int .i64 m.kind,.int .i64 m.start,.string m.lead,u]/\zgE w u m.states
def zco.below {w w':World}{v:Value}{l:List zaz}(h:zco w v l)(hb:Below w.heap.size w w'):zco w' v l:=by
 obtain⟨A,cap,hv,hr⟩:=h;exact⟨A,cap,hv,(hr.below hb).more hb.size⟩
def zgE.below {w w':World}{v:Value}{l:List zac}(h:zgE w v l)(hb:Below w.heap.size w w'):zgE w' v l:=by
 obtain⟨A,cap,us,hv,hl,hr,ha⟩:=h;exact⟨A,cap,us,hv,hl,(hr.below hb).more hb.size,fun k s u hs hu=>(ha k s u hs hu).below hb⟩
def zan.below {w w':World}{v:Value}{m:zah}(h:zan w v m)(hb:Below w.heap.size w w'):zan w' v m:=by
 obtain⟨u,hv,hs⟩:=h;exact⟨u,hv,hs.below hb⟩
def zco.nil (w:World):zco w (.slice none 0 0) []:=⟨none,0,rfl,Reads.none_⟩
def zgE.nil (w:World):zgE w (.slice none 0 0) []:=⟨none,0,[],rfl,rfl,Reads.none_,fun k s u hs=>by simp at hs⟩
def zAF (ad:Addr)(n j:Nat)(hj:0<j):ad.add (n+j) = { block:=(ad.add n).block,off:=(ad.add n).off+j,spot:=none }:=by
 unfold Addr.add;rw[if_neg (by omega)]
 by_cases h:n=0
 simp[h];simp[h,Nat.add_assoc]
def ziU {w:World}{ad:Addr}{n j:Nat}{v:Value}(h:w.cell? (ad.add (n+j))=some v)(hj:0<j):w.cell? { block:=(ad.add n).block,off:=(ad.add n).off+j,spot:=none }=some v:=by
 rw[<- zAF ad n j hj];exact h
structure zkh (w:World)(p:Addr)(a:zaz):Prop where
 c0:w.cell? p=some (.int .i64 a.i)
 c1:w.cell? { block:=p.block,off:=p.off+1,spot:=none }=some (.int .i64 a.o)
 c2:w.cell? { block:=p.block,off:=p.off+2,spot:=none }=some (.string a.w)
 c3:w.cell? { block:=p.block,off:=p.off+3,spot:=none }=some (.int .i64 a.t)
def zkh.below {w w':World}{B:Nat}{p:Addr}{a:zaz}(h:zkh w p a)(hb:Below B w w')(hp:p.block<B):zkh w' p a :=
 ⟨(hb.cell hp).trans h.c0,(hb.cell (p:=⟨p.block,p.off+1,none⟩) hp).trans h.c1,(hb.cell (p:=⟨p.block,p.off+2,none⟩) hp).trans h.c2,(hb.cell (p:=⟨p.block,p.off+3,none⟩) hp).trans h.c3⟩
structure zdS (w:World)(p:Addr)(f:ByteArray)(u:Value):Prop where
 c0:w.cell? p=some (.string f)
 c1:w.cell? { block:=p.block,off:=p.off+1,spot:=none }=some u
def zdS.below {w w':World}{B:Nat}{p:Addr}{f:ByteArray}{u:Value}(h:zdS w p f u)(hb:Below B w w')(hp:p.block<B):zdS w' p f u :=
 ⟨(hb.cell hp).trans h.c0,(hb.cell (p:=⟨p.block,p.off+1,none⟩) hp).trans h.c1⟩
def zhf {w:World}{A:Option Addr}{l:List zaz}{k:Nat}(h:Reads w w.heap.size 4 A l.length (l.flatMap zdw))(hk:k<l.length) :
  ∃ ad a,A=some ad/\ad.block<w.heap.size/\l[k]?=some a/\zkh w (ad.add (k*4)) a:=by
 obtain⟨ad,hA,hb,hc⟩:=h.2 (by omega);have hx:l[k]?=some l[k]:=zqac hk;exact⟨ad,l[k],hA,hb,hx,hc _ _ (flat_get zdw 4 zgQ l k 0 _ hx (by omega)),ziU (hc _ _ (flat_get zdw 4 zgQ l k 1 _ hx (by omega))) (by omega),ziU (hc _ _ (flat_get zdw 4 zgQ l k 2 _ hx (by omega))) (by omega),ziU (hc _ _ (flat_get zdw 4 zgQ l k 3 _ hx (by omega))) (by omega)⟩
def zfu {w:World}{A:Option Addr}{l:List zac}{us:List Value}{k:Nat}(h:Reads w w.heap.size 2 A l.length ((l.zip us).flatMap stC))(hl:us.length=l.length)(hk:k<l.length) :
  ∃ ad s u,A=some ad/\ad.block<w.heap.size/\l[k]?=some s/\us[k]?=some u/\zdS w (ad.add (k*2)) s.fin u:=by
 obtain⟨ad,hA,hb,hc⟩:=h.2 (by omega);have hx:l[k]?=some l[k]:=zqac hk;have hu:us[k]?=some (us[k]'(by omega)):=zqac (by omega);have hz:(l.zip us)[k]?=some (l[k],us[k]'(by omega)):=by rw[List.getElem?_zip_eq_some];exact⟨hx,hu⟩
 exact⟨ad,_,_,hA,hb,hx,hu,hc _ _ (flat_get stC 2 zfI _ k 0 _ hz (by omega)),ziU (hc _ _ (flat_get stC 2 zfI _ k 1 _ hz (by omega))) (by omega)⟩
def zaf (w:World)(g:Nat)(m:zah)(u:Value):Prop:=w.heap[g]?=some (.cells #[.int .i64 m.kind,.int .i64 m.start,.string m.lead,u] 29 (0,0))
structure BoxC (w:World)(g:Nat)(m:zah)(u:Value):Prop where
 c0:w.cell? ⟨g,0,none⟩=some (.int .i64 m.kind)
 c1:w.cell? ⟨g,1,none⟩=some (.int .i64 m.start)
 c2:w.cell? ⟨g,2,none⟩=some (.string m.lead)
 c3:w.cell? ⟨g,3,none⟩=some u
def zaf.cells {w:World}{g:Nat}{m:zah}{u:Value}(h:zaf w g m u):BoxC w g m u :=
 ⟨by rw[zqbw w g 0 _ _ (0,0) h];rfl,by rw[zqbw w g 1 _ _ (0,0) h];rfl,by rw[zqbw w g 2 _ _ (0,0) h];rfl,by rw[zqbw w g 3 _ _ (0,0) h];rfl⟩
def zaf.new (w:World)(m:zah)(u:Value):zaf (w.alloc (.cells #[.int .i64 m.kind,.int .i64 m.start,.string m.lead,u] 29)) w.heap.size m u:=by
 exact zQbm
def zaf.lt {w:World}{g:Nat}{m:zah}{u:Value}(h:zaf w g m u):g<w.heap.size:=(zqad.1 h).1
def zaj (l:List zac):Nat:=(l.map (fun s=>s.arcs.length)).sum
def zhB (l:List zac)(s:zac):zaj (l++[s])=zaj l+s.arcs.length:=by unfold zaj;simp
def zgb (l k:List zac):zaj (l++k)=zaj l+zaj k:=by unfold zaj;simp
def zhC (l:List zac){k:Nat}(hk:k<=l.length):zaj (l.take k)<=zaj l:=by
 have:=zgb (l.take k) (l.drop k);rw[List.take_append_drop] at this;omega
def zeu {α:Type}{L:List α}{k:Nat}{x:α}(h:L[k]?=some x):L.take (k+1)=L.take k++[x]:=by
 rw[List.take_add_one,h];rfl
open Go.RowKit
open Classical in
noncomputable def wgtB (k:Int)(a:ByteArray):Bool:=decide (∃ v,Wgt k a v)
def zgc {k:Int}{a:ByteArray}{v:Ext}(h:Wgt k a v):wgtB k a=true:=by unfold wgtB;simp;exact⟨v,h⟩
def zcO {k:Int}{a:ByteArray}(h:wgtB k a=true):∃ v,Wgt k a v:=by unfold wgtB at h;simpa using h
def zeZ {k:Int}{a:ByteArray}(ha:a.size<=maxLen):VB 17 k a (wgtB k a):=by
 rcases ztt k a with⟨v,h⟩|h;rw[zgc h];exact zHq h
 have hB:wgtB k a=false:=by
  cases hb:wgtB k a;rfl;obtain⟨v,hv⟩:=zcO hb;have:=h v hv.1;rw[hv.2] at this;cases this
 rw[hB];exact zHQ h ha
def zbQ (k:Int):zbv k=true↔(k=1∨k=2∨k=3):=by unfold zbv;simp
def zmB (k:Int):RK k (zbv k):=by
 by_cases h:k=1∨k=2∨k=3
 rw[(zbQ k).2 h];exact zhe h;rw[show zbv k=false by cases hk:zbv k;rfl;exact absurd ((zbQ k).1 hk) h];exact zkK h
noncomputable def arcB (k:Int)(n:Nat)(a:zaz):Bool:=decide (0<=a.i/\a.i<=500/\0<=a.o/\a.o<=500/\0<=a.t/\a.t<(n:Int))&&wgtB k a.w
noncomputable def finB (k:Int)(f:ByteArray):Bool:=decide (f.size=0) || wgtB k f
noncomputable def stB6 (k:Int)(n:Nat)(s:zac):Bool:=finB k s.fin&&s.arcs.all (arcB k n)
noncomputable def headB (m:zah):Bool:=zbv m.kind&&decide (1<=m.states.length/\m.states.length<=3000/\0<=m.start/\m.start<(m.states.length:Int))&&wgtB m.kind m.lead
noncomputable def validB (m:zah):Bool:=headB m&&decide (zaj m.states<=30000)&&m.states.all (stB6 m.kind m.states.length)
structure zaZ (m:zah):Prop where
 n:m.states.length<=140737488355328
 lead:m.lead.size<=maxLen
 fin:∀ s∈m.states,s.fin.size<=maxLen
 arcs:∀ s∈m.states,s.arcs.length<=140737488355328
 w:∀ s∈m.states,∀ a∈s.arcs,a.w.size<=maxLen
def zgd {m:zah}(h:validB m=true){k:Nat}{s:zac}(hs:m.states[k]?=some s):stB6 m.kind m.states.length s=true:=by
 unfold validB at h;simp only[zqbb,List.all_eq_true] at h;exact h.2 s (zqak hs)
def ziV {m:zah}(h:validB m=true):zaj m.states<=30000:=by
 unfold validB at h;simp only[zqbb,zqca] at h;exact h.1.2
def zeh {m:zah}(h:validB m=true):headB m=true:=by
 unfold validB at h;simp only[zqbb] at h;exact h.1.1
def zdG {m:zah}(h:headB m=true):zbv m.kind=true/\1<=m.states.length/\m.states.length<=3000/\0<=m.start/\m.start<(m.states.length:Int)/\wgtB m.kind m.lead=true:=by
 unfold headB at h;simp only[zqbb,zqca] at h;exact⟨h.1.1,h.1.2.1,h.1.2.2.1,h.1.2.2.2.1,h.1.2.2.2.2,h.2⟩
def zfJ {k:Int}{n:Nat}{s:zac}(h:stB6 k n s=true):finB k s.fin=true/\∀ a∈s.arcs,arcB k n a=true:=by
 unfold stB6 at h;simpa using h
def zel {k:Int}{n:Nat}{a:zaz}(h:arcB k n a=true):0<=a.i/\a.i<=500/\0<=a.o/\a.o<=500/\0<=a.t/\a.t<(n:Int)/\wgtB k a.w=true:=by
 unfold arcB at h;simp only[zqbb,zqca] at h;exact⟨h.1.1,h.1.2.1,h.1.2.2.1,h.1.2.2.2.1,h.1.2.2.2.2.1,h.1.2.2.2.2.2,h.2⟩
def zki {l:List zac}{s:zac}(h:s∈l):s.arcs.length<=zaj l:=by
 obtain⟨k,hk⟩:=List.mem_iff_getElem?.1 h;have h1:=zhC l (show k+1<=l.length by have:=(zqae.1 hk).1;omega);rw[zeu hk,zhB] at h1;omega
def zct {w w':World}(h:w.grownBy w' none):Below w.heap.size w w':=below_grown h (zqab _) (by simp)
def zan.grown {w w':World}{v:Value}{m:zah}(h:zan w v m)(hg:w.grownBy w' none):zan w' v m:=h.below (zct hg)
def zgE.grown {w w':World}{v:Value}{l:List zac}(h:zgE w v l)(hg:w.grownBy w' none):zgE w' v l:=h.below (zct hg)
def zco.grown {w w':World}{v:Value}{l:List zaz}(h:zco w v l)(hg:w.grownBy w' none):zco w' v l:=h.below (zct hg)
def zaf.grown {w w':World}{g:Nat}{m:zah}{u:Value}(h:zaf w g m u)(hg:w.grownBy w' none):zaf w' g m u:=(hg.block g h.lt (by simp)).trans h
def zdS.grown {w w':World}{p:Addr}{f:ByteArray}{u:Value}(h:zdS w p f u)(hg:w.grownBy w' none)(hp:p.block<w.heap.size):zdS w' p f u:=h.below (zct hg) hp
def zkh.grown {w w':World}{p:Addr}{a:zaz}(h:zkh w p a)(hg:w.grownBy w' none)(hp:p.block<w.heap.size):zkh w' p a:=h.below (zct hg) hp
end Go.Proofs.YtadgpgofcjpnjaaGreatDoor
namespace Go.Proofs.YtadgpgofcjpnjaaGreatDoor
open Go.Proofs.Tryz
section
open Go.ChangeShapes Go.WideShapes Go.ChangeAt Go.RowKit Go.Lib Go.Joins
def zjF {α:Type}(P:Nat->α->Prop):∀ n,(∀ i,i<n->∃ a,P i a)->∃ l:List α,l.length=n/\∀ i a,l[i]?=some a->P i a
 | 0,_=>⟨[],rfl,fun i a h=>by simp at h⟩
 | n+1,h=>by
  obtain⟨l,hl,hp⟩:=zjF P n (fun i hi=>h i (by omega));obtain⟨a,ha⟩:=h n (by omega);refine⟨l++[a],by simp[hl],fun i b hb=>?_⟩
  by_cases hi:i<n
  exact hp i b (by rw[<- hb,zqal (by omega)]);have hlt:=(zqae.1 hb).1;rw[zqag,hl] at hlt;simp at hlt;obtain rfl:i=n:=by omega
  rw[zqaq (by omega),hl,zqbr] at hb;simp at hb;rw[<- hb];exact ha
def zlN {α:Type}(f:α->List Value)(n:Nat)(hn:∀ a,(f a).length=n)(h0:0<n){w:World}{ad:Addr}{l:List α}(hb:0<l.length->ad.block<w.heap.size)
  (h:∀ i a,l[i]?=some a->∀ r,r<n->w.cell? (ad.add (i*n+r))=(f a)[r]?):Reads w w.heap.size n (some ad) l.length (l.flatMap f):=by
 refine⟨zjE f n hn l,fun hl=>⟨ad,rfl,hb hl,fun j u hu=>?_⟩⟩
 have hj:j<l.length*n:=by
  have:=(zqae.1 hu).1;rw[zjE f n hn l] at this;exact this
 have hq:j/n<l.length:=Nat.div_lt_of_lt_mul (by rw[zqbc];exact hj);have hx:l[j/n]?=some l[j/n]:=zqac hq;have hr:=Nat.mod_lt j h0;have e:j/n*n+j%n=j:=by rw[zqbc];exact zqbt j n
 have h1:=h _ _ hx _ hr;have h2:=flat_get f n hn l _ _ _ hx hr;rw[e] at h1 h2;rw[h1,<- h2,hu]
def slA:prog.underlying 74=some (.slice 78):=underlying74
def slT:prog.underlying 27=some (.slice 76):=underlying27
def ztP:prog.cellsOf 78=4:=by kernel_rfl
def zwm:prog.cellsOf 76=2:=by kernel_rfl
def zDH:prog.bytesOf 78=40:=by kernel_rfl
def zGd:prog.bytesOf 76=40:=by kernel_rfl
def zrV:prog.cellsOf 3=1:=by kernel_rfl
def zrW:prog.cellsOf 9=1:=by kernel_rfl
def zDI:prog.cellsOf 74=1:=by kernel_rfl
section
variable {H:Type} {enc:TypeId×Value->H} {w:World}
def zDJ {fuel:Nat}{cs:List Value}{x:DataW H×List MemPlace}(h:DataW.trod enc prog w 0 (fun _=>true) true fuel 78 cs=some x) :
  ∃ a:zaz,cs=zdw a/\a.w.size<=maxLen:=by
 obtain⟨xs,n,rfl,hx,hl,hxl,hall⟩:=DataW.trod_struct underlying78 h;rw[ztP] at hl
 match cs,hl with
 | [u0,u1,u2,u3],_ =>
  match xs,hxl with
  | [x0,x1,x2,x3],_ =>
   have h0:DataW.trod enc prog w 0 (fun _=>true) true n 3 (([u0,u1,u2,u3].drop 0).take (prog.cellsOf 3))=some x0:=hall 0 _ rfl;have h1:DataW.trod enc prog w 0 (fun _=>true) true n 3 (([u0,u1,u2,u3].drop 1).take (prog.cellsOf 3))=some x1:=hall 1 _ rfl;have h2:DataW.trod enc prog w 0 (fun _=>true) true n 9 (([u0,u1,u2,u3].drop 2).take (prog.cellsOf 9))=some x2:=hall 2 _ rfl;have h3:DataW.trod enc prog w 0 (fun _=>true) true n 3 (([u0,u1,u2,u3].drop 3).take (prog.cellsOf 3))=some x3:=hall 3 _ rfl;rw[zrV] at h0 h1 h3;rw[zrW] at h2;obtain⟨z0,c0,d0,_⟩:=DataW.trod_int underlying3 h0;obtain⟨z1,c1,d1,_⟩:=DataW.trod_int underlying3 h1;obtain⟨s2,c2,d2,hs2⟩:=DataW.trod_string underlying9 h2;obtain⟨z3,c3,d3,_⟩:=DataW.trod_int underlying3 h3;simp at c0 c1 c2 c3;exact⟨⟨z0,z1,s2,z3⟩,by rw[c0,c1,c2,c3];rfl,hs2⟩
def zAG {fuel:Nat}{cs:List Value}{x:DataW H×List MemPlace}(h:DataW.trod enc prog w 0 (fun _=>true) true fuel 74 cs=some x) :
  ∃ v l,cs=[v]/\zco w v l/\(∀ a∈l,a.w.size<=maxLen)/\((∀ y∈DataW.weights prog 74 x.1,y<=reachBytes)->l.length<=140737488355328):=by
 rcases DataW.trod_slice slA h with⟨rfl,rfl⟩|⟨a,len,cap,elems,rest,n,rfl,rfl,rfl,_,hlc,hcm,hel,he,_,_⟩;exact⟨_,[],rfl,zco.nil _,fun a ha=>by simp at ha,fun _=>by simp⟩
 have hex:∀ i,i<len->∃ m:zaz,(a.add (i*4)).block<w.heap.size/\(∀ r,r<4->w.cell? ((a.add (i*4)).add r)=(zdw m)[r]?)/\m.w.size<=maxLen:=by
  intro i hi;have h1:=he i hi;rw[zqac (by omega:i<elems.length),ztP] at h1;obtain⟨cs,hcs,ht⟩:=Option.bind_eq_some_iff.1 h1;obtain⟨m,rfl,hm⟩:=zDJ ht;exact⟨m,World.cells?_block hcs (by omega),(World.cells?_some hcs).2.2,hm⟩
 obtain⟨l,hl,hp⟩:=zjF _ len hex;refine⟨_,l,rfl,⟨some a,cap,by rw[hl],zlN zdw 4 zgQ (by omega) (fun h0=>?_) (fun i m hm r hr=>?_)⟩,fun m hm=>?_,fun hw=>?_⟩
 ·have:=(hp 0 _ (zqac h0)).1
  rw[zbH] at this;exact this
 ·have:=(hp i m hm).2.1 r hr
  rw[zpt] at this;exact this
 ·obtain⟨i,hi⟩:=List.mem_iff_getElem?.1 hm
  exact(hp i m hi).2.2
 have h1:=hw ((elems.length+rest.length)*40) (by simp[DataW.weights,slA,zDH]);have h2:=reachBytes_lt;have h5:(2:Nat) ^ 47=140737488355328:=by decide
 omega
def zqa {t0 t1:TypeId}(d0 d1:DataW H):DataW.weightsEach prog [t0,t1] [d0,d1]=DataW.weights prog t0 d0++(DataW.weights prog t1 d1++[]):=by
 simp[DataW.weightsEach]
structure StIn (w:World)(p:zac×Value):Prop where
 arcs:zco w p.2 p.1.arcs
 fin:p.1.fin.size<=maxLen
 w:∀ a∈p.1.arcs,a.w.size<=maxLen
def zxD {fuel:Nat}{cs:List Value}{x:DataW H×List MemPlace}(h:DataW.trod enc prog w 0 (fun _=>true) true fuel 76 cs=some x) :
  ∃ p:zac×Value,cs=stC p/\StIn w p/\((∀ y∈DataW.weights prog 76 x.1,y<=reachBytes)->p.1.arcs.length<=140737488355328):=by
 obtain⟨xs,n,rfl,rfl,hl,hxl,hall⟩:=DataW.trod_struct underlying76 h;rw[zwm] at hl
 match cs,hl with
 | [u0,u1],_ =>
  match xs,hxl with
  | [x0,x1],_ =>
   have h0:DataW.trod enc prog w 0 (fun _=>true) true n 9 (([u0,u1].drop 0).take (prog.cellsOf 9))=some x0:=hall 0 _ rfl;have h1:DataW.trod enc prog w 0 (fun _=>true) true n 74 (([u0,u1].drop 1).take (prog.cellsOf 74))=some x1:=hall 1 _ rfl;rw[zrW] at h0;rw[zDI] at h1;obtain⟨f,c0,d0,hf⟩:=DataW.trod_string underlying9 h0;obtain⟨v,l,c1,ha,hw,hn⟩:=zAG h1;simp at c0 c1;subst c0 c1;refine⟨(⟨f,l⟩,u1),rfl,⟨ha,hf,hw⟩,fun hy=>hn (fun y hm=>hy y ?_)⟩;show y∈DataW.weights prog 76 (.agg [x0.1,x1.1]);rw[DataW.weights,underlying76];show y∈DataW.weightsEach prog [9,74] [x0.1,x1.1];rw[zqa];simp[hm]
def zmC {e:TypeId}:∀ (l:List (DataW H)) (d:DataW H),d∈l->∀ y∈DataW.weights prog e d,y∈DataW.weightsAll prog e l
 | [],_,h,_,_=>by cases h
 | x::l,d,h,y,hy=>by
  rw[DataW.weightsAll,zqbo];rcases List.mem_cons.1 h with rfl|h
  exact .inl hy;exact .inr (zmC l d h y hy)
def zvp {fuel:Nat}{cs:List Value}{x:DataW H×List MemPlace}(h:DataW.trod enc prog w 0 (fun _=>true) true fuel 27 cs=some x) :
  ∃ v l,cs=[v]/\zgE w v l/\(∀ s∈l,s.fin.size<=maxLen)/\(∀ s∈l,∀ a∈s.arcs,a.w.size<=maxLen)/\((∀ y∈DataW.weights prog 27 x.1,y<=reachBytes)->l.length<=140737488355328/\∀ s∈l,s.arcs.length<=140737488355328):=by
 rcases DataW.trod_slice slT h with⟨rfl,rfl⟩|⟨a,len,cap,elems,rest,n,rfl,rfl,rfl,_,hlc,hcm,hel,he,_,_⟩;exact⟨_,[],rfl,zgE.nil _,fun a ha=>by simp at ha,fun a ha=>by simp at ha,fun _=>⟨by simp,fun a ha=>by simp at ha⟩⟩
 have hex:∀ i,i<len->∃ p:zac×Value,(a.add (i*2)).block<w.heap.size/\(∀ r,r<2->w.cell? ((a.add (i*2)).add r)=(stC p)[r]?)/\StIn w p /\
   ((∀ y∈DataW.weightsAll prog 76 (elems.map (·.1)),y<=reachBytes)->p.1.arcs.length<=140737488355328):=by
  intro i hi;have h1:=he i hi;have hx:elems[i]?=some (elems[i]'(by omega)):=zqac (by omega);rw[hx,zwm] at h1;obtain⟨cs,hcs,ht⟩:=Option.bind_eq_some_iff.1 h1;obtain⟨p,rfl,hp,hn⟩:=zxD ht;exact⟨p,World.cells?_block hcs (by omega),(World.cells?_some hcs).2.2,hp,fun hy=>hn (fun y hm=>hy y (zmC _ _ (List.mem_map_of_mem (zqak hx)) y hm))⟩
 obtain⟨l,hl,hp⟩:=zjF _ len hex
 have hz:(l.map (·.1)).zip (l.map (·.2))=l:=by
  have:=List.zip_unzip l;rw[List.unzip_eq_map] at this;exact this
 have hr:Reads w w.heap.size 2 (some a) l.length (l.flatMap stC):=zlN stC 2 zfI (by omega) (fun h0=>by
  have:=(hp 0 _ (zqac h0)).1;rw[zbH] at this;exact this) (fun i m hm r hr=>by
  have:=(hp i m hm).2.1 r hr;rw[zpt] at this;exact this)
 have zm:∀ s∈l.map (·.1),∃ p∈l,p.1=s:=fun s hs=>by simpa using zqbf.1 hs
 refine⟨_,l.map (·.1),rfl,⟨some a,cap,l.map (·.2),by rw[zqbn,hl],by simp,by rw[hz,zqbn];exact hr,fun k s u hs hu=>?_⟩,fun s hs=>?_,fun s hs=>?_,fun hw=>⟨?_,fun s hs=>?_⟩⟩
 ·rw[zqaj] at hs hu
  obtain⟨p,hp1,rfl⟩:=Option.map_eq_some_iff.1 hs;rw[hp1] at hu;simp at hu;rw[<- hu];exact(hp k p hp1).2.2.1.arcs
 ·obtain⟨p,hpm,rfl⟩:=zm s hs
  obtain⟨i,hi⟩:=List.mem_iff_getElem?.1 hpm;exact(hp i p hi).2.2.1.fin
 ·obtain⟨p,hpm,rfl⟩:=zm s hs
  obtain⟨i,hi⟩:=List.mem_iff_getElem?.1 hpm;exact(hp i p hi).2.2.1.w
 ·have h1:=hw ((elems.length+rest.length)*40) (by simp[DataW.weights,slT,zGd])
  have h2:=reachBytes_lt;have h5:(2:Nat) ^ 47=140737488355328:=by decide
  rw[zqbn];omega
 obtain⟨p,hpm,rfl⟩:=zm s hs;obtain⟨i,hi⟩:=List.mem_iff_getElem?.1 hpm;exact(hp i p hi).2.2.2 (fun y hy=>hw y (by rw[DataW.weights,slT];simp only[List.mem_cons,zqbo];exact .inr (.inl hy)))
def zem {base:Nat}{v:Value}{d:DataW H}{p:List MemPlace}(zV:Value.okWide prog w .any base 29 v)(h:DataW.Trod enc prog w 0 (fun _=>true) true 29 v d p)
  (hw:∀ y∈DataW.weights prog 29 d,y<=reachBytes):∃ m:zah,zan w v m/\zaZ m:=by
 obtain⟨v0,v1,v2,v3,y0,y1,y2,y3,n,rfl,rfl,rfl,h0,h1,h2,h3⟩:=open_agg4 underlying29 (by kernel_rfl) (by kernel_rfl) zV h;obtain⟨k,e0,d0,_⟩:=DataW.trod_int underlying3 h0;obtain⟨s,e1,d1,_⟩:=DataW.trod_int underlying3 h1;obtain⟨f,e2,d2,hf⟩:=DataW.trod_string underlying9 h2;obtain⟨u,l,e3,hst,hfin,haw,hb⟩:=zvp h3;simp at e0 e1 e2 e3;subst e0 e1 e2 e3
 have hb2:=hb (fun y hy=>hw y (by
  rw[DataW.weights,underlying29];show y∈DataW.weightsEach prog [3,3,9,27] [y0.1,y1.1,y2.1,y3.1];simp[DataW.weightsEach,hy]))
 exact⟨⟨k,s,f,l⟩,⟨v3,rfl,hst⟩,⟨hb2.1,hf,hfin,hb2.2,haw⟩⟩
end
variable {α:Type}
def sp1 (S:Sr α):List Nat->(List Nat->List Nat->α)->α
 | [],g=>g [] []
 | a::u,g=>S.add (g [] (a::u)) (sp1 S u (fun p q=>g (a::p) q))
def sp (S:Sr α)(u v:List Nat)(f:List Nat->List Nat->List Nat->List Nat->α):α:=sp1 S u (fun p q=>sp1 S v (fun r s=>f p q r s))
variable {S:Sr α}
def zbs:∀ {u:List Nat} {g h:List Nat->List Nat->α},(∀ p q,p++q=u->g p q=h p q)->sp1 S u g=sp1 S u h
 | [],g,h,e=>e [] [] rfl
 | a::u,g,h,e=>by
  show S.add _ _=S.add _ _;rw[e [] (a::u) rfl,zbs (fun p q hp=>e (a::p) q (by rw[List.cons_append,hp]))]
def zrn (g h:List Nat->List Nat->α):∀ u,sp1 S u (fun p q=>S.add (g p q) (h p q))=S.add (sp1 S u g) (sp1 S u h):=fun u=>by
 induction u generalizing g h with
 | nil=>rfl
 | cons a u ih =>
  show S.add (S.add _ _) (sp1 S u _)=S.add (S.add _ (sp1 S u _)) (S.add _ (sp1 S u _));rw[ih];ac_rfl
def zwn (c:α)(g:List Nat->List Nat->α):∀ u,sp1 S u (fun p q=>S.mul c (g p q))=S.mul c (sp1 S u g):=fun u=>by
 induction u generalizing g with
 | nil=>rfl
 | cons a u ih =>
  show S.add _ (sp1 S u _)=S.mul c (S.add _ (sp1 S u _));rw[ih,S.mul_add]
def zdV:∀ u,sp1 S u (fun _ _=>S.zero)=S.zero
 | []=>rfl
 | a::u=>by
  show S.add S.zero (sp1 S u _)=_;rw[zdV u,S.add_zero]
def zAH (n:Nat)(g:Nat->List Nat->List Nat->α)(u:List Nat):sp1 S u (fun p q=>sm S n (fun s=>g s p q))=sm S n (fun s=>sp1 S u (g s)):=by
 induction n with
 | zero=>exact zdV u
 | succ n ih =>
  show sp1 S u (fun p q=>S.add (sm S n (fun s=>g s p q)) (g n p q))=S.add _ _;rw[zrn,ih]
def zcP {u v:List Nat}{f g:List Nat->List Nat->List Nat->List Nat->α}(h:∀ p q r s,p++q=u->r++s=v->f p q r s=g p q r s):sp S u v f=sp S u v g :=
 zbs (fun p q hp=>zbs (fun r s hr=>h p q r s hp hr))
def zmD (u v:List Nat)(f g:List Nat->List Nat->List Nat->List Nat->α):sp S u v (fun p q r s=>S.add (f p q r s) (g p q r s))=S.add (sp S u v f) (sp S u v g):=by
 unfold sp;rw[<- zrn];exact zbs (fun p q _=>zrn _ _ v)
def zjG (c:α)(u v:List Nat)(f:List Nat->List Nat->List Nat->List Nat->α):sp S u v (fun p q r s=>S.mul c (f p q r s))=S.mul c (sp S u v f):=by
 unfold sp;rw[<- zwn];exact zbs (fun p q _=>zwn c _ v)
def zGe (u v:List Nat):sp S u v (fun _ _ _ _=>S.zero)=S.zero:=by
 unfold sp;rw[zbs (h:=fun _ _=>S.zero) (fun p q _=>zdV v),zdV]
def zsB (n:Nat)(u v:List Nat)(f:Nat->List Nat->List Nat->List Nat->List Nat->α):sp S u v (fun p q r s=>sm S n (fun t=>f t p q r s))=sm S n (fun t=>sp S u v (f t)):=by
 unfold sp;rw[<- zAH];exact zbs (fun p q _=>zAH n _ v)
def zrX (f:Nat->α):∀ n,sm S (n+1) f=S.add (f 0) (sm S n (fun i=>f (i+1)))
 | 0=>by show S.add S.zero (f 0)=S.add (f 0) S.zero;rw[S.add_comm]
 | n+1=>by
  show S.add (sm S (n+1) f) (f (n+1))=S.add (f 0) (S.add (sm S n (fun i=>f (i+1))) (f (n+1)));rw[zrX f n,S.add_assoc]
def zAJ (u:List Nat)(g:List Nat->List Nat->α):sp1 S u g=sm S (u.length+1) (fun i=>g (u.take i) (u.drop i)):=by
 induction u generalizing g with
 | nil=>show _=S.add S.zero _;rw[S.zero_add];rfl
 | cons a u ih =>
  rw[zqbu,zrX];show S.add _ (sp1 S u _)=_;rw[ih];rfl
def zxE (u v:List Nat)(f:List Nat->List Nat->List Nat->List Nat->α):sp S u v f=grid S u.length v.length (fun i j=>f (u.take i) (u.drop i) (v.take j) (v.drop j)):=by
 unfold sp grid;rw[zAJ];exact zar S (fun i _=>zAJ v _)
def spx (S:Sr α)(u v:List Nat)(f:List Nat->List Nat->List Nat->List Nat->α):α:=sp S u v (fun p q r s=>if p=[]/\r=[] then S.zero else f p q r s)
def zlr (u v:List Nat)(f:List Nat->List Nat->List Nat->List Nat->α):sp S u v f=S.add (f [] u [] v) (spx S u v f):=by
 have e:∀ (u v:List Nat) (f:List Nat->List Nat->List Nat->List Nat->α),sp S u v (fun p q r s=>if p=[]/\r=[] then f p q r s else S.zero)=f [] u [] v:=by
  have e1:∀ (v:List Nat) (g:List Nat->List Nat->α),sp1 S v (fun r s=>if r=[] then g r s else S.zero)=g [] v:=fun v g=>by
   cases v with
   | nil=>show(if ([]:List Nat)=[] then g [] [] else S.zero)=_;rw[if_pos rfl]
   | cons b v =>
    show S.add (if ([]:List Nat)=[] then g [] (b::v) else S.zero) (sp1 S v (fun p q=>if b::p=[] then g (b::p) q else S.zero))=_;rw[if_pos rfl,zbs (h:=fun _ _=>S.zero) (fun p q _=>if_neg (by simp)),zdV,S.add_zero]
  intro u v f;unfold sp;rw[<- e1 v (fun r s=>f [] u r s),<- e1 u (fun p q=>sp1 S v (fun r s=>if r=[] then f p q r s else S.zero))];refine zbs (fun p q _=>?_)
  by_cases hp:p=[]
  ·rw[if_pos hp]
   exact zbs (fun r s _=>by
    by_cases hr:r=[]
    dsimp only;rw[if_pos ⟨hp,hr⟩,if_pos hr];dsimp only;rw[if_neg (fun h=>hr h.2),if_neg hr])
  rw[if_neg hp,zbs (h:=fun _ _=>S.zero) (fun r s _=>if_neg (fun h=>hp h.1)),zdV]
 unfold spx;rw[<- e u v f,<- zmD];refine zcP (fun p q r s _ _=>?_)
 by_cases h:p=[]/\r=[]
 rw[if_pos h,if_pos h,S.add_zero];rw[if_neg h,if_neg h,S.zero_add]
def nxF (S:Sr α)(m:Wm α)(u v:List Nat)(p:Nat):α:=if u=[]/\v=[] then m.F p else S.zero
def nxI (S:Sr α)(m:Wm α)(f:List Nat->List Nat->Nat->α):List Nat->List Nat->Nat->α
 | [],_,_=>S.zero
 | a::u,v,p=>sm S m.n (fun r=>S.mul (m.T a 0 p r) (f u v r))
def nxO (S:Sr α)(m:Wm α)(f:List Nat->List Nat->Nat->α):List Nat->List Nat->Nat->α
 | _,[],_=>S.zero
 | u,b::v,p=>sm S m.n (fun r=>S.mul (m.T 0 b p r) (f u v r))
def nxB (S:Sr α)(m:Wm α)(f:List Nat->List Nat->Nat->α):List Nat->List Nat->Nat->α
 | [],_,_=>S.zero
 | _,[],_=>S.zero
 | a::u,b::v,p=>sm S m.n (fun r=>S.mul (m.T a b p r) (f u v r))
def zls (m:Wm α)(f:List Nat->List Nat->Nat->α)(u v:List Nat)(p:Nat):nx S m f u v p=S.add (nxF S m u v p) (S.add (S.add (nxI S m f u v p) (nxO S m f u v p)) (nxB S m f u v p)):=by
 cases u with
 | nil=>cases v with
  | nil =>
   show m.F p=S.add (if _ then m.F p else S.zero) (S.add (S.add S.zero S.zero) S.zero);rw[if_pos ⟨rfl,rfl⟩,S.add_zero,S.add_zero,S.add_zero]
  | cons b v =>
   show sm S m.n _=S.add (if _ then m.F p else S.zero) (S.add (S.add S.zero (sm S m.n _)) S.zero);rw[if_neg (fun h=>by cases h.2),S.zero_add,S.add_zero,S.zero_add]
 | cons a u=>cases v with
  | nil =>
   show sm S m.n _=S.add (if _ then m.F p else S.zero) (S.add (S.add (sm S m.n _) S.zero) S.zero);rw[if_neg (fun h=>by cases h.1),S.zero_add,S.add_zero,S.add_zero]
  | cons b v =>
   show S.add (S.add _ _) _=S.add (if _ then m.F p else S.zero) (S.add (S.add _ _) _);rw[if_neg (fun h=>by cases h.1),S.zero_add];rfl
def zHS (m:Wm α)(f:List Nat->List Nat->Nat->α)(Z:List Nat->List Nat->α)(u v:List Nat)(p:Nat) :
  sp S u v (fun p1 q1 r1 s1=>S.mul (nx S m f p1 r1 p) (Z q1 s1))=S.add (S.mul (m.F p) (Z u v)) (S.add (S.add (nxI S m (fun u v r=>sp S u v (fun p1 q1 r1 s1=>S.mul (f p1 r1 r) (Z q1 s1))) u v p) (nxO S m (fun u v r=>sp S u v (fun p1 q1 r1 s1=>S.mul (f p1 r1 r) (Z q1 s1))) u v p)) (nxB S m (fun u v r=>sp S u v (fun p1 q1 r1 s1=>S.mul (f p1 r1 r) (Z q1 s1))) u v p)):=by
 have e:∀ p1 q1 r1 s1,S.mul (nx S m f p1 r1 p) (Z q1 s1)=S.add (S.mul (nxF S m p1 r1 p) (Z q1 s1)) (S.add (S.add (S.mul (nxI S m f p1 r1 p) (Z q1 s1)) (S.mul (nxO S m f p1 r1 p) (Z q1 s1))) (S.mul (nxB S m f p1 r1 p) (Z q1 s1))):=fun p1 q1 r1 s1=>by
  rw[zls,S.add_mul,S.add_mul,S.add_mul]
 rw[zcP (fun p1 q1 r1 s1 _ _=>e p1 q1 r1 s1),zmD,zmD,zmD]
 have swap:∀ (c:Nat->α) (g:Nat->List Nat->List Nat->α) (q1 s1 p1 r1:List Nat),S.mul (sm S m.n (fun r=>S.mul (c r) (g r p1 r1))) (Z q1 s1)=sm S m.n (fun r=>S.mul (c r) (S.mul (g r p1 r1) (Z q1 s1))):=fun c g q1 s1 p1 r1=>by
  rw[zir];exact zar S (fun r _=>S.mul_assoc _ _ _)
 congr 1
 ·rw[zlr]
  unfold spx nxF
  rw[if_pos ⟨rfl,rfl⟩,zcP (g:=fun _ _ _ _=>S.zero) (fun p1 q1 r1 s1 _ _=>by
   by_cases h:p1=[]/\r1=[]
   dsimp only;rw[if_pos h];dsimp only;rw[if_neg h,if_neg h,S.zero_mul]),zGe,S.add_zero]
 congr 1
 ·congr 1
  ·cases u with
   | nil =>
    exact zQbH
   | cons a u =>
    show S.add (sp1 S v (fun r s=>S.mul S.zero (Z (a::u) s))) (sp1 S u (fun p1 q1=>sp1 S v (fun r1 s1=>S.mul (sm S m.n (fun r=>S.mul (m.T a 0 p r) (f p1 r1 r))) (Z q1 s1))))=sm S m.n (fun r=>S.mul (m.T a 0 p r) (sp S u v (fun p1 q1 r1 s1=>S.mul (f p1 r1 r) (Z q1 s1))));rw[zbs (h:=fun _ _=>S.zero) (fun p q _=>S.zero_mul _),zdV,S.zero_add]
    have e2:sp1 S u (fun p1 q1=>sp1 S v (fun r1 s1=>S.mul (sm S m.n (fun r=>S.mul (m.T a 0 p r) (f p1 r1 r))) (Z q1 s1)))=sp S u v (fun p1 q1 r1 s1=>sm S m.n (fun r=>S.mul (m.T a 0 p r) (S.mul (f p1 r1 r) (Z q1 s1)))) :=
     zbs (fun p1 q1 _=>zbs (fun r1 s1 _=>swap _ (fun r p1 r1=>f p1 r1 r) _ _ _ _))
    rw[e2,zsB];exact zQcx
  cases v with
  | nil =>
   show sp1 S u (fun p1 q1=>S.mul (nxO S m f p1 [] p) (Z q1 []))=_;rw[zbs (g:=fun p1 q1=>S.mul (nxO S m f p1 [] p) (Z q1 [])) (h:=fun _ _=>S.zero) (fun p1 q1 _=>S.zero_mul _),zdV];cases u <;> rfl
  | cons b v =>
   show sp1 S u (fun p1 q1=>S.add (S.mul (nxO S m f p1 [] p) (Z q1 (b::v))) (sp1 S v (fun r1 s1=>S.mul (sm S m.n (fun r=>S.mul (m.T 0 b p r) (f p1 r1 r))) (Z q1 s1))))=sm S m.n (fun r=>S.mul (m.T 0 b p r) (sp S u v (fun p1 q1 r1 s1=>S.mul (f p1 r1 r) (Z q1 s1))))
   have e2:∀ p1 q1,S.add (S.mul (nxO S m f p1 [] p) (Z q1 (b::v))) (sp1 S v (fun r1 s1=>S.mul (sm S m.n (fun r=>S.mul (m.T 0 b p r) (f p1 r1 r))) (Z q1 s1)))=sp1 S v (fun r1 s1=>sm S m.n (fun r=>S.mul (m.T 0 b p r) (S.mul (f p1 r1 r) (Z q1 s1)))):=fun p1 q1=>by
    show S.add (S.mul S.zero _) _=_;rw[S.zero_mul,S.zero_add];exact zbs (fun r1 s1 _=>swap _ (fun r p1 r1=>f p1 r1 r) _ _ _ _)
   rw[zbs (fun p1 q1 _=>e2 p1 q1)];show sp S u v (fun p1 q1 r1 s1=>sm S m.n (fun r=>S.mul (m.T 0 b p r) (S.mul (f p1 r1 r) (Z q1 s1))))=_;rw[zsB];exact zQcx
 cases u with
 | nil =>
  exact zQbH
 | cons a u=>cases v with
  | nil =>
   show S.add (S.mul S.zero _) (sp1 S u (fun p1 q1=>S.mul S.zero (Z q1 [])))=S.zero;rw[S.zero_mul,S.zero_add,zbs (h:=fun _ _=>S.zero) (fun p1 q1 _=>S.zero_mul _),zdV]
  | cons b v =>
   show S.add (sp1 S (b::v) (fun r s=>S.mul S.zero (Z (a::u) s))) (sp1 S u (fun p1 q1=>S.add (S.mul S.zero (Z q1 (b::v))) (sp1 S v (fun r1 s1=>S.mul (sm S m.n (fun r=>S.mul (m.T a b p r) (f p1 r1 r))) (Z q1 s1)))))=sm S m.n (fun r=>S.mul (m.T a b p r) (sp S u v (fun p1 q1 r1 s1=>S.mul (f p1 r1 r) (Z q1 s1))));rw[zbs (u:=b::v) (h:=fun _ _=>S.zero) (fun p q _=>S.zero_mul _),zdV,S.zero_add]
   have e2:sp1 S u (fun p1 q1=>S.add (S.mul S.zero (Z q1 (b::v))) (sp1 S v (fun r1 s1=>S.mul (sm S m.n (fun r=>S.mul (m.T a b p r) (f p1 r1 r))) (Z q1 s1))))=sp S u v (fun p1 q1 r1 s1=>sm S m.n (fun r=>S.mul (m.T a b p r) (S.mul (f p1 r1 r) (Z q1 s1)))) :=
    zbs (fun p1 q1 _=>by
     rw[S.zero_mul,S.zero_add];exact zbs (fun r1 s1 _=>swap _ (fun r p1 r1=>f p1 r1 r) _ _ _ _))
   rw[e2,zsB];exact zQcx
variable {α:Type} {S:Sr α}
def zmE (f:Nat->α)(o:Nat):∀ k,sm S (o+k) f=S.add (sm S o f) (sm S k (fun i=>f (o+i)))
 | 0=>(S.add_zero _).symm
 | k+1=>by
  show S.add (sm S (o+k) f) (f (o+k))=S.add _ (S.add _ _);rw[zmE f o k,S.add_assoc]
def zxF {N o n:Nat}(h:o+n<=N)(f:Nat->α)(hz:∀ s,s<N->¬ (o<=s/\s<o+n)->f s=S.zero):sm S N f=sm S n (fun i=>f (o+i)):=by
 obtain⟨k,rfl⟩:∃ k,N=o+n+k:=⟨N-(o+n),by omega⟩;rw[zmE,zmE,zdf S (n:=o) (fun s hs=>hz s (by omega) (by omega)),zdf S (n:=k) (fun s hs=>hz _ (by omega) (by omega)),S.zero_add,S.add_zero]
structure zcM (S:Sr α)(c a:Wm α)(o:Nat)(nxt:Option Nat):Prop where
 fits:o+a.n<=c.n
 E:∀ r s,r<a.n->s<c.n->c.E (o+r) s=if o<=s/\s<o+a.n then a.E r (s-o) else if nxt=some s then a.F r else S.zero
 T:∀ x y r s,r<a.n->s<c.n->c.T x y (o+r) s=if o<=s/\s<o+a.n then a.T x y r (s-o) else S.zero
 F:∀ r,r<a.n->c.F (o+r)=if nxt=none then a.F r else S.zero
 out:∀ z,nxt=some z->z<c.n/\¬ (o<=z/\z<o+a.n)
section
variable {c a:Wm α} {o:Nat}
def zcM.sumT {nxt:Option Nat}(h:zcM S c a o nxt)(x y:Nat){r:Nat}(hr:r<a.n)(X:Nat->α):sm S c.n (fun s=>S.mul (c.T x y (o+r) s) (X s))=sm S a.n (fun s=>S.mul (a.T x y r s) (X (o+s))):=by
 rw[zxF h.fits _ (fun s hs hn=>by rw[h.T x y r s hr hs,if_neg hn,S.zero_mul])];refine zar S (fun s hs=>?_);have:=h.fits;rw[h.T x y r (o+s) hr (by omega),if_pos (by omega),show o+s-o=s by omega]
def zcM.sumE {z:Nat}(h:zcM S c a o (some z)){r:Nat}(hr:r<a.n)(X:Nat->α):sm S c.n (fun s=>S.mul (c.E (o+r) s) (X s))=S.add (sm S a.n (fun s=>S.mul (a.E r s) (X (o+s)))) (S.mul (a.F r) (X z)):=by
 obtain⟨hz,ho⟩:=h.out z rfl
 have e:sm S c.n (fun s=>S.mul (c.E (o+r) s) (X s))=sm S c.n (fun s=>S.add (if o<=s/\s<o+a.n then S.mul (a.E r (s-o)) (X s) else S.zero) (if s=z then S.mul (a.F r) (X z) else S.zero)):=zar S (fun s hs=>by
  rw[h.E r s hr hs]
  by_cases h1:o<=s/\s<o+a.n
  rw[if_pos h1,if_pos h1,if_neg (fun e=>ho (by rw[<- e];exact h1)),S.add_zero];rw[if_neg h1,if_neg h1,S.zero_add]
  by_cases h2:s=z
  rw[if_pos h2,if_pos (by rw[h2]),h2];rw[if_neg h2,if_neg (fun e=>h2 (Option.some.inj e).symm),S.zero_mul])
 rw[e,zdY,zxF h.fits _ (fun s hs hn=>if_neg hn),zdL hz _ (fun s _ hs=>if_neg hs),if_pos rfl];congr 1;exact zar S (fun s hs=>by rw[if_pos (by omega),show o+s-o=s by omega])
def zcM.sumE0 (h:zcM S c a o none){r:Nat}(hr:r<a.n)(X:Nat->α):sm S c.n (fun s=>S.mul (c.E (o+r) s) (X s))=sm S a.n (fun s=>S.mul (a.E r s) (X (o+s))):=by
 have hf:=h.fits;rw[zxF hf _ (fun s hs hn=>by rw[h.E r s hr hs,if_neg hn,if_neg (by simp),S.zero_mul])];exact zar S (fun s hs=>by rw[h.E r (o+s) hr (by omega),if_pos (by omega),show o+s-o=s by omega])
def zcM.ends (h:zcM S c a o none)(u v:List Nat){r:Nat}(hr:r<a.n):bk S c u v (o+r)=bk S a u v r:=by
 have hg:∀ r,r<a.n->((List.range a.n).map (fun i=>o+i)).getD r 0=o+r:=fun r hr=>by
  rw[zqaa,zqaj,zqbe hr];rfl
 have hl:((List.range a.n).map (fun i=>o+i)).length=a.n:=by simp
 have hf:=h.fits;have hin:∀ s,s ∉ (List.range a.n).map (fun i=>o+i)->¬ (o<=s/\s<o+a.n):=fun s hs hn=>hs (zqbf.2 ⟨s-o,List.mem_range.2 (by omega),by omega⟩)
 have hsub:Sub S c a ((List.range a.n).map (fun i=>o+i)) := {
  nodup:=by
   have hp:∀ n,((List.range n).map (fun i=>o+i)).Nodup:=fun n=>by
    induction n with
    | zero=>simp
    | succ n ih =>
     rw[List.range_succ,List.map_append];refine List.nodup_append.2 ⟨ih,by simp,fun x hx y hy e=>?_⟩;obtain⟨i,hi,rfl⟩:=zqbf.1 hx;have:=List.mem_range.1 hi;have hy:y=o+n:=(by simpa using hy);omega
   exact hp a.n
  below:=fun x hx=>by
   obtain⟨i,hi,rfl⟩:=zqbf.1 hx;have:=List.mem_range.1 hi;omega
  size:=hl.symm
  E:=fun r s hr hs=>by
   rw[hl] at hr hs;rw[hg r hr,hg s hs,h.E r (o+s) hr (by omega),if_pos (by omega),show o+s-o=s by omega]
  T:=fun x y r s hr hs=>by
   rw[hl] at hr hs;rw[hg r hr,hg s hs,h.T x y r (o+s) hr (by omega),if_pos (by omega),show o+s-o=s by omega]
  F:=fun r hr=>by
   rw[hl] at hr;rw[hg r hr,h.F r hr,if_pos rfl]
  deadE:=fun q hq s hs hn hne=>by
   obtain⟨i,hi,rfl⟩:=zqbf.1 hq;exact absurd (by rw[h.E i s (List.mem_range.1 hi) hs,if_neg (hin s hn),if_neg (by simp)]) hne
  deadT:=fun q hq s hs hn x y hne=>by
   obtain⟨i,hi,rfl⟩:=zqbf.1 hq;exact absurd (by rw[h.T x y i s (List.mem_range.1 hi) hs,if_neg (hin s hn)]) hne }
 have:=hsub.same (u.length+v.length) u v (zqab _) r (by rw[hl];exact hr);rw[this,hg r hr]
def cv9 (S:Sr α)(a:Wm α)(Z:List Nat->List Nat->α)(u v:List Nat)(r:Nat):α:=sp S u v (fun p q r1 s1=>S.mul (bk S a p r1 r) (Z q s1))
def cb9 (S:Sr α)(a:Wm α)(Z:List Nat->List Nat->α)(u v:List Nat)(r:Nat):α:=sp S u v (fun p q r1 s1=>S.mul (nx S a (bk S a) p r1 r) (Z q s1))
def zjH (Z:List Nat->List Nat->α)(u v:List Nat)(r:Nat):cv9 S a Z u v r=zjt S a.E a.n (cb9 S a Z u v) r:=by
 unfold cv9 zjt cb9
 rw[zcP (g:=fun p q r1 s1=>sm S a.n (fun t=>S.mul (stM S a.E a.n r t) (S.mul (nx S a (bk S a) p r1 t) (Z q s1)))) (fun p q r1 s1 _ _=>by
  rw[zkF,zir];exact zar S (fun t _=>S.mul_assoc _ _ _)),zsB]
 exact zar S (fun t _=>zjG _ _ _ _)
def zcM.cb {z:Nat}(h:zcM S c a o (some z))(Z:List Nat->List Nat->α)(u v:List Nat)(ih:∀ u' v',u'.length+v'.length<u.length+v.length->∀ r,r<a.n->bk S c u' v' (o+r)=cv9 S a Z u' v' r){r:Nat}(hr:r<a.n):cb9 S a Z u v r=S.add (nx S c (bk S c) u v (o+r)) (S.mul (a.F r) (Z u v)):=by
 unfold cb9;rw[zHS a (bk S a) Z u v r,S.add_comm,zls c];congr 1
 have hF:nxF S c u v (o+r)=S.zero:=by
  unfold nxF;rw[h.F r hr];split;rfl;rfl
 rw[hF,S.zero_add];congr 1
 ·congr 1
  ·cases u with
   | nil=>rfl
   | cons x u =>
    show sm S a.n _=sm S c.n _;rw[h.sumT x 0 hr];exact zar S (fun s hs=>by rw[ih u v (by simp) s hs];rfl)
  cases v with
  | nil=>cases u <;> rfl
  | cons y v =>
   have e:∀ (m:Wm α) (f:List Nat->List Nat->Nat->α) (p:Nat),nxO S m f u (y::v) p=sm S m.n (fun r=>S.mul (m.T 0 y p r) (f u v r)):=fun m f p=>by cases u <;> rfl
   rw[e,e,h.sumT 0 y hr];exact zar S (fun s hs=>by rw[ih u v (by simp) s hs];rfl)
 cases u with
 | nil=>rfl
 | cons x u=>cases v with
  | nil=>rfl
  | cons y v =>
   show sm S a.n _=sm S c.n _;rw[h.sumT x y hr];exact zar S (fun s hs=>by rw[ih u v (by simp;omega) s hs];rfl)
def zcM.on1 {z:Nat}(h:zcM S c a o (some z))(u v:List Nat)(ih:∀ u' v',u'.length+v'.length<u.length+v.length->∀ r,r<a.n->bk S c u' v' (o+r)=cv9 S a (fun u v=>bk S c u v z) u' v' r):∀ r,r<a.n->bk S c u v (o+r)=cv9 S a (fun u v=>bk S c u v z) u v r:=by
 obtain⟨hz,ho⟩:=h.out z rfl;have hf:=h.fits;have hcb:=fun r hr=>h.cb (fun u v=>bk S c u v z) u v ih (r:=r) hr
 have up:∀ r,r<a.n->S.le (cv9 S a (fun u v=>bk S c u v z) u v r) (bk S c u v (o+r)):=fun r hr=>by
  rw[zjH];refine zwC S a.E (cb9 S a (fun u v=>bk S c u v z) u v) (fun r=>bk S c u v (o+r)) (fun i hi=>?_) hr;rw[hcb i hi]
  conv=>rhs;rw[zgV S c u v (show o+i<c.n by omega),h.sumE hi]
  have e:∀ x y w:α,S.add (S.add x y) w=S.add x (S.add w y):=fun x y w=>by ac_rfl
  rw[e];exact S.le_refl _
 intro r hr;refine S.le_anti _ _ ?_ (up r hr);have key:=zkZ S c u v (fun s=>if o<=s/\s<o+a.n then cv9 S a (fun u v=>bk S c u v z) u v (s-o) else bk S c u v s) (fun q hq=>?_) (show o+r<c.n by omega)
 ·rw[if_pos (by omega),show o+r-o=r by omega] at key
  exact key
 by_cases hm:o<=q/\q<o+a.n
 ·obtain⟨t,rfl⟩:∃ t,q=o+t:=⟨q-o,by omega⟩
  have ht:t<a.n:=by omega
  rw[h.sumE ht,if_pos hm,if_neg ho,show o+t-o=t by omega]
  conv=>rhs;rw[zjH,zvK S a.E a.n _ ht,hcb t ht]
  have e:∀ x y w:α,S.add x (S.add w y)=S.add (S.add x y) w:=fun x y w=>by ac_rfl
  rw[e,zar S (g:=fun s=>S.mul (a.E t s) (zjt S a.E a.n (cb9 S a (fun u v=>bk S c u v z) u v) s)) (fun s hs=>by
   rw[if_pos (by omega),show o+s-o=s by omega,zjH])]
  exact S.le_refl _
 rw[if_neg hm]
 conv=>rhs;rw[zgV S c u v hq]
 refine S.add_mono _ _ _ _ (S.le_refl _) (znr S (fun s hs=>S.mul_mono _ _ _ ?_))
 by_cases h2:o<=s/\s<o+a.n
 ·rw[if_pos h2]
  have:=up (s-o) (by omega)
  rwa [show o+(s-o)=s by omega] at this
 rw[if_neg h2];exact S.le_refl _
def zcM.on {z:Nat}(h:zcM S c a o (some z))(u v:List Nat){r:Nat}(hr:r<a.n):bk S c u v (o+r)=sp S u v (fun p q r1 s1=>S.mul (bk S a p r1 r) (bk S c q s1 z)):=by
 have key:∀ (d:Nat) (u v:List Nat),u.length+v.length<=d->∀ r,r<a.n->bk S c u v (o+r)=cv9 S a (fun u v=>bk S c u v z) u v r:=fun d=>by
  induction d with
  | zero=>exact fun u v hd=>h.on1 u v (fun u' v' h'=>by omega)
  | succ d ih=>exact fun u v hd=>h.on1 u v (fun u' v' h'=>ih u' v' (by omega))
 exact key _ u v (zqab _) r hr
end
variable {α:Type} {S:Sr α} {c a b:Wm α}
def ziy (c:Wm α){q:Nat}(hq:q<c.n)(hT:∀ x y s,s<c.n->c.T x y q s=S.zero)(u v:List Nat):bk S c u v q=S.add (nxF S c u v q) (sm S c.n (fun r=>S.mul (c.E q r) (bk S c u v r))):=by
 rw[zgV S c u v hq,zls];congr 1;have e:∀ (x y:Nat) (f:Nat->α),sm S c.n (fun r=>S.mul (c.T x y q r) (f r))=S.zero:=fun x y f=>zdf S (fun r hr=>by rw[hT x y r hr,S.zero_mul]);have e1:nxI S c (bk S c) u v q=S.zero:=by cases u <;> first|rfl|exact e _ _ _
 have e2:nxO S c (bk S c) u v q=S.zero:=by cases v <;> cases u <;> first|rfl|exact e _ _ _
 have e3:nxB S c (bk S c) u v q=S.zero:=by cases v <;> cases u <;> first|rfl|exact e _ _ _
 rw[e1,e2,e3,S.add_zero,S.add_zero,S.add_zero]
def zDK (c:Wm α){q t:Nat}{w:α}(hq:q<c.n)(ht:t<c.n)(hT:∀ x y s,s<c.n->c.T x y q s=S.zero)(hE:∀ s,s<c.n->c.E q s=if s=t then w else S.zero)(u v:List Nat):bk S c u v q=S.add (nxF S c u v q) (S.mul w (bk S c u v t)):=by
 rw[ziy c hq hT,zdL ht _ (fun s hs hn=>by rw[hE s hs,if_neg hn,S.zero_mul]),hE t ht,if_pos rfl]
def zHu {o1 o2 s0 t1 t2:Nat}{w1 w2:α}(h1:zcM S c a o1 none)(h2:zcM S c b o2 none)(hs:s0<c.n)(ht1:t1<a.n)(ht2:t2<b.n)(hF:c.F s0=S.zero)(hT:∀ x y s,s<c.n->c.T x y s0 s=S.zero)
  (hE:∀ s,s<c.n->c.E s0 s=S.add (if s=o1+t1 then w1 else S.zero) (if s=o2+t2 then w2 else S.zero)) (u v:List Nat):bk S c u v s0=S.add (S.mul w1 (bk S a u v t1)) (S.mul w2 (bk S b u v t2)):=by
 have f1:=h1.fits;have f2:=h2.fits
 rw[ziy c hs hT,zar S (g:=fun s=>S.add (if s=o1+t1 then S.mul w1 (bk S c u v (o1+t1)) else S.zero) (if s=o2+t2 then S.mul w2 (bk S c u v (o2+t2)) else S.zero)) (fun s hs=>by
  rw[hE s hs,S.add_mul];congr 1
  ·by_cases e:s=o1+t1
   ·rw[if_pos e,if_pos e,e]
   rw[if_neg e,if_neg e,S.zero_mul]
  by_cases e:s=o2+t2
  ·rw[if_pos e,if_pos e,e]
  rw[if_neg e,if_neg e,S.zero_mul]),zdY,zdL (k:=o1+t1) (by omega) _ (fun s _ hn=>if_neg hn),zdL (k:=o2+t2) (by omega) _ (fun s _ hn=>if_neg hn),if_pos rfl,if_pos rfl,h1.ends u v ht1,h2.ends u v ht2]
 have e:nxF S c u v s0=S.zero:=by
  unfold nxF;rw[hF];split <;> rfl
 rw[e,S.zero_add]
def zGf {o1 o2 t1 t2:Nat}(h1:zcM S c a o1 (some (o2+t2)))(h2:zcM S c b o2 none)(ht1:t1<a.n)(ht2:t2<b.n)(u v:List Nat):bk S c u v (o1+t1)=sp S u v (fun p q r s=>S.mul (bk S a p r t1) (bk S b q s t2)):=by
 rw[h1.on u v ht1];exact zcP (fun p q r s _ _=>by rw[h2.ends q s ht2])
def zfa (S:Sr α)(u v:List Nat):α:=if u=[]/\v=[] then S.one else S.zero
def zAK {o s0 t z:Nat}{w f:α}(h:zcM S c a o (some z))(hs:s0<c.n)(ht:t<a.n)(hF:c.F s0=f)(hT:∀ x y s,s<c.n->c.T x y s0 s=S.zero)
  (hE:∀ s,s<c.n->c.E s0 s=if s=o+t then w else S.zero) (u v:List Nat):bk S c u v s0=S.add (if u=[]/\v=[] then f else S.zero) (sp S u v (fun p q r s=>S.mul (S.mul w (bk S a p r t)) (bk S c q s z))):=by
 have hf:=h.fits;rw[zDK c hs (show o+t<c.n by omega) hT hE,h.on u v ht,<- zjG];unfold nxF;rw[hF];congr 1;exact zcP (fun p q r s _ _=>(S.mul_assoc _ _ _).symm)
def zkj {u v:List Nat}{f g:List Nat->List Nat->List Nat->List Nat->α}(h:∀ p q r s,p++q=u->r++s=v->¬ (p=[]/\r=[])->f p q r s=g p q r s):spx S u v f=spx S u v g :=
 zcP (fun p q r s hp hr=>by
  by_cases e:p=[]/\r=[]
  rw[if_pos e,if_pos e];rw[if_neg e,if_neg e];exact h p q r s hp hr e)
def zGg (k:α)(u v:List Nat)(f:List Nat->List Nat->List Nat->List Nat->α):spx S u v (fun p q r s=>S.mul k (f p q r s))=S.mul k (spx S u v f):=by
 unfold spx;rw[<- zjG]
 exact zcP (fun p q r s _ _=>by
  by_cases e:p=[]/\r=[]
  rw[if_pos e,if_pos e,S.mul_zero];rw[if_neg e,if_neg e])
def zHT {o s0 t:Nat}{w:α}(h:zcM S c a o (some s0))(hs:s0<c.n)(ht:t<a.n)(hF:c.F s0=S.one)(hT:∀ x y s,s<c.n->c.T x y s0 s=S.zero)
  (hE:∀ s,s<c.n->c.E s0 s=if s=o+t then w else S.zero) (hall:∀ q,q<c.n->q=s0∨(o<=q/\q<o+a.n)) (u v:List Nat) :
  bk S c u v s0=S.mul (S.star (S.mul w (bk S a [] [] t))) (S.add (zfa S u v) (spx S u v (fun p q r s=>S.mul (S.mul w (bk S a p r t)) (bk S c q s s0)))):=by
 obtain⟨_,ho⟩:=h.out s0 rfl;have hf:=h.fits;have hround:=zAK h hs ht hF hT hE u v;rw[zlr] at hround;generalize hA:S.mul w (bk S a [] [] t)=A at hround ⊢;generalize hR:S.add (zfa S u v) (spx S u v (fun p q r s=>S.mul (S.mul w (bk S a p r t)) (bk S c q s s0)))=R
 have hX:bk S c u v s0=S.add R (S.mul A (bk S c u v s0)):=by
  conv=>lhs;rw[hround]
  rw[<- hR];unfold zfa;ac_rfl
 refine S.le_anti _ _ ?_ (S.star_least A R _ (by rw[<- hX];exact S.le_refl _));generalize hy:S.mul (S.star A) R=y
 have hyy:y=S.add R (S.mul A y):=by
  rw[<- hy]
  conv=>lhs;rw[<- S.star_law A]
  rw[S.add_mul,S.one_mul,S.mul_assoc]
 have hZ:∀ u' v':List Nat,u'.length+v'.length<u.length+v.length->(if u'=u/\v'=v then y else bk S c u' v' s0)=bk S c u' v' s0:=fun u' v' hl=>if_neg (fun e=>by rw[e.1,e.2] at hl;omega)
 have ih:∀ u' v',u'.length+v'.length<u.length+v.length->∀ r,r<a.n->bk S c u' v' (o+r)=cv9 S a (fun u' v'=>if u'=u/\v'=v then y else bk S c u' v' s0) u' v' r:=fun u' v' hl r hr=>by
  rw[h.on u' v' hr];refine zcP (fun p q r1 s1 hp hr1=>?_);have e1:=zqbz List.length hp;have e2:=zqbz List.length hr1;rw[zqag] at e1 e2;dsimp only;rw[hZ q s1 (by omega)]
 have hcb:=fun r hr=>h.cb (fun u' v'=>if u'=u/\v'=v then y else bk S c u' v' s0) u v ih (r:=r) hr
 have hcv:∀ r,cv9 S a (fun u' v'=>if u'=u/\v'=v then y else bk S c u' v' s0) u v r=S.add (S.mul (bk S a [] [] r) y) (spx S u v (fun p q r1 s1=>S.mul (bk S a p r1 r) (bk S c q s1 s0))):=fun r=>by
  unfold cv9;rw[zlr];dsimp only;rw[if_pos ⟨rfl,rfl⟩];congr 1;refine zkj (fun p q r1 s1 hp hr1 hn=>?_);have e1:=zqbz List.length hp;have e2:=zqbz List.length hr1;rw[zqag] at e1 e2
  have e3:0<p.length+r1.length:=by
   rcases Nat.eq_zero_or_pos (p.length+r1.length) with e|e;exact absurd ⟨List.length_eq_zero_iff.1 (by omega),List.length_eq_zero_iff.1 (by omega)⟩ hn;exact e
  rw[hZ q s1 (by omega)]
 have hXZ:∀ r,r<a.n->cv9 S a (fun u' v'=>if u'=u/\v'=v then y else bk S c u' v' s0) u v r=S.add (cb9 S a (fun u' v'=>if u'=u/\v'=v then y else bk S c u' v' s0) u v r) (sm S a.n (fun s=>S.mul (a.E r s) (cv9 S a (fun u' v'=>if u'=u/\v'=v then y else bk S c u' v' s0) u v s))):=fun r hr=>by
  rw[zjH,zvK S a.E a.n _ hr];congr 1;exact zar S (fun s _=>by rw[zjH])
 have key:=zkZ S c u v (fun s=>if o<=s/\s<o+a.n then cv9 S a (fun u' v'=>if u'=u/\v'=v then y else bk S c u' v' s0) u v (s-o) else y) (fun q hq=>?_) hs
 ·rw[if_neg ho] at key
  exact key
 rcases hall q hq with rfl|hm
 ·rw[zdL (k:=o+t) (by omega) _ (fun s hs hn=>by rw[hE s hs,if_neg hn,S.zero_mul]),hE (o+t) (by omega),if_pos rfl,if_pos (by omega),show o+t-o=t by omega,if_neg ho,hcv]
  have e0:nx S c (bk S c) u v q=zfa S u v:=by
   rw[zls];have e:∀ (x y:Nat) (f:Nat->α),sm S c.n (fun r=>S.mul (c.T x y q r) (f r))=S.zero:=fun x y f=>zdf S (fun r hr=>by rw[hT x y r hr,S.zero_mul]);have e1:nxI S c (bk S c) u v q=S.zero:=(by cases u <;> first|rfl|exact e _ _ _);have e2:nxO S c (bk S c) u v q=S.zero:=(by cases v <;> cases u <;> first|rfl|exact e _ _ _);have e3:nxB S c (bk S c) u v q=S.zero:=(by cases v <;> cases u <;> first|rfl|exact e _ _ _);rw[e1,e2,e3,S.add_zero,S.add_zero,S.add_zero];unfold nxF zfa;rw[hF]
  rw[e0,S.mul_add,<- S.mul_assoc,hA,<- zGg];rw[zkj (g:=fun p q_1 r s=>S.mul (S.mul w (bk S a p r t)) (bk S c q_1 s q)) (fun p q1 r1 s1 _ _ _=>(S.mul_assoc _ _ _).symm)];have e:∀ x y z:α,S.add x (S.add y z)=S.add (S.add x z) y:=fun x y z=>by ac_rfl
  rw[e,hR,<- hyy];exact S.le_refl _
 obtain⟨r,rfl⟩:∃ r,q=o+r:=⟨q-o,by omega⟩;have hr:r<a.n:=by omega
 rw[h.sumE hr,if_pos hm,if_neg ho,show o+r-o=r by omega]
 conv=>rhs;rw[hXZ r hr,hcb r hr,if_pos ⟨rfl,rfl⟩]
 rw[zar S (g:=fun s=>S.mul (a.E r s) (cv9 S a (fun u' v'=>if u'=u/\v'=v then y else bk S c u' v' s0) u v s)) (fun s hs=>by
  rw[if_pos (by omega),show o+s-o=s by omega])]
 have e:∀ x y z:α,S.add x (S.add y z)=S.add (S.add x z) y:=fun x y z=>by ac_rfl
 rw[e];exact S.le_refl _
def ziL (S:Sr α)(A:List Nat->List Nat->α):Nat->Nat->List Nat->List Nat->α
 | 0,n,u,v=>if n=0 then zfa S u v else S.zero
 | most+1,n,u,v=>S.add (if n=0 then zfa S u v else S.zero) (sp S u v (fun p q r s=>S.mul (A p r) (ziL S A most (n-1) q s)))
def zwo {n most t:Nat}{w:α}(β o:Nat->Nat)(ht:t<a.n)(hb:∀ i,i<=most->β i<c.n)(hc:∀ i,i<most->zcM S c a (o i) (some (β (i+1))))(hF:∀ i,i<=most->c.F (β i)=if n<=i then S.one else S.zero)
  (hT:∀ i,i<=most->∀ x y s,s<c.n->c.T x y (β i) s=S.zero) (hE:∀ i,i<most->∀ s,s<c.n->c.E (β i) s=if s=o i+t then w else S.zero) (hE0:∀ s,s<c.n->c.E (β most) s=S.zero) :
  ∀ k i,i+k=most->∀ u v,bk S c u v (β i)=ziL S (fun u v=>S.mul w (bk S a u v t)) k (n-i) u v
 | 0,i,hi,u,v=>by
  obtain rfl:i=most:=by omega
  rw[ziy c (hb i (zqab _)) (hT i (zqab _)),zdf S (fun s hs=>by rw[hE0 s hs,S.zero_mul]),S.add_zero];unfold nxF ziL zfa;rw[hF i (zqab _)]
  by_cases h1:n<=i
  rw[if_pos h1,if_pos (show n-i=0 by omega)];exact zQcv
 | k+1,i,hi,u,v=>by
  rw[zAK (hc i (by omega)) (hb i (by omega)) ht (hF i (by omega)) (hT i (by omega)) (hE i (by omega))];show _=S.add (if n-i=0 then zfa S u v else S.zero) _;congr 1
  ·unfold zfa
   by_cases h1:n<=i
   rw[if_pos h1,if_pos (show n-i=0 by omega)];exact zQcv
  refine zcP (fun p q r s _ _=>?_);rw[zwo β o ht hb hc hF hT hE hE0 k (i+1) (by omega) q s,show n-(i+1)=n-i-1 by omega]
end
open Go.RowKit
def zsC (w:World)(g off n:Nat)(L:Nat->Value):Prop:=g<w.heap.size/\∀ j,j<n->w.cell? ⟨g,off+j,none⟩=some (L j)
def zev (w:World)(v:Value)(n:Nat)(L:Nat->Value):Prop :=
 ∃ A cap,v=.slice A n cap/\n<=cap/\cap<=maxLen/\∀ j,j<n->∃ ad,A=some ad/\ad.block<w.heap.size/\w.cell? (ad.add j)=some (L j)
def zhY (g off j:Nat):(⟨g,off,none⟩:Addr).add j=⟨g,off+j,none⟩:=by unfold Addr.add;split <;> simp_all
def zsC.row {w:World}{g off n cap:Nat}{L:Nat->Value}(h:zsC w g off n L)(h1:n<=cap)(h2:cap<=maxLen):zev w (.slice (some ⟨g,off,none⟩) n cap) n L :=
 ⟨_,cap,rfl,h1,h2,fun j hj=>⟨_,rfl,h.1,by rw[zhY];exact h.2 j hj⟩⟩
def zbx (ad:Addr)(j:Nat):(ad.add j).block=ad.block:=by unfold Addr.add;split <;> rfl
def zhg {w w':World}{ad:Addr}(h:w'.heap[ad.block]?=w.heap[ad.block]?):w'.cell? ad=w.cell? ad:=by
 unfold World.cell?;rw[h]
def zev.grown {w w':World}{v:Value}{n:Nat}{L:Nat->Value}(h:zev w v n L)(hg:w.grownBy w' none):zev w' v n L:=by
 obtain⟨A,cap,rfl,h1,h2,h3⟩:=h;refine⟨A,cap,rfl,h1,h2,fun j hj=>?_⟩;obtain⟨ad,rfl,hb,hc⟩:=h3 j hj;exact⟨ad,rfl,zqba hb hg.size,(zhg (ad:=ad.add j) (by rw[zbx];exact hg.block ad.block hb (by simp))).trans hc⟩
structure zbI (T:TypeId)(z:Value)(n:Nat)(zs:List Value)(w wr:World):Prop where
 row:wr.heap[w.heap.size]?=some (.cells (zs++List.replicate (n-zs.length) z).toArray T (0,0))
 gr:w.grownBy wr none
 le:zs.length<=n
def zbI.cell {T:TypeId}{z:Value}{n:Nat}{zs:List Value}{w wr:World}(h:zbI T z n zs w wr)(hk:zs.length<n):wr.cell? ⟨w.heap.size,zs.length,none⟩=some z:=by
 rw[zqbw wr w.heap.size zs.length _ _ (0,0) h.row,zqap,zqaq (zqab _),zqbr,show n-zs.length=(n-zs.length-1)+1 by omega];rfl
def zbI.free {T:TypeId}{z:Value}{n:Nat}{zs:List Value}{w wr:World}(h:zbI T z n zs w wr)(k:Nat):wr.frozen? ⟨w.heap.size,k,none⟩=false:=zqbx wr _ _ _ _ h.row
def zbI.put {T:TypeId}{z:Value}{n:Nat}{zs:List Value}{w wr:World}(h:zbI T z n zs w wr)(hk:zs.length<n)(u:Value):zbI T z n (zs++[u]) w (wr.setCell ⟨w.heap.size,zs.length,none⟩ u):=by
 refine⟨?_,zae h.gr (zad _ _ _) (zqab _),by simp;omega⟩;have h1:=heap_setCell_same wr w.heap.size zs.length _ _ u h.row;rw[h1];congr 2;apply Array.toList_inj.1;simp only[Array.toList_setIfInBounds,zqbj];rw[List.set_append_right _ _ (zqab _),zqbr,show n-zs.length=(n-(zs++[u]).length)+1 by simp;omega,List.replicate_succ,List.set_cons_zero];rfl
def zbI.grown {T:TypeId}{z:Value}{n:Nat}{zs:List Value}{w wr w':World}(h:zbI T z n zs w wr)(hg:wr.grownBy w' none):zbI T z n zs w w' :=
 ⟨(hg.block _ (zqad.1 h.row).1 (by simp)).trans h.row,zaa h.gr hg,h.le⟩
def zbI.start {T:TypeId}{z:Value}{n:Nat}{w w1:World}(zO:w1.ownsRow w.heap.size T 1 (.slice (some ⟨w.heap.size,0,none⟩) n n) n (madeCells #[z] n).toList)(hgr:w.grownBy w1 none):zbI T z n [] w w1:=by
 refine⟨?_,hgr,zqaw _⟩;rcases zO.2 with⟨h',_⟩|⟨g',cap',cur,h',hb,hg,_,_,hs,ht⟩
 simp at h';simp only[Value.slice.injEq,Option.some.injEq,Addr.mk.injEq,and_true,true_and] at h';obtain⟨rfl,rfl⟩:=h';rw[zqaf (by rw[zqbs,hs];simp),toList_madeCells_one] at ht;rw[hg];congr 2;apply Array.toList_inj.1;rw[ht];simp
def zoJ:(prog.info? 9).map (fun i=>(i.zero,i.size,i.bytes))=some (some (.string ⟨#[]⟩),1,16):=by kernel_rfl
def zoK:(prog.info? 109).map (fun i=>(i.zero,i.size,i.bytes))=some (some (.slice none 0 0),1,24):=by kernel_rfl
def zfA (G:Nat->ByteArray)(k:Nat):List Value:=(List.range k).map (fun i=>.string (G i))
def zeO (G:Nat->ByteArray)(k:Nat):(zfA G k).length=k:=by simp[zfA]
def zqb (G:Nat->ByteArray)(k:Nat):zfA G k++[.string (G k)]=zfA G (k+1):=by simp[zfA,List.range_succ]
open Go.RowKit
section
variable {k:Int}
def tx (v:El k):ByteArray:=zDd v.1
def zav (v:El k):Prop:=Fits v.1
def znF {v:El k}(h:zav v):IsE (tx v) v.1:=zFL h
def zcW {v:El k}(h:zav v):Val k (tx v) v.1:=⟨znF h,v.2⟩
def zbJ (hk:zam k):tx (srE k hk).zero=zaV k:=(zDt hk).text.symm
def zmF (hk:zam k):tx (srE k hk).one=zak k:=(zrl hk).text.symm
def zbp (hk:zam k):zav (srE k hk).zero:=(zoa k).fits (by omega)
def zkL (hk:zam k):zav (srE k hk).one:=(zli k).fits (by omega)
def ziz {u v:El k}(hu:zav u)(hv:zav v)(h:tx u=tx v):u=v:=Subtype.ext ((znF hu).uniq (h▸znF hv))
def zhD (hk:zam k){u:El k}(hu:zav u)(h:tx u=zaV k):u=(srE k hk).zero:=ziz hu (zbp hk) (by rw[h,zbJ])
def ztQ {v:Ext}(h:¬ Fits v):zdm v=.tuple #[.string ⟨#[]⟩,.int .i64 2]:=by
 rcases v with(_|_)|x;exact absurd trivial h;exact absurd trivial h;exact zgU h
def zgu (a b:ByteArray):((a.toList==b.toList)=true/\a=b)∨((a.toList==b.toList)=false/\a≠b):=by
 by_cases h:a=b
 left;exact⟨by rw[h];exact beq_self_eq_true _,h⟩;right;refine⟨?_,h⟩;rw[Bool.eq_false_iff];intro e;have:=eq_of_beq e;rw[Lib.toList_data,Lib.toList_data] at this;exact h (ByteArray.ext (Array.ext' this))
def zge (w:World)(cur:Array Value)(t:TypeId){j:Nat}{u:Value}(h:cur[j]?=some u):(w.alloc (.cells cur t)).cell? ⟨w.heap.size,j,none⟩=some u:=by
 rw[zqbw (w.alloc (.cells cur t)) w.heap.size j cur t (0,0) (by show(w.heap.push _)[w.heap.size]?=_;rw[zqaz])];exact h
end
open Go.RowKit
def zro (P:Program)(w:World)(dT sT ty elem:TypeId)(d a:Option Addr)(dLen dCap sLen sCap:Nat)(hu:P.underlying dT=some (.slice elem))(hs:((P.info? elem).map (·.size)).isSome=true)(hn:Nat.min sLen dLen=0) :
  (Builtin.copy_ #[dT,sT] ty #[.slice d dLen dCap,.slice a sLen sCap]).run P w=.ok (goInt 0) w:=by
 have hl:=fun a=>run_loadCells_list (P:=P) w a [] (fun j v h=>by simp at h);simp only[List.length_nil] at hl;cases hq:P.info? elem with
 | none=>simp[hq] at hs
 | some i=>cases d <;> cases a <;> simp[Builtin.copy_,run_underlying hu,Builtin.lenOf,Builtin.firstCells,sizeOf,typeInfo,hq,storeCells,hn,hl]
def ztR {P:Program}{ops:Array Oper}{o:Oper}{a:Act}{w:World}{K:Act->World->Prop}{Q:Exit->Act->World->Prop}{E:Prop}(hgd:o.guard=none)(d s:Operand)(dT sT:TypeId)
  (ho:o.op=.call { callee:=.builtin .copy,args:=#[d,s],argTypes:=#[dT,sT] }) (elem:TypeId) (hu:P.underlying dT=some (.slice elem)) (hsz:(P.info? elem).map (·.size)=some 1)
  (g off:Nat) (ad:Addr) (dLen dCap sLen sCap m:Nat) (hd:a.eval d=.slice (some ⟨g,off,none⟩) dLen dCap) (hs:a.eval s=.slice (some ad) sLen sCap)
  (cur:List Value) (t:TypeId) (hg:w.heap[g]?=some (.cells cur.toArray t (0,0))) (cs:List Value) (hm:Nat.min sLen dLen=m) (hn:cs.length=m)
  (hsrc:∀ j v,cs[j]?=some v->w.cell? (ad.add j)=some v)
  (zf:off+cs.length<=cur.length) (h1:∀ v∈cs,v.oneCell'=true)
  (h:K (a.put o.dst (goInt m)) (w.setRow g (splice cur off cs).toArray)) :
  if Region.wanted o (yielded ops a.tmps)=true then Oper.wp P o a w K Q else E:=by
 have hw:Region.wanted o (yielded ops a.tmps)=true:=by simp[Region.wanted,hgd]
 rw[if_pos hw];subst hm;rw[<- hn] at h;have hrun:=run_copy_row (P:=P) w dT sT o.type elem g off dLen dCap ad sLen sCap cur.toArray t cs hu hsz hg hn hsrc (by simpa using zf) h1;unfold Oper.wp;have e:splice cur off cs=List.take off cur.toArray.toList++cs++List.drop (off+cs.length) cur.toArray.toList:=by simp[splice]
 rw[e] at h;simp only[execOp,ho,resolve,invoke,builtin,hd,hs,Result.andThen];simp[hd,hs,hrun,Result.andThen]
 first|exact h|(simp only[Oper.upon];exact h)|(simp at h;exact h)
def zxG {P:Program}{ops:Array Oper}{o:Oper}{a:Act}{w:World}{K:Act->World->Prop}{Q:Exit->Act->World->Prop}{E:Prop}(hgd:o.guard=none)(d s:Operand)(dT sT:TypeId)
  (ho:o.op=.call { callee:=.builtin .copy,args:=#[d,s],argTypes:=#[dT,sT] }) (elem:TypeId) (hu:P.underlying dT=some (.slice elem)) (hsz:(P.info? elem).map (·.size)=some 1)
  (dp sp:Option Addr) (dLen dCap sLen sCap m:Nat) (hd:a.eval d=.slice dp dLen dCap) (hs:a.eval s=.slice sp sLen sCap)
  (g off:Nat) (cur:List Value) (t:TypeId) (hg:w.heap[g]?=some (.cells cur.toArray t (0,0))) (cs:List Value) (hm:Nat.min sLen dLen=m) (hn:cs.length=m)
  (hpos:0<m->dp=some ⟨g,off,none⟩/\∃ ad,sp=some ad/\∀ j v,cs[j]?=some v->w.cell? (ad.add j)=some v)
  (zf:off+cs.length<=cur.length) (h1:∀ v∈cs,v.oneCell'=true)
  (h:∀ w',Hid (w'.heap[g]?=some (.cells (splice cur off cs).toArray t (0,0))/\w.grownBy w' (some g))->K (a.put o.dst (goInt m)) w') :
  if Region.wanted o (yielded ops a.tmps)=true then Oper.wp P o a w K Q else E:=by
 by_cases h0:m=0
 ·have hw:Region.wanted o (yielded ops a.tmps)=true:=by simp[Region.wanted,hgd]
  rw[if_pos hw];have hcs:cs=[]:=List.eq_nil_of_length_eq_zero (by rw[hn,h0])
  have hrun:=zro P w dT sT o.type elem dp sp dLen dCap sLen sCap hu (by cases hq:P.info? elem with
   | none=>rw[hq] at hsz;simp at hsz
   | some i=>rfl) (hm.trans h0)
  have hK:=h w (zHd ⟨by rw[hcs];simpa [splice] using hg,World.grownBy.refl _ _⟩);rw[h0] at hK;unfold Oper.wp;simp[execOp,ho,resolve,invoke,builtin,hd,hs,hrun,Result.andThen];exact hK
 obtain⟨rfl,ad,rfl,hsrc⟩:=hpos (by omega);refine ztR hgd d s dT sT ho elem hu hsz g off ad dLen dCap sLen sCap m hd hs cur t hg cs hm hn hsrc zf h1 (h _ (zHd ⟨setRow_heap w g _ _ t _ hg,⟨rfl,rfl,rfl,by simp,fun k _ hk=>setRow_other w g k _ (fun e=>hk (by rw[e]))⟩⟩))
open Go.RowKit
section
variable {k:Int}
def zdj {w:World}{b g o j:Nat}{u v:Value}(hb:b≠g)(h:w.cell? ⟨b,j,none⟩=some v):(w.setCell ⟨g,o,none⟩ u).cell? ⟨b,j,none⟩=some v:=((zad w ⟨g,o,none⟩ u).cell h (by simpa using hb))
end
open Go.RowKit
def zxH {m:zah}(h:headB m=false):zbv m.kind=false∨(zbv m.kind=true/\m.states.length<1)∨(zbv m.kind=true/\¬ m.states.length<1/\3000<m.states.length)∨(zbv m.kind=true/\¬ m.states.length<1/\¬ 3000<m.states.length/\m.start<0) ∨
  (zbv m.kind=true/\¬ m.states.length<1/\¬ 3000<m.states.length/\¬ m.start<0/\(m.states.length:Int)<=m.start)∨(zbv m.kind=true/\¬ m.states.length<1/\¬ 3000<m.states.length/\¬ m.start<0/\¬ (m.states.length:Int)<=m.start/\wgtB m.kind m.lead=false):=by
 unfold headB at h;cases hk:zbv m.kind;exact .inl rfl;rw[hk] at h;refine .inr ?_
 by_cases h1:m.states.length<1
 exact .inl ⟨rfl,h1⟩
 by_cases h2:3000<m.states.length
 ·exact .inr (.inl ⟨rfl,h1,h2⟩)
 by_cases h3:m.start<0
 ·exact .inr (.inr (.inl ⟨rfl,h1,h2,h3⟩))
 by_cases h4:(m.states.length:Int)<=m.start
 ·exact .inr (.inr (.inr (.inl ⟨rfl,h1,h2,h3,h4⟩)))
 refine .inr (.inr (.inr (.inr ⟨rfl,h1,h2,h3,h4,?_⟩)));rw[decide_eq_true (by omega:1<=m.states.length/\m.states.length<=3000/\0<=m.start/\m.start<(m.states.length:Int))] at h;simpa using h
def zAL {k:Int}{n:Nat}{a:zaz}(h:arcB k n a=false):a.i<0∨(¬ a.i<0/\500<a.i)∨(¬ a.i<0/\¬ 500<a.i/\a.o<0)∨(¬ a.i<0/\¬ 500<a.i/\¬ a.o<0/\500<a.o)∨(¬ a.i<0/\¬ 500<a.i/\¬ a.o<0/\¬ 500<a.o/\a.t<0) ∨
  (¬ a.i<0/\¬ 500<a.i/\¬ a.o<0/\¬ 500<a.o/\¬ a.t<0/\(n:Int)<=a.t)∨(¬ a.i<0/\¬ 500<a.i/\¬ a.o<0/\¬ 500<a.o/\¬ a.t<0/\¬ (n:Int)<=a.t/\wgtB k a.w=false):=by
 unfold arcB at h
 by_cases hc:0<=a.i/\a.i<=500/\0<=a.o/\a.o<=500/\0<=a.t/\a.t<(n:Int)
 ·rw[decide_eq_true hc] at h
  simp only[Bool.true_and] at h;rw[h];simp;omega
 omega
def ztS {w:World}{v:Value}{m:zah}(hv:zan w v m)(hf:zaZ m)(h:headB m=false) :
  Calls prog 27 #[v] w (zab (.bool false) w):=by
 obtain⟨u,rfl,A,cap,us,rfl,hul,hr,ha⟩:=hv;obtain⟨x0,x1,x2,x3⟩:=(zaf.new w m (.slice A m.states.length cap)).cells;have hk:=zmB m.kind;unfold RK at hk;have hw:=zeZ (k:=m.kind) hf.lead;unfold VB at hw;have hg:w.grownBy (w.alloc (.cells #[.int .i64 m.kind,.int .i64 m.start,.string m.lead,.slice A m.states.length cap] 29)) none:=zGA _ _ _;rcases zxH h with h1|⟨h1,h2⟩|⟨h1,h2,h3⟩|⟨h1,h2,h3,h4⟩|⟨h1,h2,h3,h4,h5⟩|⟨h1,h2,h3,h4,h5,h6⟩
 all_goals rw[h1] at hk
 ·clear hw hr ha h h1
  exact zQby
 iterate 4
  ·clear hw hr ha h h1
   exact zQby
 rw[h6] at hw;clear hr ha h h1 h6;go_enter func27,ntmps27;go_wp2_with (go_at_call 15;refine(hk _).mono ?_;rintro e w' ⟨rfl,rfl⟩);refine(hw _).mono ?_;rintro e w1 ⟨rfl,hg1⟩;go_wp2;go_ret;exact⟨rfl,zaa hg hg1⟩
open Go.RowKit
def zGh (w:World)(a:zaz):zkh (w.alloc (.cells #[.int .i64 a.i,.int .i64 a.o,.string a.w,.int .i64 a.t] 78)) ⟨w.heap.size,0,none⟩ a:=by
 have zW:(w.alloc (.cells #[.int .i64 a.i,.int .i64 a.o,.string a.w,.int .i64 a.t] 78)).heap[w.heap.size]?=some (.cells #[.int .i64 a.i,.int .i64 a.o,.string a.w,.int .i64 a.t] 78 (0,0)):=by
  exact zQbm
 exact⟨by rw[zqbw _ w.heap.size 0 _ _ (0,0) zW];rfl,by show World.cell? _ ⟨w.heap.size,0+1,none⟩=_;rw[zqbw _ w.heap.size 1 _ _ (0,0) zW];rfl,by show World.cell? _ ⟨w.heap.size,0+2,none⟩=_;rw[zqbw _ w.heap.size 2 _ _ (0,0) zW];rfl,by show World.cell? _ ⟨w.heap.size,0+3,none⟩=_;rw[zqbw _ w.heap.size 3 _ _ (0,0) zW];rfl⟩
def zqc {m:zah}{k:Nat}{s:zac}(hs:m.states[k]?=some s)(h:stB6 m.kind m.states.length s=false):validB m=false:=by
 cases hv:validB m;rfl;rw[zgd hv hs] at h;cases h
def zDL {m:zah}{k:Nat}(hk:k<=m.states.length)(h:30000<zaj (m.states.take k)):validB m=false:=by
 cases hv:validB m;rfl;have:=ziV hv;have:=zhC m.states hk;omega
def zst {k:Int}{n:Nat}{s:zac}{j:Nat}{a:zaz}(hj:s.arcs[j]?=some a)(h:arcB k n a=false):stB6 k n s=false:=by
 cases hs:stB6 k n s;rfl;rw[(zfJ hs).2 a (zqak hj)] at h;cases h
noncomputable def badF (k:Int)(q:Nat)(f:ByteArray):Bool:=decide (30000<q) || !finB k f
structure VOut (w W wr:World)(m:zah)(k:Nat):Prop where
 hk:k<=m.states.length
 hn:zaj (m.states.take k)<=30000
 hs:∀ (j:Nat) (s:zac),j<k->m.states[j]?=some s->stB6 m.kind m.states.length s=true
 hg:W.grownBy wr none
def zaB {w:World}{v:Value}{m:zah}(hv:zan w v m)(hf:zaZ m) :
  Calls prog 27 #[v] w (zab (.bool (validB m)) w):=by
 cases hH:headB m
 ·rw[show validB m=false by unfold validB;rw[hH];rfl]
  exact ztS hv hf hH
 obtain⟨hk1,hl1,hl2,hst1,hst2,hlw⟩:=zdG hH;obtain⟨u,rfl,hst0⟩:=hv;have HST:=zHd hst0;obtain⟨A,cap,us,rfl,hul,hr,ha⟩:=hst0;have hbx:=zaf.new w m (.slice A m.states.length cap);have hk:=zmB m.kind;unfold RK at hk;rw[hk1] at hk;have hw:=zeZ (k:=m.kind) hf.lead;unfold VB at hw;rw[hlw] at hw;have hwt:=fun(f:ByteArray) (h:f.size<=maxLen)=>zeZ (k:=m.kind) h;unfold VB at hwt;have HWT:=zHd hwt;have HF:=zHd hf;have HH:=zHd hH;have hg:w.grownBy (w.alloc (.cells #[.int .i64 m.kind,.int .i64 m.start,.string m.lead,.slice A m.states.length cap] 29)) none:=zGA _ _ _;obtain⟨x0,x1,x2,x3⟩:=hbx.cells;have HBX:=zHd hbx;have HG:=zHd hg;have f1:¬ m.states.length<1:=by omega
 have f2:¬ 3000<m.states.length:=by omega
 have f3:¬ m.start<0:=by omega
 have f4:¬ (m.states.length:Int)<=m.start:=by omega
 clear hwt hbx hg hr ha hul hf hH hk1 hlw hl1 hst1 hst2;go_enter func27,ntmps27;go_wp2_with (go_at_call 15;refine(hk _).mono ?_;rintro e w' ⟨rfl,rfl⟩);refine(hw _).mono ?_;rintro e w1 ⟨rfl,hg1⟩;have HG1:=zHd hg1;clear hk hw hg1 x0 x1 x2 x3;generalize hW:w.alloc (.cells #[.int .i64 m.kind,.int .i64 m.start,.string m.lead,.slice A m.states.length cap] 29)=W at *;clear hW;go_wp2
 go_loopw [3,4] (fun n i wr=>∃ k:Nat,i=.int .i64 k/\n=.int .i64 (zaj (m.states.take k):Int)/\VOut w W wr m k) (fun _ i _=>m.states.length-(intOf i).toNat)
 case atStart=>exact⟨0,rfl,rfl,⟨by omega,by simp[zaj],fun j s hj=>by omega,HG1.out⟩⟩
 case round =>
  obtain⟨k,rfl,rfl,ho⟩:=hrel;have hk:=ho.hk;have hnk:=ho.hn;have HO:=zHd ho;have hbxr:=(HBX.out.grown ho.hg).cells;obtain⟨x0,x1,x2,x3⟩:=hbxr;clear ho
  by_cases hlt:k<m.states.length
  ·obtain⟨A',cap',us',hA',hul,hr,ha⟩:=HST.out.grown (zaa HG.out HO.out.hg)
   injection hA' with h1 h2 h3
   subst h1;obtain⟨ad,s,us1,hA,hadb,hs,hu,hc⟩:=zfu hr hul hlt;subst hA;obtain⟨B,cb,hB,hra⟩:=ha k s us1 hs hu;subst hB;obtain⟨y0,y1⟩:=hc;have hsm:=zqak hs;have hfin:=HF.out.fin s hsm;have hal:=HF.out.arcs s hsm;have hts:=zeu hs;have hnx:zaj (m.states.take (k+1))=zaj (m.states.take k)+s.arcs.length:=by rw[hts,zhB]
   have n1:(k:Int)<(m.states.length:Int):=by omega
   have n2:IntKind.i64.wrap ((k:Int)+1)=(k:Int)+1:=by rw[zqah];omega
   have n3:IntKind.i64.wrap ((zaj (m.states.take k):Int)+(s.arcs.length:Int))=(zaj (m.states.take (k+1)):Int):=by rw[zqah];omega
   have hnew:zaf wr w.heap.size m (.slice (some ad) m.states.length cap):=HBX.out.grown HO.out.hg;generalize hq:zaj (m.states.take (k+1))=q at *;have HQ:=zHd hq;have HS:=zHd hs;have HRA:=zHd hra;clear hs hu hts hnx hr ha h2 h3 hq hra hsm hul hnew;have hgs:wr.grownBy (wr.alloc (.cells #[.string s.fin,.slice B s.arcs.length cb] 76)) none:=zGA _ _ _
   have hst2:zdS (wr.alloc (.cells #[.string s.fin,.slice B s.arcs.length cb] 76)) ⟨wr.heap.size,0,none⟩ s.fin (.slice B s.arcs.length cb):=by
    have zW:(wr.alloc (.cells #[.string s.fin,.slice B s.arcs.length cb] 76)).heap[wr.heap.size]?=some (.cells #[.string s.fin,.slice B s.arcs.length cb] 76 (0,0)):=by
     show(wr.heap.push _)[wr.heap.size]?=_;rw[zqaz]
    exact⟨by rw[zqbw _ wr.heap.size 0 _ _ (0,0) zW];rfl,by show World.cell? _ ⟨wr.heap.size,0+1,none⟩=_;rw[zqbw _ wr.heap.size 1 _ _ (0,0) zW];rfl⟩
   have HGS:=zHd hgs;have HS2:=zHd hst2;clear hgs hst2;go_upto_region 9 with(fail);have hsz2:wr.heap.size<(wr.alloc (.cells #[.string s.fin,.slice B s.arcs.length cb] 76)).heap.size:=by simp
   generalize hW2:wr.alloc (.cells #[.string s.fin,.slice B s.arcs.length cb] 76)=W2 at *;clear hW2;obtain⟨z0,z1⟩:=HS2.out;have hbx2:=(HBX.out.grown (zaa HO.out.hg HGS.out)).cells;obtain⟨x0,x1,x2,x3⟩:=hbx2
   go_cut [76] from 62 to 76 (fun b wx=>b=.bool (badF m.kind q s.fin)/\W2.grownBy wx none)
   case first =>
    by_cases hq3:30000<q
    ·have hb:badF m.kind q s.fin=true:=by unfold badF;simp[hq3]
     have HB:=zHd hb;clear hb;go_wp2;go_meet;exact ⟨by rw[HB.out],zai _ _⟩
    by_cases hf0:s.fin.size=0
    ·have hb:badF m.kind q s.fin=false:=by unfold badF finB;simp[hq3,hf0]
     have HB:=zHd hb;clear hb;have b1:(s.fin.toList==[])=true:=(by rw[Lib.toList_data,beq_iff_eq,<- List.length_eq_zero_iff,zqbs];exact hf0);have b2:(s.fin.toList != [])=false:=zmy b1;go_wp2;go_meet;exact ⟨by rw[HB.out,show decide ((30000:Int)<(q:Int))=false by simp;omega],zai _ _⟩
    have b1:(s.fin.toList==[])=false:=by
     cases h:(s.fin.toList==[]);rfl;exact zQbZ
    have b2:(s.fin.toList != [])=true:=zgI b1;have hb:badF m.kind q s.fin = !wgtB m.kind s.fin:=(by unfold badF finB;simp[hq3,hf0]);have HB:=zHd hb;clear hb;have hwf:=HWT.out s.fin hfin;cases hwb:wgtB m.kind s.fin
    all_goals
     rw[hwb] at hwf HB;go_wp2_with fail;refine(hwf _).mono ?_;rintro e w4 ⟨rfl,hg4⟩;go_wp2;go_meet;exact ⟨by rw[HB.out];first|rfl|(rw[show decide ((30000:Int)<(q:Int))=false by simp;omega];rfl),hg4⟩
   case rest =>
    obtain⟨rfl,hg5⟩:=hcut;have HG5:=zHd (zaa HGS.out hg5);clear x0 x1 x2 x3 z0 z1 y0 y1;have S5:=HS2.out.grown hg5 hsz2;cases hbad:badF m.kind q s.fin
    ·have hfb:finB m.kind s.fin=true:=by
      unfold badF at hbad;have:=(Bool.or_eq_false_iff.1 hbad).2;simpa using this
     have hq3:q<=30000:=by
      unfold badF at hbad;have:=(Bool.or_eq_false_iff.1 hbad).1;simpa using this
     have HFB:=zHd hfb;have S5:=zHd S5;have hg50:=zaa HO.out.hg HG5.out;have HG50:=zHd hg50;have hal2:s.arcs.length<=30000:=(by have:=zki (l:=m.states.take (k+1)) (s:=s) (by rw[zeu HS.out];simp);rw[HQ.out] at this;omega);clear hfb hbad hg50 hg5 HGS HS2 hsz2;generalize wr=w4 at *;generalize wc=w5 at *
     have hsz5:w4.heap.size<w5.heap.size:=by
      have:=S5.out.c0;unfold World.cell? at this;rcases Nat.lt_or_ge w4.heap.size w5.heap.size with h|h
      exact h;rw[Array.getElem?_eq_none h] at this;simp at this
     obtain⟨z0,z1⟩:=S5.out;go_wp2;clear z0 z1
     go_loopw [6] (fun i wr=>∃ j:Nat,i=.int .i64 j/\j<=s.arcs.length/\(∀ (i:Nat) (a:zaz),i<j->s.arcs[i]?=some a->arcB m.kind m.states.length a=true)/\w5.grownBy wr none) (fun i _=>s.arcs.length-(intOf i).toNat)
     case atStart=>exact⟨0,rfl,by omega,fun i a hi=>by omega,zai _ _⟩
     case round =>
      obtain⟨j,rfl,hj,hall,hg6⟩:=hrel;have HALL:=zHd hall;have HG6:=zHd hg6;have hS6:=S5.out.grown hg6 hsz5;have HS6:=zHd hS6;obtain⟨z0,z1⟩:=hS6;clear hall hg6
      by_cases hjl:j<s.arcs.length
      ·obtain⟨ad2,a,hB,hab,haj,hat⟩:=zhf HRA.out hjl
       subst hB;obtain⟨y0,y1,y2,y3⟩:=(hat.grown HG5.out (by rw[zbH];exact hab)).grown HG6.out (by have:=HG5.out.size;rw[zbH];omega);have n1:(j:Int)<(s.arcs.length:Int):=(by omega);have n2:IntKind.i64.wrap ((j:Int)+1)=(j:Int)+1:=(by rw[zqah];omega);have haw:=HF.out.w s (zqak HS.out) a (zqak haj);have HAJ:=zHd haj;simp only[zqat] at z1;clear hat haj;go_upto_region 15 with(fail);have hg7:wr.grownBy (wr.alloc (.cells #[.int .i64 a.i,.int .i64 a.o,.string a.w,.int .i64 a.t] 78)) none:=zGA _ _ _;have hA7:=zGh wr a;generalize hW3:wr.alloc (.cells #[.int .i64 a.i,.int .i64 a.o,.string a.w,.int .i64 a.t] 78)=W3 at *;clear hW3 y0 y1 y2 y3 z0 z1;obtain⟨y0,y1,y2,y3⟩:=hA7;simp only[zqat] at y1 y2 y3;have HG7:=zHd hg7;have hbx7:=(HBX.out.grown (zaa HG50.out (zaa HG6.out HG7.out))).cells;obtain⟨x0,x1,x2,x3⟩:=hbx7;have hwa:=HWT.out a.w haw;clear hg7
       go_cut [127] from 89 to 127 (fun b wx=>b=.bool (!arcB m.kind m.states.length a)/\W3.grownBy wx none)
       case first =>
        cases hAB:arcB m.kind m.states.length a
        ·have HB:=zHd hAB
         rcases zAL hAB with h1|⟨h1,h2⟩|⟨h1,h2,h3⟩|⟨h1,h2,h3,h4⟩|⟨h1,h2,h3,h4,h5⟩|⟨h1,h2,h3,h4,h5,h6⟩|⟨h1,h2,h3,h4,h5,h6,h7⟩
         iterate 6
          ·clear hwa hAB
           go_wp2;go_meet;exact ⟨by rw[HB.out];first|rfl|simp[*],zai _ _⟩
         rw[h7] at hwa;clear h7 hAB;exact zQbB
        have HB:=zHd hAB;obtain⟨h1,h2,h3,h4,h5,h6,h7⟩:=zel hAB;rw[h7] at hwa;have g1:¬ a.i<0:=(by omega);have g2:¬ 500<a.i:=(by omega);have g3:¬ a.o<0:=(by omega);have g4:¬ 500<a.o:=(by omega);have g5:¬ a.t<0:=(by omega);have g6:¬ (m.states.length:Int)<=a.t:=(by omega);clear h1 h2 h3 h4 h5 h6 h7 hAB;exact zQbB
       case rest =>
        obtain⟨rfl,hg8⟩:=hcut;have HG8:=zHd (zaa HG6.out (zaa HG7.out hg8));clear hg8 x0 x1 x2 x3 y0 y1 y2 y3 hwa HG7;cases hAB:arcB m.kind m.states.length a
        ·have hno:validB m=false:=zqc HS.out (zst HAJ.out hAB)
         have HNO:=zHd hno;clear hno hAB;go_wp2;go_ret;exact⟨by rw[HNO.out];rfl,zaa HG.out (zaa HG50.out HG8.out)⟩
        have HALL2:Hid (∀ (i:Nat) (a:zaz),i<j+1->s.arcs[i]?=some a->arcB m.kind m.states.length a=true):=zHd (fun i' a' hi' ha'=>by
         by_cases e:i'=j
         subst e;rw[HAJ.out] at ha';cases ha';exact hAB;exact HALL.out i' a' (by omega) ha')
        clear hAB;go_wp2
        go_roundw
        case rel=>exact⟨j+1,by go_num,by omega,HALL2.out,HG8.out⟩
        case measure=>simp[intOf];omega
      have n1:¬ (j:Int)<(s.arcs.length:Int):=by omega
      have hsB:stB6 m.kind m.states.length s=true:=by
       unfold stB6;rw[HFB.out];simp only[Bool.true_and,List.all_eq_true];intro a ha;obtain⟨i',hi'⟩:=List.mem_iff_getElem?.1 ha;exact HALL.out i' a (by have:=(zqae.1 hi').1;omega) hi'
      have HO2:Hid (VOut w W wr m (k+1)):=zHd ⟨by omega,by rw[HQ.out];exact hq3,fun j' s' hj' hs'=>by
       by_cases e:j'=k
       subst e;rw[HS.out] at hs';cases hs';exact hsB;exact HO.out.hs j' s' (by omega) hs',zaa HG50.out HG6.out⟩
      clear hsB;simp only[zqat] at z1;go_wp2
      go_roundw
      case rel=>exact⟨k+1,by go_num,by rw[HQ.out],HO2.out⟩
      case measure=>simp[intOf];omega
    have hno:validB m=false:=by
     unfold badF at hbad;rcases Bool.or_eq_true_iff.1 hbad with h|h
     exact zDL (k:=k+1) (by omega) (by rw[HQ.out];simpa using h);refine zqc HS.out ?_;unfold stB6;rw[show finB m.kind s.fin=false by simpa using h];rfl
    have HNO:=zHd hno;clear hno hbad S5;go_wp2;go_ret;exact⟨by rw[HNO.out];rfl,zaa HG.out (zaa HO.out.hg HG5.out)⟩
  have n1:¬ (k:Int)<(m.states.length:Int):=by omega
  have hyes:validB m=true:=by
   have h1:=HO.out.hn;rw[zqaf (by omega)] at h1;unfold validB;rw[HH.out];simp only[Bool.true_and,zqbb,zqca,List.all_eq_true];refine⟨h1,fun s hs=>?_⟩;obtain⟨j,hj⟩:=List.mem_iff_getElem?.1 hs;exact HO.out.hs j s (by have:=(zqae.1 hj).1;omega) hj
  have HY:=zHd hyes;clear hyes;go_wp2;go_ret;exact⟨by rw[HY.out];rfl,zaa HG.out HO.out.hg⟩
open Go.RowKit
noncomputable def everyB (P:zaz->Bool)(m:zah):Bool:=validB m&&m.states.all (fun s=>s.arcs.all P)
def zrY {P:zaz->Bool}{m:zah}{k j:Nat}{s:zac}{a:zaz}(hs:m.states[k]?=some s)(ha:s.arcs[j]?=some a)(h:P a=false):everyB P m=false:=by
 unfold everyB;cases hv:validB m;rfl;simp only[Bool.true_and];cases hx:m.states.all (fun s=>s.arcs.all P);rfl;exact zQbT
def zAM {P:zaz->Bool}{m:zah}(hv:validB m=true)(h:∀ (k:Nat) (s:zac),m.states[k]?=some s->s.arcs.all P=true):everyB P m=true:=by
 unfold everyB;rw[hv];simp only[Bool.true_and,List.all_eq_true];intro s hs a ha;obtain⟨k,hk⟩:=List.mem_iff_getElem?.1 hs;exact List.all_eq_true.1 (h k s hk) a ha
structure zlu (P:zaz->Bool)(m:zah)(k:Nat):Prop where
 hk:k<=m.states.length
 hs:∀ (j:Nat) (s:zac),j<k->m.states[j]?=some s->s.arcs.all P=true
def zlu.next {P:zaz->Bool}{m:zah}{k:Nat}{s:zac}(h:zlu P m k)(hs:m.states[k]?=some s)(hP:s.arcs.all P=true):zlu P m (k+1) :=
 ⟨by have:=(zqae.1 hs).1;omega,fun j t hj ht=>by
  by_cases e:j=k
  subst e;rw[hs] at ht;cases ht;exact hP;exact h.hs j t (by omega) ht⟩
def zlu.all {P:zaz->Bool}{m:zah}{k:Nat}(h:zlu P m k)(hk:¬ k<m.states.length)(hv:validB m=true):everyB P m=true :=
 zAM hv fun j s hs=>h.hs j s (by have:=(zqae.1 hs).1;omega) hs
structure EIn (P:zaz->Bool)(s:zac)(j:Nat):Prop where
 hj:j<=s.arcs.length
 ha:∀ (i:Nat) (a:zaz),i<j->s.arcs[i]?=some a->P a=true
def EIn.next {P:zaz->Bool}{s:zac}{j:Nat}{a:zaz}(h:EIn P s j)(ha:s.arcs[j]?=some a)(hP:P a=true):EIn P s (j+1) :=
 ⟨by have:=(zqae.1 ha).1;omega,fun i b hi hb=>by
  by_cases e:i=j
  subst e;rw[ha] at hb;cases hb;exact hP;exact h.ha i b (by omega) hb⟩
def EIn.all {P:zaz->Bool}{s:zac}{j:Nat}(h:EIn P s j)(hj:¬ j<s.arcs.length):s.arcs.all P=true:=by
 rw[List.all_eq_true];intro a ha;obtain⟨i,hi⟩:=List.mem_iff_getElem?.1 ha;exact h.ha i a (by have:=(zqae.1 hi).1;omega) hi
def zbN (a:zaz):Bool:=decide (a.i=a.o)
def zfE (a:zaz):Bool := !(decide (a.i=0)&&decide (a.o=0))
def zhh {m:zah}(h:validB m=true):m.states.length<=3000:=(zdG (zeh h)).2.2.1
def zhi {m:zah}(h:validB m=true){s:zac}(hs:s∈m.states):s.arcs.length<=30000:=zqam (zki hs) (ziV h)
def zbE {w:World}{v:Value}{m:zah}(hv:zan w v m)(hf:zaZ m) :
  Calls prog 21 #[v] w (zab (.bool (everyB zbN m)) w):=by
 have zV:=fun w' (h:w.grownBy w' none)=>zaB (hv.grown h) hf;obtain⟨u,rfl,hst0⟩:=hv;have HST:=zHd hst0;have hg:w.grownBy (w.alloc (.cells #[.int .i64 m.kind,.int .i64 m.start,.string m.lead,u] 29)) none:=zGA _ _ _;have hbx:=zaf.new w m u;obtain⟨A,cap,us,rfl,hul,hr,ha⟩:=hst0;have HV1:=zHd (zV _ hg);have HBX:=zHd hbx;have HG:=zHd hg;obtain⟨x0,x1,x2,x3⟩:=hbx.cells;clear zV hbx hg hr ha hul;go_enter func21,ntmps21;go_wp2_with fail;refine HV1.out.mono ?_;rintro e w1 ⟨rfl,hg1⟩;generalize hW:w.alloc (.cells #[.int .i64 m.kind,.int .i64 m.start,.string m.lead,.slice A m.states.length cap] 29)=W at *;clear hW;have HG1:=zHd (zaa HG.out hg1);have hbx1:=HBX.out.grown hg1;have HB1:=zHd hbx1;clear HV1 hg1 hbx1 x0 x1 x2 x3;cases hB:validB m
 ·go_wp2
  go_ret;exact⟨by unfold everyB;rw[hB];rfl,HG1.out⟩
 have HB:=zHd hB;clear hB;go_wp2
 go_loopw [3] (fun i wr=>∃ k:Nat,i=.int .i64 k/\zlu zbN m k/\w1.grownBy wr none) (fun i _=>m.states.length-(intOf i).toNat)
 case atStart=>exact⟨0,rfl,⟨by omega,fun j s hj=>by omega⟩,zai _ _⟩
 case round =>
  obtain⟨k,rfl,ho,hgr⟩:=hrel;have HO:=zHd ho;have hk:=ho.hk;have hl:=zhh HB.out;have hgr0:=zaa HG1.out hgr;have HGR:=zHd hgr;have HGR0:=zHd hgr0;have hbr:=HB1.out.grown hgr;have HBR:=zHd hbr;obtain⟨x0,x1,x2,x3⟩:=hbr.cells;clear ho hgr hbr
  by_cases hlt:k<m.states.length
  ·obtain⟨A',cap',us',hA',hul,hr,ha⟩:=HST.out.grown hgr0
   injection hA' with h1 h2 h3
   subst h1;obtain⟨ad,s,us1,hA,hadb,hs,hu,hc⟩:=zfu hr hul hlt;subst hA;obtain⟨B,cb,hB,hra⟩:=ha k s us1 hs hu;subst hB;obtain⟨y0,y1⟩:=hc;have hal:=zhi HB.out (zqak hs);have n1:(k:Int)<(m.states.length:Int):=(by omega);have n2:IntKind.i64.wrap ((k:Int)+1)=(k:Int)+1:=(by rw[zqah];omega);have HS:=zHd hs;have HRA:=zHd hra;clear hs hu hr ha h2 h3 hra hul hgr0;go_wp2;have hst1:zdS wr (ad.add (k*2)) s.fin (.slice B s.arcs.length cb):=⟨y0,y1⟩;have HST1:=zHd hst1;have HAD:=zHd hadb;clear hst1 x0 x1 x2 x3 y0 y1;generalize wr=w2 at *
   go_loopw [4] (fun i wr=>∃ j:Nat,i=.int .i64 j/\EIn zbN s j/\w2.grownBy wr none) (fun i _=>s.arcs.length-(intOf i).toNat)
   case atStart=>exact⟨0,rfl,⟨by omega,fun i a hi=>by omega⟩,zai _ _⟩
   case round =>
    obtain⟨j,rfl,hi,hg2⟩:=hrel;have hj:=hi.hj;have HI:=zHd hi;have HG2:=zHd hg2;obtain⟨x0,x1,x2,x3⟩:=(HBR.out.grown hg2).cells;obtain⟨y0,y1⟩:=HST1.out.grown hg2 (by rw[zbH];exact HAD.out);clear hi hg2
    by_cases hjl:j<s.arcs.length
    ·obtain⟨ad2,a,hB,hab,haj,hat⟩:=zhf HRA.out hjl
     subst hB;obtain⟨z0,z1,z2,z3⟩:=hat.grown HG2.out (by rw[zbH];exact hab);have n3:(j:Int)<(s.arcs.length:Int):=(by omega);have n4:IntKind.i64.wrap ((j:Int)+1)=(j:Int)+1:=(by rw[zqah];omega);have n5:(0:Int)<=(j:Int):=(by omega);have n6:(0:Int)<=(k:Int):=(by omega);have HAJ:=zHd haj;clear haj hat
     by_cases hio:a.i=a.o
     ·have hx:=HI.out.next HAJ.out (by unfold zbN;simp[hio])
      have HX:=zHd hx;clear hx;have e1:(a.i != a.o)=false:=(by simp[hio]);clear hio;go_wp2
      go_quiet (fail)
      go_wp2
      go_roundw
      case rel=>exact⟨j+1,by go_num,HX.out,zaa HG2.out (zce _ _ _)⟩
      case measure=>simp[intOf];omega
     have hx:=zrY (P:=zbN) HS.out HAJ.out (by unfold zbN;simp[hio]);have HX:=zHd hx;clear hx;have e1:(a.i != a.o)=true:=(by simp[hio]);clear hio;go_wp2
     go_quiet (fail)
     go_wp2;go_ret;exact⟨by rw[HX.out];rfl,zaa HGR0.out (zaa HG2.out (zce _ _ _))⟩
    have n3:¬ (j:Int)<(s.arcs.length:Int):=(by omega);have hx:=HO.out.next HS.out (HI.out.all hjl);have HX:=zHd hx;clear hx;go_wp2
    go_roundw
    case rel=>exact⟨k+1,by go_num,HX.out,zaa HGR.out HG2.out⟩
    case measure=>simp[intOf];omega
  have n1:¬ (k:Int)<(m.states.length:Int):=by omega
  have hy:=HO.out.all hlt HB.out;exact zQbg
def zvq {w:World}{v:Value}{m:zah}(hv:zan w v m)(hf:zaZ m) :
  Calls prog 51 #[v] w (zab (.bool (everyB zfE m)) w):=by
 have zV:=fun w' (h:w.grownBy w' none)=>zaB (hv.grown h) hf;obtain⟨u,rfl,hst0⟩:=hv;have HST:=zHd hst0;have hg:w.grownBy (w.alloc (.cells #[.int .i64 m.kind,.int .i64 m.start,.string m.lead,u] 29)) none:=zGA _ _ _;have hbx:=zaf.new w m u;obtain⟨A,cap,us,rfl,hul,hr,ha⟩:=hst0;have HV1:=zHd (zV _ hg);have HBX:=zHd hbx;have HG:=zHd hg;obtain⟨x0,x1,x2,x3⟩:=hbx.cells;clear zV hbx hg hr ha hul;go_enter func51,ntmps51;go_wp2_with fail;refine HV1.out.mono ?_;rintro e w1 ⟨rfl,hg1⟩;generalize hW:w.alloc (.cells #[.int .i64 m.kind,.int .i64 m.start,.string m.lead,.slice A m.states.length cap] 29)=W at *;clear hW;have HG1:=zHd (zaa HG.out hg1);have hbx1:=HBX.out.grown hg1;have HB1:=zHd hbx1;clear HV1 hg1 hbx1 x0 x1 x2 x3;cases hB:validB m
 ·go_wp2
  go_ret;exact⟨by unfold everyB;rw[hB];rfl,HG1.out⟩
 have HB:=zHd hB;clear hB;go_wp2
 go_loopw [3] (fun i wr=>∃ k:Nat,i=.int .i64 k/\zlu zfE m k/\w1.grownBy wr none) (fun i _=>m.states.length-(intOf i).toNat)
 case atStart=>exact⟨0,rfl,⟨by omega,fun j s hj=>by omega⟩,zai _ _⟩
 case round =>
  obtain⟨k,rfl,ho,hgr⟩:=hrel;have HO:=zHd ho;have hk:=ho.hk;have hl:=zhh HB.out;have hgr0:=zaa HG1.out hgr;have HGR:=zHd hgr;have HGR0:=zHd hgr0;have hbr:=HB1.out.grown hgr;have HBR:=zHd hbr;obtain⟨x0,x1,x2,x3⟩:=hbr.cells;clear ho hgr hbr
  by_cases hlt:k<m.states.length
  ·obtain⟨A',cap',us',hA',hul,hr,ha⟩:=HST.out.grown hgr0
   injection hA' with h1 h2 h3
   subst h1;obtain⟨ad,s,us1,hA,hadb,hs,hu,hc⟩:=zfu hr hul hlt;subst hA;obtain⟨B,cb,hB,hra⟩:=ha k s us1 hs hu;subst hB;obtain⟨y0,y1⟩:=hc;have hal:=zhi HB.out (zqak hs);have n1:(k:Int)<(m.states.length:Int):=(by omega);have n2:IntKind.i64.wrap ((k:Int)+1)=(k:Int)+1:=(by rw[zqah];omega);have HS:=zHd hs;have HRA:=zHd hra;clear hs hu hr ha h2 h3 hra hul hgr0;go_wp2;have hst1:zdS wr (ad.add (k*2)) s.fin (.slice B s.arcs.length cb):=⟨y0,y1⟩;have HST1:=zHd hst1;have HAD:=zHd hadb;clear hst1 x0 x1 x2 x3 y0 y1;generalize wr=w2 at *
   go_loopw [4] (fun i wr=>∃ j:Nat,i=.int .i64 j/\EIn zfE s j/\w2.grownBy wr none) (fun i _=>s.arcs.length-(intOf i).toNat)
   case atStart=>exact⟨0,rfl,⟨by omega,fun i a hi=>by omega⟩,zai _ _⟩
   case round =>
    obtain⟨j,rfl,hi,hg2⟩:=hrel;have hj:=hi.hj;have HI:=zHd hi;have HG2:=zHd hg2;obtain⟨x0,x1,x2,x3⟩:=(HBR.out.grown hg2).cells;obtain⟨y0,y1⟩:=HST1.out.grown hg2 (by rw[zbH];exact HAD.out);clear hi hg2
    by_cases hjl:j<s.arcs.length
    ·obtain⟨ad2,a,hB,hab,haj,hat⟩:=zhf HRA.out hjl
     subst hB;obtain⟨z0,z1,z2,z3⟩:=hat.grown HG2.out (by rw[zbH];exact hab);have n3:(j:Int)<(s.arcs.length:Int):=(by omega);have n4:IntKind.i64.wrap ((j:Int)+1)=(j:Int)+1:=(by rw[zqah];omega);have n5:(0:Int)<=(j:Int):=(by omega);have n6:(0:Int)<=(k:Int):=(by omega);have HAJ:=zHd haj;clear haj hat
     by_cases h0:a.i=0
     ·have e1:(a.i==0)=true:=by simp[h0]
      by_cases h1:a.o=0
      ·have hx:=zrY (P:=zfE) HS.out HAJ.out (by unfold zfE;simp[h0,h1])
       have HX:=zHd hx;clear hx;have e2:(a.o==0)=true:=(by simp[h1]);rw[h0] at z0;rw[h1] at z1;clear h0 h1;go_wp2;go_ret;exact⟨by rw[HX.out];rfl,zaa HGR0.out HG2.out⟩
      have hx:=HI.out.next HAJ.out (by unfold zfE;simp[h0,h1]);have HX:=zHd hx;clear hx;have e2:(a.o==0)=false:=(by simp[h1]);rw[h0] at z0;clear h0;go_wp2
      go_roundw
      case rel=>exact⟨j+1,by go_num,HX.out,HG2.out⟩
      case measure=>simp[intOf];omega
     have hx:=HI.out.next HAJ.out (by unfold zfE;simp[h0]);have HX:=zHd hx;clear hx;have e1:(a.i==0)=false:=(by simp[h0]);go_wp2
     go_roundw
     case rel=>exact⟨j+1,by go_num,HX.out,HG2.out⟩
     case measure=>simp[intOf];omega
    have n3:¬ (j:Int)<(s.arcs.length:Int):=(by omega);have hx:=HO.out.next HS.out (HI.out.all hjl);have HX:=zHd hx;clear hx;go_wp2
    go_roundw
    case rel=>exact⟨k+1,by go_num,HX.out,zaa HGR.out HG2.out⟩
    case measure=>simp[intOf];omega
  have n1:¬ (k:Int)<(m.states.length:Int):=by omega
  have hy:=HO.out.all hlt HB.out;exact zQbg
open Go.RowKit
def ztT (w:World)(f:ByteArray)(u:Value):zdS (w.alloc (.cells #[.string f,u] 76)) ⟨w.heap.size,0,none⟩ f u:=by
 have zW:(w.alloc (.cells #[.string f,u] 76)).heap[w.heap.size]?=some (.cells #[.string f,u] 76 (0,0)):=by
  exact zQbm
 exact⟨by rw[zqbw _ w.heap.size 0 _ _ (0,0) zW];rfl,by show World.cell? _ ⟨w.heap.size,0+1,none⟩=_;rw[zqbw _ w.heap.size 1 _ _ (0,0) zW];rfl⟩
open Go.RowKit
structure Kept (B:Nat)(W W':World):Prop where
 size:W.heap.size<=W'.heap.size
 block:∀ b,B<=b->b<W.heap.size->W'.heap[b]?=W.heap[b]?
def zqd {W W':World}(h:W.grownBy W' none)(B:Nat):Kept B W W':=⟨h.size,fun b _ hl=>h.block b hl (by simp)⟩
def zfv {W W':World}{b B:Nat}(h:W.grownBy W' (some b))(hb:b<B):Kept B W W':=⟨h.size,fun c hc hl=>h.block c hl (by simp;omega)⟩
def zqe {W W':World}{B k n:Nat}{A:Option Addr}{xs:List Value}(h:Reads W W.heap.size k A n xs)(hB:0<n->∀ ad,A=some ad->B<=ad.block)(hk:Kept B W W'):Reads W' W'.heap.size k A n xs :=
 ⟨h.1,fun h0=>by
  obtain⟨ad,hA,hb,hc⟩:=h.2 h0;exact⟨ad,hA,zqba hb hk.size,fun j u hu=>(World.cell?_of_block (by rw[zbH];exact hk.block _ (hB h0 ad hA) hb)).trans (hc j u hu)⟩⟩
def zco.keptN {W W':World}{B:Nat}{v:Value}{l:List zaz}(h:zco W v l)(hB:0<l.length->∀ b,v.ownBlock=some b->B<=b)(hk:Kept B W W'):zco W' v l:=by
 obtain⟨A,cap,rfl,hr⟩:=h;exact⟨A,cap,rfl,zqe hr (fun h0 ad hA=>by subst hA;exact hB h0 _ rfl) hk⟩
def StN (W:World)(B:Nat)(u:Value)(l:List zac):Prop:=∃ A cap us,u=.slice A l.length cap/\us.length=l.length/\Reads W W.heap.size 2 A l.length ((l.zip us).flatMap stC)/\(0<l.length->∀ ad,A=some ad->B<=ad.block) /\
 ∀ (k:Nat) (s:zac) (x:Value),l[k]?=some s->us[k]?=some x->zco W x s.arcs/\(0<s.arcs.length->∀ b,x.ownBlock=some b->B<=b)
def StN.sl {W:World}{B:Nat}{u:Value}{l:List zac}(h:StN W B u l):zgE W u l:=by
 obtain⟨A,cap,us,hu,hl,hr,_,ha⟩:=h;exact⟨A,cap,us,hu,hl,hr,fun k s x hs hx=>(ha k s x hs hx).1⟩
def StN.kept {W W':World}{B:Nat}{u:Value}{l:List zac}(h:StN W B u l)(hk:Kept B W W'):StN W' B u l:=by
 obtain⟨A,cap,us,hu,hl,hr,hb,ha⟩:=h;exact⟨A,cap,us,hu,hl,zqe hr hb hk,hb,fun k s x hs hx=>⟨(ha k s x hs hx).1.keptN (ha k s x hs hx).2 hk,(ha k s x hs hx).2⟩⟩
def StN.mono {W:World}{B C:Nat}{u:Value}{l:List zac}(h:StN W B u l)(hC:C<=B):StN W C u l:=by
 obtain⟨A,cap,us,hu,hl,hr,hb,ha⟩:=h;exact⟨A,cap,us,hu,hl,hr,fun h0 ad hA=>zqam hC (hb h0 ad hA),fun k s x hs hx=>⟨(ha k s x hs hx).1,fun h0 b hx2=>zqam hC ((ha k s x hs hx).2 h0 b hx2)⟩⟩
def StN.nil (W:World)(B:Nat):StN W B (.slice none 0 0) []:=⟨none,0,[],rfl,rfl,Reads.none_,fun h=>by simp at h,fun k s x hs=>by simp at hs⟩
def MN (W:World)(B:Nat)(v:Value)(m:zah):Prop:=∃ u,v=.agg #[.int .i64 m.kind,.int .i64 m.start,.string m.lead,u]/\StN W B u m.states
def zbb (r:zah×Int)(w:World)(e:Ending)(w':World):Prop:=∃ v,e=.returned (.tuple #[v,.int .i64 r.2])/\MN w' w.heap.size v r.1/\w.grownBy w' none
def zbb.open6 {m:zah}{k:Int}{w:World}{e:Ending}{w':World}(h:zbb (m,k) w e w'):∃ A c,e=.returned (.tuple #[.agg #[.int .i64 m.kind,.int .i64 m.start,.string m.lead,.slice A m.states.length c],.int .i64 k])/\StN w' w.heap.size (.slice A m.states.length c) m.states/\w.grownBy w' none:=by
 obtain⟨v,rfl,⟨u,rfl,hst⟩,hg⟩:=h;obtain⟨A,c,us,hv,_⟩:=id hst;subst hv;exact⟨A,c,rfl,hst,hg⟩
open Go.RowKit
def zao:zah:=⟨0,0,ByteArray.empty,[]⟩
def zGi:(prog.info? 76).map (fun i=>(i.zero,i.size,i.bytes))=some (some (.agg #[.string ByteArray.empty,.slice none 0 0]),2,40):=by kernel_rfl
def zku {t:TypeId}{z:Value}{n b:Nat}(h:(prog.info? t).map (fun i=>(i.zero,i.size,i.bytes))=some (some z,n,b)) :
  ∃ i,prog.info? t=some i/\i.zero=some z/\i.size=n/\i.bytes=b:=by
 obtain⟨i,hi,he⟩:=Option.map_eq_some_iff.1 h;simp only[Prod.mk.injEq] at he;exact⟨i,hi,he.1,he.2.1,he.2.2⟩
def zaf.free {w:World}{g:Nat}{m:zah}{u:Value}(h:zaf w g m u)(k:Nat):w.frozen? ⟨g,k,none⟩=false:=zqbx w g k _ _ h
def zaf.set {w:World}{g:Nat}{m n:zah}{u v:Value}(h:zaf w g m u) :
  zaf ((((w.setCell ⟨g,0,none⟩ (.int .i64 n.kind)).setCell ⟨g,1,none⟩ (.int .i64 n.start)).setCell ⟨g,2,none⟩ (.string n.lead)).setCell ⟨g,3,none⟩ v) g n v:=by
 unfold zaf at h ⊢;have h1:=heap_setCell_same w g 0 _ _ (.int .i64 n.kind) h;have h2:=heap_setCell_same _ g 1 _ _ (.int .i64 n.start) h1;have h3:=heap_setCell_same _ g 2 _ _ (.string n.lead) h2;have h4:=heap_setCell_same _ g 3 _ _ v h3;rw[h4];rfl
open Go.RowKit
def zAN {w:World}{v:Value}{m:zah}(hv:zan w v m)(hl:m.states.length<=maxLen)(hn:zaj m.states<=maxLen) :
  Calls prog 52 #[v] w (zab (.int .i64 (zaj m.states:Int)) w):=by
 obtain⟨u,rfl,A,cap,us,rfl,hul,hr,ha⟩:=hv;unfold maxLen at hl hn;have hbx:=(zaf.new w m (.slice A m.states.length cap)).cells;go_enter func52,ntmps52;go_wp2;generalize hW:w.alloc (.cells #[.int .i64 m.kind,.int .i64 m.start,.string m.lead,.slice A m.states.length cap] 29)=W at *;have hb0:w.grownBy W none:=by rw[<- hW];exact zGA _ _ _
 clear hW;obtain⟨x0,x1,x2,x3⟩:=hbx
 go_loop [3,4] (fun n i=>∃ k:Nat,i=.int .i64 k/\n=.int .i64 (zaj (m.states.take k):Int)/\k<=m.states.length) (fun _ i=>m.states.length-(intOf i).toNat)
 case atStart=>exact⟨0,rfl,rfl,by omega⟩
 case round =>
  obtain⟨k,rfl,rfl,hk⟩:=hrel
  by_cases hlt:k<m.states.length
  ·obtain⟨ad,s,u,rfl,hadb,hs,hu,hc⟩:=zfu hr hul hlt
   obtain⟨B,cb,rfl,hra⟩:=ha k s u hs hu;obtain⟨y0,y1⟩:=hc.grown hb0 (by rw[zbH];exact hadb);have hts:=zeu hs;have hnt:=zhC m.states hk;have hnx:zaj (m.states.take (k+1))=zaj (m.states.take k)+s.arcs.length:=by rw[hts,zhB]
   have hle:=zhC m.states (show k+1<=m.states.length by omega);have n1:(k:Int)<(m.states.length:Int):=by omega
   have n2:IntKind.i64.wrap ((k:Int)+1)=(k:Int)+1:=by rw[zqah];omega
   have n3:IntKind.i64.wrap ((zaj (m.states.take k):Int)+(s.arcs.length:Int))=(zaj (m.states.take (k+1)):Int):=by rw[zqah];omega
   clear hs hu hc hts hnx;go_wp2;go_round
   case rel=>exact⟨k+1,by go_num,rfl,by omega⟩
   case measure=>simp[intOf];omega
  have n1:¬ (k:Int)<(m.states.length:Int):=by omega
  rw[zqaf (by omega)];go_wp2;go_ret;exact⟨rfl,hb0⟩
open Go.RowKit
open Go.RowKit
def zGj {k:Int}{u:El k}(h:zav u):(tx u).size<=maxLen:=by
 have:=znF h;obtain⟨v,hv⟩:=u;rcases v with(_|_)|x
 exact zFR;exact zFQ;exact zji (show zaM _ x from this)
def zaw {w w':World}(o:Option Nat)(h:w.grownBy w' none):w.grownBy w' o:=⟨h.os,h.tape,h.output,h.size,fun i hi _=>h.block i hi (by simp)⟩
def zGk {w:World}{b:Nat}{u0 u1 v:Value}{T:TypeId}(h:w.heap[b]?=some (.cells #[u0,u1] T (0,0))):(w.setCell ⟨b,1,none⟩ v).heap[b]?=some (.cells #[u0,v] T (0,0)):=by
 rw[heap_setCell_same w b 1 _ _ v h];rfl
open Go.RowKit
def zgf (s:zac):Bool:=decide ((s.arcs.map zaz.i).Nodup)
noncomputable def detB (m:zah):Bool:=everyB zbN m&&everyB zfE m&&m.states.all zgf
def zvr {P:zaz->Bool}{m:zah}(h:everyB P m=true):validB m=true:=by
 unfold everyB at h;exact(Bool.and_eq_true_iff.1 h).1
def bv (zs:List Bool):List Value:=zs.map Value.bool
def zea (w:World)(g:Nat)(l:List Value):Prop:=w.heap[g]?=some (.cells l.toArray 4 (0,0))
def zea.cell {w:World}{g:Nat}{l:List Value}(h:zea w g l)(k:Nat):w.cell? ⟨g,k,none⟩=l[k]?:=by
 rw[zhR h];simp
def zea.free {w:World}{g:Nat}{l:List Value}(h:zea w g l)(k:Nat):w.frozen? ⟨g,k,none⟩=false:=zqbx w g k _ _ h
def zea.set {w:World}{g:Nat}{l:List Value}(h:zea w g l)(k:Nat)(u:Value):zea (w.setCell ⟨g,k,none⟩ u) g (l.set k u):=by
 unfold zea;exact zQco
def zea.lt {w:World}{g:Nat}{l:List Value}(h:zea w g l):g<w.heap.size:=lt_of_block h
def zea.of_full {w:World}{B g n:Nat}{l:List Value}(h:w.ownsRow B 4 1 (.slice (some ⟨g,0,none⟩) n n) n l):zea w g l:=by
 rcases h.2 with⟨h',_⟩|⟨g',cap',cur,h',hb,hg,_,_,hs,ht⟩;simp at h';simp only[Value.slice.injEq,Option.some.injEq,Addr.mk.injEq,and_true,true_and] at h';obtain⟨rfl,rfl⟩:=h';rw[zqaf (by rw[zqbs,hs];exact zqab _)] at ht;subst ht;unfold zea;rw[hg]
def ztU (n:Nat):(madeCells #[Value.bool false] n).toList=bv (List.replicate n false):=by
 rw[toList_madeCells_one];simp[bv]
def ztV (zs:List Bool)(k:Nat)(b:Bool)(h:zs[k]?=some b):(bv zs)[k]?=some (.bool b):=by
 unfold bv;rw[zqaj,h];rfl
def zAO (zs:List Bool)(i:Nat)(b:Bool):(bv zs).set i (.bool b)=bv (zs.set i b):=by simp[bv,List.map_set]
def zxI:(prog.info? 4).map (fun i=>(i.zero,i.size,i.bytes))=some (some (.bool false),1,1):=by kernel_rfl
structure DIn (s:zac)(j:Nat)(zs:List Bool):Prop where
 hj:j<=s.arcs.length
 len:zs.length=501
 nd:((s.arcs.take j).map zaz.i).Nodup
 at_:∀ (x:Nat) (b:Bool),zs[x]?=some b->(b=true↔(x:Int)∈(s.arcs.take j).map zaz.i)
def DIn.start (s:zac):DIn s 0 (List.replicate 501 false) :=
 ⟨by omega,zqax,by rw[List.take_zero];exact List.nodup_nil,fun x b h=>by
  rw[zqbg] at h;split at h;cases h;simp;cases h⟩
def DIn.no {s:zac}{j x:Nat}{zs:List Bool}{a:zaz}(h:DIn s j zs)(ha:s.arcs[j]?=some a)(hx:a.i=(x:Int))(hz:zs[x]?=some true):zgf s=false:=by
 unfold zgf;rw[decide_eq_false_iff_not];intro hn;have hm:=(h.at_ x true hz).1 rfl
 have h1:((s.arcs.take (j+1)).map zaz.i).Nodup:=by
  have:(s.arcs.take (j+1)).map zaz.i=(s.arcs.map zaz.i).take (j+1):=by simp[List.map_take]
  rw[this];exact List.Nodup.sublist (List.take_sublist _ _) hn
 rw[zeu ha,List.map_append,List.nodup_append] at h1;exact h1.2.2 (x:Int) hm a.i (by simp) hx.symm
def DIn.next {s:zac}{j x:Nat}{zs:List Bool}{a:zaz}(h:DIn s j zs)(ha:s.arcs[j]?=some a)(hx:a.i=(x:Int))(hz:zs[x]?=some false):DIn s (j+1) (zs.set x true):=by
 refine⟨by have:=(zqae.1 ha).1;omega,by rw[List.length_set,h.len],?_,fun y b hb=>?_⟩
 ·rw[zeu ha,List.map_append,List.nodup_append]
  refine⟨h.nd,by simp,fun p hp q hq e=>?_⟩;simp at hq;have:=(h.at_ x false hz).2 (by rw[<- hx,<- hq,<- e];exact hp);cases this
 rw[zeu ha,List.map_append,zqbo]
 by_cases e:y=x
 ·subst e
  rw[zqbi (zqae.1 hz).1] at hb;cases hb;simp[hx]
 rw[zqbl (Ne.symm e)] at hb;rw[h.at_ y b hb];simp[hx];intro e2;omega
def DIn.all {s:zac}{j:Nat}{zs:List Bool}(h:DIn s j zs)(hj:¬ j<s.arcs.length):zgf s=true:=by
 have:=h.nd;rw[zqaf (by omega)] at this;unfold zgf;exact decide_eq_true this
structure zrp (m:zah)(k:Nat):Prop where
 hk:k<=m.states.length
 hs:∀ (j:Nat) (s:zac),j<k->m.states[j]?=some s->zgf s=true
def zrp.next {m:zah}{k:Nat}{s:zac}(h:zrp m k)(hs:m.states[k]?=some s)(hP:zgf s=true):zrp m (k+1) :=
 ⟨by have:=(zqae.1 hs).1;omega,fun j t hj ht=>by
  by_cases e:j=k
  subst e;rw[hs] at ht;cases ht;exact hP;exact h.hs j t (by omega) ht⟩
def zGl {m:zah}{k:Nat}{s:zac}(hs:m.states[k]?=some s)(h:zgf s=false):detB m=false:=by
 unfold detB;rw[show m.states.all zgf=false from ?_,Bool.and_false];cases hx:m.states.all zgf;rfl;rw[List.all_eq_true.1 hx s (zqak hs)] at h;cases h
def zrp.all {m:zah}{k:Nat}(h:zrp m k)(hk:¬ k<m.states.length)(h1:everyB zbN m=true)(h2:everyB zfE m=true):detB m=true:=by
 unfold detB;rw[h1,h2,Bool.true_and,Bool.true_and,List.all_eq_true];exact zQbk
def zDM {w:World}{v:Value}{m:zah}(hv:zan w v m)(hf:zaZ m) :
  Calls prog 24 #[v] w (zab (.bool (detB m)) w):=by
 obtain⟨i0,hi,hz0,hz1,hz2⟩:=zku zxI;have hacc:=fun w' (h:w.grownBy w' none)=>zbE (hv.grown h) hf;have hqui:=fun w' (h:w.grownBy w' none)=>zvq (hv.grown h) hf;obtain⟨u,rfl,hst0⟩:=hv;have HST:=zHd hst0;have hg:w.grownBy (w.alloc (.cells #[.int .i64 m.kind,.int .i64 m.start,.string m.lead,u] 29)) none:=zGA _ _ _;have hbx:=zaf.new w m u;obtain⟨A,cap,us,rfl,hul,hr,ha⟩:=hst0;have HA:=zHd hacc;have HQ:=zHd hqui;have HBX:=zHd hbx;have HG:=zHd hg;obtain⟨x0,x1,x2,x3⟩:=hbx.cells;clear hacc hqui hbx hg hr ha hul;go_enter func24,ntmps24;go_wp2_with fail;refine(HA.out _ HG.out).mono ?_;rintro e w1 ⟨rfl,hg1⟩;generalize hW:w.alloc (.cells #[.int .i64 m.kind,.int .i64 m.start,.string m.lead,.slice A m.states.length cap] 29)=W at *;clear hW x0 x1 x2 x3;have HG1:=zHd (zaa HG.out hg1);have hbx1:=HBX.out.grown hg1;have HB1:=zHd hbx1;obtain⟨x0,x1,x2,x3⟩:=hbx1.cells;clear hg1 hbx1;cases hB:everyB zbN m
 ·go_wp2
  go_ret;exact⟨by unfold detB;rw[hB];rfl,HG1.out⟩
 have HAC:=zHd hB;clear hB;go_wp2_with fail;refine(HQ.out _ HG1.out).mono ?_;rintro e w2 ⟨rfl,hg2⟩;have HG2:=zHd (zaa HG1.out hg2);have hbx2:=HB1.out.grown hg2;have HB2:=zHd hbx2;clear x0 x1 x2 x3 hg2 hbx2;cases hB:everyB zfE m
 ·go_wp2
  go_ret;exact⟨by unfold detB;rw[HAC.out,hB];rfl,HG2.out⟩
 have HQU:=zHd hB;have HB:=zHd (zvr hB);clear hB;go_wp2
 go_loopw [3] (fun i wr=>∃ k:Nat,i=.int .i64 k/\zrp m k/\w2.grownBy wr none) (fun i _=>m.states.length-(intOf i).toNat)
 case atStart=>exact⟨0,rfl,⟨by omega,fun j s hj=>by omega⟩,zai _ _⟩
 case round =>
  obtain⟨k,rfl,ho,hgr⟩:=hrel;have HO:=zHd ho;have hk:=ho.hk;have hl:=zhh HB.out;have hgr0:=zaa HG2.out hgr;have HGR:=zHd hgr;have HGR0:=zHd hgr0;have hbr:=HB2.out.grown hgr;have HBR:=zHd hbr;obtain⟨x0,x1,x2,x3⟩:=hbr.cells;clear ho hgr hbr
  by_cases hlt:k<m.states.length
  ·obtain⟨A',cap',us',hA',hul,hr,ha⟩:=HST.out.grown hgr0
   injection hA' with h1 h2 h3
   subst h1;obtain⟨ad,s,us1,hA,hadb,hs,hu,hc⟩:=zfu hr hul hlt;subst hA;obtain⟨B,cb,hB,hra⟩:=ha k s us1 hs hu;subst hB;have hal:=zhi HB.out (zqak hs);have n1:(k:Int)<(m.states.length:Int):=by omega
   have n2:IntKind.i64.wrap ((k:Int)+1)=(k:Int)+1:=by rw[zqah];omega
   have HS:=zHd hs;have HRA:=zHd hra;have HST1:=zHd hc;have HAD:=zHd hadb;clear hs hu hr ha h2 h3 hra hul hgr0 hc hadb;go_wp2_with (at_make;refine wpList_make_full _ rfl _ _ 80 rfl wr.heap.size 4 i0 (.bool false) 1 underlying80 hi hz0 hz1 _ _ _ _ 501 rfl rfl ?c0 ?c1 ?c2 (by unfold maxLen;omega) (zqab _) ?_)
   case c0=>rfl
   case c1=>rfl
   case c2=>rw[hz2];decide
   intro w3 zO hgr;rw[ztU] at zO;have HC0:=zHd (zea.of_full zO);have HG3:=zHd hgr;have hgl:=(zea.of_full zO).lt;clear zO hgr x0 x1 x2 x3;generalize wr=w4 at *;obtain⟨x0,x1,x2,x3⟩:=(HBR.out.grown HG3.out).cells;go_wp2;clear x0 x1 x2 x3
   go_loopw [5] (fun i wr=>∃ (j:Nat) (zs:List Bool),i=.int .i64 j/\DIn s j zs/\zea wr w4.heap.size (bv zs)/\w4.grownBy wr none) (fun i _=>s.arcs.length-(intOf i).toNat)
   case atStart=>exact⟨0,_,rfl,DIn.start s,HC0.out,HG3.out⟩
   case round =>
    obtain⟨j,zs,rfl,hi5,hcr,hg5⟩:=hrel;have hj:=hi5.hj;have HI:=zHd hi5;have HC:=zHd hcr;have HG5:=zHd hg5;obtain⟨x0,x1,x2,x3⟩:=(HBR.out.grown hg5).cells;obtain⟨y0,y1⟩:=HST1.out.grown hg5 (by rw[zbH];exact HAD.out);clear hi5 hcr hg5
    by_cases hjl:j<s.arcs.length
    ·obtain⟨ad2,a,hB,hab,haj,hat⟩:=zhf HRA.out hjl
     subst hB;obtain⟨z0,z1,z2,z3⟩:=hat.grown HG5.out (by rw[zbH];exact hab);have harc:=zel ((zfJ (zgd HB.out HS.out)).2 a (zqak haj));obtain⟨x,hx⟩:∃ x:Nat,a.i=(x:Int):=⟨a.i.toNat,by omega⟩;have hx5:x<501:=(by omega);obtain⟨b,hb⟩:∃ b,zs[x]?=some b:=⟨_,zqac (by rw[HI.out.len];exact hx5)⟩;rw[hx] at z0;have s0:wr.cell? ⟨w4.heap.size,x,none⟩=some (.bool b):=(by rw[HC.out.cell];exact ztV _ _ _ hb);have s1:=HC.out.free x;have n3:(j:Int)<(s.arcs.length:Int):=(by omega);have n4:IntKind.i64.wrap ((j:Int)+1)=(j:Int)+1:=(by rw[zqah];omega);have n5:(0:Int)<=(j:Int):=(by omega);have n6:(0:Int)<=(k:Int):=(by omega);have n7:(0:Int)<=(x:Int):=(by omega);have n8:(x:Int)<501:=(by omega);have HAJ:=zHd haj;have HX:=zHd hx;have HZ:=zHd hb;clear haj hat harc hx hb;cases b
     ·have hn:=HI.out.next HAJ.out HX.out HZ.out
      have hset:=HC.out.set x (.bool true);rw[zAO] at hset;have HN:=zHd hn;have HSET:=zHd hset;clear hn hset;go_wp2
      go_roundw
      case rel=>exact⟨j+1,_,by go_num,HN.out,HSET.out,zae (g:=w4.heap.size) HG5.out (zad wr ⟨w4.heap.size,x,none⟩ _) (zqab _)⟩
      case measure=>simp[intOf];omega
     have hno:=zGl HS.out (HI.out.no HAJ.out HX.out HZ.out);have HNO:=zHd hno;clear hno;go_wp2;go_ret;exact⟨by rw[HNO.out];rfl,zaa HGR0.out HG5.out⟩
    have n3:¬ (j:Int)<(s.arcs.length:Int):=(by omega);have hx:=HO.out.next HS.out (HI.out.all hjl);have HX:=zHd hx;clear hx;go_wp2
    go_roundw
    case rel=>exact⟨k+1,by go_num,HX.out,zaa HGR.out HG5.out⟩
    case measure=>simp[intOf];omega
  have n1:¬ (k:Int)<(m.states.length:Int):=by omega
  have hy:=HO.out.all hlt HAC.out HQU.out;exact zQbg
open Go.RowKit
open Go.RowKit
open Go.RowKit
structure zeA (w:World)(A:Option Addr)(us:List Value)(l:List zac):Prop where
 len:us.length=l.length
 row:Reads w w.heap.size 2 A l.length ((l.zip us).flatMap stC)
 arcs:∀ (k:Nat) (s:zac) (x:Value),l[k]?=some s->us[k]?=some x->zco w x s.arcs
def zeA.of {w:World}{u:Value}{l:List zac}(h:zgE w u l):∃ A cap us,u=.slice A l.length cap/\zeA w A us l:=by
 obtain⟨A,cap,us,hv,h1,h2,h3⟩:=h;exact⟨A,cap,us,hv,h1,h2,h3⟩
def zeA.below {w w':World}{A:Option Addr}{us:List Value}{l:List zac}(h:zeA w A us l)(hb:Below w.heap.size w w'):zeA w' A us l :=
 ⟨h.len,(h.row.below hb).more hb.size,fun k s x hs hx=>(h.arcs k s x hs hx).below hb⟩
def zeA.grown {w w':World}{A:Option Addr}{us:List Value}{l:List zac}(h:zeA w A us l)(hg:w.grownBy w' none):zeA w' A us l:=h.below (zct hg)
def zeA.at_ {w:World}{A:Option Addr}{us:List Value}{l:List zac}(h:zeA w A us l){k:Nat}(hk:k<l.length) :
  ∃ ad s B cb,A=some ad/\l[k]?=some s/\us[k]?=some (.slice B s.arcs.length cb)/\zdS w (ad.add (k*2)) s.fin (.slice B s.arcs.length cb)/\Reads w w.heap.size 4 B s.arcs.length (s.arcs.flatMap zdw):=by
 obtain⟨ad,s,u,hA,_,hs,hu,hc⟩:=zfu h.row h.len hk;obtain⟨B,cb,rfl,hr⟩:=h.arcs k s u hs hu;exact⟨ad,s,B,cb,hA,hs,hu,hc,hr⟩
def zeA.arcs_at {w:World}{A:Option Addr}{us:List Value}{l:List zac}(h:zeA w A us l){k:Nat}{s:zac}{B:Option Addr}{cb:Nat}(hs:l[k]?=some s)(hu:us[k]?=some (.slice B s.arcs.length cb)):Reads w w.heap.size 4 B s.arcs.length (s.arcs.flatMap zdw):=by
 obtain⟨B',cb',e,hr⟩:=h.arcs k s _ hs hu;cases e;exact hr
def zfm {w w1 w2:World}{r:Option Nat}(h1:w.grownBy w1 r)(h2:w1.grownBy w2 r):w.grownBy w2 r:=World.grownBy.trans h1 h2
def zgg {w w':World}{r:Option Nat}(h:w.grownBy w' none):w.grownBy w' r:=⟨h.os,h.tape,h.output,h.size,fun k hk _=>h.block k hk (by simp)⟩
def zsD (Inv:World->Prop)(r:Option Nat)(b:Bool)(w:World)(e:Ending)(w':World):Prop:=e=.returned (.bool b)/\Inv w'/\w.grownBy w' r
def Says (Inv:World->Prop)(r:Option Nat)(F:Nat)(lb:Array Value)(m:zah)(P:zaz->Bool):Prop :=
 ∀ (W:World) (s:zac) (a:zaz),Inv W->s∈m.states->a∈s.arcs->Calls prog F (#[.agg #[.int .i64 a.i,.int .i64 a.o,.string a.w,.int .i64 a.t]]++lb) W (zsD Inv r (P a) W)
def ziM (P:zaz->Bool)(m:zah):Bool:=m.states.all (fun s=>s.arcs.all P)
def zDN {P:zaz->Bool}{m:zah}{k j:Nat}{s:zac}{a:zaz}(hs:m.states[k]?=some s)(ha:s.arcs[j]?=some a)(h:P a=false):ziM P m=false:=by
 unfold ziM;cases hx:m.states.all (fun s=>s.arcs.all P);rfl;exact zQbT
def zDO {P:zaz->Bool}{m:zah}{k:Nat}(h:zlu P m k)(hk:¬ k<m.states.length):ziM P m=true:=by
 unfold ziM;rw[List.all_eq_true];exact zQbk
def zwp {w:World}{A:Option Addr}{cap:Nat}{us:List Value}{m:zah}{Inv:World->Prop}{r:Option Nat}{F:Nat}{lb:Array Value}{P:zaz->Bool}(hE:Enters F)(hI:∀ W W',Inv W->W.grownBy W' none->Inv W')
  (hS:∀ W,Inv W->zeA W A us m.states) (hr:∀ k,r=some k->k<w.heap.size) (h0:Inv w) (hf:Says Inv r F lb m P) (hn:m.states.length<=140737488355328) (hna:∀ s∈m.states,s.arcs.length<=140737488355328) :
  Calls prog 118 #[.agg #[.int .i64 m.kind,.int .i64 m.start,.string m.lead,.slice A m.states.length cap],.func (.func F) #[] lb] w (zsD Inv r (ziM P m) w):=by
 have HE:=zHd hE;have HI:=zHd hI;have HS:=zHd hS;have HR:=zHd hr;have HF:=zHd hf;have HNA:=zHd hna;have hg:w.grownBy (w.alloc (.cells #[.int .i64 m.kind,.int .i64 m.start,.string m.lead,.slice A m.states.length cap] 29)) none:=zGA _ _ _;have HG:=zHd (zgg (r:=r) hg);have H0:=zHd (hI _ _ h0 hg);clear hE hI hS hr hf hna h0 hg;go_enter func118,ntmps118;go_wp2;generalize hW:w.alloc (.cells #[.int .i64 m.kind,.int .i64 m.start,.string m.lead,.slice A m.states.length cap] 29)=W at *;clear hW
 go_loopw [12] (fun i wr=>∃ k:Nat,i=.int .i64 k/\zlu P m k/\Inv wr/\W.grownBy wr r) (fun i _=>m.states.length-(intOf i).toNat)
 case atStart=>exact⟨0,rfl,⟨by omega,fun j s hj=>by omega⟩,H0.out,World.grownBy.refl _ _⟩
 case round =>
  obtain⟨k,rfl,ho,zI,hgr⟩:=hrel;have HO:=zHd ho;have hk:=ho.hk;have HINV:=zHd zI;have HGR:=zHd hgr;clear ho hgr
  by_cases hlt:k<m.states.length
  ·obtain⟨ad,s,B,cb,hA,hs,hu,hc,hra⟩:=(HS.out wr zI).at_ hlt
   subst hA;obtain⟨x0,x1⟩:=hc;have hal:=HNA.out s (zqak hs);have n1:(k:Int)<(m.states.length:Int):=by omega
   have n2:IntKind.i64.wrap ((k:Int)+1)=(k:Int)+1:=by rw[zqah];omega
   have HSS:=zHd hs;have HU:=zHd hu;have hinv2:=HI.out _ _ zI (zGA wr (.cells #[.string s.fin,.slice B s.arcs.length cb] 76) none);have HINV2:=zHd hinv2;have HG2:=zHd (zfm HGR.out (zgg (r:=r) (zGA wr (.cells #[.string s.fin,.slice B s.arcs.length cb] 76) none)));clear hs hu hra zI hinv2;go_wp2;generalize hW2:wr.alloc (.cells #[.string s.fin,.slice B s.arcs.length cb] 76)=W2 at *;clear hW2 x0 x1;generalize wr=w4 at *
   go_loopw [19] (fun i wr=>∃ j:Nat,i=.int .i64 j/\EIn P s j/\Inv wr/\W.grownBy wr r) (fun i _=>s.arcs.length-(intOf i).toNat)
   case atStart=>exact⟨0,rfl,⟨by omega,fun j s hj=>by omega⟩,HINV2.out,HG2.out⟩
   case round =>
    obtain⟨j,rfl,hi,zI,hgr⟩:=hrel;have HIN:=zHd hi;have hj:=hi.hj;have HINV3:=zHd zI;have HGR3:=zHd hgr;clear hi hgr
    by_cases hjl:j<s.arcs.length
    ·obtain⟨ad2,a,hB,hab,haj,hat⟩:=zhf ((HS.out wr zI).arcs_at HSS.out HU.out) hjl
     subst hB;obtain⟨z0,z1,z2,z3⟩:=hat;have n3:(j:Int)<(s.arcs.length:Int):=(by omega);have n4:IntKind.i64.wrap ((j:Int)+1)=(j:Int)+1:=(by rw[zqah];omega);have HAJ:=zHd haj;have hg4:wr.grownBy (wr.alloc (.cells #[.int .i64 a.i,.int .i64 a.o,.string a.w,.int .i64 a.t] 78)) none:=zGA _ _ _;have HG4:=zHd (zfm HGR3.out (zgg (r:=r) hg4));have HC:=zHd (HF.out _ s a (HI.out _ _ zI hg4) (zqak HSS.out) (zqak haj));clear haj zI hg4;go_wp2_with fail;rw[HE.out];refine HC.out.mono ?_;rintro e w5 ⟨rfl,hinv5,hg5⟩;have HINV5:=zHd hinv5;have HG5:=zHd (zfm HG4.out hg5);clear hinv5 hg5 z0 z1 z2 z3;cases hP:P a
     ·have HNO:=zHd (zDN HSS.out HAJ.out hP)
      clear hP;go_wp2;go_ret;exact⟨by rw[HNO.out];rfl,HINV5.out,zfm HG.out HG5.out⟩
     have HN:=zHd (HIN.out.next HAJ.out hP);clear hP;go_wp2
     go_roundw
     case rel=>exact⟨j+1,by go_num,HN.out,HINV5.out,HG5.out⟩
     case measure=>simp[intOf];omega
    have n3:¬ (j:Int)<(s.arcs.length:Int):=(by omega);have HN:=zHd (HO.out.next HSS.out (HIN.out.all hjl));clear zI;go_wp2
    go_roundw
    case rel=>exact⟨k+1,by go_num,HN.out,HINV3.out,HGR3.out⟩
    case measure=>simp[intOf];omega
  have n1:¬ (k:Int)<(m.states.length:Int):=by omega
  have HY:=zHd (zDO HO.out hlt);clear zI;go_wp2;go_ret;exact⟨by rw[HY.out];rfl,HINV.out,zfm HG.out HGR.out⟩
open Go.RowKit
def one_cell {W:World}{t:Nat}{v:Value}{ty:TypeId}(h:W.heap[t]?=some (.cells #[v] ty (0,0))):W.cell? ⟨t,0,none⟩=some v/\W.frozen? ⟨t,0,none⟩=false :=
 ⟨by rw[zqbw W t 0 _ _ (0,0) h];rfl,zqbx W t 0 _ _ h⟩
section
open Go.RowKit
open Go.RowKit Go.Maps
instance lawful6:LawfulBEq ByteArray where
 eq_of_beq {a b} h:=by
  have h2:a.data==b.data:=h;cases a;cases b;simp only[beq_iff_eq] at h2;subst h2;rfl
 rfl {a}:=by
  show(a.data==a.data)=true;simp
def zwq:Keyed prog 9:=string_keyed underlying9
def zAP (w:World):(zeroValue 4).run prog w=.ok (.bool false) w:=by kernel_rfl
def zoL (s:ByteArray):Lit:=.string s.data.toList
def ztW {s t:ByteArray}(h:zoL s=zoL t):s=t:=by
 unfold zoL at h;injection h with h
 exact ByteArray.ext (Array.toList_inj.1 h)
def ztX (s:ByteArray):WideAt.IsKeyLit (zoL s):=trivial
def zwr {s:ByteArray}(h:s.size<=maxLen):keyOf prog 9 (.string s)=some (zoL s):=WideMaps.keyOf_string_mk underlying9 h
def zmG {H:Type}{P:Program}{e:TypeId}(he:P.underlying e=some .bool){v:Value}{z:DataW H×List MemPlace}(h:plainElem P e v=some z):∃ a,v=.bool a/\z=(.lit (.bool a),[]):=by
 unfold plainElem at h;rw[he] at h;cases v <;> simp at h;exact⟨_,rfl,h.symm⟩
structure zHv (w:World)(b:Nat)(k:Int)(K:List ByteArray)(D:DataW Unit):Prop where
 owns:w.ownsMap prog 9 (plainElem prog 4) b K.length D
 at_:∀ s,D.atKey (zoL s) (.lit (.bool false))=.lit (.bool (decide (s∈K)&&wgtB k s))
 has_:∀ s,Maps.has D (zoL s)=decide (s∈K)
def zhZ (w:World)(b:Nat)(k:Int)(K:List ByteArray):Prop:=∃ D,zHv w b k K D
def zhZ.made (w:World)(k:Int):zhZ (w.alloc (.map #[] 0)) w.heap.size k []:=⟨.map [],⟨World.ownsMap_made w _ _ _,fun s=>by simp;rfl,fun s=>by simp;rfl⟩⟩
def zhZ.kept {w w':World}{b:Nat}{k:Int}{K:List ByteArray}{row:Option Nat}(h:zhZ w b k K)(hg:w.grownBy w' row)(hne:some b≠row):zhZ w' b k K:=by
 obtain⟨D,h1,h2,h3⟩:=h;exact⟨D,h1.kept hg hne,h2,h3⟩
def zhZ.look_ok {w:World}{b:Nat}{k:Int}{K:List ByteArray}(h:zhZ w b k K){s:ByteArray}(hs:s.size<=maxLen) :
  (Instr.lookup 135 (.map (some b)) (.string s) true).run prog w=.ok (.tuple #[.bool (decide (s∈K)&&wgtB k s),.bool (decide (s∈K))]) w:=by
 obtain⟨D,h1,h2,h3⟩:=h;obtain⟨v,ps,hrun,hv⟩:=h1.look_ok zwq underlying135 (zAP _) (plainElem_bool underlying4 false) (zwr hs);obtain⟨c,rfl,hc⟩:=zmG underlying4 hv;rw[h2 s] at hc;simp only[Prod.mk.injEq,DataW.lit.injEq,Lit.bool.injEq] at hc;obtain⟨hc,_⟩:=hc;subst hc;rw[h3 s] at hrun;exact hrun
def zhZ.store {w:World}{b:Nat}{k:Int}{K:List ByteArray}(h:zhZ w b k K){s:ByteArray}(hs:s.size<=maxLen)(hn:s ∉ K)(hl:K.length<maxLen) :
  ∃ w',(Instr.mapUpdate 135 (.map (some b)) (.string s) (.bool (wgtB k s))).run prog w=.ok () w'/\zhZ w' b k (K++[s])/\w.grownBy w' (some b):=by
 obtain⟨D,h1,h2,h3⟩:=h;obtain⟨w',hrun,zO,hg⟩:=h1.update zwq underlying135 hl (zwr hs) (plainElem_bool underlying4 (wgtB k s));have hD:IsMap D:=h1.isMap;refine⟨w',hrun,⟨_,⟨by rw[zqag];exact zO,fun t=>?_,fun t=>?_⟩⟩,hg⟩
 ·by_cases ht:t=s
  ·subst ht
   rw[atKey_put_same hD (ztX t)];simp
  rw[atKey_put_other (fun e=>ht (ztW e)),h2 t];simp[ht]
 by_cases ht:t=s
 ·subst ht
  rw[has_put_same hD (ztX t)];simp
 rw[has_put_other (fun e=>ht (ztW e)),h3 t];simp[ht]
def zia (m:zah):List ByteArray:=m.lead::m.states.flatMap (fun s=>s.fin::s.arcs.map zaz.w)
def ztY (m:zah):(zia m).length=1+m.states.length+zaj m.states:=by
 unfold zia zaj;rw[zqbu]
 induction m.states with
 | nil=>simp
 | cons s l ih=>simp only[List.flatMap_cons,zqag,zqbu,zqbn,List.map_cons,List.sum_cons];omega
def zDP {m:zah}{s:zac}(hs:s∈m.states):s.fin∈zia m:=by
 unfold zia;exact zqao _ (List.mem_flatMap.2 ⟨s,hs,by simp⟩)
def zDQ {m:zah}{s:zac}{a:zaz}(hs:s∈m.states)(ha:a∈s.arcs):a.w∈zia m:=by
 unfold zia;exact zqao _ (List.mem_flatMap.2 ⟨s,hs,zqao _ (List.mem_map_of_mem ha)⟩)
def zhE (w0:World)(b:Nat)(m:zah)(W:World):Prop:=w0.grownBy W (some b)/\∃ K,zhZ W b m.kind K/\K.Nodup/\∀ s∈K,s∈zia m
def zhE.next {w0 W W':World}{b:Nat}{m:zah}(h:zhE w0 b m W)(hg:W.grownBy W' none):zhE w0 b m W':=by
 obtain⟨h1,K,h2,h3,h4⟩:=h;exact⟨World.grownBy.trans h1 (zgg hg),K,h2.kept hg (by simp),h3,h4⟩
structure znG (w0:World)(b kv bx wv:Nat)(m:zah)(u:Value):Prop where
 hkv:w0.heap[kv]?=some (.cells #[.map (some b)] 135 (0,0))
 hbx:zaf w0 bx m u
 hwv:w0.heap[wv]?=some (.cells #[.func (.func 120) #[] #[.pointer (some ⟨kv,0,none⟩),.pointer (some ⟨bx,0,none⟩)]] 96 (0,0))
 ne:kv≠b/\bx≠b/\wv≠b
def znG.at_ {w0 W:World}{b kv bx wv:Nat}{m:zah}{u:Value}(h:znG w0 b kv bx wv m u)(hg:w0.grownBy W (some b)):znG W b kv bx wv m u :=
 ⟨(hg.block _ (lt_of_block h.hkv) (by simpa using h.ne.1)).trans h.hkv,(hg.block _ h.hbx.lt (by simpa using h.ne.2.1)).trans h.hbx,(hg.block _ (lt_of_block h.hwv) (by simpa using h.ne.2.2)).trans h.hwv,h.ne⟩
def zvs {k:Int}{a:ByteArray}(ha:a.size<=maxLen):VB 42 k a (wgtB k a):=by
 rcases ztt k a with⟨v,h⟩|h;rw[zgc h];exact zod h
 have hB:wgtB k a=false:=by
  cases hb:wgtB k a;rfl;obtain⟨v,hv⟩:=zcO hb;have:=h v hv.1;rw[hv.2] at this;cases this
 rw[hB];exact zpW h ha
def zrq:Enters 121:=enters_of func121 (by kernel_rfl) rfl
def ztZ:Enters 119:=enters_of func119 (by kernel_rfl) rfl
def zlv {w0 W:World}{b kv bx wv:Nat}{m:zah}{u:Value}{s:ByteArray}(hw:znG w0 b kv bx wv m u)(zI:zhE w0 b m W)(hs:s∈zia m)(hz:s.size<=maxLen)(hl:(zia m).length<=100000) :
  Calls prog 120 #[.string s,.pointer (some ⟨kv,0,none⟩),.pointer (some ⟨bx,0,none⟩)] W (zsD (zhE w0 b m) (some b) (wgtB m.kind s) W):=by
 obtain⟨hg,K,hK,hnd,hsub⟩:=zI;have HB:=zHd (hw.at_ hg);have HW:=zHd hw;have hlk:=hK.look_ok hz;have HSW:=zHd (zvs (k:=m.kind) hz);obtain⟨x0,_⟩:=one_cell HB.out.hkv;obtain⟨y0,_,_,_⟩:=HB.out.hbx.cells;have HG:=zHd hg;have HK:=zHd hK;have HND:=zHd hnd;have HSUB:=zHd hsub;have HS:=zHd hs;clear hw hg hK hnd hsub hs
 by_cases hm:s∈K
 ·rw[decide_eq_true hm] at hlk
  simp only[Bool.true_and] at hlk;clear hm;go_enter func120,ntmps120;go_wp2;go_ret;exact⟨rfl,⟨HG.out,K,HK.out,HND.out,HSUB.out⟩,World.grownBy.refl _ _⟩
 have HM:=zHd hm;rw[zqcb hm] at hlk;simp only[Bool.false_and] at hlk;clear hm;go_enter func120,ntmps120;go_wp2_with fail;refine(HSW.out _).mono ?_;rintro e w1 ⟨rfl,hg1⟩;have HG1:=zHd hg1;have hK1:=HK.out.kept hg1 (by simp);obtain⟨w2,hst,hK2,hg2⟩:=hK1.store hz HM.out (by have:=List.Nodup.length_le_of_subset (l₁:=K) (l₂:=zia m) HND.out HSUB.out;unfold maxLen;omega);have HK2:=zHd hK2;have HG2:=zHd hg2;have z0:=(one_cell (HB.out.at_ (zgg hg1)).hkv).1;clear hK1 hK2 hg1 hg2 x0 y0 hlk;go_wp2;go_ret;have hgg:=World.grownBy.trans (zgg (r:=some b) HG1.out) HG2.out;refine⟨rfl,⟨World.grownBy.trans HG.out hgg,K++[s],HK2.out,?_,?_⟩,hgg⟩
 ·rw[List.nodup_append]
  exact⟨HND.out,by simp,fun a ha c hc e=>by simp at hc;subst hc;subst e;exact HM.out ha⟩
 intro t ht;rcases zqbo.1 ht with h|h;exact HSUB.out t h;simp at h;subst h;exact HS.out
def zil (x a b:Int)(w:World):Calls prog 117 #[.int .i64 x,.int .i64 a,.int .i64 b] w fun e w'=>e=.returned (.bool (decide (a<=x)&&decide (x<=b)))/\w'=w:=by
 by_cases h1:a<=x
 ·by_cases h2:x<=b
  ·rw[decide_eq_true h1,decide_eq_true h2]
   go_enter func117,ntmps117;exact zQaJ
  rw[decide_eq_true h1,zqcb h2];go_enter func117,ntmps117;exact zQaJ
 rw[zqcb h1];go_enter func117,ntmps117;exact zQaJ
def zmH (n:Nat)(a:zaz):Bool:=(decide (0<=a.i)&&decide (a.i<=500))&&((decide (0<=a.o)&&decide (a.o<=500))&&(decide (0<=a.t)&&decide (a.t<=(n:Int)-1)))
def zAQ {W:World}{b n:Nat}{a:zaz}(hc:W.heap[b]?=some (.cells #[.int .i64 (n:Int)] 3 (0,0)))(hn:n<=3000) :
  Calls prog 119 #[.agg #[.int .i64 a.i,.int .i64 a.o,.string a.w,.int .i64 a.t],.pointer (some ⟨b,0,none⟩)] W (zab (.bool (zmH n a)) W):=by
 have h1:=zil a.i 0 500;have h2:=zil a.o 0 500;have h3:=zil a.t 0 ((n:Int)-1);unfold zmH;have hb:b<W.heap.size:=lt_of_block hc;have hg:=zGA W (.cells #[.int .i64 a.i,.int .i64 a.o,.string a.w,.int .i64 a.t] 78) none;obtain⟨x0,_⟩:=one_cell ((hg.block b hb (by simp)).trans hc);have n1:IntKind.i64.wrap ((n:Int)-1)=(n:Int)-1:=by rw[zqah];omega
 have HG:=zHd hg;clear hg hc;generalize (decide (0<=a.i)&&decide (a.i<=500))=p1 at h1 ⊢;generalize (decide (0<=a.o)&&decide (a.o<=500))=p2 at h2 ⊢;generalize (decide (0<=a.t)&&decide (a.t<=(n:Int)-1))=p3 at h3 ⊢;have H1:=zHd h1;have H2:=zHd h2;have H3:=zHd h3;clear h1 h2 h3;go_enter func119,ntmps119;go_wp2_with fail;refine(H1.out _).mono ?_;rintro e w1 ⟨rfl,rfl⟩;cases p1
 ·go_wp2
  go_ret;exact⟨rfl,HG.out⟩
 go_wp2_with fail;refine(H2.out _).mono ?_;rintro e w1 ⟨rfl,rfl⟩;cases p2
 ·go_wp2
  go_ret;exact⟨rfl,HG.out⟩
 go_wp2_with fail;refine(H3.out _).mono ?_;rintro e w1 ⟨rfl,rfl⟩;cases p3
 all_goals
  exact zQbu
end
section
open Go.RowKit Go.Maps
noncomputable def fitsB (m:zah):Bool:=decide (m.states.length<=3000)&&((decide (0<=m.start)&&decide (m.start<=(m.states.length:Int)-1))&&(decide (zaj m.states<=30000)&&ziM (zmH m.states.length) m))
def zlw (w:World)(o:Array Value)(t:TypeId):(w.alloc (.cells o t)).heap[w.heap.size]?=some (.cells o t (0,0)):=by
 exact zQbm
def zog {M:Nat}:∀ {l:List zac},(∀ s∈l,s.arcs.length<=M)->zaj l<=l.length*M
 | [],_=>by simp[zaj]
 | s::l,h=>by
  have h1:=h s (by simp);have h2:=zog (l:=l) (fun t ht=>h t (by simp[ht]));have e:zaj (s::l)=s.arcs.length+zaj l:=by unfold zaj;simp
  rw[e,zqbu,Nat.succ_mul];omega
def zxJ {w0:World}{F:Nat}{lb:Array Value}{m:zah}{P:zaz->Bool}(h:∀ (W:World) (s:zac) (a:zaz),w0.grownBy W none->s∈m.states->a∈s.arcs->Calls prog F (#[.agg #[.int .i64 a.i,.int .i64 a.o,.string a.w,.int .i64 a.t]]++lb) W (zab (.bool (P a)) W)) :
  Says (fun W=>w0.grownBy W none) none F lb m P:=fun W s a hI hs ha=>(h W s a hI hs ha).mono fun e w' ⟨h1,h2⟩=>⟨h1,zaa hI h2,h2⟩
def zDR {w:World}{v:Value}{m:zah}(hv:zan w v m)(hf:zaZ m):Calls prog 84 #[v] w (zab (.bool (fitsB m)) w):=by
 obtain⟨u,rfl,hst0⟩:=hv;obtain⟨A,cap,us,rfl,hS0⟩:=zeA.of hst0;have hg1:w.grownBy (w.alloc (.cells #[.int .i64 m.kind,.int .i64 m.start,.string m.lead,.slice A m.states.length cap] 29)) none:=zGA _ _ _;have hg2:=zGA (w.alloc (.cells #[.int .i64 m.kind,.int .i64 m.start,.string m.lead,.slice A m.states.length cap] 29)) (.cells #[.int .i64 (m.states.length:Int)] 3) none;have hbx:=(zaf.new w m (.slice A m.states.length cap)).grown hg2;have hvr:=zlw (w.alloc (.cells #[.int .i64 m.kind,.int .i64 m.start,.string m.lead,.slice A m.states.length cap] 29)) #[.int .i64 (m.states.length:Int)] 3;rw[show(w.alloc (.cells #[.int .i64 m.kind,.int .i64 m.start,.string m.lead,.slice A m.states.length cap] 29)).heap.size=w.heap.size+1 by simp] at hvr;have HG:=zHd (zaa hg1 hg2);have HS:=zHd hS0;have HBX:=zHd hbx;have HVR:=zHd hvr;have HF:=zHd hf;have hn0:=hf.n;have hwi:=zil m.start 0 ((m.states.length:Int)-1);have HWI:=zHd hwi;obtain⟨x0,x1,x2,x3⟩:=hbx.cells;obtain⟨y0,_⟩:=one_cell hvr;clear hst0 hS0 hg1 hg2 hbx hvr hf hwi;have n1:IntKind.i64.wrap ((m.states.length:Int)-1)=(m.states.length:Int)-1:=by rw[zqah];omega
 by_cases c1:m.states.length<=3000
 ·have n2:¬ (3000:Int)<(m.states.length:Int):=by omega
  go_enter func84,ntmps84;go_wp2_with fail;refine(HWI.out _).mono ?_;rintro e w1 ⟨rfl,hw1⟩;cases hp:(decide (0<=m.start)&&decide (m.start<=(m.states.length:Int)-1))
  ·have HN:Hid (fitsB m=false):=zHd (by unfold fitsB;rw[hp];simp)
   clear hp;subst hw1;go_wp2;go_ret;exact⟨by rw[HN.out];rfl,HG.out⟩
  have HP:=zHd hp;clear hp;subst hw1;generalize hW:(w.alloc (.cells #[.int .i64 m.kind,.int .i64 m.start,.string m.lead,.slice A m.states.length cap] 29)).alloc (.cells #[.int .i64 (m.states.length:Int)] 3)=W at *;clear hW;go_wp2;have HC1:=zHd c1;clear x0 x1 x2 x3 y0 n2
  go_loopw [4,23] (fun n i wr=>∃ k:Nat,i=.int .i64 k/\n=.int .i64 (zaj (m.states.take k):Int)/\k<=m.states.length/\W.grownBy wr none) (fun _ i _=>m.states.length-(intOf i).toNat)
  case atStart=>exact⟨0,rfl,rfl,by omega,zai _ _⟩
  case round =>
   obtain⟨k,rfl,rfl,hk,hgr⟩:=hrel;have HGR:=zHd hgr;have HGR0:=zHd (zaa HG.out hgr);clear hgr
   by_cases hlt:k<m.states.length
   ·obtain⟨ad,s,B,cb,hA,hs,hu,hc,hra⟩:=(HS.out.grown HGR0.out).at_ hlt
    subst hA;obtain⟨z0,z1⟩:=hc;have hal:=HF.out.arcs s (zqak hs);have htk:=zeu hs;have hsn:zaj (m.states.take (k+1))=zaj (m.states.take k)+s.arcs.length:=(by rw[htk,zhB]);have hb:=zog (l:=m.states.take k) (M:=140737488355328) (fun t ht=>HF.out.arcs t (zqau ht));have hb2:zaj (m.states.take k)<=3000*140737488355328:=zqam hb (Nat.mul_le_mul_right _ (by rw[zqan];omega));have n2:(k:Int)<(m.states.length:Int):=(by omega);have n3:IntKind.i64.wrap ((k:Int)+1)=(k:Int)+1:=(by rw[zqah];omega);have n4:IntKind.i64.wrap ((zaj (m.states.take k):Int)+(s.arcs.length:Int))=(zaj (m.states.take (k+1)):Int):=(by rw[zqah];omega);clear hs hu hra hal htk hb hb2;generalize hq:zaj (m.states.take (k+1))=q at *;have HQ:=zHd hq;clear hq hsn;go_wp2
    go_roundw
    case rel=>exact⟨k+1,by go_num,by rw[HQ.out],by omega,zaa HGR.out (zGA _ _ _)⟩
    case measure=>simp[intOf];omega
   have hk2:m.states.take k=m.states:=zqaf (by omega);rw[hk2];have n2:¬ (k:Int)<(m.states.length:Int):=by omega
   by_cases c2:zaj m.states<=30000
   ·have n3:(zaj m.states:Int)<=30000:=by omega
    have HC2:=zHd c2;obtain⟨x0,x1,x2,x3⟩:=(HBX.out.grown HGR.out).cells
    have hall:=zwp (w:=wr) (A:=A) (cap:=cap) (us:=us) (m:=m) (Inv:=fun W'=>wr.grownBy W' none) (r:=none) (F:=119) (lb:=#[.pointer (some ⟨w.heap.size+1,0,none⟩)]) (P:=zmH m.states.length) ztZ
     (fun W1 W2 h1 h2=>zaa h1 h2) (fun W1 h1=>HS.out.grown (zaa HGR0.out h1)) (fun k e=>by cases e) (zai _ _)
     (zxJ (fun W1 s a hI hs ha=>zAQ (((zaa HGR.out hI).block _ (lt_of_block HVR.out) (by simp)).trans HVR.out) HC1.out)) HF.out.n HF.out.arcs
    have HALL:=zHd hall;clear c2 hall;go_wp2_with fail;refine HALL.out.mono ?_;rintro e w2 ⟨rfl,_,hg2⟩;have HE:Hid (fitsB m=ziM (zmH m.states.length) m):=zHd (by unfold fitsB;rw[decide_eq_true HC1.out,HP.out,decide_eq_true HC2.out];rfl);have HG2:=zHd (zaa HGR0.out hg2);clear hg2;cases hb:ziM (zmH m.states.length) m
    all_goals
     rw[hb] at HE;clear hb;exact zQbs
   have n3:¬ (zaj m.states:Int)<=30000:=by omega
   have HN:Hid (fitsB m=false):=zHd (by unfold fitsB;rw[zqcb c2];simp);clear c2;go_wp2;go_ret;exact⟨by rw[HN.out];rfl,HGR0.out⟩
 have n2:(3000:Int)<(m.states.length:Int):=by omega
 have HN:Hid (fitsB m=false):=zHd (by unfold fitsB;rw[zqcb c1];rfl);clear c1;go_enter func84,ntmps84;go_wp2;go_ret;exact⟨by rw[HN.out];rfl,HG.out⟩
end
section
open Go.RowKit Go.Maps
noncomputable def weighedB (m:zah):Bool:=m.states.all (fun s=>finB m.kind s.fin)&&(wgtB m.kind m.lead&&ziM (fun a=>wgtB m.kind a.w) m)
def zDS {k:Int}{a:ByteArray}(h:wgtB k a=true):zbv k=true:=by
 obtain⟨v,hv⟩:=zcO h;have:=hv.2;cases hk:zbv k
 ·exfalso
  unfold zbv at hk;simp at hk;obtain⟨h1,h2,h3⟩:=hk;cases v with
  | inl b=>cases b <;> simp[zcs] at this
  | inr x=>simp[zcs,h1,h2,h3] at this
 rfl
def zvt (m:zah):validB m=(fitsB m&&weighedB m):=by
 rw[Bool.eq_iff_iff];unfold validB headB fitsB weighedB ziM;simp only[zqbb,zqca,List.all_eq_true];constructor
 ·rintro ⟨⟨⟨⟨h1,h2,h3,h4,h5⟩,h6⟩,h7⟩,h8⟩
  have hp:=fun s hs=>zfJ (h8 s hs);refine⟨⟨h3,⟨h4,by omega⟩,h7,fun s hs a ha=>?_⟩,fun s hs=>(hp s hs).1,h6,fun s hs a ha=>?_⟩
  ·have:=zel ((hp s hs).2 a ha)
   unfold zmH;simp only[zqbb,zqca];omega
  exact(zel ((hp s hs).2 a ha)).2.2.2.2.2.2
 rintro ⟨⟨h3,⟨h4,h5⟩,h7,h8⟩,h9,h6,h10⟩;refine⟨⟨⟨⟨zDS h6,by omega,h3,h4,by omega⟩,h6⟩,h7⟩,fun s hs=>?_⟩;unfold stB6;simp only[zqbb,List.all_eq_true];refine⟨h9 s hs,fun a ha=>?_⟩;have h1:=h8 s hs a ha;have h2:=h10 s hs a ha;unfold zmH at h1;unfold arcB;simp only[zqbb,zqca] at h1 ⊢;exact⟨by omega,h2⟩
def ziA (w:World)(m:zah)(u:Value):World :=
 (((w.alloc (.cells #[.int .i64 m.kind,.int .i64 m.start,.string m.lead,u] 29)).alloc (.map #[] 0)).alloc (.cells #[.map (some (w.heap.size+1))] 135)).alloc (.cells #[.func (.func 120) #[] #[.pointer (some ⟨w.heap.size+2,0,none⟩),.pointer (some ⟨w.heap.size,0,none⟩)]] 96)
def zxK (w:World)(m:zah)(u:Value):znG (ziA w m u) (w.heap.size+1) (w.heap.size+2) w.heap.size (w.heap.size+3) m u/\zhZ (ziA w m u) (w.heap.size+1) m.kind []/\w.grownBy (ziA w m u) none:=by
 unfold ziA;have b1:=zaf.new w m u;have g1:w.grownBy (w.alloc (.cells #[.int .i64 m.kind,.int .i64 m.start,.string m.lead,u] 29)) none:=zGA _ _ _;have e1:(w.alloc (.cells #[.int .i64 m.kind,.int .i64 m.start,.string m.lead,u] 29)).heap.size=w.heap.size+1:=by simp
 generalize w.alloc (.cells #[.int .i64 m.kind,.int .i64 m.start,.string m.lead,u] 29)=W1 at *;have k2:=zhZ.made W1 m.kind;rw[e1] at k2;have g2:W1.grownBy (W1.alloc (.map #[] 0)) none:=zGA _ _ _;have e2:(W1.alloc (.map #[] 0)).heap.size=w.heap.size+2:=by simp[e1]
 generalize W1.alloc (.map #[] 0)=W2 at *;have c3:=zlw W2 #[.map (some (w.heap.size+1))] 135;rw[e2] at c3;have g3:W2.grownBy (W2.alloc (.cells #[.map (some (w.heap.size+1))] 135)) none:=zGA _ _ _;have e3:(W2.alloc (.cells #[.map (some (w.heap.size+1))] 135)).heap.size=w.heap.size+3:=by simp[e2]
 generalize W2.alloc (.cells #[.map (some (w.heap.size+1))] 135)=W3 at *;have c4:=zlw W3 #[.func (.func 120) #[] #[.pointer (some ⟨w.heap.size+2,0,none⟩),.pointer (some ⟨w.heap.size,0,none⟩)]] 96;rw[e3] at c4;have g4:=zGA W3 (.cells #[.func (.func 120) #[] #[.pointer (some ⟨w.heap.size+2,0,none⟩),.pointer (some ⟨w.heap.size,0,none⟩)]] 96) none;exact⟨⟨(g4.block _ (by omega) (by simp)).trans c3,((b1.grown g2).grown g3).grown g4,c4,by omega,by omega,by omega⟩,(k2.kept (zaa g3 g4) (by simp)),zaa g1 (zaa g2 (zaa g3 g4))⟩
def zDT (w:World):(Instr.makeMap 135 none).run prog w=.ok (.map (some w.heap.size)) (w.alloc (.map #[] 0)):=by
 simp only[Instr.makeMap,Sem.run_bind,run_underlying underlying135,Result.andThen];rfl
def zvu {w0 W:World}{b kv bx wv:Nat}{m:zah}{u:Value}{s:zac}{a:zaz}(hw:znG w0 b kv bx wv m u)(zI:zhE w0 b m W)(hs:s∈m.states)(ha:a∈s.arcs)(hf:zaZ m)(hl:(zia m).length<=100000) :
  Calls prog 121 #[.agg #[.int .i64 a.i,.int .i64 a.o,.string a.w,.int .i64 a.t],.pointer (some ⟨wv,0,none⟩)] W (zsD (zhE w0 b m) (some b) (wgtB m.kind a.w) W):=by
 have hg:=zGA W (.cells #[.int .i64 a.i,.int .i64 a.o,.string a.w,.int .i64 a.t] 78) none;have hinv2:=zI.next hg;have HC:=zHd (zlv hw hinv2 (zDQ hs ha) (hf.w s hs a ha) hl);have HG:=zHd hg;obtain⟨x0,_⟩:=one_cell (hw.at_ hinv2.1).hwv;clear hinv2 hg hw zI;go_enter func121,ntmps121;go_wp2_with fail;refine HC.out.mono ?_;rintro e w2 ⟨rfl,hi,hg2⟩;have HI:=zHd hi;have HG2:=zHd hg2;clear hi hg2;go_wp2;go_ret;exact⟨rfl,HI.out,World.grownBy.trans (zgg HG.out) HG2.out⟩
def zxL {m:zah}{k:Nat}(hk:¬ k<m.states.length)(h:∀ (j:Nat) (s:zac),j<k->m.states[j]?=some s->finB m.kind s.fin=true):m.states.all (fun s=>finB m.kind s.fin)=true:=by
 rw[List.all_eq_true];intro s hs;obtain⟨j,hj⟩:=List.mem_iff_getElem?.1 hs;exact h j s (by have:=(zqae.1 hj).1;omega) hj
def zrr {m:zah}{k:Nat}{s:zac}(hs:m.states[k]?=some s)(h:finB m.kind s.fin=false):weighedB m=false:=by
 unfold weighedB;rw[show m.states.all (fun s=>finB m.kind s.fin)=false from ?_,Bool.false_and];cases hx:m.states.all (fun s=>finB m.kind s.fin);rfl;have:=List.all_eq_true.1 hx s (zqak hs);rw[this] at h;cases h
def zvv {w:World}{v:Value}{m:zah}(hv:zan w v m)(hf:zaZ m)(hl:(zia m).length<=100000):Calls prog 85 #[v] w (zab (.bool (weighedB m)) w):=by
 obtain⟨u,rfl,hst0⟩:=hv;obtain⟨A,cap,us,rfl,hS0⟩:=zeA.of hst0;obtain⟨hb,hk,hg⟩:=zxK w m (.slice A m.states.length cap);have HS:=zHd hS0;have HB:=zHd hb;have HG:=zHd hg;have HF:=zHd hf;have HL:=zHd hl;have H0:Hid (zhE (ziA w m (.slice A m.states.length cap)) (w.heap.size+1) m (ziA w m (.slice A m.states.length cap))):=zHd ⟨World.grownBy.refl _ _,[],hk,List.nodup_nil,fun s hs=>by simp at hs⟩;have hmk:=zDT;have hn0:=hf.n;have hn1:m.states.length<=100000:=by have:=ztY m;omega
 obtain⟨x0,x1,x2,x3⟩:=hb.hbx.cells;obtain⟨y0,_⟩:=one_cell hb.hwv;clear hst0 hS0 hb hk hg hf hl;go_enter func85,ntmps85;go_wp2_with fail;have hW:ziA w m (.slice A m.states.length cap)=(((w.alloc (.cells #[.int .i64 m.kind,.int .i64 m.start,.string m.lead,.slice A m.states.length cap] 29)).alloc (.map #[] 0)).alloc (.cells #[.map (some (w.heap.size+1))] 135)).alloc (.cells #[.func (.func 120) #[] #[.pointer (some ⟨w.heap.size+2,0,none⟩),.pointer (some ⟨w.heap.size,0,none⟩)]] 96):=rfl;rw[<- hW];clear hW;generalize ziA w m (.slice A m.states.length cap)=W at *;have BEL:∀ W',zhE W (w.heap.size+1) m W'->Below w.heap.size w W':=fun W' h=>(zct HG.out).grown h.1 HG.out.size (fun k e=>by cases e;omega);have HBEL:=zHd BEL;clear BEL
 go_loopw [12] (fun i wr=>∃ k:Nat,i=.int .i64 k/\k<=m.states.length/\(∀ (j:Nat) (s:zac),j<k->m.states[j]?=some s->finB m.kind s.fin=true)/\zhE W (w.heap.size+1) m wr) (fun i _=>m.states.length-(intOf i).toNat)
 case atStart=>exact⟨0,rfl,by omega,fun j s hj=>by omega,H0.out⟩
 case round =>
  obtain⟨k,rfl,hk,hall,zI⟩:=hrel;have HALL:=zHd hall;have HINV:=zHd zI;have HB2:=zHd (HB.out.at_ zI.1);clear hall x0 x1 x2 x3 y0;obtain⟨x0,x1,x2,x3⟩:=HB2.out.hbx.cells;obtain⟨y0,_⟩:=one_cell HB2.out.hwv
  by_cases hlt:k<m.states.length
  ·obtain⟨ad,s,B,cb,hA,hs,hu,hc,hra⟩:=(HS.out.below (HBEL.out _ zI)).at_ hlt
   subst hA;obtain⟨z0,z1⟩:=hc;have n1:(k:Int)<(m.states.length:Int):=by omega
   have n2:IntKind.i64.wrap ((k:Int)+1)=(k:Int)+1:=by rw[zqah];omega
   have HSS:=zHd hs;have hinv2:=zI.next (zGA wr (.cells #[.string s.fin,.slice B s.arcs.length cb] 76) none);have HINV2:=zHd hinv2;have y1:=(one_cell (HB.out.at_ hinv2.1).hwv).1;clear hu hra zI hinv2
   by_cases hf0:s.fin.size=0
   ·have hfb:finB m.kind s.fin=true:=by unfold finB;simp[hf0]
    have b1:(s.fin.toList==[])=true:=(by rw[Lib.toList_data,beq_iff_eq,<- List.length_eq_zero_iff,zqbs];exact hf0);have b2:(s.fin.toList != [])=false:=zmy b1;have HFB:=zHd hfb;clear hfb hs;go_wp2
    go_roundw
    case rel=>exact⟨k+1,by go_num,by omega,fun j t hj ht=>by
     by_cases e:j=k
     subst e;rw[HSS.out] at ht;cases ht;exact HFB.out;exact HALL.out j t (by omega) ht,HINV2.out⟩
    case measure=>simp[intOf];omega
   have b1:(s.fin.toList==[])=false:=by
    cases h:(s.fin.toList==[]);rfl;exact zQbZ
   have b2:(s.fin.toList != [])=true:=zgI b1;have hfb:finB m.kind s.fin=wgtB m.kind s.fin:=(by unfold finB;simp[hf0]);have HFB:=zHd hfb;have HC:=zHd (zlv HB.out HINV2.out (zDP (zqak hs)) (HF.out.fin s (zqak hs)) HL.out);clear hfb hs;go_wp2_with fail;refine HC.out.mono ?_;rintro e w5 ⟨rfl,hinv5,hg5⟩;have HINV5:=zHd hinv5;have HG5:=zHd ((HBEL.out _ hinv5));clear hinv5 hg5;cases hwb:wgtB m.kind s.fin
   ·have HN:=zHd (zrr HSS.out (HFB.out.trans hwb))
    exact zQct
   have HF1:=zHd (HFB.out.trans hwb);clear hwb;go_wp2
   go_roundw
   case rel=>exact⟨k+1,by go_num,by omega,fun j t hj ht=>by
    by_cases e:j=k
    subst e;rw[HSS.out] at ht;cases ht;exact HF1.out;exact HALL.out j t (by omega) ht,HINV5.out⟩
   case measure=>simp[intOf];omega
  have n1:¬ (k:Int)<(m.states.length:Int):=by omega
  have HFI:=zHd (zxL hlt HALL.out);have HC:=zHd (zlv HB.out zI (show m.lead∈zia m from zqbm ..) HF.out.lead HL.out);clear zI;go_wp2_with fail;refine HC.out.mono ?_;rintro e w5 ⟨rfl,hinv5,hg5⟩;have HINV5:=zHd hinv5;have HG5:=zHd ((HBEL.out _ hinv5));clear x0 x1 x2 x3 y0;obtain⟨x0,x1,x2,x3⟩:=(HB.out.at_ hinv5.1).hbx.cells;clear hinv5 hg5;cases hwb:wgtB m.kind m.lead
  ·have HN:Hid (weighedB m=false):=zHd (by unfold weighedB;rw[hwb];simp)
   exact zQct
  have HE:Hid (weighedB m=ziM (fun a=>wgtB m.kind a.w) m):=zHd (by unfold weighedB;rw[hwb,HFI.out];rfl)
  have hall:=zwp (w:=w5) (A:=A) (cap:=cap) (us:=us) (m:=m) (Inv:=zhE W (w.heap.size+1) m) (r:=some (w.heap.size+1)) (F:=121) (lb:=#[.pointer (some ⟨w.heap.size+3,0,none⟩)]) (P:=fun a=>wgtB m.kind a.w) zrq
   (fun W1 W2 h1 h2=>h1.next h2) (fun W1 h1=>HS.out.below (HBEL.out _ h1)) (fun k e=>by cases e;have:=HB.out.hwv;have:=lt_of_block this;have:=HINV5.out.1.size;omega) HINV5.out
   (fun W1 s a hI hs ha=>zvu HB.out hI hs ha HF.out HL.out) HF.out.n HF.out.arcs
  have HA:=zHd hall;clear hall hwb;go_wp2_with fail;refine HA.out.mono ?_;rintro e w6 ⟨rfl,hinv6,hg6⟩;have HG6:=zHd (HBEL.out _ hinv6);clear hinv6 hg6;cases hb:ziM (fun a=>wgtB m.kind a.w) m
  all_goals
   rw[hb] at HE;clear hb;go_wp2;go_ret;exact⟨by rw[HE.out];rfl,zdE HG6.out⟩
def zua {w:World}{v:Value}{m:zah}(hv:zan w v m)(hf:zaZ m)(h:fitsB m=true):Calls prog 85 #[v] w (zab (.bool (weighedB m)) w):=by
 refine zvv hv hf ?_;unfold fitsB at h;simp only[zqbb,zqca] at h;rw[ztY];omega
def zhF {w:World}{v:Value}{m:zah}(hv:zan w v m)(hf:zaZ m):Calls prog 62 #[v] w (zab (.bool (validB m)) w):=by
 have zf:=fun w' (h:w.grownBy w' none)=>zDR (hv.grown h) hf;have hwei:=fun w' (h:w.grownBy w' none)=>zua (hv.grown h) hf;have HSP:=zHd (zvt m);obtain⟨u,rfl,hst0⟩:=hv;have hg:w.grownBy (w.alloc (.cells #[.int .i64 m.kind,.int .i64 m.start,.string m.lead,u] 29)) none:=zGA _ _ _;have hbx:=zaf.new w m u;have HFI:=zHd zf;have HWE:=zHd hwei;have HBX:=zHd hbx;have HG:=zHd hg;obtain⟨x0,x1,x2,x3⟩:=hbx.cells;clear zf hwei hbx hg hst0;go_enter func62,ntmps62;go_wp2_with fail;refine(HFI.out _ HG.out).mono ?_;rintro e w1 ⟨rfl,hg1⟩;generalize hW:w.alloc (.cells #[.int .i64 m.kind,.int .i64 m.start,.string m.lead,u] 29)=W at *;clear hW x0 x1 x2 x3;have HG1:=zHd (zaa HG.out hg1);obtain⟨x0,x1,x2,x3⟩:=(HBX.out.grown hg1).cells;clear hg1;cases hB:fitsB m
 ·have HN:Hid (validB m=false):=zHd (by rw[HSP.out,hB];rfl)
  clear hB;go_wp2;go_ret;exact⟨by rw[HN.out];rfl,HG1.out⟩
 have HB:=zHd hB;clear hB;go_wp2_with fail;refine(HWE.out _ HG1.out HB.out).mono ?_;rintro e w2 ⟨rfl,hg2⟩;have HG2:=zHd (zaa HG1.out hg2);clear hg2;cases hB:weighedB m
 all_goals
  have HE:Hid (validB m=_):=zHd ((HSP.out.trans (by rw[HB.out,hB])));clear hB;exact zQbs
end
section
open Go.RowKit Go.Maps
instance:LawfulBEq ByteArray where
 eq_of_beq {a b} h:=ByteArray.ext (eq_of_beq (α:=Array UInt8) h)
 rfl {a}:=beq_self_eq_true (α:=Array UInt8) a.data
def zfb (w:World)(v:Value)(n:Nat)(ln:Nat->Nat)(G:Nat->Nat->ByteArray):Prop :=
 ∃ rs:Nat->Value,zev w v n rs/\∀ i,i<n->zev w (rs i) (ln i) (fun j=>.string (G i j))
def zfb.grown {w w':World}{v:Value}{n:Nat}{ln:Nat->Nat}{G:Nat->Nat->ByteArray}(h:zfb w v n ln G)(hg:w.grownBy w' none):zfb w' v n ln G:=by
 exact zQch
def zAR (k:Int)(n:Nat)(ln:Nat->Nat)(G:Nat->Nat->ByteArray):Prop:=zam k/\(∀ i,i<n->ln i=n)/\∀ i j,i<n->j<n->∃ v,Val k (G i j) v
def zgv (P:Prop)(w:World)(e:Ending)(w':World):Prop:=∃ b:Bool,e=.returned (.bool b)/\(b=true↔P)/\w.grownBy w' none
def zgv.yes {P:Prop}{w w':World}(h:P)(hg:w.grownBy w' none):zgv P w (.returned (.bool true)) w':=⟨true,rfl,⟨fun _=>h,fun _=>rfl⟩,hg⟩
def zgv.no {P:Prop}{w w':World}(h:¬ P)(hg:w.grownBy w' none):zgv P w (.returned (.bool false)) w':=⟨false,rfl,⟨fun e=>by simp at e,fun e=>absurd e h⟩,hg⟩
end
open Go.RowKit
def zvw {w w':World}{b:Nat}(h:w.grownBy w' (some b))(hb:w.heap.size<=b):w.grownBy w' none:=⟨h.os,h.tape,h.output,h.size,fun i hi _=>h.block i hi (by simp;omega)⟩
end Go.Proofs.YtadgpgofcjpnjaaGreatDoor
