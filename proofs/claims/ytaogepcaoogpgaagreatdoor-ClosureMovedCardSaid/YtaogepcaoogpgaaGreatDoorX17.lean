/- W19 W20 W89 W92 W94 W95 -/
import Derived.Test.YtaogepcaoogpgaaGreatDoorX16
import Derived.StillTailTactics
set_option linter.unusedVariables false
set_option linter.unusedSimpArgs false
set_option maxRecDepth 100000
set_option maxHeartbeats 16000000
namespace Go.Proofs.YtaogepcaoogpgaaGreatDoor
open Go.RowKit
structure MArc where
 i:Int
 o:Int
 w:ByteArray
 t:Int
deriving DecidableEq
structure zag where
 fin:ByteArray
 arcs:List MArc
deriving DecidableEq
structure Mach where
 kind:Int
 start:Int
 lead:ByteArray
 states:List zag
deriving DecidableEq
theorem flat_get {α β:Type}(f:α→List β)(n:Nat)(hn:∀ a,(f a).length=n):∀ (l:List α) (k j:Nat) (a:α),l[k]? = some a→j<n→(l.flatMap f)[k * n+j]? = (f a)[j]?
 | [],k,j,a,h,_=>by simp at h
 | x::l,0,j,a,h,hj=>by
  simp only[List.getElem?_cons_zero,Option.some.injEq] at h;subst h;rw[List.flatMap_cons,Nat.zero_mul,Nat.zero_add,List.getElem?_append_left (by rw[hn];exact hj)]
 | x::l,k+1,j,a,h,hj=>by
  rw[List.getElem?_cons_succ] at h;rw[List.flatMap_cons,List.getElem?_append_right (by rw[hn,Nat.succ_mul];omega),hn,show(k+1) * n+j - n=k * n+j by rw[Nat.succ_mul];omega];exact flat_get f n hn l k j a h hj
theorem zmI {α β:Type}(f:α→List β)(n:Nat)(hn:∀ a,(f a).length=n):∀ l:List α,(l.flatMap f).length=l.length * n
 | []=>by simp
 | x::l=>by rw[List.flatMap_cons,List.length_append,hn,zmI f n hn l,List.length_cons,Nat.succ_mul];omega
def arcC (a:MArc):List Value:=[.int .i64 a.i,.int .i64 a.o,.string a.w,.int .i64 a.t]
def stC (p:zag × Value):List Value:=[.string p.1.fin,p.2]
theorem zhy (a:MArc):(arcC a).length=4:=rfl
theorem zdJ (p:zag × Value):(stC p).length=2:=rfl
def zbW (w:World)(v:Value)(l:List MArc):Prop:=∃ A cap,v = .slice A l.length cap∧Reads w w.heap.size 4 A l.length (l.flatMap arcC)
def StSl (w:World)(v:Value)(l:List zag):Prop:=∃ A cap us,v = .slice A l.length cap∧us.length=l.length∧Reads w w.heap.size 2 A l.length ((l.zip us).flatMap stC)∧∀ (k:Nat) (s:zag) (u:Value),l[k]? = some s→us[k]? = some u→zbW w u s.arcs
def zbX (w:World)(v:Value)(m:Mach):Prop:=∃ u,v = .agg #[.int .i64 m.kind,.int .i64 m.start,.string m.lead,u]∧StSl w u m.states
theorem zbW.below {w w':World}{v:Value}{l:List MArc}(h:zbW w v l)(hb:Below w.heap.size w w'):zbW w' v l:=by
 obtain⟨A,cap,hv,hr⟩:=h;exact⟨A,cap,hv,(hr.below hb).more hb.size⟩
theorem StSl.below {w w':World}{v:Value}{l:List zag}(h:StSl w v l)(hb:Below w.heap.size w w'):StSl w' v l:=by
 obtain⟨A,cap,us,hv,hl,hr,ha⟩:=h;exact⟨A,cap,us,hv,hl,(hr.below hb).more hb.size,fun k s u hs hu=>(ha k s u hs hu).below hb⟩
theorem zbX.below {w w':World}{v:Value}{m:Mach}(h:zbX w v m)(hb:Below w.heap.size w w'):zbX w' v m:=by
 obtain⟨u,hv,hs⟩:=h;exact⟨u,hv,hs.below hb⟩
theorem zbW.nil (w:World):zbW w (.slice none 0 0) []:=⟨none,0,rfl,Reads.none_⟩
theorem StSl.nil (w:World):StSl w (.slice none 0 0) []:=⟨none,0,[],rfl,rfl,Reads.none_,fun k s u hs=>by simp at hs⟩
theorem zBj (ad:Addr)(n j:Nat)(hj:0<j):ad.add (n+j) = { block:=(ad.add n).block,off:=(ad.add n).off+j,spot:=none }:=by
 unfold Addr.add;rw[if_neg (by omega)]
 by_cases h:n=0
 ·simp[h]
 ·simp[h,Nat.add_assoc]
theorem zgJ {w:World}{ad:Addr}{n j:Nat}{v:Value}(h:w.cell? (ad.add (n+j))=some v)(hj:0<j):w.cell? { block:=(ad.add n).block,off:=(ad.add n).off+j,spot:=none }=some v:=by
 rw[← zBj ad n j hj];exact h
structure zFd (w:World)(p:Addr)(a:MArc):Prop where
 c0:w.cell? p=some (.int .i64 a.i)
 c1:w.cell? { block:=p.block,off:=p.off+1,spot:=none }=some (.int .i64 a.o)
 c2:w.cell? { block:=p.block,off:=p.off+2,spot:=none }=some (.string a.w)
 c3:w.cell? { block:=p.block,off:=p.off+3,spot:=none }=some (.int .i64 a.t)
structure zgX (w:World)(p:Addr)(f:ByteArray)(u:Value):Prop where
 c0:w.cell? p=some (.string f)
 c1:w.cell? { block:=p.block,off:=p.off+1,spot:=none }=some u
theorem zgX.below {w w':World}{B:Nat}{p:Addr}{f:ByteArray}{u:Value}(h:zgX w p f u)(hb:Below B w w')(hp:p.block<B):zgX w' p f u :=
 ⟨(hb.cell hp).trans h.c0,(hb.cell (p:=⟨p.block,p.off+1,none⟩) hp).trans h.c1⟩
theorem ziJ {w:World}{A:Option Addr}{l:List MArc}{k:Nat}(h:Reads w w.heap.size 4 A l.length (l.flatMap arcC))(hk:k<l.length) :
  ∃ ad a,A=some ad∧ad.block<w.heap.size∧l[k]? = some a∧zFd w (ad.add (k * 4)) a:=by
 obtain⟨ad,hA,hb,hc⟩:=h.2 (by omega);have hx:l[k]? = some l[k]:=List.getElem?_eq_getElem hk;exact⟨ad,l[k],hA,hb,hx,hc _ _ (flat_get arcC 4 zhy l k 0 _ hx (by omega)),zgJ (hc _ _ (flat_get arcC 4 zhy l k 1 _ hx (by omega))) (by omega),zgJ (hc _ _ (flat_get arcC 4 zhy l k 2 _ hx (by omega))) (by omega),zgJ (hc _ _ (flat_get arcC 4 zhy l k 3 _ hx (by omega))) (by omega)⟩
theorem zqA {w:World}{A:Option Addr}{l:List zag}{us:List Value}{k:Nat}(h:Reads w w.heap.size 2 A l.length ((l.zip us).flatMap stC))(hl:us.length=l.length)(hk:k<l.length) :
  ∃ ad s u,A=some ad∧ad.block<w.heap.size∧l[k]? = some s∧us[k]? = some u∧zgX w (ad.add (k * 2)) s.fin u:=by
 obtain⟨ad,hA,hb,hc⟩:=h.2 (by omega);have hx:l[k]? = some l[k]:=List.getElem?_eq_getElem hk;have hu:us[k]? = some (us[k]'(by omega)):=List.getElem?_eq_getElem (by omega);have hz:(l.zip us)[k]? = some (l[k],us[k]'(by omega)):=by rw[List.getElem?_zip_eq_some];exact⟨hx,hu⟩
 exact⟨ad,_,_,hA,hb,hx,hu,hc _ _ (flat_get stC 2 zdJ _ k 0 _ hz (by omega)),zgJ (hc _ _ (flat_get stC 2 zdJ _ k 1 _ hz (by omega))) (by omega)⟩
def zao (w:World)(g:Nat)(m:Mach)(u:Value):Prop:=w.heap[g]? = some (.cells #[.int .i64 m.kind,.int .i64 m.start,.string m.lead,u] 31 (0,0))
structure BoxC (w:World)(g:Nat)(m:Mach)(u:Value):Prop where
 c0:w.cell? ⟨g,0,none⟩=some (.int .i64 m.kind)
 c1:w.cell? ⟨g,1,none⟩=some (.int .i64 m.start)
 c2:w.cell? ⟨g,2,none⟩=some (.string m.lead)
 c3:w.cell? ⟨g,3,none⟩=some u
theorem zao.cells {w:World}{g:Nat}{m:Mach}{u:Value}(h:zao w g m u):BoxC w g m u :=
 ⟨by rw[cell_of_row w g 0 _ _ (0,0) h];rfl,by rw[cell_of_row w g 1 _ _ (0,0) h];rfl,by rw[cell_of_row w g 2 _ _ (0,0) h];rfl,by rw[cell_of_row w g 3 _ _ (0,0) h];rfl⟩
theorem zao.new (w:World)(m:Mach)(u:Value):zao (w.alloc (.cells #[.int .i64 m.kind,.int .i64 m.start,.string m.lead,u] 31)) w.heap.size m u:=by
 show(w.heap.push _)[w.heap.size]? = _;rw[Array.getElem?_push_size]
theorem zao.below {w w':World}{g B:Nat}{m:Mach}{u:Value}(h:zao w g m u)(hb:Below B w w')(hg:g<B):zao w' g m u:=(hb.block g hg).trans h
theorem zao.lt {w:World}{g:Nat}{m:Mach}{u:Value}(h:zao w g m u):g<w.heap.size:=(Array.getElem?_eq_some_iff.1 h).1
def zaY (l:List zag):Nat:=(l.map (fun s=>s.arcs.length)).sum
theorem zoc (l:List zag)(s:zag):zaY (l++[s])=zaY l+s.arcs.length:=by unfold zaY;simp
theorem ztq (l k:List zag):zaY (l++k)=zaY l+zaY k:=by unfold zaY;simp
theorem zxY (l:List zag){k:Nat}(hk:k≤l.length):zaY (l.take k)≤zaY l:=by
 have:=ztq (l.take k) (l.drop k);rw[List.take_append_drop] at this
 omega
theorem zcK {α:Type}{L:List α}{k:Nat}{x:α}(h:L[k]? = some x):L.take (k+1)=L.take k++[x]:=by
 rw[List.take_add_one,h];rfl
open Go.RowKit
open Classical in
noncomputable def wgtB (k:Int)(a:ByteArray):Bool:=decide (∃ v,Wgt k a v)
theorem zmJ {k:Int}{a:ByteArray}{v:Ext}(h:Wgt k a v):wgtB k a=true:=by unfold wgtB;simp;exact⟨v,h⟩
theorem zmK {k:Int}{a:ByteArray}(h:wgtB k a=true):∃ v,Wgt k a v:=by unfold wgtB at h;simpa using h
theorem zqB (k:Int):zeD k=true↔(k=1∨k=2∨k=3):=by unfold zeD;simp
noncomputable def arcB (k:Int)(n:Nat)(a:MArc):Bool:=decide (0≤a.i∧a.i≤500∧0≤a.o∧a.o≤500∧0≤a.t∧a.t<(n:Int))&&wgtB k a.w
noncomputable def finB (k:Int)(f:ByteArray):Bool:=decide (f.size=0) || wgtB k f
noncomputable def stB6 (k:Int)(n:Nat)(s:zag):Bool:=finB k s.fin&&s.arcs.all (arcB k n)
noncomputable def headB (m:Mach):Bool:=zeD m.kind&&decide (1≤m.states.length∧m.states.length≤3000∧0≤m.start∧m.start<(m.states.length:Int))&&wgtB m.kind m.lead
noncomputable def validB (m:Mach):Bool:=headB m&&decide (zaY m.states≤30000)&&m.states.all (stB6 m.kind m.states.length)
structure zer (m:Mach):Prop where
 n:m.states.length≤140737488355328
 lead:m.lead.size≤maxLen
 fin:∀ s∈m.states,s.fin.size≤maxLen
 arcs:∀ s∈m.states,s.arcs.length≤140737488355328
 w:∀ s∈m.states,∀ a∈s.arcs,a.w.size≤maxLen
theorem zfs {m:Mach}(h:validB m=true){k:Nat}{s:zag}(hs:m.states[k]? = some s):stB6 m.kind m.states.length s=true:=by
 unfold validB at h;simp only[Bool.and_eq_true,List.all_eq_true] at h;exact h.2 s (List.mem_of_getElem? hs)
theorem zjs {m:Mach}(h:validB m=true):zaY m.states≤30000:=by
 unfold validB at h;simp only[Bool.and_eq_true,decide_eq_true_eq] at h;exact h.1.2
theorem zdy {m:Mach}(h:validB m=true):headB m=true:=by
 unfold validB at h;simp only[Bool.and_eq_true] at h;exact h.1.1
theorem zdz {m:Mach}(h:headB m=true):zeD m.kind=true∧1≤m.states.length∧m.states.length≤3000∧0≤m.start∧m.start<(m.states.length:Int)∧wgtB m.kind m.lead=true:=by
 unfold headB at h;simp only[Bool.and_eq_true,decide_eq_true_eq] at h;exact⟨h.1.1,h.1.2.1,h.1.2.2.1,h.1.2.2.2.1,h.1.2.2.2.2,h.2⟩
theorem zeB {k:Int}{n:Nat}{s:zag}(h:stB6 k n s=true):finB k s.fin=true∧∀ a∈s.arcs,arcB k n a=true:=by
 unfold stB6 at h
 simpa using h
theorem zgq {k:Int}{n:Nat}{a:MArc}(h:arcB k n a=true):0≤a.i∧a.i≤500∧0≤a.o∧a.o≤500∧0≤a.t∧a.t<(n:Int)∧wgtB k a.w=true:=by
 unfold arcB at h;simp only[Bool.and_eq_true,decide_eq_true_eq] at h;exact⟨h.1.1,h.1.2.1,h.1.2.2.1,h.1.2.2.2.1,h.1.2.2.2.2.1,h.1.2.2.2.2.2,h.2⟩
theorem zqC {l:List zag}{s:zag}(h:s∈l):s.arcs.length≤zaY l:=by
 obtain⟨k,hk⟩:=List.mem_iff_getElem?.1 h;have h1:=zxY l (show k+1≤l.length by have:=(List.getElem?_eq_some_iff.1 hk).1;omega);rw[zcK hk,zoc] at h1
 omega
theorem zaO {w w':World}(h:w.grownBy w' none):Below w.heap.size w w':=below_grown h (Nat.le_refl _) (by simp)
theorem zbX.grown {w w':World}{v:Value}{m:Mach}(h:zbX w v m)(hg:w.grownBy w' none):zbX w' v m:=h.below (zaO hg)
theorem zao.grown {w w':World}{g:Nat}{m:Mach}{u:Value}(h:zao w g m u)(hg:w.grownBy w' none):zao w' g m u:=(hg.block g h.lt (by simp)).trans h
inductive RFrom (succ:Nat→List Nat) (S:Nat→Prop):Nat→Prop
 | start {x:Nat}:S x→RFrom succ S x
 | step {x y:Nat}:RFrom succ S x→y∈succ x→RFrom succ S y
def zaF (m:Mach)(x:Nat):List Nat:=match m.states[x]? with
 | some s=>s.arcs.map (fun a=>a.t.toNat)
 | none=>[]
theorem zhZ {m:Mach}{x:Nat}{s:zag}(h:m.states[x]? = some s):zaF m x=s.arcs.map (fun a=>a.t.toNat):=by unfold zaF;rw[h]
open Go.RowKit
open Go.RowKit
theorem zwt (w:World)(a:MArc):zFd (w.alloc (.cells #[.int .i64 a.i,.int .i64 a.o,.string a.w,.int .i64 a.t] 59)) ⟨w.heap.size,0,none⟩ a:=by
 have hrow:(w.alloc (.cells #[.int .i64 a.i,.int .i64 a.o,.string a.w,.int .i64 a.t] 59)).heap[w.heap.size]? = some (.cells #[.int .i64 a.i,.int .i64 a.o,.string a.w,.int .i64 a.t] 59 (0,0)):=by
  show(w.heap.push _)[w.heap.size]? = _;rw[Array.getElem?_push_size]
 exact⟨by rw[cell_of_row _ w.heap.size 0 _ _ (0,0) hrow];rfl,by show World.cell? _ ⟨w.heap.size,0+1,none⟩=_;rw[cell_of_row _ w.heap.size 1 _ _ (0,0) hrow];rfl,by show World.cell? _ ⟨w.heap.size,0+2,none⟩=_;rw[cell_of_row _ w.heap.size 2 _ _ (0,0) hrow];rfl,by show World.cell? _ ⟨w.heap.size,0+3,none⟩=_;rw[cell_of_row _ w.heap.size 3 _ _ (0,0) hrow];rfl⟩
open Go.RowKit
section
variable {k:Int}
def solV (k:Int)(g o n c:Nat):Value := .agg #[.int .i64 k,.string (zaf k),.string (oneT k),.slice (some ⟨g,o,none⟩) n c]
def putF (hk:zad k)(A F:Nat→El k)(j:Nat):El k:=zaN (srE k hk) (fun j=>A (j+1)) (fun _=>A 0) (fun _=>F) 1 j
def zGo (hk:zad k)(m:Nat)(A F:Nat→El k):Prop:=zcN (srE k hk) FitE 1 m (fun j=>A (j+1)) (fun _=>A 0) (fun _=>F)
theorem zam.tail {w:World}{g o n:Nat}{L:Nat→Value}(h:zam w g o (n+1) L):zam w g (o+1) n (fun j=>L (j+1)) :=
 ⟨h.1,fun j hj=>by rw[Nat.add_assoc,Nat.add_comm 1 j];exact h.2 (j+1) (by omega)⟩
theorem zam.head {w:World}{g o n m:Nat}{L:Nat→Value}(h:zam w g o n L)(hm:m≤n):zam w g o m L:=⟨h.1,fun j hj=>h.2 j (by omega)⟩
theorem zpH (w:World)(u:Value)(T:TypeId):zam (w.alloc (.cells #[u] T)) w.heap.size 0 1 (fun _=>u):=by
 refine⟨by simp,fun j hj => ?_⟩;obtain rfl:j=0:=by omega
 exact zak w #[u] T rfl
theorem zuY (hk:zad k)(m g0 off c0 gs os cs:Nat)(A F:Nat→El k)(w:World)(hm0:1≤m)(hm:m≤10000)(hA:zam w g0 off (m+1) (txs A))(hc1:m+1≤c0)(hc2:c0≤maxLen)
  (hF:zam w gs os m (txs F)) (hs1:m≤cs) (hs2:cs≤maxLen) (hAf:∀ j,j<m+1→FitE (A j)) (hFf:∀ j,j<m→FitE (F j)) :
  Calls Tryz.prog 132 #[solV k gs os m cs,.slice (some ⟨g0,off,none⟩) (m+1) c0] w (zbo (zGo hk m A F) (fun v w'=>∃ g o c,v = .slice (some ⟨g,o,none⟩) m c∧m≤c∧c≤maxLen∧(g=g0∨w.heap.size≤g)∧zam w' g o m (txs (putF hk A F))) w):=by
 have hW:w.grownBy (w.alloc (.cells #[.int .i64 k,.string (zaf k),.string (oneT k),.slice (some ⟨gs,os,none⟩) m cs] 124)) none:=zGA _ _ none;have x0:=zak w #[.int .i64 k,.string (zaf k),.string (oneT k),.slice (some ⟨gs,os,none⟩) m cs] 124 (j:=0) rfl;have x1:=zak w #[.int .i64 k,.string (zaf k),.string (oneT k),.slice (some ⟨gs,os,none⟩) m cs] 124 (j:=1) rfl;have x2:=zak w #[.int .i64 k,.string (zaf k),.string (oneT k),.slice (some ⟨gs,os,none⟩) m cs] 124 (j:=2) rfl;have x3:=zak w #[.int .i64 k,.string (zaf k),.string (oneT k),.slice (some ⟨gs,os,none⟩) m cs] 124 (j:=3) rfl
 have hsum:=fun(Z:World) (hZ:w.grownBy Z none) (gz:Nat) (hz:zam Z gz 0 1 (fun _ => .slice (some ⟨gs,os,none⟩) m cs)) =>
  zmD hk 1 m g0 (off+1) (c0 - 1) (fun j=>A (j+1)) (fun _=>A 0) (fun _=>F) (.slice (some ⟨g0,off,none⟩) 1 c0) (.slice (some ⟨gz,0,none⟩) 1 1) (fun _ => .slice (some ⟨gs,os,none⟩) m cs) Z hm (by omega)
   ((hA.grown hZ).tail) (by omega) (by omega) (((hA.grown hZ).head (m:=1) (by omega)).row (by omega) hc2 |> fun h=>by
     obtain⟨Ad,cap,e,h1,h2,h3⟩:=h;refine⟨Ad,cap,e,h1,h2,fun j hj => ?_⟩;obtain rfl:j=0:=by omega
     exact h3 0 hj) (fun j hj=>hAf 0 (by omega)) (fun j hj=>hAf (j+1) (by omega)) (hz.row (Nat.le_refl _) (by unfold maxLen;omega)) (fun i hi=>(hF.grown hZ).row hs1 hs2) (fun i hi j hj=>hFf j hj)
 have HS:=zHd hsum;have HX:=zHd (zAI x0 (zAI x1 (zAI x2 (zAI x3 hW))));have i1:¬ (c0:Int)<1:=by omega
 have i2:(1:Int)≤(m:Int)+1:=by omega
 have i3:¬ c0=1:=by omega
 have i5:(1:Int)≤(c0:Int):=by omega
 have i6:1≤c0:=by omega
 have i7:(1:Int)≤((m+1:Nat):Int):=by omega
 have i8:((m+1:Nat):Int)≤(c0:Int):=by omega
 clear hsum x0 x1 x2 x3 hA hF hAf hFf hs1 hs2;unfold solV calV at *;go_enter Tryz.func132,Tryz.ntmps132;go_upto_region 1 with(fail)
 obtain⟨x0,x1,x2,x3,hW⟩:=HX.out;have hbs:w.heap.size<(w.alloc (.cells #[.int .i64 k,.string (zaf k),.string (oneT k),.slice (some ⟨gs,os,none⟩) m cs] 124)).heap.size:=by simp
 generalize w.alloc (.cells #[.int .i64 k,.string (zaf k),.string (oneT k),.slice (some ⟨gs,os,none⟩) m cs] 124)=W at *;have d0:W.drew.cell? ⟨w.heap.size,0,none⟩=some (.int .i64 k):=x0;have d1:W.drew.cell? ⟨w.heap.size,1,none⟩=some (.string (zaf k)):=x1;have d2:W.drew.cell? ⟨w.heap.size,2,none⟩=some (.string (oneT k)):=x2;have d3:W.drew.cell? ⟨w.heap.size,3,none⟩=some (.slice (some ⟨gs,os,none⟩) m cs):=x3;have hgz:w.grownBy ((W.alloc (.cells #[.slice (some ⟨gs,os,none⟩) m cs] 33)).drew) none:=zaa (zaa hW (zGA _ _ none)) (zae _ none);have hcall:=HS.out ((W.alloc (.cells #[.slice (some ⟨gs,os,none⟩) m cs] 33)).drew) hgz W.heap.size ((zpH W (.slice (some ⟨gs,os,none⟩) m cs) 33).grown (zae _ none));have hga:W.grownBy ((W.alloc (.cells #[.slice (some ⟨gs,os,none⟩) m cs] 33)).drew) none:=zaa (zGA _ _ none) (zae _ none);have z0:=hga.cell x0 (by simp);have z1:=hga.cell x1 (by simp);have z2:=hga.cell x2 (by simp);have z3:=hga.cell x3 (by simp);have HC:=zHd hcall;have HG:=zHd hgz;clear x0 x1 x2 x3 hW hcall hgz hga HS HX
 go_region_with (go_at_call 82;refine HC.out.mono ?_;rintro e w6 (⟨hp,v,rfl,⟨g,o,c,rfl,hc3,hc4,hgg,hrw⟩,hg6⟩|⟨hn,rfl,hg6⟩);rotate_left 1;(exact⟨rfl,.inr ⟨hn,rfl,zaa HG.out hg6⟩⟩);have HP6:=zHd (zAI hp (zAI hc3 (zAI hc4 (zAI hgg (zAI hrw hg6)))));clear hp hc3 hc4 hgg hrw hg6)
 all_goals
  go_wp2;go_ret;obtain⟨hp,hc3,hc4,hgg,hrw,hg6⟩:=HP6.out;refine .inl ⟨hp,_,rfl,⟨g,o,c,rfl,hc3,hc4,?_,hrw⟩,zaa HG.out hg6⟩;rcases hgg with h|h
  ·exact .inl h
  ·exact .inr (Nat.le_trans HG.out.size h)
end
open Go.RowKit
section
variable {k:Int}
theorem zBk (k:Int)(w:World):Calls Tryz.prog 73 #[.int .i64 k] w (zab (calV k) w):=by
 have hz:=fun w'=>zqr k w';have ho:=fun w'=>zjl k w';have hs0:∀ w1:World,(w.alloc (.cells #[.int .i64 0,.string ⟨#[]⟩,.string ⟨#[]⟩] 62)).grownBy w1 none→w1.heap[w.heap.size]? = some (.cells #[.int .i64 0,.string ⟨#[]⟩,.string ⟨#[]⟩] 62 (0,0)):=fun w1 h=>(h.block w.heap.size (by simp) (by simp)).trans (zau w _);have HZ:=zHd hz;have HO:=zHd ho;have HS:=zHd hs0;clear hz ho hs0;unfold calV;go_enter Tryz.func73,Tryz.ntmps73;go_wp2_with fail;refine(HZ.out _).mono ?_;rintro e w1 ⟨rfl,hg1⟩;go_wp2_with fail;refine(HO.out _).mono ?_;rintro e w2 ⟨rfl,hg2⟩;have hgA:=zaa hg1 hg2;have hb:=HS.out w2 hgA;have q0:=cell_of_row w2 _ 0 _ _ (0,0) hb;have q1:=cell_of_row w2 _ 1 _ _ (0,0) hb;have q2:=cell_of_row w2 _ 2 _ _ (0,0) hb;have z0:=frozen_of_row w2 w.heap.size 0 _ _ hb;have z1:=frozen_of_row w2 w.heap.size 1 _ _ hb;have z2:=frozen_of_row w2 w.heap.size 2 _ _ hb;have HG:=zHd (zaa (zGA w _ none) hgA);clear hg1 hg2 hgA hb;go_wp2;refine bodyPost_ret (v := .agg #[.int .i64 k,.string (zaf k),.string (oneT k)]) ?_ rfl ⟨rfl,?_⟩
 ·simp[results,Tryz.results73,go_sem,q0,q1,q2]
 ·exact zai (zai (zai HG.out (zac _ _ _) (Nat.le_refl _)) (zac _ _ _) (Nat.le_refl _)) (zac _ _ _) (Nat.le_refl _)
theorem zlI (k:Int)(w:World):Calls Tryz.prog 42 #[.int .i64 k] w (zab (calV k) w):=by
 have hz:=fun w'=>zBk k w';have hs0:∀ w1:World,(w.alloc (.cells #[.int .i64 0,.string ⟨#[]⟩,.string ⟨#[]⟩] 64)).grownBy w1 none→w1.heap[w.heap.size]? = some (.cells #[.int .i64 0,.string ⟨#[]⟩,.string ⟨#[]⟩] 64 (0,0)):=fun w1 h=>(h.block w.heap.size (by simp) (by simp)).trans (zau w _);have HZ:=zHd hz;have HS:=zHd hs0;clear hz hs0;unfold calV at *;go_enter Tryz.func42,Tryz.ntmps42;go_wp2_with fail;refine(HZ.out _).mono ?_;rintro e w2 ⟨rfl,hgA⟩;have hb:=HS.out w2 hgA;have q0:=cell_of_row w2 _ 0 _ _ (0,0) hb;have q1:=cell_of_row w2 _ 1 _ _ (0,0) hb;have q2:=cell_of_row w2 _ 2 _ _ (0,0) hb;have z0:=frozen_of_row w2 w.heap.size 0 _ _ hb;have z1:=frozen_of_row w2 w.heap.size 1 _ _ hb;have z2:=frozen_of_row w2 w.heap.size 2 _ _ hb;have HG:=zHd (zaa (zGA w _ none) hgA);clear hgA hb;go_wp2;refine bodyPost_ret (v := .agg #[.int .i64 k,.string (zaf k),.string (oneT k)]) ?_ rfl ⟨rfl,?_⟩
 ·simp[results,Tryz.results42,go_sem,q0,q1,q2]
 ·exact zai (zai (zai HG.out (zac _ _ _) (Nat.le_refl _)) (zac _ _ _) (Nat.le_refl _)) (zac _ _ _) (Nat.le_refl _)
def zcc (w:World)(g:Nat)(k:Int):Prop:=w.cell? ⟨g,0,none⟩=some (.int .i64 k)∧w.cell? ⟨g,1,none⟩=some (.string (zaf k))∧w.cell? ⟨g,2,none⟩=some (.string (oneT k))
theorem zcc.grown {w w':World}{g:Nat}(h:zcc w g k)(hg:w.grownBy w' none):zcc w' g k:=⟨hg.cell h.1 (by simp),hg.cell h.2.1 (by simp),hg.cell h.2.2 (by simp)⟩
theorem zxZ (hk:zad k)(f:Nat→El k)(κ:Nat→Nat)(n K g1 g2 g3:Nat)(Ac Ar:Option Addr)(cc cr:Nat)(fv:Value)(w:World)(hn:n≤10000)(hK:K≤10000)(hκ:∀ j,j<n→κ j<K)(hf:RowR w fv n (fun j=>Value.string (tx (f j))))(hff:∀ j,j<n→FitE (f j))
  (hcal:zcc w g1 k) (hcv:w.cell? ⟨g2,0,none⟩=some (.slice Ac n cc)) (hrv:w.cell? ⟨g3,0,none⟩=some (.slice Ar K cr)) (hc:RowR w (.slice Ac n cc) n (fun j => .int .i64 ((κ j:Nat):Int))) :
  Calls Tryz.prog 79 #[fv,.pointer (some ⟨g1,0,none⟩),.pointer (some ⟨g2,0,none⟩),.pointer (some ⟨g3,0,none⟩)] w (zbo (∀ s,s<n→FitE (mrgP hk f κ (s+1) (κ s))) (fun v w'=>∃ g,v = .slice (some ⟨g,0,none⟩) K K∧w.heap.size≤g∧zam w' g 0 K (fun d => .string (tx (mrgP hk f κ n d)))) w):=by
 have h:=zxX hk f κ n K fv (.slice Ac n cc) w hn hK hκ hf hff hc;obtain⟨c0,c1,c2⟩:=hcal;obtain⟨Af,cf,rfl,-⟩:=hf;have H:=zHd h;clear h hc hκ hff;unfold calV at H;go_enter Tryz.func79,Tryz.ntmps79;go_wp2_with fail;refine H.out.mono ?_;rintro e w1 (⟨hp,v,rfl,⟨g,rfl,hg,hr⟩,hg1⟩|⟨hn,rfl,hg1⟩)
 ·have HP:=zHd (zAI hp (zAI hg (zAI hr hg1)))
  clear hp hg hr hg1 H;go_wp2;go_ret;obtain⟨hp,hg,hr,hg1⟩:=HP.out;exact .inl ⟨hp,_,rfl,⟨g,rfl,hg,hr⟩,hg1⟩
 ·exact⟨rfl,.inr ⟨hn,rfl,hg1⟩⟩
theorem ztr:Enters 87:=enters_of Tryz.func87 (by kernel_rfl) rfl
theorem RowR.at_drew {w:World}{v:Value}{n:Nat}{L:Nat→Value}(h:RowR w v n L):RowR w.drew v n L:=h.grown (zae w none)
theorem zya (hk:zad k)(b:Nat→El k)(Y:Nat→El k)(K m d g1 g2:Nat)(Ay:Option Addr)(cy:Nat)(ys:Nat→Value)(bv:Value)(w:World)(hm:m≤10000)(hd:d<K)(hb:RowR w bv m (txs b))(hbf:∀ j,j<m→FitE (b j))
  (hcal:zcc w g1 k) (hyv:w.cell? ⟨g2,0,none⟩=some (.slice Ay K cy)) (hy:RowR w (.slice Ay K cy) K ys) (hyd:RowR w (ys d) m (txs Y)) (hyf:∀ j,j<m→FitE (Y j)) :
  Calls Tryz.prog 85 #[bv,.int .i64 (d:Int),.pointer (some ⟨g2,0,none⟩),.pointer (some ⟨g1,0,none⟩)] w (zjo (∀ j,j<m→FitE ((srE k hk).add (b j) (Y j))) m (fun j=>tx ((srE k hk).add (b j) (Y j))) w):=by
 have hmf:∀ (fn:Fn) (first cap:Array Value) (w:World),(Instr.makeFunc fn first cap).run Tryz.prog w = .ok (.func fn first cap) w:=fun _ _ _ _=>rfl
 have hcall:=zjM 87 ztr #[calV k] #[] m m (txs b) (txs Y) (fun j=>FitE ((srE k hk).add (b j) (Y j))) (fun j=>tx ((srE k hk).add (b j) (Y j))) bv (ys d) w.drew hm hb.at_drew hyd.at_drew (Nat.le_refl m)
  (fun i hi w' _=>zhY hk (hbf i hi) (hyf i hi) w')
 obtain⟨Ay',cy',e,hy1,hy2,hy3⟩:=hy;obtain⟨rfl,rfl⟩:Ay'=Ay∧cy'=cy:=by simp at e;exact⟨e.1.symm,e.2.symm⟩
 obtain⟨ad,rfl,hbl,hcl⟩:=hy3 d hd;obtain⟨c0,c1,c2⟩:=hcal;have d0:w.drew.cell? ⟨g1,0,none⟩=some (.int .i64 k):=c0;have d1:w.drew.cell? ⟨g1,1,none⟩=some (.string (zaf k)):=c1;have d2:w.drew.cell? ⟨g1,2,none⟩=some (.string (oneT k)):=c2;have d3:w.drew.cell? ⟨g2,0,none⟩=some (.slice (some ad) K cy'):=hyv;have d4:w.drew.cell? (ad.add d)=some (ys d):=hcl;have i1:(d:Int)<(K:Int):=by omega
 have i2:(0:Int)≤(d:Int):=by omega
 have HC:=zHd hcall;clear hcall hb hyd hbf hyf hy1 hy2 hy3 hbl hcl c0 c1 c2 e hyv;unfold calV at HC;go_enter Tryz.func85,Tryz.ntmps85;go_upto_region 1 with(fail)
 go_region_held2 (fun W'=>W'.cell? ⟨g1,0,none⟩=some (.int .i64 k)∧W'.cell? ⟨g1,1,none⟩=some (.string (zaf k))∧W'.cell? ⟨g1,2,none⟩=some (.string (oneT k))∧W'.cell? ⟨g2,0,none⟩=some (.slice (some ad) K cy')∧W'.cell? (ad.add d)=some (ys d)) (go_keep)
  (first
  | (go_at_call 86;refine HC.out.mono ?_;rintro e w6 (⟨hp,v,rfl,⟨rfl,hr6⟩,hg6⟩|⟨hn,rfl,hg6⟩);rotate_left 1;(exact⟨rfl,.inr ⟨hn,rfl,zaa (zae w none) hg6⟩⟩);have s0:=hg6.cell d0 (by simp);have s1:=hg6.cell d1 (by simp);have s2:=hg6.cell d2 (by simp);have s3:=hg6.cell d3 (by simp);have s4:=hg6.cell d4 (by simp);have H6:=zHd (zAI hp (zAI hr6 hg6));clear hp hr6 hg6))
 all_goals
  go_wp2;go_ret;obtain⟨hp,hr6,hg6⟩:=H6.out;exact .inl ⟨hp,_,rfl,⟨rfl,hr6⟩,zaa (zae w none) hg6⟩
theorem zkG (ad:Addr):ad.add 0=ad:=by unfold Addr.add;rcases ad with⟨b,o,s⟩;cases s <;> simp
theorem zyb (hk:zad k)(f:Nat→El k)(b:Nat→Nat→El k)(n m g1 g2:Nat)(Ab:Option Addr)(cb:Nat)(bs:Nat→Value)(fv:Value)(w:World)(hn0:1≤n)(hn:n≤10000)(hm:m≤10000)(hf:RowR w fv n (txs f))(hff:∀ j,j<n→FitE (f j))
  (hcal:zcc w g1 k) (hbv:w.cell? ⟨g2,0,none⟩=some (.slice Ab n cb)) (hb:RowR w (.slice Ab n cb) n bs) (hbs:∀ i,i<n→RowR w (bs i) m (txs (b i))) (hbf:∀ i,i<n→∀ j,j<m→FitE (b i j)) :
  Calls Tryz.prog 81 #[fv,.pointer (some ⟨g1,0,none⟩),.pointer (some ⟨g2,0,none⟩)] w (zbo (zcN (srE k hk) FitE n m (fun _=>(srE k hk).zero) f b) (fun v w'=>∃ g o c,v = .slice (some ⟨g,o,none⟩) m c∧m≤c∧c≤maxLen∧w.heap.size≤g∧zam w' g o m (txs (zaN (srE k hk) (fun _=>(srE k hk).zero) f b n))) w):=by
 have hz:=fun w'=>zeZ k m w' hm
 have hsum:=fun(w5:World) (h5:w.grownBy w5 none) (g:Nat) (hr:zam w5 g 0 m (fun _ => .string (zaf k)))=>zmD hk n m g 0 m (fun _=>(srE k hk).zero) f b fv (.slice Ab n cb) bs w5 hm hn
  (by have e:txs (fun _=>(srE k hk).zero)=fun _=>Value.string (zaf k):=funext fun j=>by unfold txs;rw[zeY]
      rw[e];exact hr) (Nat.le_refl m) (by unfold maxLen;omega) (hf.grown h5) hff (fun j _=>zcJ hk) (hb.grown h5) (fun i hi=>(hbs i hi).grown h5) hbf
 obtain⟨Ab',cb',e,hb1,hb2,hb3⟩:=hb;obtain⟨rfl,rfl⟩:Ab'=Ab∧cb'=cb:=by simp at e;exact⟨e.1.symm,e.2.symm⟩
 obtain⟨ad,rfl,hbl,hcl⟩:=hb3 0 (by omega);rw[zkG] at hcl;obtain⟨A0,c00,e0,-⟩:=hbs 0 (by omega);rw[e0] at hcl;obtain⟨c0,c1,c2⟩:=hcal;obtain⟨Af,cf,rfl,-⟩:=hf;have d0:w.drew.cell? ⟨g1,0,none⟩=some (.int .i64 k):=c0;have d1:w.drew.cell? ⟨g1,1,none⟩=some (.string (zaf k)):=c1;have d2:w.drew.cell? ⟨g1,2,none⟩=some (.string (oneT k)):=c2;have d3:w.drew.cell? ⟨g2,0,none⟩=some (.slice (some ad) n cb'):=hbv;have d4:w.drew.cell? ad=some (.slice A0 m c00):=hcl;have i1:(0:Int)<(n:Int):=by omega
 have i3:0<n:=by omega
 have i4:¬ n=0:=by omega
 have i5:(1:Int)≤(n:Int):=by omega
 have HZ:=zHd hz;have HS:=zHd hsum;clear hz hsum hbs hbf hff hb1 hb2 hb3 hbl hcl c0 c1 c2 e e0 hbv;unfold calV at HZ HS;go_enter Tryz.func81,Tryz.ntmps81;go_upto_region 1 with(fail)
 go_region_held2 (fun W'=>W'.cell? ⟨g1,0,none⟩=some (.int .i64 k)∧W'.cell? ⟨g1,1,none⟩=some (.string (zaf k))∧W'.cell? ⟨g1,2,none⟩=some (.string (oneT k))∧W'.cell? ⟨g2,0,none⟩=some (.slice (some ad) n cb')∧W'.cell? ad=some (.slice A0 m c00)) (go_keep)
  (first
  | (go_at_call 83;refine(HZ.out _).mono ?_;clear HZ;rintro e w5 ⟨g,rfl,hgW,hrow,hg5⟩;have s0:=hg5.cell d0 (by simp);have s1:=hg5.cell d1 (by simp);have s2:=hg5.cell d2 (by simp);have s3:=hg5.cell d3 (by simp);have s4:=hg5.cell d4 (by simp);have hg5':=zaa (zae w none) hg5;have H5:=zHd (zAI hgW (zAI hrow hg5'));clear hgW hrow hg5 hg5')
  | (go_at_call 82;refine(HS.out w5 H5.out.2.2 g (ziI H5.out.2.1)).mono ?_;clear HS;rintro e w6 (⟨hp,v,rfl,⟨gg,o,c,rfl,hc3,hc4,hgg,hrw⟩,hg6⟩|⟨hn,rfl,hg6⟩);rotate_left 1;(exact⟨rfl,.inr ⟨hn,rfl,zaa H5.out.2.2 hg6⟩⟩);have p0:=hg6.cell s0 (by simp);have p1:=hg6.cell s1 (by simp);have p2:=hg6.cell s2 (by simp);have p3:=hg6.cell s3 (by simp);have p4:=hg6.cell s4 (by simp);have H6:=zHd (zAI hp (zAI hc3 (zAI hc4 (zAI hgg (zAI hrw hg6)))));clear hp hc3 hc4 hgg hrw hg6))
 all_goals
  go_wp2;go_ret;obtain⟨hp,hc3,hc4,hgg,hrw,hg6⟩:=H6.out;refine .inl ⟨hp,_,rfl,⟨gg,o,c,rfl,hc3,hc4,?_,hrw⟩,zaa H5.out.2.2 hg6⟩;have h1:w.heap.size≤g:=H5.out.1;have h2:=H5.out.2.2.size;rcases hgg with h|h <;> omega
end
open Go.RowKit
section
variable {k:Int}
theorem zas.other {T:TypeId}{z:Value}{n:Nat}{zs:List Value}{w wr:World}(h:zas T z n zs w wr){g o:Nat}{u:Value}(hg:w.heap.size<g):zas T z n zs w (wr.setCell ⟨g,o,none⟩ u) :=
 ⟨((zac wr ⟨g,o,none⟩ u).block _ (Array.getElem?_eq_some_iff.1 h.row).1 (by simp;omega)).trans h.row,zai h.gr (zac _ _ _) (by show w.heap.size≤g;omega),h.le⟩
theorem zEd (hk:zad k){w:World}{g n t:Nat}(h:w.heap[g]? = some (.cells (List.replicate n (.string (zaf k))).toArray 9 (0,0)))(ht:t<n) :
  zam (w.setCell ⟨g,t,none⟩ (.string (oneT k))) g 0 n (txs (idm (srE k hk) t)):=by
 have h2:=heap_setCell_same w g t _ _ (.string (oneT k)) h;refine⟨(Array.getElem?_eq_some_iff.1 h2).1,fun j hj => ?_⟩;rw[Nat.zero_add,cell_of_row _ g j _ _ (0,0) h2,List.setIfInBounds_toArray,List.getElem?_toArray,List.getElem?_set];unfold txs idm
 by_cases e:t=j
 ·subst e
  rw[if_pos rfl,if_pos (by simpa using hj),if_pos rfl,znW]
 ·rw[if_neg e,if_neg e,List.getElem?_replicate,if_pos hj,zeY]
def zjt (hk:zad k)(H n:Nat)(zs:List Value)(wr:World):Prop :=
 ∀ i,i<zs.length→∃ gi,zs.getD i (.slice none 0 0) = .slice (some ⟨gi,0,none⟩) n n∧H<gi∧zam wr gi 0 n (txs (idm (srE k hk) i))
theorem zEe (hk:zad k)(n:Nat)(w:World)(hn:n≤10000) :
  Calls Tryz.prog 44 #[calV k,.int .i64 (n:Int)] w fun e w'=>∃ g zs,e = .returned (.slice (some ⟨g,0,none⟩) n n)∧w.heap.size≤g∧zs.length=n∧zam w' g 0 n (fun j=>zs.getD j (.slice none 0 0))∧zjt hk g n zs w'∧w.grownBy w' none:=by
 obtain⟨i0,hi,hz0,hz1,hz2⟩:=info_parts zdx;have hz:=fun w'=>zeZ k n w' hn;have HZ:=zHd hz;have HN:=zHd hn;clear hz hn;have n0:¬ (n:Int)<0:=by omega
 unfold calV at *;go_enter Tryz.func44,Tryz.ntmps44;have x0:=zak w #[.int .i64 k,.string (zaf k),.string (oneT k)] 64 (j:=0) rfl;have x1:=zak w #[.int .i64 k,.string (zaf k),.string (oneT k)] 64 (j:=1) rfl;have x2:=zak w #[.int .i64 k,.string (zaf k),.string (oneT k)] 64 (j:=2) rfl;have hsz:(w.alloc (.cells #[.int .i64 k,.string (zaf k),.string (oneT k)] 64)).heap.size=w.heap.size+1:=by simp
 go_wp2_with (at_make;refine wpList_make_full _ rfl _ _ 22 rfl (w.heap.size+1) 33 i0 (.slice none 0 0) 1 Tryz.underlying22 hi hz0 hz1 _ _ _ _ n rfl rfl ?c0 ?c1 ?c2 (by have:=HN.out;unfold maxLen;omega) (Nat.le_of_eq hsz.symm) ?_)
 case c0=>omega
 case c1=>omega
 case c2=>have:=HN.out;first|omega|(rw[hz2];omega)
 intro w1 hown hgr;have hW:w.grownBy (w.alloc (.cells #[.int .i64 k,.string (zaf k),.string (oneT k)] 64)) none:=zGA _ _ none;generalize w.alloc (.cells #[.int .i64 k,.string (zaf k),.string (oneT k)] 64)=W at *;have hfill:zas 33 (.slice none 0 0) n [] W w1:=zas.start (by rw[hsz];exact hown) hgr;have HFI:=zHd hfill;have HX:=zHd (zAI (show zcc w1 w.heap.size k from⟨hgr.cell x0 (by simp),hgr.cell x1 (by simp),hgr.cell x2 (by simp)⟩) (zAI hsz hW));clear hown hgr x0 x1 x2 hfill hsz hW;go_wp2
 go_loopw [11] (fun iv wr=>∃ zs:List Value,iv = .int .i64 (zs.length:Int)∧zas 33 (.slice none 0 0) n zs W wr∧zjt hk W.heap.size n zs wr∧zcc wr w.heap.size k) (fun iv _=>n - (intOf iv).toNat)
 case atStart=>exact⟨[],rfl,HFI.out,fun i hi=>absurd hi (by simp),HX.out.1⟩
 case round =>
  obtain⟨zs,rfl,hfill,hrows,hcal⟩:=hrel;obtain⟨t,hzt⟩:∃ t,zs.length=t:=⟨_,rfl⟩;have hle:=hfill.le
  by_cases ht:t<n
  ·have t1:decide (t<n)=true:=by simpa using ht
   have t1':decide ((t:Int)<(n:Int))=true:=by simpa using ht
   have hit:(t:Int)<(n:Int):=by omega
   have n1:IntKind.i64.wrap ((t:Int)+1)=(t:Int)+1:=by have:=HN.out;rw[IntKind.wrap_i64];omega
   obtain⟨y0,y1,y2⟩:=hcal;have HF:=zHd hfill;have HR:=zHd hrows;have HT:=zHd (zAI ht (zAI hzt hle));rw[hzt];clear hfill hrows ht hle hzt;go_wp2_with fail;refine(HZ.out _).mono ?_;rintro e w5 ⟨g,rfl,hgW,hrow,hg5⟩;obtain⟨ht,hzt,hle⟩:=HT.out;have hsz:=HX.out.2.1;have hWsz:W.heap.size<wr.heap.size:=(Array.getElem?_eq_some_iff.1 HF.out.row).1;have hf5:=HF.out.grown hg5;have q0:=hf5.cell (by rw[hzt];exact ht);have z0:=hf5.free t;rw[hzt,hsz] at q0;rw[hsz] at z0;have c2:=hg5.cell y2 (by simp);have c0:=hg5.cell y0 (by simp);have c1:=hg5.cell y1 (by simp);have hput:=hf5.put (by rw[hzt];exact ht) (.slice (some ⟨g,0,none⟩) n n);rw[hzt,hsz] at hput;have hgne:g≠w.heap.size+1:=by omega
   have hrow2:(w5.setCell ⟨w.heap.size+1,t,none⟩ (.slice (some ⟨g,0,none⟩) n n)).heap[g]? = some (.cells (List.replicate n (.string (zaf k))).toArray 9 (0,0)):=((zac w5 ⟨w.heap.size+1,t,none⟩ _).block g (Array.getElem?_eq_some_iff.1 hrow).1 (by simpa using hgne)).trans hrow;have HP:=zHd (zAI hput (zAI hrow2 (zAI hgW (zAI hg5 (zAI hWsz (zAI c0 (zAI c1 (zAI c2 hrow))))))));clear hput hrow2 hgW hg5 hWsz hf5 hrow y0 y1 y2 ht hzt hle;go_upto_region 6 with(fail)
   have a0:(w5.setCell ⟨w.heap.size+1,t,none⟩ (.slice (some ⟨g,0,none⟩) n n)).cell? ⟨w.heap.size+1,t,none⟩=some (.slice (some ⟨g,0,none⟩) n n):=by
    have hr:=HP.out.1.row;rw[hsz] at hr;rw[cell_of_row _ _ t _ _ (0,0) hr,List.getElem?_toArray,List.append_assoc,List.getElem?_append_right (by have:=HT.out.2.1;omega),HT.out.2.1,Nat.sub_self]
    rfl
   have b2:(w5.setCell ⟨w.heap.size+1,t,none⟩ (.slice (some ⟨g,0,none⟩) n n)).cell? ⟨w.heap.size,2,none⟩=some (.string (oneT k)):=zbj (by omega) HP.out.2.2.2.2.2.2.2.1;have r0:=cell_of_row _ g t _ _ (0,0) HP.out.2.1;rw[List.getElem?_toArray,List.getElem?_replicate,if_pos HT.out.1] at r0;have f0:=frozen_of_row _ g t _ _ HP.out.2.1;have hgn:w.heap.size+1<g:=by have:=HP.out.2.2.1;have:=HP.out.2.2.2.2.1;omega
   have hCA:zcc (w5.setCell ⟨w.heap.size+1,t,none⟩ (.slice (some ⟨g,0,none⟩) n n)) w.heap.size k:=⟨zbj (by omega) HP.out.2.2.2.2.2.1,zbj (by omega) HP.out.2.2.2.2.2.2.1,b2⟩
   have hU:zjt hk W.heap.size n zs (w5.setCell ⟨w.heap.size+1,t,none⟩ (.slice (some ⟨g,0,none⟩) n n))∧∀ i,i<zs.length→∃ gi,zs.getD i (.slice none 0 0) = .slice (some ⟨gi,0,none⟩) n n∧gi<g:=by
    refine⟨fun i hi => ?_,fun i hi => ?_⟩
    ·obtain⟨gi,e1,e2,e3⟩:=HR.out i hi
     exact⟨gi,e1,e2,(e3.grown HP.out.2.2.2.1).grownB (zac _ _ _) (by show gi≠w.heap.size+1;omega)⟩
    ·obtain⟨gi,e1,e2,e3⟩:=HR.out i hi
     exact⟨gi,e1,by have:=e3.1;have:=HP.out.2.2.1;omega⟩
   have hput:=HP.out.1;have hrow2:=HP.out.2.1;generalize w5.setCell ⟨w.heap.size+1,t,none⟩ (.slice (some ⟨g,0,none⟩) n n)=V at *;have hne1:¬ w.heap.size=g:=by omega
   have hne2:¬ w.heap.size+1=g:=by omega
   have HV:=zHd (zAI hput (zAI hrow2 (zAI hgn (zAI hCA hU))));have d0:V.drew.cell? ⟨w.heap.size+1,t,none⟩=some (.slice (some ⟨g,0,none⟩) n n):=a0;have d2:V.drew.cell? ⟨w.heap.size,2,none⟩=some (.string (oneT k)):=b2;have dr:V.drew.cell? ⟨g,t,none⟩=some (.string (zaf k)):=r0;have df:V.drew.frozen? ⟨g,t,none⟩=false:=f0;have e0:=zbj (w:=V.drew) (o:=t) (u := .string (oneT k)) hne2 d0;have e2:=zbj (w:=V.drew) (o:=t) (u := .string (oneT k)) hne1 d2;clear hput hrow2 hgn hCA hU a0 b2 r0 f0 hgne
   go_region_held2 (fun W'=>W'.cell? ⟨w.heap.size+1,t,none⟩=some (.slice (some ⟨g,0,none⟩) n n)∧W'.cell? ⟨w.heap.size,2,none⟩=some (.string (oneT k))) (first|exact⟨d0,d2⟩|exact⟨e0,e2⟩|go_keep) (fail)
   all_goals
    go_wp2;obtain⟨hput,hrow2,hgn,hCA,hU1,hU2⟩:=HV.out;have hzt:=HT.out.2.1;have hsz2:W.heap.size=w.heap.size+1:=hsz;refine⟨⟨zs++[.slice (some ⟨g,0,none⟩) n n],by simp[hzt],(hput.grown (zae V none)).other (by omega),fun i hi => ?_,⟨zbj hne1 hCA.1,zbj hne1 hCA.2.1,zbj hne1 hCA.2.2⟩⟩,by have:=HT.out.1;simp[intOf];omega⟩
    by_cases hil:i<zs.length
    ·obtain⟨gi,q1,q2,q3⟩:=hU1 i hil
     obtain⟨gj,p1,p2⟩:=hU2 i hil;rw[q1] at p1;have hgg:gi=gj:=by simpa using p1
     refine⟨gi,?_,q2,(q3.grown (zae V none)).grownB (zac _ _ _) (by show gi≠g;omega)⟩;rw[List.getD_eq_getElem?_getD,List.getElem?_append_left hil,← List.getD_eq_getElem?_getD];exact q1
    ·have hie:i=t:=by simp at hi;omega
     subst hie;refine⟨g,?_,by omega,zEd hk (w:=V.drew) hrow2 HT.out.1⟩;rw[List.getD_eq_getElem?_getD,List.getElem?_append_right (by omega),hzt,Nat.sub_self]
     rfl
  ·have hte:t=n:=by omega
   subst hte;have t1:decide (t<t)=false:=by simp
   have t1':decide ((t:Int)<(t:Int))=false:=by simp
   have HF:=zHd hfill;have HR:=zHd hrows;have HT:=zHd hzt;rw[hzt];clear hfill hrows ht hle hzt hcal;go_wp2;go_ret;have hsz:=HX.out.2.1;have hra:=HF.out.rowAt HT.out;rw[hsz] at hra;have hru:=HR.out;rw[hsz] at hru;exact⟨w.heap.size+1,zs,rfl,by omega,HT.out,hra,hru,zaa HX.out.2.2 HF.out.gr⟩
end
open Go.RowKit
theorem zyc (n:Nat)(L:Nat→Value)(a:ByteArray)(fv:Value)(w:World)(hn:0<n)(hf:RowR w fv n L)(h0:L 0 = .string a) :
  Calls Tryz.prog 142 #[fv] w (zab (.string a) w):=by
 obtain⟨A,c,rfl,h1,h2,h3⟩:=hf;obtain⟨ad,rfl,hb,hc⟩:=h3 0 hn;rw[h0] at hc;have hz:ad.add 0=ad:=by cases ad;unfold Addr.add;split <;> simp_all
 have hc':=hc;rw[hz] at hc';have i1:(0:Int)<(n:Int):=by omega
 have i2:¬ (n:Int)≤0:=by omega
 have i3:¬ n=0:=by omega
 clear h3 hb;go_enter Tryz.func142,Tryz.ntmps142;go_wp2;go_ret;exact⟨rfl,World.grownBy.refl _ _⟩
theorem zrp:Enters 142:=enters_of Tryz.func142 (by kernel_rfl) rfl
theorem zod (n m:Nat)(V:Nat→Value)(L:Nat→Nat→Value)(G:Nat→ByteArray)(lv:Value)(w:World)(hn:n≤10000)(hm:0<m)(hl:RowR w lv n V)(hrow:∀ i,i<n→RowR w (V i) m (L i))(h0:∀ i,i<n→L i 0 = .string (G i)) :
  Calls Tryz.prog 96 #[lv] w (fun e w'=>∃ v,e = .returned v∧v = .slice (some ⟨w.heap.size,0,none⟩) n n∧zam w' w.heap.size 0 n (fun i => .string (G i))∧w.grownBy w' none):=by
 have h:=zjL 142 zrp #[] #[] n V (fun _=>True) G lv w hn hl (fun i hi w' hg=>by
  have h1:=zyc m (L i) (G i) (V i) w' hm ((hrow i hi).grown hg) (h0 i hi);exact h1.mono (fun e w2 h2 => .inl ⟨trivial,h2⟩))
 obtain⟨A,c,rfl,-⟩:=hl;have H:=zHd h;clear h hrow h0;go_enter Tryz.func96,Tryz.ntmps96;go_wp2_with fail;refine H.out.mono ?_;rintro e w1 (⟨hp,v,rfl,⟨rfl,hr⟩,hg1⟩|⟨hnp,-⟩)
 ·have HP:=zHd (zAI hr hg1)
  clear hp hr hg1 H;go_wp2;go_ret;exact⟨_,rfl,rfl,HP.out.1,HP.out.2⟩
 ·exact absurd (fun _ _=>trivial) hnp
end Go.Proofs.YtaogepcaoogpgaaGreatDoor
