/- WE19 WE98 WE64 -/
import Derived.Test.YtaogepcaoogpgaaGreatDoorKE14
import Derived.Lib.AppendZerosOnto
import Derived.Lib.JoinLaws
set_option linter.unusedVariables false
set_option linter.unusedSimpArgs false
set_option maxRecDepth 100000
set_option maxHeartbeats 16000000
namespace Go.Proofs.YtaogepcaoogpgaaGreatDoor
open Go.RowKit
structure MArc where
 i:Int
 o:Int
 w:ByteArray
 t:Int
deriving DecidableEq
structure zah where
 fin:ByteArray
 arcs:List MArc
deriving DecidableEq
structure Mach where
 kind:Int
 start:Int
 lead:ByteArray
 states:List zah
deriving DecidableEq
theorem flat_get {α β:Type}(f:α→List β)(n:Nat)(hn:∀ a,(f a).length=n):∀ (l:List α) (k j:Nat) (a:α),l[k]? = some a→j<n→(l.flatMap f)[k * n+j]? = (f a)[j]?
 | [],k,j,a,h,_=>by simp at h
 | x::l,0,j,a,h,hj=>by
  simp only[List.getElem?_cons_zero,Option.some.injEq] at h;subst h;rw[List.flatMap_cons,Nat.zero_mul,Nat.zero_add,List.getElem?_append_left (by rw[hn];exact hj)]
 | x::l,k+1,j,a,h,hj=>by
  rw[List.getElem?_cons_succ] at h;rw[List.flatMap_cons,List.getElem?_append_right (by rw[hn,Nat.succ_mul];omega),hn,show(k+1) * n+j - n=k * n+j by rw[Nat.succ_mul];omega];exact flat_get f n hn l k j a h hj
def arcC (a:MArc):List Value:=[.int .i64 a.i,.int .i64 a.o,.string a.w,.int .i64 a.t]
def stC (p:zah × Value):List Value:=[.string p.1.fin,p.2]
theorem zjb (a:MArc):(arcC a).length=4:=rfl
theorem zes (p:zah × Value):(stC p).length=2:=rfl
def zct (w:World)(v:Value)(l:List MArc):Prop:=∃ A cap,v = .slice A l.length cap∧Reads w w.heap.size 4 A l.length (l.flatMap arcC)
def StSl (w:World)(v:Value)(l:List zah):Prop:=∃ A cap us,v = .slice A l.length cap∧us.length=l.length∧Reads w w.heap.size 2 A l.length ((l.zip us).flatMap stC)∧∀ (k:Nat) (s:zah) (u:Value),l[k]? = some s→us[k]? = some u→zct w u s.arcs
def zcr (w:World)(v:Value)(m:Mach):Prop:=∃ u,v = .agg #[.int .i64 m.kind,.int .i64 m.start,.string m.lead,u]∧StSl w u m.states
theorem zct.below {w w':World}{v:Value}{l:List MArc}(h:zct w v l)(hb:Below w.heap.size w w'):zct w' v l:=by
 obtain⟨A,cap,hv,hr⟩:=h;exact⟨A,cap,hv,(hr.below hb).more hb.size⟩
theorem StSl.below {w w':World}{v:Value}{l:List zah}(h:StSl w v l)(hb:Below w.heap.size w w'):StSl w' v l:=by
 obtain⟨A,cap,us,hv,hl,hr,ha⟩:=h;exact⟨A,cap,us,hv,hl,(hr.below hb).more hb.size,fun k s u hs hu=>(ha k s u hs hu).below hb⟩
theorem zcr.below {w w':World}{v:Value}{m:Mach}(h:zcr w v m)(hb:Below w.heap.size w w'):zcr w' v m:=by
 obtain⟨u,hv,hs⟩:=h;exact⟨u,hv,hs.below hb⟩
theorem zct.nil (w:World):zct w (.slice none 0 0) []:=⟨none,0,rfl,Reads.none_⟩
theorem zAq (ad:Addr)(n j:Nat)(hj:0<j):ad.add (n+j) = { block:=(ad.add n).block,off:=(ad.add n).off+j,spot:=none }:=by
 unfold Addr.add;rw[if_neg (by omega)]
 by_cases h:n=0
 ·simp[h]
 ·simp[h,Nat.add_assoc]
theorem zgA {w:World}{ad:Addr}{n j:Nat}{v:Value}(h:w.cell? (ad.add (n+j))=some v)(hj:0<j):w.cell? { block:=(ad.add n).block,off:=(ad.add n).off+j,spot:=none }=some v:=by
 rw[← zAq ad n j hj];exact h
structure zEt (w:World)(p:Addr)(a:MArc):Prop where
 c0:w.cell? p=some (.int .i64 a.i)
 c1:w.cell? { block:=p.block,off:=p.off+1,spot:=none }=some (.int .i64 a.o)
 c2:w.cell? { block:=p.block,off:=p.off+2,spot:=none }=some (.string a.w)
 c3:w.cell? { block:=p.block,off:=p.off+3,spot:=none }=some (.int .i64 a.t)
structure zgO (w:World)(p:Addr)(f:ByteArray)(u:Value):Prop where
 c0:w.cell? p=some (.string f)
 c1:w.cell? { block:=p.block,off:=p.off+1,spot:=none }=some u
theorem zgO.below {w w':World}{B:Nat}{p:Addr}{f:ByteArray}{u:Value}(h:zgO w p f u)(hb:Below B w w')(hp:p.block<B):zgO w' p f u :=
 ⟨(hb.cell hp).trans h.c0,(hb.cell (p:=⟨p.block,p.off+1,none⟩) hp).trans h.c1⟩
theorem zit {w:World}{A:Option Addr}{l:List MArc}{k:Nat}(h:Reads w w.heap.size 4 A l.length (l.flatMap arcC))(hk:k<l.length) :
  ∃ ad a,A=some ad∧ad.block<w.heap.size∧l[k]? = some a∧zEt w (ad.add (k * 4)) a:=by
 obtain⟨ad,hA,hb,hc⟩:=h.2 (by omega);have hx:l[k]? = some l[k]:=List.getElem?_eq_getElem hk;exact⟨ad,l[k],hA,hb,hx,hc _ _ (flat_get arcC 4 zjb l k 0 _ hx (by omega)),zgA (hc _ _ (flat_get arcC 4 zjb l k 1 _ hx (by omega))) (by omega),zgA (hc _ _ (flat_get arcC 4 zjb l k 2 _ hx (by omega))) (by omega),zgA (hc _ _ (flat_get arcC 4 zjb l k 3 _ hx (by omega))) (by omega)⟩
theorem zqe {w:World}{A:Option Addr}{l:List zah}{us:List Value}{k:Nat}(h:Reads w w.heap.size 2 A l.length ((l.zip us).flatMap stC))(hl:us.length=l.length)(hk:k<l.length) :
  ∃ ad s u,A=some ad∧ad.block<w.heap.size∧l[k]? = some s∧us[k]? = some u∧zgO w (ad.add (k * 2)) s.fin u:=by
 obtain⟨ad,hA,hb,hc⟩:=h.2 (by omega);have hx:l[k]? = some l[k]:=List.getElem?_eq_getElem hk;have hu:us[k]? = some (us[k]'(by omega)):=List.getElem?_eq_getElem (by omega);have hz:(l.zip us)[k]? = some (l[k],us[k]'(by omega)):=by rw[List.getElem?_zip_eq_some];exact⟨hx,hu⟩
 exact⟨ad,_,_,hA,hb,hx,hu,hc _ _ (flat_get stC 2 zes _ k 0 _ hz (by omega)),zgA (hc _ _ (flat_get stC 2 zes _ k 1 _ hz (by omega))) (by omega)⟩
def zao (w:World)(g:Nat)(m:Mach)(u:Value):Prop:=w.heap[g]? = some (.cells #[.int .i64 m.kind,.int .i64 m.start,.string m.lead,u] 31 (0,0))
structure BoxC (w:World)(g:Nat)(m:Mach)(u:Value):Prop where
 c0:w.cell? ⟨g,0,none⟩=some (.int .i64 m.kind)
 c1:w.cell? ⟨g,1,none⟩=some (.int .i64 m.start)
 c2:w.cell? ⟨g,2,none⟩=some (.string m.lead)
 c3:w.cell? ⟨g,3,none⟩=some u
theorem zao.cells {w:World}{g:Nat}{m:Mach}{u:Value}(h:zao w g m u):BoxC w g m u :=
 ⟨by rw[cell_of_row w g 0 _ _ (0,0) h];rfl,by rw[cell_of_row w g 1 _ _ (0,0) h];rfl,by rw[cell_of_row w g 2 _ _ (0,0) h];rfl,by rw[cell_of_row w g 3 _ _ (0,0) h];rfl⟩
theorem zao.new (w:World)(m:Mach)(u:Value):zao (w.alloc (.cells #[.int .i64 m.kind,.int .i64 m.start,.string m.lead,u] 31)) w.heap.size m u:=by
 show(w.heap.push _)[w.heap.size]? = _;rw[Array.getElem?_push_size]
theorem zao.below {w w':World}{g B:Nat}{m:Mach}{u:Value}(h:zao w g m u)(hb:Below B w w')(hg:g<B):zao w' g m u:=(hb.block g hg).trans h
theorem zao.lt {w:World}{g:Nat}{m:Mach}{u:Value}(h:zao w g m u):g<w.heap.size:=(Array.getElem?_eq_some_iff.1 h).1
def zaW (l:List zah):Nat:=(l.map (fun s=>s.arcs.length)).sum
theorem znJ (l:List zah)(s:zah):zaW (l++[s])=zaW l+s.arcs.length:=by unfold zaW;simp
theorem zsP (l k:List zah):zaW (l++k)=zaW l+zaW k:=by unfold zaW;simp
theorem zxw (l:List zah){k:Nat}(hk:k≤l.length):zaW (l.take k)≤zaW l:=by
 have:=zsP (l.take k) (l.drop k);rw[List.take_append_drop] at this
 omega
theorem zcI {α:Type}{L:List α}{k:Nat}{x:α}(h:L[k]? = some x):L.take (k+1)=L.take k++[x]:=by
 rw[List.take_add_one,h];rfl
open Go.RowKit
open Classical in
noncomputable def wgtB (k:Int)(a:ByteArray):Bool:=decide (∃ v,Wgt k a v)
theorem zmo {k:Int}{a:ByteArray}{v:Ext}(h:Wgt k a v):wgtB k a=true:=by unfold wgtB;simp;exact⟨v,h⟩
theorem zmp {k:Int}{a:ByteArray}(h:wgtB k a=true):∃ v,Wgt k a v:=by unfold wgtB at h;simpa using h
theorem zqf (k:Int):zeE k=true↔(k=1∨k=2∨k=3):=by unfold zeE;simp
noncomputable def arcB (k:Int)(n:Nat)(a:MArc):Bool:=decide (0≤a.i∧a.i≤500∧0≤a.o∧a.o≤500∧0≤a.t∧a.t<(n:Int))&&wgtB k a.w
noncomputable def finB (k:Int)(f:ByteArray):Bool:=decide (f.size=0) || wgtB k f
noncomputable def stB6 (k:Int)(n:Nat)(s:zah):Bool:=finB k s.fin&&s.arcs.all (arcB k n)
noncomputable def headB (m:Mach):Bool:=zeE m.kind&&decide (1≤m.states.length∧m.states.length≤3000∧0≤m.start∧m.start<(m.states.length:Int))&&wgtB m.kind m.lead
noncomputable def validB (m:Mach):Bool:=headB m&&decide (zaW m.states≤30000)&&m.states.all (stB6 m.kind m.states.length)
structure zfp (m:Mach):Prop where
 n:m.states.length≤140737488355328
 lead:m.lead.size≤maxLen
 fin:∀ s∈m.states,s.fin.size≤maxLen
 arcs:∀ s∈m.states,s.arcs.length≤140737488355328
 w:∀ s∈m.states,∀ a∈s.arcs,a.w.size≤maxLen
theorem zfq {m:Mach}(h:validB m=true){k:Nat}{s:zah}(hs:m.states[k]? = some s):stB6 m.kind m.states.length s=true:=by
 unfold validB at h;simp only[Bool.and_eq_true,List.all_eq_true] at h;exact h.2 s (List.mem_of_getElem? hs)
theorem zjc {m:Mach}(h:validB m=true):zaW m.states≤30000:=by
 unfold validB at h;simp only[Bool.and_eq_true,decide_eq_true_eq] at h;exact h.1.2
theorem zdu {m:Mach}(h:validB m=true):headB m=true:=by
 unfold validB at h;simp only[Bool.and_eq_true] at h;exact h.1.1
theorem zdv {m:Mach}(h:headB m=true):zeE m.kind=true∧1≤m.states.length∧m.states.length≤3000∧0≤m.start∧m.start<(m.states.length:Int)∧wgtB m.kind m.lead=true:=by
 unfold headB at h;simp only[Bool.and_eq_true,decide_eq_true_eq] at h;exact⟨h.1.1,h.1.2.1,h.1.2.2.1,h.1.2.2.2.1,h.1.2.2.2.2,h.2⟩
theorem zeB {k:Int}{n:Nat}{s:zah}(h:stB6 k n s=true):finB k s.fin=true∧∀ a∈s.arcs,arcB k n a=true:=by
 unfold stB6 at h
 simpa using h
theorem zgj {k:Int}{n:Nat}{a:MArc}(h:arcB k n a=true):0≤a.i∧a.i≤500∧0≤a.o∧a.o≤500∧0≤a.t∧a.t<(n:Int)∧wgtB k a.w=true:=by
 unfold arcB at h;simp only[Bool.and_eq_true,decide_eq_true_eq] at h;exact⟨h.1.1,h.1.2.1,h.1.2.2.1,h.1.2.2.2.1,h.1.2.2.2.2.1,h.1.2.2.2.2.2,h.2⟩
theorem zqg {l:List zah}{s:zah}(h:s∈l):s.arcs.length≤zaW l:=by
 obtain⟨k,hk⟩:=List.mem_iff_getElem?.1 h;have h1:=zxw l (show k+1≤l.length by have:=(List.getElem?_eq_some_iff.1 hk).1;omega);rw[zcI hk,znJ] at h1
 omega
theorem zaO {w w':World}(h:w.grownBy w' none):Below w.heap.size w w':=below_grown h (Nat.le_refl _) (by simp)
theorem zcr.grown {w w':World}{v:Value}{m:Mach}(h:zcr w v m)(hg:w.grownBy w' none):zcr w' v m:=h.below (zaO hg)
theorem zao.grown {w w':World}{g:Nat}{m:Mach}{u:Value}(h:zao w g m u)(hg:w.grownBy w' none):zao w' g m u:=(hg.block g h.lt (by simp)).trans h
inductive RFrom (succ:Nat→List Nat) (S:Nat→Prop):Nat→Prop
 | start {x:Nat}:S x→RFrom succ S x
 | step {x y:Nat}:RFrom succ S x→y∈succ x→RFrom succ S y
def zaF (m:Mach)(x:Nat):List Nat:=match m.states[x]? with
 | some s=>s.arcs.map (fun a=>a.t.toNat)
 | none=>[]
theorem zhK {m:Mach}{x:Nat}{s:zah}(h:m.states[x]? = some s):zaF m x=s.arcs.map (fun a=>a.t.toNat):=by unfold zaF;rw[h]
open Go.RowKit
theorem zdk (z:Value)(n:Nat):(Builtin.zeroCells #[z] n).toList=List.replicate n z:=by
 have h:∀ i:Nat,[z][i % 1]?.getD default=z:=fun i=>by rw[Nat.mod_one];rfl
 simp[Builtin.zeroCells,h];rw[List.map_const',List.length_range]
theorem zAr (n:Nat)(w:World)(hn0:0<n)(hn:n≤20000) :
  Calls Tryz.prog 170 #[.slice none 0 0,.int .i64 (n:Int)] w fun e w'=>∃ v,e = .returned v∧(∃ g c,v = .slice (some ⟨g,0,none⟩) 0 c∧n≤c)∧w'.ownsRow w.heap.size 9 1 v 0 []∧w.grownBy w' none:=by
 obtain⟨i0,hi0,hz0,hzs,hzb⟩:=info_parts zdt
 have hold:(Builtin.firstCells i0.size 0 (.slice none 0 0)).run Tryz.prog w.drew = .ok ([]:List Value).toArray w.drew:=by
  rw[hzs];exact run_firstCells_none w.drew 1 0 0 0
 obtain⟨G,hG⟩:∃ G,G=grownCap w n 0 9:=⟨_,rfl⟩;have hGn:n≤G:=by rw[hG];exact grownCap_ge w _ _ _
 have hG63:G≤maxLen:=by
  rw[hG];exact grownCap_le_maxLen w n 0 9 (by unfold maxLen;omega)
 have hrz:∀ ty,(Builtin.append_ #[33,3] ty #[.slice none 0 0,.int .i64 (n:Int)]).run Tryz.prog w =
   .ok (.slice (some ⟨w.heap.size,0,none⟩) n G) (w.drew.alloc (.cells (List.replicate G (.string ⟨#[]⟩)).toArray 9)):=fun ty=>by
  have h:=Lib.run_append_grow_zeros w 33 3 ty 9 i0 _ .i64 .i64 Tryz.underlying33 Tryz.underlying3 hi0 hz0 none 0 0 [] hold n (by omega) (by omega) (by omega) (by omega) (by rw[hzb];omega) (by rw[hzb,Nat.zero_add];exact growslice_fits (by omega) (by omega));rw[Nat.zero_add,← hG] at h;rw[h]
  congr 3
  apply Array.toList_inj.1
  show((#[]++Builtin.zeroCells #[Value.string ⟨#[]⟩] n++Builtin.zeroCells #[Value.string ⟨#[]⟩] (G - n)):Array Value).toList=_;rw[Array.toList_append,Array.toList_append,zdk,zdk];simp[hGn]
 have hi1:¬ (n:Int)<0:=by omega
 have hi2:(0:Int)<(n:Int):=by omega
 have hi3:¬ n=0:=by omega
 have hw1:IntKind.i64.wrap (n:Int)=(n:Int):=by rw[IntKind.wrap_i64];omega
 have hi6:(0:Int)≤(G:Int):=by omega
 have HP:=zHd (zAI hGn hG63);clear hold hG hGn hG63 hn;go_enter Tryz.func170,Tryz.ntmps170;go_wp2_with (at_builtin;refine Lib.wpList_append_run _ rfl _ _ _ _ rfl _ _ rfl rfl _ _ (hrz _) ?_);go_ret;obtain⟨hGn,hG63⟩:=HP.out;refine⟨_,rfl,⟨_,G,rfl,hGn⟩,⟨rfl,.inr ⟨w.heap.size,G,_,rfl,Nat.le_refl _,zau w.drew _,Nat.zero_le _,hG63,by simp,rfl⟩⟩,zaa (zae w none) (zGA _ _ none)⟩
def preN (n m:Nat):Nat→Nat
 | 0=>0
 | 1=>n
 | _=>n+m
def preL (n m:Nat)(X Y:Nat→ByteArray)(t:Nat):List Value:=(List.range (preN n m t)).map (fun j => .string (if j<n then X j else Y (j - n)))
def rowL (n:Nat)(X:Nat→ByteArray):List Value:=(List.range n).map (fun j => .string (X j))
theorem zsQ (n:Nat)(X:Nat→ByteArray):(rowL n X).length=n:=by unfold rowL;simp
theorem zsR {n j:Nat}{X:Nat→ByteArray}{v:Value}(h:(rowL n X)[j]? = some v):j<n∧v = .string (X j):=by
 unfold rowL at h;obtain⟨h1,h2⟩:=List.getElem?_eq_some_iff.1 h;simp at h1 h2;exact⟨h1,h2.symm⟩
theorem zsS (n:Nat)(X:Nat→ByteArray):∀ v∈rowL n X,v.oneCell'=true:=fun v hv=>by
 unfold rowL at hv;obtain⟨j,_,rfl⟩:=List.mem_map.1 hv
 rfl
theorem zDp (n m:Nat)(X Y:Nat→ByteArray):preL n m X Y 0++rowL n X=preL n m X Y 1:=by
 unfold preL rowL preN;simp only[List.range_zero,List.map_nil,List.nil_append]
 apply List.map_congr_left
 intro j hj;rw[if_pos (List.mem_range.1 hj)]
theorem zDq (n m:Nat)(X Y:Nat→ByteArray):preL n m X Y 1++rowL m Y=preL n m X Y 2:=by
 unfold preL rowL preN;simp only[List.range_add,List.map_append,List.map_map]
 congr 1
 apply List.map_congr_left
 intro j hj;show _=Value.string _
 dsimp only
 rw[if_neg (by omega),Nat.add_sub_cancel_left]
theorem zuB (n m gx:Nat)(ax ay:Addr)(cx cy:Nat)(X Y:Nat→ByteArray)(w:World)(hn0:0<n)(hn:n≤10000)(hm0:0<m)(hm:m≤10000)(hgx:gx<w.heap.size)
  (h0:w.cell? ⟨gx,0,none⟩=some (.slice (some ax) n cx)) (h1:w.cell? ⟨gx,1,none⟩=some (.slice (some ay) m cy))
  (hX:∀ j,j<n→w.cell? (ax.add j)=some (.string (X j))) (hY:∀ j,j<m→w.cell? (ay.add j)=some (.string (Y j))) (hbx:ax.block<w.heap.size) (hby:ay.block<w.heap.size) :
  Calls Tryz.prog 134 #[.slice (some ⟨gx,0,none⟩) 2 2] w fun e w'=>∃ v,e = .returned v∧w'.ownsRow w.heap.size 9 1 v (n+m) (preL n m X Y 2)∧w.grownBy w' none:=by
 obtain⟨i0,hi0,hz0,hzs,hzb⟩:=info_parts zdt;have hgrow:=fun w'=>zAr (n+m) w' (by omega) (by omega);have HG:=zHd hgrow;have HX:=zHd hX;have HY:=zHd hY;have HB:=zHd (zAI hbx (zAI hby hgx));have HN:=zHd (zAI hn0 (zAI hn (zAI hm0 hm)));have H01:=zHd (zAI h0 h1);clear hgrow hX hY hbx hby hgx hn0 hn hm0 hm h0 h1;go_enter Tryz.func134,Tryz.ntmps134;go_wp2
 go_loopw [3,11] (fun sv iv wr=>∃ t:Nat,t≤2∧iv = .int .i64 (t:Int)∧sv = .int .i64 ((preN n m t:Nat):Int)∧w=wr) (fun _ iv _=>2 - (intOf iv).toNat)
 case atStart=>exact⟨0,by omega,rfl,rfl,rfl⟩
 case round =>
  obtain⟨t,ht,rfl,rfl,rfl⟩:=hrel;obtain⟨hn0,hn,hm0,hm⟩:=HN.out;rcases (show t=0∨t=1∨t=2 by omega) with rfl|rfl|rfl
  ·have c0:=H01.out.1
   have n1:IntKind.i64.wrap (n:Int)=(n:Int):=by rw[IntKind.wrap_i64];omega
   have n2:¬ (n:Int)<0:=by omega
   clear hn0 hn hm0 hm ht;simp only[preN];go_wp2;exact⟨⟨1,by omega,by first|rfl|trivial,by first|rfl|trivial,by first|rfl|trivial⟩,by simp[intOf]⟩
  ·have c1:=H01.out.2
   have n1:IntKind.i64.wrap ((n:Int)+(m:Int))=(n:Int)+(m:Int):=by rw[IntKind.wrap_i64];omega
   have n2:¬ (n:Int)+(m:Int)<0:=by omega
   clear hn0 hn hm0 hm ht;simp only[preN];go_wp2;exact⟨⟨2,by omega,by first|rfl|trivial,by simp[preN],by first|rfl|trivial⟩,by simp[intOf]⟩
  ·clear hn0 hn hm0 hm ht
   simp only[preN];go_wp2_with fail;refine(HG.out _).mono ?_;rintro e w1 ⟨v,rfl,⟨g,c,rfl,hc⟩,hown,hg⟩;have HO:=zHd hown;have HC:=zHd (zAI hc hg);clear hown hc hg;go_wp2
   go_loopw [6,27] (fun sv iv wr=>∃ t:Nat,t≤2∧iv = .int .i64 (t:Int)∧wr.ownsRow w.heap.size 9 1 sv (preN n m t) (preL n m X Y t)∧w.grownBy wr none) (fun _ iv _=>2 - (intOf iv).toNat)
   case atStart=>exact⟨0,by omega,rfl,HO.out,HC.out.2⟩
   case round =>
    obtain⟨t,ht,rfl,hown,hg⟩:=hrel;obtain⟨hn0,hn,hm0,hm⟩:=HN.out;rcases (show t=0∨t=1∨t=2 by omega) with rfl|rfl|rfl
    ·have c0:=hg.cell H01.out.1 (by simp)
     have HOW:=zHd (zAI hown hg);have HNN:=zHd (zAI hn0 (zAI hn (zAI hm0 hm)));clear hown hg hn0 hn hm0 hm ht;go_wp2_with (at_builtin;refine wpList_append_lies _ rfl _ _ 33 rfl w.heap.size 9 i0 (.string ⟨#[]⟩) 1 16 Tryz.underlying33 hi0 hz0 hzs hzb rfl (by decide) _ _ _ rfl HOW.out.1 ax n cx (rowL n X) rfl (by rw[zsQ];omega) ?c1 (zsS n X) HNN.out.1 ?c3 ?c4 HOW.out.2.size _ rfl ?_)
     case c1 =>
      intro j u hu;obtain⟨hj,rfl⟩:=zsR hu;exact(zap (ad:=ax.add j) (by rw[zaj];exact HOW.out.2.block _ HB.out.1 (by simp))).trans (HX.out j hj)
     case c3=>have:=HNN.out;unfold maxLen;simp only[preN];omega
     case c4=>have:=HNN.out;simp only[preN];omega
     intro g5 cap5 w5 hown5 hg5 hat5 hlt5
     have hg6:w.grownBy w5 none:=by
      rcases hat5 with h|h
      ·rw[h] at hg5
       exact zai HOW.out.2 hg5 (by have:=HOW.out.1.lt g5 h;omega)
      ·rcases HOW.out.1.2 with⟨e,_⟩|⟨g6,_,_,e,hb6,_⟩
       ·subst e;exact zaa HOW.out.2 hg5
       ·subst e;exact zai HOW.out.2 hg5 hb6
     have HF:=zHd (zAI hown5 hg6);clear hown5 hg5 hat5 hlt5 hg6;go_wp2;refine⟨⟨1,by omega,rfl,?_,HF.out.2⟩,by simp[intOf]⟩;rw[← zDp]
     simpa [preN] using HF.out.1
    ·have c0:=hg.cell H01.out.2 (by simp)
     have HOW:=zHd (zAI hown hg);have HNN:=zHd (zAI hn0 (zAI hn (zAI hm0 hm)));clear hown hg hn0 hn hm0 hm ht;go_wp2_with (at_builtin;refine wpList_append_lies _ rfl _ _ 33 rfl w.heap.size 9 i0 (.string ⟨#[]⟩) 1 16 Tryz.underlying33 hi0 hz0 hzs hzb rfl (by decide) _ _ _ rfl HOW.out.1 ay m cy (rowL m Y) rfl (by rw[zsQ];omega) ?c1 (zsS m Y) HNN.out.2.2.1 ?c3 ?c4 HOW.out.2.size _ rfl ?_)
     case c1 =>
      intro j u hu;obtain⟨hj,rfl⟩:=zsR hu;exact(zap (ad:=ay.add j) (by rw[zaj];exact HOW.out.2.block _ HB.out.2.1 (by simp))).trans (HY.out j hj)
     case c3=>have:=HNN.out;unfold maxLen;simp only[preN];omega
     case c4=>have:=HNN.out;simp only[preN];omega
     intro g5 cap5 w5 hown5 hg5 hat5 hlt5
     have hg6:w.grownBy w5 none:=by
      rcases HOW.out.1.2 with⟨e,_⟩|⟨g6,_,_,e,hb6,_⟩
      ·subst e;exact zaa HOW.out.2 hg5
      ·subst e;exact zai HOW.out.2 hg5 hb6
     have HF:=zHd (zAI hown5 hg6);clear hown5 hg5 hat5 hlt5 hg6;go_wp2;refine⟨⟨2,by omega,rfl,?_,HF.out.2⟩,by simp[intOf]⟩;rw[← zDq]
     simpa [preN] using HF.out.1
    ·have HOW:=zHd (zAI hown hg)
     clear hown hg hn0 hn hm0 hm ht;go_wp2;go_ret;exact⟨_,rfl,HOW.out.1,HOW.out.2⟩
theorem zxx {w:World}{B n:Nat}{v:Value}{xs:List Value}(h:w.ownsRow B 9 1 v n xs)(hn:0<n):∃ g c,v = .slice (some ⟨g,0,none⟩) n c∧n≤c∧c≤maxLen∧B≤g∧zam w g 0 n (fun j=>xs.getD j (.string ⟨#[]⟩)):=by
 obtain⟨hl,⟨_,h0⟩|⟨g,c,cur,rfl,hb,hg,h1,h2,hs,ht⟩⟩:=h
 ·omega
 ·refine⟨g,c,rfl,h1,h2,hb,(Array.getElem?_eq_some_iff.1 hg).1,fun j hj => ?_⟩
  rw[Nat.zero_add,cell_of_row w g j _ _ (0,0) hg,← Array.getElem?_toList]
  dsimp only
  rw[← ht,List.getD_eq_getElem?_getD,List.getElem?_take_of_lt (by omega),List.getElem?_eq_getElem (by simp;omega)]
  rfl
theorem zuC (n m:Nat)(xv yv:Value)(X Y:Nat→ByteArray)(w:World)(hn0:0<n)(hn:n≤10000)(hm0:0<m)(hm:m≤10000)(hx:RowR w xv n (fun j => .string (X j)))(hy:RowR w yv m (fun j => .string (Y j))) :
  Calls Tryz.prog 77 #[xv,yv] w fun e w'=>∃ g c,e = .returned (.slice (some ⟨g,0,none⟩) (n+m) c)∧n+m≤c∧c≤maxLen∧w.heap.size≤g∧zam w' g 0 (n+m) (fun j => .string (if j<n then X j else Y (j - n)))∧w.grownBy w' none:=by
 obtain⟨Ax,cx,rfl,hx1,hx2,hx3⟩:=hx;obtain⟨Ay,cy,rfl,hy1,hy2,hy3⟩:=hy;obtain⟨ax,rfl,hbx,_⟩:=hx3 0 hn0;obtain⟨ay,rfl,hby,_⟩:=hy3 0 hm0
 have hcall:=fun(w1:World) (hg:w.grownBy w1 none) gx hgx c0 c1=>zuB n m gx ax ay cx cy X Y w1 hn0 hn hm0 hm hgx c0 c1
  (fun j hj=>by obtain⟨_,e,_,hc⟩:=hx3 j hj;cases e;exact(zap (ad:=ax.add j) (by rw[zaj];exact hg.block _ hbx (by simp))).trans hc)
  (fun j hj=>by obtain⟨_,e,_,hc⟩:=hy3 j hj;cases e;exact(zap (ad:=ay.add j) (by rw[zaj];exact hg.block _ hby (by simp))).trans hc)
  (Nat.lt_of_lt_of_le hbx hg.size) (Nat.lt_of_lt_of_le hby hg.size)
 have HC:=zHd hcall;have HN:=zHd hn0;clear hcall hx1 hx2 hx3 hy1 hy2 hy3 hn0 hn hm0 hm;go_enter Tryz.func77,Tryz.ntmps77;go_wp2_with fail;refine(HC.out (w.alloc (.cells #[.slice (some ax) n cx,.slice (some ay) m cy] 33)) (zGA _ _ none) w.heap.size (by simp) (zak w _ _ rfl) (zak w _ _ rfl)).mono ?_;rintro e w1 ⟨v,rfl,hown,hg⟩;have HP:=zHd (zAI hown hg);clear hown hg;go_wp2;go_ret;obtain⟨hown,hg⟩:=HP.out;obtain⟨g,c,rfl,h1,h2,h3,h4⟩:=zxx hown (by have:=HN.out;omega);refine⟨g,c,rfl,h1,h2,by simp at h3;omega,⟨h4.1,fun j hj=>(h4.2 j hj).trans ?_⟩,zaa (zGA _ _ none) hg⟩
 congr 1
 unfold preL
 dsimp only
 rw[List.getD_eq_getElem?_getD,List.getElem?_map,List.getElem?_range (by show j<preN n m 2;exact hj)]
 rfl
open Go.RowKit
theorem zvK {f:Nat→Rat}{n:Nat}:∀ d,(∀ m,m<n+d→0≤f m)→rs n f≤rs (n+d) f
 | 0,_=>Rat.le_refl
 | d+1,h=>by
  have h1:=zvK (f:=f) (n:=n) d (fun m hm=>h m (by omega));have h2:=h (n+d) (by omega);show rs n f≤rs (n+d) f+f (n+d)
  grind
theorem zrn {f:Nat→Rat}:∀ {n j:Nat},(∀ m,m<n→0≤f m)→j<n→f j≤rs n f
 | n+1,j,h,hj=>by
  show f j≤rs n f+f n;have h0:=zcz (f:=f) (n:=n) (fun m hm=>h m (by omega))
  by_cases e:j=n
  ·subst e;grind
  ·have h1:=zrn (f:=f) (n:=n) (j:=j) (fun m hm=>h m (by omega)) (by omega)
   have h2:=h n (by omega)
   grind
theorem zvL {x:Rat}(h:isI x):isI (-x):=by
 have:=zbV (⟨-1,rfl⟩:isI (-1)) h;have e:(-1:Rat) * x = -x:=by grind
 rwa [e] at this
section
variable {A:Nat→Nat→El 2} {k i j n:Nat}
theorem zjd (hk:k≤n)(hi:i<n){c:Nat}(hc:c<(onL A k i j).length+1):nd A k i j c<n:=by
 cases c with
 | zero=>exact hi
 | succ c=>have:=(znx (A:=A) (i:=i) (j:=j) (show c<(onL A k i j).length by omega)).1;omega
theorem zvM {c:Nat}:val (onA A k i j c 0)=0:=by unfold onA;rw[if_pos rfl];exact zda
theorem zvN {c y:Nat}:onA A k i j c (y+1)=A (nd A k i j c) (nd A k i j (y+1)):=by unfold onA;rw[if_neg (by omega)]
theorem zGF (hk:k≤n)(c:Nat):rs ((onL A k i j).length+1) (fun y=>val (onA A k i j c y))≤rs n (fun m=>val (A (nd A k i j c) m)):=by
 rw[ziW,zvM]
 have e1:rs (onL A k i j).length (fun y=>val (onA A k i j c (y+1)))=rs k (fun m=>if onB A k i j m=true then val (A (nd A k i j c) m) else 0):=by
  rw[← zvC (fun m=>val (A (nd A k i j c) m)) (onB A k i j) k];refine zaL (fun y _ => ?_);rw[zvN,zio];rfl
 rw[e1]
 have h1:rs k (fun m=>if onB A k i j m=true then val (A (nd A k i j c) m) else 0)≤rs k (fun m=>val (A (nd A k i j c) m)):=zhF (fun m _=>by
  by_cases hp:onB A k i j m=true
  ·rw[if_pos hp];exact Rat.le_refl
  ·rw[if_neg hp];exact zbB _)
 have h2:=zvK (f:=fun m=>val (A (nd A k i j c) m)) (n:=k) (n - k) (fun m _=>zbB _);rw[show k+(n - k)=n by omega] at h2
 grind
theorem zvO {Q:Nat→Rat}(hk:k≤n)(hi:i<n)(hQ:∀ x,x<n→1≤Q x):rp ((onL A k i j).length+1) (fun c=>Q (nd A k i j c))≤Q i * rp n Q:=by
 rw[zsD];have e0:nd A k i j 0=i:=rfl;rw[e0]
 have e1:rp (onL A k i j).length (fun c=>Q (nd A k i j (c+1)))=rp k (fun m=>if onB A k i j m=true then Q m else 1):=by
  rw[← zvD Q (onB A k i j) k];refine zhb (fun y _ => ?_);rw[zio];rfl
 rw[e1]
 have h1:rp k (fun m=>if onB A k i j m=true then Q m else 1)≤rp k Q:=zhG (fun m hm=>by
  have:=hQ m (by omega)
  by_cases hp:onB A k i j m=true
  ·rw[if_pos hp];grind
  ·rw[if_neg hp];grind) (fun m hm=>by
  have:=hQ m (by omega)
  by_cases hp:onB A k i j m=true
  ·rw[if_pos hp];exact Rat.le_refl
  ·rw[if_neg hp];exact this)
 have h2:=zvE (f:=Q) (n:=k) (n - k) (fun m hm=>hQ m (by omega));rw[show k+(n - k)=n by omega] at h2;have h3:=hQ i hi;exact Rat.mul_le_mul_of_nonneg_left (Rat.le_trans h1 h2) (by grind)
theorem quotient (h:Fin2 (el S2 A k i j))(hk:k≤n)(hi:i<n)(hj:j<n){d Q:Nat→Rat}(hd:∀ x,x<n→1≤d x)(hdI:∀ x,x<n→isI (d x))(hAI:∀ x y,x<n→y<n→Fin2 (A x y)→isI (d x * val (A x y)))
  (hQ:∀ x,x<n→2 * (d x * (1+rs n (fun m=>val (A x m))))≤Q x) :
  ∃ N M:Rat,isI N∧isI M∧M≠0∧val (el S2 A k i j) * M=N∧ab N≤Q i * rp n Q∧ab M≤Q i * rp n Q:=by
 have hsum:∀ x,0≤rs n (fun m=>val (A x m)):=fun x=>zcz (fun m _=>zbB _)
 have hdR:∀ x,x<n→d x≤d x * (1+rs n (fun m=>val (A x m))):=fun x hx=>by
  have h1:=hd x hx;have h2:=Rat.mul_nonneg (show 0≤d x by grind) (hsum x)
  grind
 have hQ1:∀ x,x<n→1≤Q x:=fun x hx=>by
  have:=hQ x hx;have:=hdR x hx;have:=hd x hx
  grind
 have hV:∀ y c,y<(onL A k i j).length+1→c<(onL A k i j).length+1→isI (d (nd A k i j c) * idV (fun x y=>val (onA A k i j x y)) y c):=fun y c hy hc=>by
  have hc2:=zjd (A:=A) (j:=j) hk hi hc;have e:d (nd A k i j c) * idV (fun x y=>val (onA A k i j x y)) y c=d (nd A k i j c) * (if c=y then 1 else 0) + -(d (nd A k i j c) * val (onA A k i j c y)):=by unfold idV;grind
  rw[e];refine zik (zbV (hdI _ hc2) (by split;exact⟨1,rfl⟩;exact⟨0,rfl⟩)) (zvL ?_);cases y with
  | zero=>rw[zvM];exact zbV (hdI _ hc2) ⟨0,rfl⟩
  | succ y =>
   rw[zvN];exact hAI _ _ hc2 (zjd hk hi hy) (zsE h hc (by omega))
 have hE:∀ c,c<(onL A k i j).length+1→isI (d (nd A k i j c) * val (A (nd A k i j c) j)):=fun c hc=>hAI _ _ (zjd hk hi hc) hj (zfG (ziq h hc)).1
 have hcr:=zzW (k:=(onL A k i j).length) (fun y c=>d (nd A k i j c) * idV (fun x y=>val (onA A k i j x y)) y c) (fun y=>val (el S2 A k (nd A k i j y) j)) (fun c=>d (nd A k i j c) * val (A (nd A k i j c) j)) (fun c hc=>by
  rw[zHc h hc,← zcG];exact zaL (fun y _=>by grind))
 have hsc:=zmi ((onL A k i j).length+1) (fun c=>d (nd A k i j c)) (idV (fun x y=>val (onA A k i j x y)));have hne:=zxf ((onL A k i j).length+1) (onA A k i j) (fun t x y ht hx hy=>zGu h ht hx hy);have hD:=zhH (f:=fun c=>d (nd A k i j c)) (n:=(onL A k i j).length+1) (fun c hc=>hd _ (zjd hk hi hc))
 have hrow:∀ c,c<(onL A k i j).length+1→rs ((onL A k i j).length+1) (fun y=>ab (d (nd A k i j c) * idV (fun x y=>val (onA A k i j x y)) y c))≤d (nd A k i j c) * (1+rs n (fun m=>val (A (nd A k i j c) m))):=fun c hc=>by
  have h1:=hd _ (zjd (A:=A) (j:=j) hk hi hc)
  have hle:rs ((onL A k i j).length+1) (fun y=>ab (d (nd A k i j c) * idV (fun x y=>val (onA A k i j x y)) y c))≤rs ((onL A k i j).length+1) (fun y=>d (nd A k i j c) * (1 * (if c=y then 1 else 0)+val (onA A k i j c y))):=zhF (fun y _=>by
   rw[zil,zeH (show 0≤d (nd A k i j c) by grind)];refine Rat.mul_le_mul_of_nonneg_left ?_ (by grind);have h2:=zbB (onA A k i j c y);unfold idV;refine zxd ?_ ?_ <;> split <;> grind)
  rw[zcG,zfo,zlk (fun _=>1) hc] at hle;exact Rat.le_trans hle (Rat.mul_le_mul_of_nonneg_left (by have:=zGF (A:=A) (i:=i) (j:=j) hk c;grind) (by grind))
 have hb1:rp ((onL A k i j).length+1) (fun c=>rs ((onL A k i j).length+1) (fun y=>ab (d (nd A k i j c) * idV (fun x y=>val (onA A k i j x y)) y c)))≤Q i * rp n Q:=by
  refine Rat.le_trans (zhG (fun c _=>zcz (fun y _=>zbO _)) (fun c hc => ?_)) (zvO (A:=A) (j:=j) (Q:=Q) hk hi hQ1);have hx:=zjd (A:=A) (j:=j) hk hi hc;have h1:=hrow c hc;have h2:=hQ _ hx;have h3:=hdR _ hx;have h4:=hd _ hx
  grind
 have hb2:rp ((onL A k i j).length+1) (fun c=>rs ((onL A k i j).length+1) (fun y=>ab (up (fun y c=>d (nd A k i j c) * idV (fun x y=>val (onA A k i j x y)) y c) 0 (fun c=>d (nd A k i j c) * val (A (nd A k i j c) j)) y c)))≤Q i * rp n Q:=by
  refine Rat.le_trans (zhG (fun c _=>zcz (fun y _=>zbO _)) (fun c hc => ?_)) (zvO (A:=A) (j:=j) (Q:=Q) hk hi hQ1);have hx:=zjd (A:=A) (j:=j) hk hi hc;have h1:=hrow c hc;have h2:=hQ _ hx;have h4:=hd _ hx;rw[ziW] at h1 ⊢;have e1:rs (onL A k i j).length (fun m=>ab (up (fun y c=>d (nd A k i j c) * idV (fun x y=>val (onA A k i j x y)) y c) 0 (fun c=>d (nd A k i j c) * val (A (nd A k i j c) j)) (m+1) c))=rs (onL A k i j).length (fun m=>ab (d (nd A k i j c) * idV (fun x y=>val (onA A k i j x y)) (m+1) c)):=zaL (fun m _=>by unfold up;rw[if_neg (by omega)]);have e2:up (fun y c=>d (nd A k i j c) * idV (fun x y=>val (onA A k i j x y)) y c) 0 (fun c=>d (nd A k i j c) * val (A (nd A k i j c) j)) 0 c=d (nd A k i j c) * val (A (nd A k i j c) j):=by unfold up;rw[if_pos rfl]
  rw[e1,e2,zil,zeH (show 0≤d (nd A k i j c) by grind),zeH (zbB _)];have h5:=zrn (f:=fun m=>val (A (nd A k i j c) m)) (n:=n) (j:=j) (fun m _=>zbB _) hj;have h6:=Rat.mul_le_mul_of_nonneg_left h5 (show 0≤d (nd A k i j c) by grind);have h7:=zbO (d (nd A k i j c) * idV (fun x y=>val (onA A k i j x y)) 0 c)
  grind
 refine⟨_,_,zkm (fun y c hy hc => ?_),zkm hV,?_,hcr.symm,Rat.le_trans (zhc _ _) hb2,Rat.le_trans (zhc _ _) hb1⟩
 ·unfold up
  by_cases e:y=0
  ·rw[if_pos e];exact hE c hc
  ·rw[if_neg e];exact hV y c hy hc
 ·rw[hsc]
  intro e;rcases Rat.mul_eq_zero.1 e with e|e
  ·grind
  ·exact hne e
end
theorem zgB (y:Rat):(y.num:Rat)=y * (y.den:Rat):=by
 have h:=Rat.num_divInt_den y;rw[Rat.divInt_eq_div] at h;have hd:((y.den:Int):Rat)≠0:=fun e=>y.den_nz (by have:=Rat.intCast_inj.1 (e.trans (by rfl:(0:Rat)=((0:Int):Rat)));omega);have h2:=Rat.div_mul_cancel (a:=(y.num:Rat)) hd;rw[h] at h2;exact h2.symm
theorem zlP {y:Rat}{N M:Rat}(hN:isI N)(hM:isI M)(h0:M≠0)(h:y * M=N){P:Nat}(h1:ab N≤(P:Rat))(h2:ab M≤(P:Rat)):y.num.natAbs≤P∧y.den≤P:=by
 obtain⟨a,rfl⟩:=hN;obtain⟨b,rfl⟩:=hM;have hb:b≠0:=fun e=>h0 (by rw[e];rfl)
 have hab:∀ z:Int,ab (z:Rat)≤(P:Rat)→z.natAbs≤P:=fun z hz=>by
  have h3:=Rat.le_trans (zxe (z:Rat)) hz;have h4:=Rat.le_trans (zkn (z:Rat)) hz
  have h5:z≤(P:Int):=by
   have:(z:Rat)≤((P:Int):Rat):=h3;exact Rat.intCast_le_intCast.1 this
  have h6 : -z≤(P:Int):=by
   have:((-z:Int):Rat)≤((P:Int):Rat):=by rw[Rat.intCast_neg];exact h4
   exact Rat.intCast_le_intCast.1 this
  omega
 have hA:=hab a h1;have hB:=hab b h2
 have hy:(y.num * b:Int)=a * (y.den:Int):=by
  have e1:(y.num:Rat)=y * (y.den:Rat):=zgB y
  have e2:((y.num * b:Int):Rat)=((a * (y.den:Int):Int):Rat):=by
   rw[Rat.intCast_mul,Rat.intCast_mul,e1,← h];show y * (y.den:Rat) * (b:Rat)=y * (b:Rat) * (y.den:Rat)
   grind
  exact Rat.intCast_inj.1 e2
 have hcop:=y.reduced
 have hden:y.den ∣ b.natAbs:=by
  have h3:(y.den:Int) ∣ y.num * b:=⟨a,by rw[hy];exact Int.mul_comm _ _⟩;have h4:y.den ∣ (y.num * b).natAbs:=Int.ofNat_dvd_left.1 h3;rw[Int.natAbs_mul] at h4;exact(Nat.Coprime.dvd_of_dvd_mul_left hcop.symm h4)
 have hdb:y.den≤b.natAbs:=Nat.le_of_dvd (by omega) hden;refine⟨?_,by omega⟩
 by_cases ha:a=0
 ·have:y.num * b=0:=by rw[hy,ha,Int.zero_mul]
  rcases Int.mul_eq_zero.1 this with h|h
  ·rw[h];exact Nat.zero_le _
  ·exact absurd h hb
 ·have hnum:y.num.natAbs ∣ a.natAbs:=by
   have h3:y.num ∣ a * (y.den:Int):=⟨b,hy.symm⟩;have h4:y.num.natAbs ∣ (a * (y.den:Int)).natAbs:=Int.natAbs_dvd_natAbs.2 h3;rw[Int.natAbs_mul] at h4;exact Nat.Coprime.dvd_of_dvd_mul_right hcop (by simpa using h4)
  exact Nat.le_trans (Nat.le_of_dvd (by omega) hnum) hA
open Go.RowKit
def dl:List Rat→Rat
 | []=>1
 | x::l=>(x.den:Rat) * dl l
def bl:List Rat→Rat
 | []=>1
 | x::l=>((x.num:Rat)+(x.den:Rat)) * bl l
def sl:List Rat→Rat
 | []=>0
 | x::l=>x+sl l
theorem zvP (x:Rat):(1:Rat)≤(x.den:Rat):=by
 have h:((1:Int):Rat)≤((x.den:Int):Rat):=Rat.intCast_le_intCast.2 (by have:=x.den_pos;omega);exact h
theorem zlo (x:Rat):isI (x.den:Rat):=⟨(x.den:Int),rfl⟩
theorem zeC:∀ l,1≤dl l
 | []=>Rat.le_refl
 | x::l=>by
  have h1:=zeC l;have h2:=zvP x;have h3:=Rat.mul_le_mul_of_nonneg_right h2 (show 0≤dl l by grind);show 1≤(x.den:Rat) * dl l
  grind
theorem zhh:∀ l,isI (dl l)
 | []=>⟨1,rfl⟩
 | x::l=>zbV (zlo x) (zhh l)
theorem zcS:∀ {l:List Rat},(∀ x∈l,0≤x)→0≤sl l
 | [],_=>Rat.le_refl
 | x::l,h=>by
  have h1:=zcS (l:=l) (fun y hy=>h y (List.mem_cons_of_mem _ hy));have h2:=h x (List.mem_cons_self ..);show 0≤x+sl l
  grind
theorem zje:∀ {l:List Rat},(∀ x∈l,0≤x)→dl l * (1+sl l)≤bl l
 | [],_=>by show(1:Rat) * (1+0)≤1;grind
 | x::l,h=>by
  have ih:=zje (l:=l) (fun y hy=>h y (List.mem_cons_of_mem _ hy));have hs:=zcS (l:=l) (fun y hy=>h y (List.mem_cons_of_mem _ hy));have h0:=h x (List.mem_cons_self ..);have h1:=zeC l;have h2:=zvP x;have hn:=zgB x;have hn0:0≤(x.num:Rat):=by rw[hn];exact Rat.mul_nonneg h0 (by grind)
  have h3:=Rat.mul_le_mul_of_nonneg_left ih (show 0≤(x.den:Rat) by grind)
  have h4:dl l≤dl l * (1+sl l):=by
   have:=Rat.mul_nonneg (show 0≤dl l by grind) hs
   grind
  have h5:=Rat.mul_le_mul_of_nonneg_left (Rat.le_trans h4 ih) hn0;show(x.den:Rat) * dl l * (1+(x+sl l))≤((x.num:Rat)+(x.den:Rat)) * bl l;have e:(x.den:Rat) * dl l * (1+(x+sl l))=(x.den:Rat) * (dl l * (1+sl l))+(x.num:Rat) * dl l:=by rw[hn];grind
  rw[e]
  grind
theorem zjf (p:Nat→Bool):∀ (l:List (Nat × Rat)),isI (dl (l.map (·.2)) * sl ((l.filter (fun x=>p x.1)).map (·.2)))
 | []=>⟨0,by show(1:Rat) * 0=_;grind⟩
 | x::l=>by
  have ih:=zjf p l;have hd:=zhh (l.map (·.2));have hn:=zgB x.2;have hx:isI ((x.2.den:Rat) * x.2):=⟨x.2.num,by rw[hn];grind⟩;show isI ((x.2.den:Rat) * dl (l.map (·.2)) * sl (((x::l).filter (fun x=>p x.1)).map (·.2)))
  by_cases hp:p x.1=true
  ·rw[List.filter_cons_of_pos (p:=fun x:Nat × Rat=>p x.1) hp]
   show isI ((x.2.den:Rat) * dl (l.map (·.2)) * (x.2+sl ((l.filter (fun x=>p x.1)).map (·.2))));have e:(x.2.den:Rat) * dl (l.map (·.2)) * (x.2+sl ((l.filter (fun x=>p x.1)).map (·.2)))=(x.2.den:Rat) * x.2 * dl (l.map (·.2))+(x.2.den:Rat) * (dl (l.map (·.2)) * sl ((l.filter (fun x=>p x.1)).map (·.2))):=by grind
   rw[e];exact zik (zbV hx hd) (zbV (zlo _) ih)
  ·rw[List.filter_cons_of_neg (p:=fun x:Nat × Rat=>p x.1) hp]
   have e:(x.2.den:Rat) * dl (l.map (·.2)) * sl ((l.filter (fun x=>p x.1)).map (·.2))=(x.2.den:Rat) * (dl (l.map (·.2)) * sl ((l.filter (fun x=>p x.1)).map (·.2))):=by grind
   rw[e];exact zbV (zlo _) ih
theorem zGG:∀ {l:List Rat},(∀ x∈l,0≤x)→1≤bl l
 | l,h=>by
  have h1:=zje h;have h2:=zeC l;have h3:=Rat.mul_nonneg (show 0≤dl l by grind) (zcS h)
  grind
def tenP (n:Nat):Rat:=((10 ^ n:Nat):Rat)
theorem zbS (m n:Nat):tenP (m+n)=tenP m * tenP n:=by
 unfold tenP;rw[Nat.pow_add];show(((10 ^ m * 10 ^ n:Nat):Int):Rat)=(((10 ^ m:Nat):Int):Rat) * (((10 ^ n:Nat):Int):Rat);rw[Int.natCast_mul,Rat.intCast_mul]
theorem zbu (n:Nat):0≤tenP n:=by
 have h:((0:Int):Rat)≤(((10 ^ n:Nat):Int):Rat):=Rat.intCast_le_intCast.2 (Int.natCast_nonneg _);exact h
theorem zro {w:Nat}:∀ {l:List Rat},(∀ x∈l,0≤x∧(x.num:Rat)+(x.den:Rat)≤tenP w)→bl l≤tenP (w * l.length)
 | [],_=>by show(1:Rat)≤tenP (w * 0);rw[Nat.mul_zero];exact Rat.le_refl
 | x::l,h=>by
  have ih:=zro (l:=l) (fun y hy=>h y (List.mem_cons_of_mem _ hy));have h1:=h x (List.mem_cons_self ..);have h2:=zGG (l:=l) (fun y hy=>(h y (List.mem_cons_of_mem _ hy)).1);show((x.num:Rat)+(x.den:Rat)) * bl l≤tenP (w * (l.length+1));rw[Nat.mul_succ,zbS];have h3:=Rat.mul_le_mul_of_nonneg_right h1.2 (show 0≤bl l by grind);have h4:=Rat.mul_le_mul_of_nonneg_left ih (zbu w);have:=Rat.le_trans h3 h4
  grind
open Go.RowKit
def ns:Nat→(Nat→Nat)→Nat
 | 0,_=>0
 | n+1,f=>ns n f+f n
theorem zEu {f:Nat→Nat}:∀ {n i:Nat},i<n→f i≤ns n f
 | n+1,i,h=>by
  show f i≤ns n f+f n
  by_cases e:i=n
  ·subst e;omega
  ·have:=zEu (f:=f) (n:=n) (i:=i) (by omega);omega
theorem zsU {f:Nat→Rat}{g:Nat→Nat}:∀ {n:Nat},(∀ m,m<n→0≤f m∧f m≤tenP (g m))→rp n f≤tenP (ns n g)
 | 0,_=>by show(1:Rat)≤tenP 0;exact Rat.le_refl
 | n+1,h=>by
  have ih:=zsU (f:=f) (g:=g) (n:=n) (fun m hm=>h m (by omega));have h1:=h n (by omega);show rp n f * f n≤tenP (ns n g+g n);rw[zbS];have h2:=Rat.mul_le_mul_of_nonneg_right ih h1.1;have h3:=Rat.mul_le_mul_of_nonneg_left h1.2 (zbu (ns n g));exact Rat.le_trans h2 h3
theorem zsV (f:Nat→Nat):∀ n,ns n (fun x=>4 * f x+1)=4 * ns n f+n
 | 0=>rfl
 | n+1=>by
  show ns n (fun x=>4 * f x+1)+(4 * f n+1)=4 * (ns n f+f n)+(n+1);rw[zsV f n];omega
theorem zAs (e:Nat)(v:Rat)(hv:0≤v):∀ n,rs n (fun m=>if e=m then v else 0)≤v
 | 0=>hv
 | n+1=>by
  show rs n (fun m=>if e=m then v else 0)+(if e=n then v else 0)≤v
  by_cases h:e=n
  ·rw[if_pos h,zgK (fun m hm=>by rw[if_neg (by omega)])];grind
  ·rw[if_neg h];have:=zAs e v hv n;grind
theorem zjg (n:Nat):∀ {l:List (Nat × Rat)},(∀ e∈l,0≤e.2)→rs n (fun m=>sl ((l.filter (fun e=>e.1 == m)).map (·.2)))≤sl (l.map (·.2))
 | [],_=>by
  have h:rs n (fun m=>sl ((([]:List (Nat × Rat)).filter (fun e=>e.1 == m)).map (·.2)))=0:=zgK (fun _ _=>rfl);rw[h];exact Rat.le_refl
 | e::l,h=>by
  have ih:=zjg n (l:=l) (fun y hy=>h y (List.mem_cons_of_mem _ hy));have h0:=h e (List.mem_cons_self ..)
  have e1:rs n (fun m=>sl (((e::l).filter (fun e=>e.1 == m)).map (·.2)))=rs n (fun m=>(if e.1=m then e.2 else 0)+sl ((l.filter (fun e=>e.1 == m)).map (·.2))):=zaL (fun m _=>by
   by_cases hp:e.1=m
   ·rw[if_pos hp,List.filter_cons_of_pos (p:=fun e:Nat × Rat=>e.1 == m) (by simp[hp])];rfl
   ·rw[if_neg hp,List.filter_cons_of_neg (p:=fun e:Nat × Rat=>e.1 == m) (by simp[hp])];grind)
  rw[e1,zfo];have h1:=zAs e.1 e.2 h0 n;show _≤e.2+sl (l.map (·.2))
  grind
theorem zAt {A:Nat→Nat→El 2}{k i j n c:Nat}(L:Nat→List (Nat × Rat))(hk:k≤n)(hi:i<n)(hj:j<n)
  (hL:∀ x,x<n→∀ e∈L x,0≤e.2∧(e.2.num:Rat)+(e.2.den:Rat)≤tenP 4)
  (hA:∀ x y,x<n→y<n→Fin2 (A x y)→val (A x y)=sl (((L x).filter (fun e=>e.1 == y)).map (·.2)))
  (hc:ns n (fun x=>(L x).length)≤c) (h:Fin2 (el S2 A k i j)):zaz (8 * c+n+2) (el S2 A k i j).1:=by
 have hpos:∀ x,x<n→∀ y∈(L x).map (·.2),0≤y:=fun x hx y hy=>by
  obtain⟨e,he,rfl⟩:=List.mem_map.1 hy;exact(hL x hx e he).1
 have hten:∀ x,x<n→bl ((L x).map (·.2))≤tenP (4 * (L x).length):=fun x hx=>by
  have:=zro (w:=4) (l:=(L x).map (·.2)) (fun y hy=>by
   obtain⟨e,he,rfl⟩:=List.mem_map.1 hy;exact hL x hx e he)
  rwa [List.length_map] at this
 have hsum:∀ x,x<n→rs n (fun m=>val (A x m))≤sl ((L x).map (·.2)):=fun x hx=>by
  refine Rat.le_trans (zhF (fun m hm => ?_)) (zjg n (fun e he=>(hL x hx e he).1))
  by_cases hf:Fin2 (A x m)
  ·rw[hA x m hx hm hf];exact Rat.le_refl
  ·have:val (A x m)=0:=by unfold val;rw[zcg.1 hf]
   rw[this];refine zcS (fun y hy => ?_);obtain⟨e,he,rfl⟩:=List.mem_map.1 hy;exact(hL x hx e (List.mem_filter.1 he).1).1
 have hQ:∀ x,x<n→2 * (dl ((L x).map (·.2)) * (1+rs n (fun m=>val (A x m))))≤tenP (4 * (L x).length+1):=fun x hx=>by
  have h1:=zje (hpos x hx);have h2:=hten x hx;have h3:=hsum x hx;have h4:=zeC ((L x).map (·.2));have h5:=Rat.mul_le_mul_of_nonneg_left h3 (show 0≤dl ((L x).map (·.2)) by grind);have h6:=zbu (4 * (L x).length);rw[zbS];have h7:tenP 1=10:=by unfold tenP;decide +kernel
  rw[h7]
  grind
 obtain⟨N,M,hN,hM,hM0,hy,hbN,hbM⟩:=quotient (A:=A) (k:=k) (i:=i) (j:=j) (n:=n) (d:=fun x=>dl ((L x).map (·.2))) (Q:=fun x=>tenP (4 * (L x).length+1)) h hk hi hj (fun x _=>zeC _) (fun x _=>zhh _) (fun x y hx hy hf=>by
  rw[hA x y hx hy hf];exact zjf (fun z=>z == y) (L x)) hQ
 have hP:tenP (4 * (L i).length+1) * rp n (fun x=>tenP (4 * (L x).length+1))≤((10 ^ (8 * c+n+1):Nat):Rat):=by
  have h1:=zsU (f:=fun x=>tenP (4 * (L x).length+1)) (g:=fun x=>4 * (L x).length+1) (n:=n) (fun m _=>⟨zbu _,Rat.le_refl⟩);rw[zsV (fun x=>(L x).length) n] at h1;have h2:=Rat.mul_le_mul_of_nonneg_left h1 (zbu (4 * (L i).length+1));rw[← zbS] at h2
  have h3:4 * (L i).length+1+(4 * ns n (fun x=>(L x).length)+n)≤8 * c+n+1:=by
   have:=zEu (f:=fun x=>(L x).length) hi
   omega
  refine Rat.le_trans h2 ?_
  have h4:((10 ^ (4 * (L i).length+1+(4 * ns n (fun x=>(L x).length)+n)):Nat):Int)≤((10 ^ (8 * c+n+1):Nat):Int):=by
   have:=Nat.pow_le_pow_right (show 0<10 by omega) h3;exact Int.ofNat_le.2 this
  exact Rat.intCast_le_intCast.2 h4
 have hw:=zlP (y:=val (el S2 A k i j)) hN hM hM0 hy (P:=10 ^ (8 * c+n+1)) (Rat.le_trans hbN hP) (Rat.le_trans hbM hP);rw[zcC h];have hlt:10 ^ (8 * c+n+1)<10 ^ (8 * c+n+2):=Nat.pow_lt_pow_right (by omega) (by omega);exact⟨zej _ _ (by omega) (Nat.lt_of_le_of_lt hw.1 hlt),zej _ _ (by omega) (Nat.lt_of_le_of_lt hw.2 hlt)⟩
open Go.RowKit
open Go.Lib (nDigits)
variable {α:Type}
def cs (S:Sr α):List (Nat × α)→Nat→α
 | [],_=>S.zero
 | e::l,y=>if e.1=y then S.add e.2 (cs S l y) else cs S l y
theorem zlp (S:Sr α)(e:Nat × α)(y:Nat):∀ l,cs S (l++[e]) y=if e.1=y then S.add (cs S l y) e.2 else cs S l y
 | []=>by
  show(if e.1=y then S.add e.2 S.zero else S.zero)=if e.1=y then S.add S.zero e.2 else S.zero
  rw[S.add_comm]
 | x::l=>by
  show(if x.1=y then S.add x.2 (cs S (l++[e]) y) else cs S (l++[e]) y)=if e.1=y then S.add (if x.1=y then S.add x.2 (cs S l y) else cs S l y) e.2 else (if x.1=y then S.add x.2 (cs S l y) else cs S l y)
  rw[zlp S e y l]
  by_cases h1:x.1=y
  ·simp only[h1,if_true]
   by_cases h2:e.1=y
   ·simp only[h2,if_true];rw[S.add_assoc]
   ·simp only[h2,if_false]
  ·simp only[h1,if_false]
def Sh4:Ext→Prop
 | .inr x=>nDigits x.num.natAbs+(if x.den=1 then 0 else nDigits x.den)≤4
 | _=>True
theorem Sh4.wide {v:Ext}(h:Sh4 v):zaz 4 v:=by
 rcases v with(_|_)|x
 ·trivial
 ·trivial
 ·have h1:nDigits x.num.natAbs+(if x.den=1 then 0 else nDigits x.den)≤4:=h
  refine⟨by omega,?_⟩
  by_cases hd:x.den=1
  ·rw[hd,show nDigits 1=1 from Lib.nDigits_small (by decide)];omega
  ·rw[if_neg hd] at h1;omega
theorem Sh4.ten {x:Rat}(h:Sh4 (.inr x))(h0:0≤x):(x.num:Rat)+(x.den:Rat)≤tenP 4:=by
 have h1:nDigits x.num.natAbs+(if x.den=1 then 0 else nDigits x.den)≤4:=h;have hn:=Rat.num_nonneg.2 h0;have u1:=zei x.num.natAbs;have u2:=zei x.den;have p1:=Lib.nDigits_pos x.num.natAbs
 have key:x.num+(x.den:Int)≤((10 ^ 4:Nat):Int):=by
  by_cases hd:x.den=1
  ·rw[if_pos hd] at h1
   have h2:x.num.natAbs<10 ^ 4:=Nat.lt_of_lt_of_le u1 (Nat.pow_le_pow_right (by omega) (by omega));rw[hd]
   omega
  ·rw[if_neg hd] at h1
   have p2:=Lib.nDigits_pos x.den;have h2:x.num.natAbs<10 ^ 3:=Nat.lt_of_lt_of_le u1 (Nat.pow_le_pow_right (by omega) (by omega));have h3:x.den<10 ^ 3:=Nat.lt_of_lt_of_le u2 (Nat.pow_le_pow_right (by omega) (by omega))
   omega
 have h3:=Rat.intCast_le_intCast.2 key;rw[Rat.intCast_add] at h3;exact h3
def fins:List (Nat × El 2)→List (Nat × Rat)
 | []=>[]
 | e::l=>match e.2.1 with
  | .inr x=>(e.1,x)::fins l
  | _=>fins l
theorem zhL (e:Nat × El 2)(l:List (Nat × El 2)):(¬ Fin2 e.2∧fins (e::l)=fins l)∨(Fin2 e.2∧fins (e::l)=(e.1,val e.2)::fins l):=by
 rcases El2.cases e.2 with h|⟨x,h,hx⟩
 ·refine .inl ⟨zcg.2 h,?_⟩
  conv=>lhs;unfold fins
  rw[h]
 ·refine .inr ⟨⟨x,h⟩,?_⟩
  rw[zhd h]
  conv=>lhs;unfold fins
  rw[h]
theorem zhM:∀ l,(fins l).length≤l.length
 | []=>Nat.le_refl _
 | e::l=>by
  have ih:=zhM l;rcases zhL e l with⟨_,h⟩|⟨_,h⟩ <;> rw[h]
  ·rw[List.length_cons];omega
  ·rw[List.length_cons,List.length_cons];omega
theorem zck:∀ {l:List (Nat × El 2)},(∀ e∈l,Sh4 e.2.1)→∀ e∈fins l,0≤e.2∧(e.2.num:Rat)+(e.2.den:Rat)≤tenP 4
 | [],_,e,he=>by cases he
 | a::l,h,e,he=>by
  have ih:=zck (l:=l) (fun x hx=>h x (List.mem_cons_of_mem _ hx));rcases zhL a l with⟨_,h2⟩|⟨hf,h2⟩ <;> rw[h2] at he
  ·exact ih e he
  ·rcases List.mem_cons.1 he with rfl|he
   ·have h3:=h a (List.mem_cons_self ..)
    rw[zcC hf] at h3;exact⟨zbB _,h3.ten (zbB _)⟩
   ·exact ih e he
theorem zkr (y:Nat):∀ {l:List (Nat × El 2)},Fin2 (cs S2 l y)→val (cs S2 l y)=sl (((fins l).filter (fun e=>e.1 == y)).map (·.2))
 | [],_=>rfl
 | e::l,h=>by
  by_cases hy:e.1=y
  ·have e1:cs S2 (e::l) y=S2.add e.2 (cs S2 l y):=if_pos hy
   rw[e1] at h ⊢;obtain⟨h1,h2⟩:=zgL.1 h;have ih:=zkr y (l:=l) h2;rcases zhL e l with⟨h3,_⟩|⟨_,h3⟩
   ·exact absurd h1 h3
   ·rw[h3,List.filter_cons_of_pos (by simp[hy]),List.map_cons,zgM h1 h2,ih];rfl
  ·have e1:cs S2 (e::l) y=cs S2 l y:=if_neg hy
   rw[e1] at h ⊢;have ih:=zkr y (l:=l) h;rcases zhL e l with⟨_,h3⟩|⟨_,h3⟩ <;> rw[h3]
   ·exact ih
   ·rw[List.filter_cons_of_neg (by simp[hy])];exact ih
theorem zpi {f g:Nat→Nat}:∀ {n:Nat},(∀ m,m<n→f m≤g m)→ns n f≤ns n g
 | 0,_=>Nat.le_refl _
 | n+1,h=>by
  have h1:=zpi (f:=f) (g:=g) (n:=n) (fun m hm=>h m (by omega));have h2:=h n (by omega);show ns n f+f n≤ns n g+g n
  omega
theorem zDr {A:Nat→Nat→El 2}{M:Nat→List (Nat × El 2)}{n c t i j:Nat}(ht:t≤n)(hi:i<n)(hj:j<n)
  (hA:∀ x y,x<n→y<n→A x y=cs S2 (M x) y) (hM:∀ x,x<n→∀ e∈M x,Sh4 e.2.1) (hc:ns n (fun x=>(M x).length)≤c) :
  zaz (8 * c+n+2) (el S2 A t i j).1:=by
 by_cases hf:Fin2 (el S2 A t i j)
 ·refine zAt (fun x=>fins (M x)) ht hi hj (fun x hx=>zck (hM x hx)) (fun x y hx hy h => ?_) (Nat.le_trans (zpi (fun m _=>zhM (M m))) hc) hf
  rw[hA x y hx hy] at h ⊢;exact zkr y h
 ·rw[zcg.1 hf];trivial
theorem zgk {k:Int}(h:k=1∨k=3){n:Nat}{u v:Ext}(hu:zaz n u)(hv:zaz n v):zaz n (zcm k u v):=by
 rcases h with rfl|rfl
 ·show zaz n (zbD u v)
  rcases zvv u v with h|h <;> rw[h]
  ·exact hu
  ·exact hv
 ·show zaz n (zbz u v)
  rcases zoz u v with h|h <;> rw[h]
  ·exact hu
  ·exact hv
theorem zuD {k:Int}(h:k=1∨k=3)(u:Ext):zaz 1 (zcK k u):=by
 rcases h with rfl|rfl
 ·show zaz 1 (if cmpE u (.inr 0)<0 then .inl false else .inr 0)
  split
  ·trivial
  ·exact zgv
 ·show zaz 1 (if 0<cmpE u (.inr 1) then .inl true else .inr 1)
  split
  ·trivial
  ·exact zpP
def wn:Nat→Nat
 | 0=>4
 | t+1=>2 * wn t+3
theorem zGH:∀ t,1≤wn t
 | 0=>by decide
 | t+1=>by show 1≤2 * wn t+3;omega
theorem zvQ:∀ {s t:Nat},s≤t→wn s≤wn t
 | s,0,h=>by rw[Nat.le_zero.1 h];exact Nat.le_refl _
 | s,t+1,h=>by
  by_cases e:s=t+1
  ·rw[e];exact Nat.le_refl _
  ·have:=zvQ (s:=s) (t:=t) (by omega)
   show wn s≤2 * wn t+3
   omega
theorem zpj {k:Int}(hk:zad k)(h:k=1∨k=3)(y:Nat):∀ {l:List (Nat × El k)},(∀ e∈l,Sh4 e.2.1)→zaz 4 (cs (srE k hk) l y).1
 | [],_=>(zcW k).mono (by omega)
 | e::l,hl=>by
  have ih:=zpj hk h y (l:=l) (fun x hx=>hl x (List.mem_cons_of_mem _ hx))
  by_cases hy:e.1=y
  ·have e1:cs (srE k hk) (e::l) y=(srE k hk).add e.2 (cs (srE k hk) l y):=if_pos hy
   rw[e1];exact zgk h (hl e (List.mem_cons_self ..)).wide ih
  ·have e1:cs (srE k hk) (e::l) y=cs (srE k hk) l y:=if_neg hy
   rw[e1];exact ih
theorem zqh {k:Int}(hk:zad k)(h:k=1∨k=3){A:Nat→Nat→El k}{n:Nat}(hA:∀ x y,x<n→y<n→zaz 4 (A x y).1):∀ t,t≤n→∀ i j,i<n→j<n→zaz (wn t) (el (srE k hk) A t i j).1
 | 0,_,i,j,hi,hj=>hA i j hi hj
 | t+1,ht,i,j,hi,hj=>by
  have ih:=zqh hk h hA t (by omega);have w1:=ih i j hi hj;have w2:=ih i t hi (by omega);have w4:=ih t j (by omega) hj;have w3:=zuD h (el (srE k hk) A t t t).1;have p:=zGH t;have t1:zaz (wn t+1+1) (zaX k (el (srE k hk) A t i t).1 (zcK k (el (srE k hk) A t t t).1)):=zdD k p w2 w3;have t2:=zdD k (by omega) t1 w4;exact zgk h (w1.mono (by show wn t≤2 * wn t+3;omega)) (t2.mono (by show wn t+1+1+wn t+1≤2 * wn t+3;omega))
structure ziu (k:Int)(hk:zad k)(A:Nat→Nat→El k)(n:Nat)(M:Nat→List (Nat × El k)):Prop where
 row:n≤6
 is:∀ x y,x<n→y<n→A x y=cs (srE k hk) (M x) y
 short:∀ x,x<n→∀ e∈M x,Sh4 e.2.1
 few:ns n (fun x=>(M x).length)≤15
variable {k:Int} {hk:zad k} {A:Nat→Nat→El k} {n:Nat} {M:Nat→List (Nat × El k)}
theorem ziu.el (h:ziu k hk A n M){t i j:Nat}(h5:t≤5)(ht:t≤n)(hi:i<n)(hj:j<n):zaz (if k=2 then 128 else wn t) (el (srE k hk) A t i j).1:=by
 by_cases e:k=2
 ·subst e
  rw[if_pos rfl];have h1:=h.row;exact(zDr (c:=15) ht hi hj h.is h.short h.few).mono (by omega)
 ·rw[if_neg e]
  have e13:k=1∨k=3:=by rcases hk with h|h|h <;> omega
  refine zqh hk e13 (fun x y hx hy => ?_) t ht i j hi hj;rw[h.is x y hx hy];exact zpj hk e13 y (h.short x hx)
theorem wn5:wn 5=221:=rfl
theorem ziu.wide (h:ziu k hk A n M){t i j:Nat}(h5:t≤5)(ht:t≤n)(hi:i<n)(hj:j<n):zaz 221 (Proofs.YtaogepcaoogpgaaGreatDoor.el (srE k hk) A t i j).1:=by
 refine(h.el h5 ht hi hj).mono ?_;have:=zvQ h5;rw[wn5] at this
 split <;> omega
end Go.Proofs.YtaogepcaoogpgaaGreatDoor
