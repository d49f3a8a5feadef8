/- W21 W98 W90 W93 W96 -/
import Derived.Test.YtaogepcaoogpgaaGreatDoorX17
import Derived.Lib.AppendZerosOnto
import Derived.Lib.JoinLaws
set_option linter.unusedVariables false
set_option linter.unusedSimpArgs false
set_option maxRecDepth 100000
set_option maxHeartbeats 16000000
namespace Go.Proofs.YtaogepcaoogpgaaGreatDoor
open Go.RowKit
structure EOut (P:MArc→Bool)(m:Mach)(k:Nat):Prop where
 hk:k≤m.states.length
 hs:∀ (j:Nat) (s:zag),j<k→m.states[j]? = some s→s.arcs.all P=true
theorem EOut.next {P:MArc→Bool}{m:Mach}{k:Nat}{s:zag}(h:EOut P m k)(hs:m.states[k]? = some s)(hP:s.arcs.all P=true):EOut P m (k+1) :=
 ⟨by have:=(List.getElem?_eq_some_iff.1 hs).1;omega,fun j t hj ht=>by
  by_cases e:j=k
  ·subst e;rw[hs] at ht;cases ht;exact hP
  ·exact h.hs j t (by omega) ht⟩
structure EIn (P:MArc→Bool)(s:zag)(j:Nat):Prop where
 hj:j≤s.arcs.length
 ha:∀ (i:Nat) (a:MArc),i<j→s.arcs[i]? = some a→P a=true
theorem EIn.next {P:MArc→Bool}{s:zag}{j:Nat}{a:MArc}(h:EIn P s j)(ha:s.arcs[j]? = some a)(hP:P a=true):EIn P s (j+1) :=
 ⟨by have:=(List.getElem?_eq_some_iff.1 ha).1;omega,fun i b hi hb=>by
  by_cases e:i=j
  ·subst e;rw[ha] at hb;cases hb;exact hP
  ·exact h.ha i b (by omega) hb⟩
theorem EIn.all {P:MArc→Bool}{s:zag}{j:Nat}(h:EIn P s j)(hj:¬ j<s.arcs.length):s.arcs.all P=true:=by
 rw[List.all_eq_true];intro a ha;obtain⟨i,hi⟩:=List.mem_iff_getElem?.1 ha;exact h.ha i a (by have:=(List.getElem?_eq_some_iff.1 hi).1;omega) hi
theorem zBl {m:Mach}(h:validB m=true):m.states.length≤3000:=(zdz (zdy h)).2.2.1
theorem zBm {m:Mach}(h:validB m=true){s:zag}(hs:s∈m.states):s.arcs.length≤30000:=Nat.le_trans (zqC hs) (zjs h)
open Go.RowKit
open Go.RowKit
structure Kept (B:Nat)(W W':World):Prop where
 size:W.heap.size≤W'.heap.size
 block:∀ b,B≤b→b<W.heap.size→W'.heap[b]? = W.heap[b]?
theorem zgr {W W':World}{b B:Nat}(h:W.grownBy W' (some b))(hb:b<B):Kept B W W':=⟨h.size,fun c hc hl=>h.block c hl (by simp;omega)⟩
theorem zoe {W W':World}{B k n:Nat}{A:Option Addr}{xs:List Value}(h:Reads W W.heap.size k A n xs)(hB:0<n→∀ ad,A=some ad→B≤ad.block)(hk:Kept B W W'):Reads W' W'.heap.size k A n xs :=
 ⟨h.1,fun h0=>by
  obtain⟨ad,hA,hb,hc⟩:=h.2 h0;exact⟨ad,hA,Nat.lt_of_lt_of_le hb hk.size,fun j u hu=>(World.cell?_of_block (by rw[zdg];exact hk.block _ (hB h0 ad hA) hb)).trans (hc j u hu)⟩⟩
theorem zbW.keptN {W W':World}{B:Nat}{v:Value}{l:List MArc}(h:zbW W v l)(hB:0<l.length→∀ b,v.ownBlock=some b→B≤b)(hk:Kept B W W'):zbW W' v l:=by
 obtain⟨A,cap,rfl,hr⟩:=h;exact⟨A,cap,rfl,zoe hr (fun h0 ad hA=>by subst hA;exact hB h0 _ rfl) hk⟩
def StN (W:World)(B:Nat)(u:Value)(l:List zag):Prop:=∃ A cap us,u = .slice A l.length cap∧us.length=l.length∧Reads W W.heap.size 2 A l.length ((l.zip us).flatMap stC)∧(0<l.length→∀ ad,A=some ad→B≤ad.block) ∧
 ∀ (k:Nat) (s:zag) (x:Value),l[k]? = some s→us[k]? = some x→zbW W x s.arcs∧(0<s.arcs.length→∀ b,x.ownBlock=some b→B≤b)
theorem StN.sl {W:World}{B:Nat}{u:Value}{l:List zag}(h:StN W B u l):StSl W u l:=by
 obtain⟨A,cap,us,hu,hl,hr,_,ha⟩:=h;exact⟨A,cap,us,hu,hl,hr,fun k s x hs hx=>(ha k s x hs hx).1⟩
theorem StN.kept {W W':World}{B:Nat}{u:Value}{l:List zag}(h:StN W B u l)(hk:Kept B W W'):StN W' B u l:=by
 obtain⟨A,cap,us,hu,hl,hr,hb,ha⟩:=h;exact⟨A,cap,us,hu,hl,zoe hr hb hk,hb,fun k s x hs hx=>⟨(ha k s x hs hx).1.keptN (ha k s x hs hx).2 hk,(ha k s x hs hx).2⟩⟩
theorem StN.mono {W:World}{B C:Nat}{u:Value}{l:List zag}(h:StN W B u l)(hC:C≤B):StN W C u l:=by
 obtain⟨A,cap,us,hu,hl,hr,hb,ha⟩:=h;exact⟨A,cap,us,hu,hl,hr,fun h0 ad hA=>Nat.le_trans hC (hb h0 ad hA),fun k s x hs hx=>⟨(ha k s x hs hx).1,fun h0 b hx2=>Nat.le_trans hC ((ha k s x hs hx).2 h0 b hx2)⟩⟩
theorem StN.nil (W:World)(B:Nat):StN W B (.slice none 0 0) []:=⟨none,0,[],rfl,rfl,Reads.none_,fun h=>by simp at h,fun k s x hs=>by simp at hs⟩
def MN (W:World)(B:Nat)(v:Value)(m:Mach):Prop:=∃ u,v = .agg #[.int .i64 m.kind,.int .i64 m.start,.string m.lead,u]∧StN W B u m.states
def zkH (m:Mach)(w:World)(e:Ending)(w':World):Prop:=∃ v,e = .returned v∧MN w' w.heap.size v m∧w.grownBy w' none
def zyd (r:Mach × Int)(w:World)(e:Ending)(w':World):Prop:=∃ v,e = .returned (.tuple #[v,.int .i64 r.2])∧MN w' w.heap.size v r.1∧w.grownBy w' none
theorem zkH.open6 {m:Mach}{w:World}{e:Ending}{w':World}(h:zkH m w e w'):∃ A c,e = .returned (.agg #[.int .i64 m.kind,.int .i64 m.start,.string m.lead,.slice A m.states.length c])∧StN w' w.heap.size (.slice A m.states.length c) m.states∧w.grownBy w' none:=by
 obtain⟨v,rfl,⟨u,rfl,hst⟩,hg⟩:=h;obtain⟨A,c,us,hv,_⟩:=id hst;subst hv;exact⟨A,c,rfl,hst,hg⟩
theorem zyd.open6 {m:Mach}{k:Int}{w:World}{e:Ending}{w':World}(h:zyd (m,k) w e w'):∃ A c,e = .returned (.tuple #[.agg #[.int .i64 m.kind,.int .i64 m.start,.string m.lead,.slice A m.states.length c],.int .i64 k])∧StN w' w.heap.size (.slice A m.states.length c) m.states∧w.grownBy w' none:=by
 obtain⟨v,rfl,⟨u,rfl,hst⟩,hg⟩:=h;obtain⟨A,c,us,hv,_⟩:=id hst;subst hv;exact⟨A,c,rfl,hst,hg⟩
open Go.RowKit
def zaP:Mach:=⟨0,0,ByteArray.empty,[]⟩
def zbG (k:Int):Mach:=⟨k,0,oneT k,[⟨ByteArray.empty,[]⟩]⟩
theorem zwu:(Tryz.prog.info? 57).map (fun i=>(i.zero,i.size,i.bytes))=some (some (.agg #[.string ByteArray.empty,.slice none 0 0]),2,40):=by kernel_rfl
theorem zcl {t:TypeId}{z:Value}{n b:Nat}(h:(Tryz.prog.info? t).map (fun i=>(i.zero,i.size,i.bytes))=some (some z,n,b)) :
  ∃ i,Tryz.prog.info? t=some i∧i.zero=some z∧i.size=n∧i.bytes=b:=by
 obtain⟨i,hi,he⟩:=Option.map_eq_some_iff.1 h;simp only[Prod.mk.injEq] at he;exact⟨i,hi,he.1,he.2.1,he.2.2⟩
theorem zGp:madeCells (Value.agg #[.string ByteArray.empty,.slice none 0 0]).cells (Int.toNat 1 * 2)=#[.string ByteArray.empty,.slice none 0 0]:=by
 first
 | kernel_rfl
 | simp[madeCells,Value.cells]
 | decide
theorem zao.free {w:World}{g:Nat}{m:Mach}{u:Value}(h:zao w g m u)(k:Nat):w.frozen? ⟨g,k,none⟩=false:=frozen_of_row w g k _ _ h
theorem zao.set {w:World}{g:Nat}{m n:Mach}{u v:Value}(h:zao w g m u) :
  zao ((((w.setCell ⟨g,0,none⟩ (.int .i64 n.kind)).setCell ⟨g,1,none⟩ (.int .i64 n.start)).setCell ⟨g,2,none⟩ (.string n.lead)).setCell ⟨g,3,none⟩ v) g n v:=by
 unfold zao at h ⊢;have h1:=heap_setCell_same w g 0 _ _ (.int .i64 n.kind) h;have h2:=heap_setCell_same _ g 1 _ _ (.int .i64 n.start) h1;have h3:=heap_setCell_same _ g 2 _ _ (.string n.lead) h2;have h4:=heap_setCell_same _ g 3 _ _ v h3;rw[h4]
 rfl
def Place (W0 W':World)(g:Nat):Prop:=(W'.cell? ⟨g,0,none⟩=some (.int .i64 0)∧W'.cell? ⟨g,1,none⟩=some (.int .i64 0)∧W'.cell? ⟨g,2,none⟩=some (.string ByteArray.empty)∧W'.cell? ⟨g,3,none⟩=some (.slice none 0 0) ∧
  W'.frozen? ⟨g,0,none⟩=false∧W'.frozen? ⟨g,1,none⟩=false∧W'.frozen? ⟨g,2,none⟩=false∧W'.frozen? ⟨g,3,none⟩=false)∧Hid (zao W' g zaP (.slice none 0 0)∧W0.grownBy W' none)
theorem zmL {W0 W':World}{g:Nat}(hb:zao W' g zaP (.slice none 0 0))(hg:W0.grownBy W' none):Place W0 W' g :=
 ⟨⟨hb.cells.c0,hb.cells.c1,hb.cells.c2,hb.cells.c3,hb.free 0,hb.free 1,hb.free 2,hb.free 3⟩,zHd ⟨hb,hg⟩⟩
theorem Place.next_drew {W0 W:World}{g:Nat}(h:Place W0 W g):Place W0 W.drew g :=
 zmL (h.2.out.1.grown (zae _ _)) (zaa h.2.out.2 (zae _ _))
theorem zqD {W:World}{b B:Nat}(h:W.heap[b]? = some (.cells #[.string ByteArray.empty,.slice none 0 0] 57 (0,0)))(hB:B≤b):StN W B (.slice (some ⟨b,0,none⟩) 1 1) [⟨ByteArray.empty,[]⟩]:=by
 have hb:b<W.heap.size:=(Array.getElem?_eq_some_iff.1 h).1;have h0:W.cell? ⟨b,0,none⟩=some (.string ByteArray.empty):=by rw[cell_of_row _ b 0 _ _ (0,0) h];rfl
 have h1:W.cell? ⟨b,0+1,none⟩=some (.slice none 0 0):=by show World.cell? _ ⟨b,1,none⟩=_;rw[cell_of_row _ b 1 _ _ (0,0) h];rfl
 refine⟨some ⟨b,0,none⟩,1,[.slice none 0 0],rfl,rfl,⟨rfl,fun _=>⟨_,rfl,hb,fun j u hu => ?_⟩⟩,fun _ ad hA=>by cases hA;exact hB,fun k s u hs hu => ?_⟩
 ·match j,hu with
  | 0,hu=>simp[stC] at hu;subst hu;exact h0
  | 1,hu=>simp[stC] at hu;subst hu;exact h1
  | j+2,hu=>simp[stC] at hu
 ·match k,hs,hu with
  | 0,hs,hu=>simp at hs hu;subst hs hu;exact⟨zbW.nil _,fun h=>by simp at h⟩
  | k+1,hs,hu=>simp at hs
theorem zju (w:World){W W':World}(hg:W.grownBy W' none)(h:(W.cell? ⟨w.heap.size,0,none⟩=some (.int .i64 0)∧W.cell? ⟨w.heap.size,1,none⟩=some (.int .i64 0)∧W.cell? ⟨w.heap.size,2,none⟩=some (.string ByteArray.empty)∧W.cell? ⟨w.heap.size,3,none⟩=some (.slice none 0 0)∧W.frozen? ⟨w.heap.size,0,none⟩=false∧W.frozen? ⟨w.heap.size,1,none⟩=false∧W.frozen? ⟨w.heap.size,2,none⟩=false∧W.frozen? ⟨w.heap.size,3,none⟩=false)∧Hid (zao W w.heap.size zaP (.slice none 0 0)∧w.grownBy W none)):(W'.cell? ⟨w.heap.size,0,none⟩=some (.int .i64 0)∧W'.cell? ⟨w.heap.size,1,none⟩=some (.int .i64 0)∧W'.cell? ⟨w.heap.size,2,none⟩=some (.string ByteArray.empty)∧W'.cell? ⟨w.heap.size,3,none⟩=some (.slice none 0 0)∧W'.frozen? ⟨w.heap.size,0,none⟩=false∧W'.frozen? ⟨w.heap.size,1,none⟩=false∧W'.frozen? ⟨w.heap.size,2,none⟩=false∧W'.frozen? ⟨w.heap.size,3,none⟩=false)∧Hid (zao W' w.heap.size zaP (.slice none 0 0)∧w.grownBy W' none) :=
 zmL (h.2.out.1.grown hg) (zaa h.2.out.2 hg)
theorem zof {w W:World}{n:Mach}{v:Value}(h:Place w W w.heap.size) :
  zao ((((W.setCell ⟨w.heap.size,0,none⟩ (.int .i64 n.kind)).setCell ⟨w.heap.size,1,none⟩ (.int .i64 n.start)).setCell ⟨w.heap.size,2,none⟩ (.string n.lead)).setCell ⟨w.heap.size,3,none⟩ v) w.heap.size n v ∧
  w.grownBy ((((W.setCell ⟨w.heap.size,0,none⟩ (.int .i64 n.kind)).setCell ⟨w.heap.size,1,none⟩ (.int .i64 n.start)).setCell ⟨w.heap.size,2,none⟩ (.string n.lead)).setCell ⟨w.heap.size,3,none⟩ v) none ∧
  ∀ b,b≠w.heap.size→b<W.heap.size→((((W.setCell ⟨w.heap.size,0,none⟩ (.int .i64 n.kind)).setCell ⟨w.heap.size,1,none⟩ (.int .i64 n.start)).setCell ⟨w.heap.size,2,none⟩ (.string n.lead)).setCell ⟨w.heap.size,3,none⟩ v).heap[b]? = W.heap[b]? := by
 have g1:=zac W ⟨w.heap.size,0,none⟩ (.int .i64 n.kind);have g2:=zac (W.setCell ⟨w.heap.size,0,none⟩ (.int .i64 n.kind)) ⟨w.heap.size,1,none⟩ (.int .i64 n.start);have g3:=zac ((W.setCell ⟨w.heap.size,0,none⟩ (.int .i64 n.kind)).setCell ⟨w.heap.size,1,none⟩ (.int .i64 n.start)) ⟨w.heap.size,2,none⟩ (.string n.lead);have g4:=zac (((W.setCell ⟨w.heap.size,0,none⟩ (.int .i64 n.kind)).setCell ⟨w.heap.size,1,none⟩ (.int .i64 n.start)).setCell ⟨w.heap.size,2,none⟩ (.string n.lead)) ⟨w.heap.size,3,none⟩ v;have gg:=zaa g1 (zaa g2 (zaa g3 g4));exact⟨h.2.out.1.set,zai (g:=w.heap.size) h.2.out.2 gg (Nat.le_refl _),fun b hb hl=>gg.block b hl (by simpa using hb)⟩
open Go.RowKit
theorem zdm (z:Value)(n:Nat):(Builtin.zeroCells #[z] n).toList=List.replicate n z:=by
 have h:∀ i:Nat,[z][i % 1]?.getD default=z:=fun i=>by rw[Nat.mod_one];rfl
 simp[Builtin.zeroCells,h];rw[List.map_const',List.length_range]
theorem zBn (n:Nat)(w:World)(hn0:0<n)(hn:n≤20000) :
  Calls Tryz.prog 170 #[.slice none 0 0,.int .i64 (n:Int)] w fun e w'=>∃ v,e = .returned v∧(∃ g c,v = .slice (some ⟨g,0,none⟩) 0 c∧n≤c)∧w'.ownsRow w.heap.size 9 1 v 0 []∧w.grownBy w' none:=by
 obtain⟨i0,hi0,hz0,hzs,hzb⟩:=info_parts zeK
 have hold:(Builtin.firstCells i0.size 0 (.slice none 0 0)).run Tryz.prog w.drew = .ok ([]:List Value).toArray w.drew:=by
  rw[hzs];exact run_firstCells_none w.drew 1 0 0 0
 obtain⟨G,hG⟩:∃ G,G=grownCap w n 0 9:=⟨_,rfl⟩;have hGn:n≤G:=by rw[hG];exact grownCap_ge w _ _ _
 have hG63:G≤maxLen:=by
  rw[hG];exact grownCap_le_maxLen w n 0 9 (by unfold maxLen;omega)
 have hrz:∀ ty,(Builtin.append_ #[33,3] ty #[.slice none 0 0,.int .i64 (n:Int)]).run Tryz.prog w =
   .ok (.slice (some ⟨w.heap.size,0,none⟩) n G) (w.drew.alloc (.cells (List.replicate G (.string ⟨#[]⟩)).toArray 9)):=fun ty=>by
  have h:=Lib.run_append_grow_zeros w 33 3 ty 9 i0 _ .i64 .i64 Tryz.underlying33 Tryz.underlying3 hi0 hz0 none 0 0 [] hold n (by omega) (by omega) (by omega) (by omega) (by rw[hzb];omega) (by rw[hzb,Nat.zero_add];exact growslice_fits (by omega) (by omega));rw[Nat.zero_add,← hG] at h;rw[h]
  congr 3
  apply Array.toList_inj.1
  show((#[]++Builtin.zeroCells #[Value.string ⟨#[]⟩] n++Builtin.zeroCells #[Value.string ⟨#[]⟩] (G - n)):Array Value).toList=_;rw[Array.toList_append,Array.toList_append,zdm,zdm];simp[hGn]
 have hi1:¬ (n:Int)<0:=by omega
 have hi2:(0:Int)<(n:Int):=by omega
 have hi3:¬ n=0:=by omega
 have hw1:IntKind.i64.wrap (n:Int)=(n:Int):=by rw[IntKind.wrap_i64];omega
 have hi6:(0:Int)≤(G:Int):=by omega
 have HP:=zHd (zAI hGn hG63);clear hold hG hGn hG63 hn;go_enter Tryz.func170,Tryz.ntmps170;go_wp2_with (at_builtin;refine Lib.wpList_append_run _ rfl _ _ _ _ rfl _ _ rfl rfl _ _ (hrz _) ?_);go_ret;obtain⟨hGn,hG63⟩:=HP.out;refine⟨_,rfl,⟨_,G,rfl,hGn⟩,⟨rfl,.inr ⟨w.heap.size,G,_,rfl,Nat.le_refl _,zau w.drew _,Nat.zero_le _,hG63,by simp,rfl⟩⟩,zaa (zae w none) (zGA _ _ none)⟩
def preN (n m:Nat):Nat→Nat
 | 0=>0
 | 1=>n
 | _=>n+m
def preL (n m:Nat)(X Y:Nat→ByteArray)(t:Nat):List Value:=(List.range (preN n m t)).map (fun j => .string (if j<n then X j else Y (j - n)))
def rowL (n:Nat)(X:Nat→ByteArray):List Value:=(List.range n).map (fun j => .string (X j))
theorem zts (n:Nat)(X:Nat→ByteArray):(rowL n X).length=n:=by unfold rowL;simp
theorem ztt {n j:Nat}{X:Nat→ByteArray}{v:Value}(h:(rowL n X)[j]? = some v):j<n∧v = .string (X j):=by
 unfold rowL at h;obtain⟨h1,h2⟩:=List.getElem?_eq_some_iff.1 h;simp at h1 h2;exact⟨h1,h2.symm⟩
theorem ztu (n:Nat)(X:Nat→ByteArray):∀ v∈rowL n X,v.oneCell'=true:=fun v hv=>by
 unfold rowL at hv;obtain⟨j,_,rfl⟩:=List.mem_map.1 hv
 rfl
theorem zEf (n m:Nat)(X Y:Nat→ByteArray):preL n m X Y 0++rowL n X=preL n m X Y 1:=by
 unfold preL rowL preN;simp only[List.range_zero,List.map_nil,List.nil_append]
 apply List.map_congr_left
 intro j hj;rw[if_pos (List.mem_range.1 hj)]
theorem zEg (n m:Nat)(X Y:Nat→ByteArray):preL n m X Y 1++rowL m Y=preL n m X Y 2:=by
 unfold preL rowL preN;simp only[List.range_add,List.map_append,List.map_map]
 congr 1
 apply List.map_congr_left
 intro j hj;show _=Value.string _
 dsimp only
 rw[if_neg (by omega),Nat.add_sub_cancel_left]
theorem zuZ (n m gx:Nat)(ax ay:Addr)(cx cy:Nat)(X Y:Nat→ByteArray)(w:World)(hn0:0<n)(hn:n≤10000)(hm0:0<m)(hm:m≤10000)(hgx:gx<w.heap.size)
  (h0:w.cell? ⟨gx,0,none⟩=some (.slice (some ax) n cx)) (h1:w.cell? ⟨gx,1,none⟩=some (.slice (some ay) m cy))
  (hX:∀ j,j<n→w.cell? (ax.add j)=some (.string (X j))) (hY:∀ j,j<m→w.cell? (ay.add j)=some (.string (Y j))) (hbx:ax.block<w.heap.size) (hby:ay.block<w.heap.size) :
  Calls Tryz.prog 134 #[.slice (some ⟨gx,0,none⟩) 2 2] w fun e w'=>∃ v,e = .returned v∧w'.ownsRow w.heap.size 9 1 v (n+m) (preL n m X Y 2)∧w.grownBy w' none:=by
 obtain⟨i0,hi0,hz0,hzs,hzb⟩:=info_parts zeK;have hgrow:=fun w'=>zBn (n+m) w' (by omega) (by omega);have HG:=zHd hgrow;have HX:=zHd hX;have HY:=zHd hY;have HB:=zHd (zAI hbx (zAI hby hgx));have HN:=zHd (zAI hn0 (zAI hn (zAI hm0 hm)));have H01:=zHd (zAI h0 h1);clear hgrow hX hY hbx hby hgx hn0 hn hm0 hm h0 h1;go_enter Tryz.func134,Tryz.ntmps134;go_wp2
 go_loopw [3,11] (fun sv iv wr=>∃ t:Nat,t≤2∧iv = .int .i64 (t:Int)∧sv = .int .i64 ((preN n m t:Nat):Int)∧w=wr) (fun _ iv _=>2 - (intOf iv).toNat)
 case atStart=>exact⟨0,by omega,rfl,rfl,rfl⟩
 case round =>
  obtain⟨t,ht,rfl,rfl,rfl⟩:=hrel;obtain⟨hn0,hn,hm0,hm⟩:=HN.out;rcases (show t=0∨t=1∨t=2 by omega) with rfl|rfl|rfl
  ·have c0:=H01.out.1
   have n1:IntKind.i64.wrap (n:Int)=(n:Int):=by rw[IntKind.wrap_i64];omega
   have n2:¬ (n:Int)<0:=by omega
   clear hn0 hn hm0 hm ht;simp only[preN];go_wp2;exact⟨⟨1,by omega,by first|rfl|trivial,by first|rfl|trivial,by first|rfl|trivial⟩,by simp[intOf]⟩
  ·have c1:=H01.out.2
   have n1:IntKind.i64.wrap ((n:Int)+(m:Int))=(n:Int)+(m:Int):=by rw[IntKind.wrap_i64];omega
   have n2:¬ (n:Int)+(m:Int)<0:=by omega
   clear hn0 hn hm0 hm ht;simp only[preN];go_wp2;exact⟨⟨2,by omega,by first|rfl|trivial,by simp[preN],by first|rfl|trivial⟩,by simp[intOf]⟩
  ·clear hn0 hn hm0 hm ht
   simp only[preN];go_wp2_with fail;refine(HG.out _).mono ?_;rintro e w1 ⟨v,rfl,⟨g,c,rfl,hc⟩,hown,hg⟩;have HO:=zHd hown;have HC:=zHd (zAI hc hg);clear hown hc hg;go_wp2
   go_loopw [6,27] (fun sv iv wr=>∃ t:Nat,t≤2∧iv = .int .i64 (t:Int)∧wr.ownsRow w.heap.size 9 1 sv (preN n m t) (preL n m X Y t)∧w.grownBy wr none) (fun _ iv _=>2 - (intOf iv).toNat)
   case atStart=>exact⟨0,by omega,rfl,HO.out,HC.out.2⟩
   case round =>
    obtain⟨t,ht,rfl,hown,hg⟩:=hrel;obtain⟨hn0,hn,hm0,hm⟩:=HN.out;rcases (show t=0∨t=1∨t=2 by omega) with rfl|rfl|rfl
    ·have c0:=hg.cell H01.out.1 (by simp)
     have HOW:=zHd (zAI hown hg);have HNN:=zHd (zAI hn0 (zAI hn (zAI hm0 hm)));clear hown hg hn0 hn hm0 hm ht;go_wp2_with (at_builtin;refine wpList_append_lies _ rfl _ _ 33 rfl w.heap.size 9 i0 (.string ⟨#[]⟩) 1 16 Tryz.underlying33 hi0 hz0 hzs hzb rfl (by decide) _ _ _ rfl HOW.out.1 ax n cx (rowL n X) rfl (by rw[zts];omega) ?c1 (ztu n X) HNN.out.1 ?c3 ?c4 HOW.out.2.size _ rfl ?_)
     case c1 =>
      intro j u hu;obtain⟨hj,rfl⟩:=ztt hu;exact(zaq (ad:=ax.add j) (by rw[zaj];exact HOW.out.2.block _ HB.out.1 (by simp))).trans (HX.out j hj)
     case c3=>have:=HNN.out;unfold maxLen;simp only[preN];omega
     case c4=>have:=HNN.out;simp only[preN];omega
     intro g5 cap5 w5 hown5 hg5 hat5 hlt5
     have hg6:w.grownBy w5 none:=by
      rcases hat5 with h|h
      ·rw[h] at hg5
       exact zai HOW.out.2 hg5 (by have:=HOW.out.1.lt g5 h;omega)
      ·rcases HOW.out.1.2 with⟨e,_⟩|⟨g6,_,_,e,hb6,_⟩
       ·subst e;exact zaa HOW.out.2 hg5
       ·subst e;exact zai HOW.out.2 hg5 hb6
     have HF:=zHd (zAI hown5 hg6);clear hown5 hg5 hat5 hlt5 hg6;go_wp2;refine⟨⟨1,by omega,rfl,?_,HF.out.2⟩,by simp[intOf]⟩;rw[← zEf]
     simpa [preN] using HF.out.1
    ·have c0:=hg.cell H01.out.2 (by simp)
     have HOW:=zHd (zAI hown hg);have HNN:=zHd (zAI hn0 (zAI hn (zAI hm0 hm)));clear hown hg hn0 hn hm0 hm ht;go_wp2_with (at_builtin;refine wpList_append_lies _ rfl _ _ 33 rfl w.heap.size 9 i0 (.string ⟨#[]⟩) 1 16 Tryz.underlying33 hi0 hz0 hzs hzb rfl (by decide) _ _ _ rfl HOW.out.1 ay m cy (rowL m Y) rfl (by rw[zts];omega) ?c1 (ztu m Y) HNN.out.2.2.1 ?c3 ?c4 HOW.out.2.size _ rfl ?_)
     case c1 =>
      intro j u hu;obtain⟨hj,rfl⟩:=ztt hu;exact(zaq (ad:=ay.add j) (by rw[zaj];exact HOW.out.2.block _ HB.out.2.1 (by simp))).trans (HY.out j hj)
     case c3=>have:=HNN.out;unfold maxLen;simp only[preN];omega
     case c4=>have:=HNN.out;simp only[preN];omega
     intro g5 cap5 w5 hown5 hg5 hat5 hlt5
     have hg6:w.grownBy w5 none:=by
      rcases HOW.out.1.2 with⟨e,_⟩|⟨g6,_,_,e,hb6,_⟩
      ·subst e;exact zaa HOW.out.2 hg5
      ·subst e;exact zai HOW.out.2 hg5 hb6
     have HF:=zHd (zAI hown5 hg6);clear hown5 hg5 hat5 hlt5 hg6;go_wp2;refine⟨⟨2,by omega,rfl,?_,HF.out.2⟩,by simp[intOf]⟩;rw[← zEg]
     simpa [preN] using HF.out.1
    ·have HOW:=zHd (zAI hown hg)
     clear hown hg hn0 hn hm0 hm ht;go_wp2;go_ret;exact⟨_,rfl,HOW.out.1,HOW.out.2⟩
theorem zye {w:World}{B n:Nat}{v:Value}{xs:List Value}(h:w.ownsRow B 9 1 v n xs)(hn:0<n):∃ g c,v = .slice (some ⟨g,0,none⟩) n c∧n≤c∧c≤maxLen∧B≤g∧zam w g 0 n (fun j=>xs.getD j (.string ⟨#[]⟩)):=by
 obtain⟨hl,⟨_,h0⟩|⟨g,c,cur,rfl,hb,hg,h1,h2,hs,ht⟩⟩:=h
 ·omega
 ·refine⟨g,c,rfl,h1,h2,hb,(Array.getElem?_eq_some_iff.1 hg).1,fun j hj => ?_⟩
  rw[Nat.zero_add,cell_of_row w g j _ _ (0,0) hg,← Array.getElem?_toList]
  dsimp only
  rw[← ht,List.getD_eq_getElem?_getD,List.getElem?_take_of_lt (by omega),List.getElem?_eq_getElem (by simp;omega)]
  rfl
theorem zva (n m:Nat)(xv yv:Value)(X Y:Nat→ByteArray)(w:World)(hn0:0<n)(hn:n≤10000)(hm0:0<m)(hm:m≤10000)(hx:RowR w xv n (fun j => .string (X j)))(hy:RowR w yv m (fun j => .string (Y j))) :
  Calls Tryz.prog 77 #[xv,yv] w fun e w'=>∃ g c,e = .returned (.slice (some ⟨g,0,none⟩) (n+m) c)∧n+m≤c∧c≤maxLen∧w.heap.size≤g∧zam w' g 0 (n+m) (fun j => .string (if j<n then X j else Y (j - n)))∧w.grownBy w' none:=by
 obtain⟨Ax,cx,rfl,hx1,hx2,hx3⟩:=hx;obtain⟨Ay,cy,rfl,hy1,hy2,hy3⟩:=hy;obtain⟨ax,rfl,hbx,_⟩:=hx3 0 hn0;obtain⟨ay,rfl,hby,_⟩:=hy3 0 hm0
 have hcall:=fun(w1:World) (hg:w.grownBy w1 none) gx hgx c0 c1=>zuZ n m gx ax ay cx cy X Y w1 hn0 hn hm0 hm hgx c0 c1
  (fun j hj=>by obtain⟨_,e,_,hc⟩:=hx3 j hj;cases e;exact(zaq (ad:=ax.add j) (by rw[zaj];exact hg.block _ hbx (by simp))).trans hc)
  (fun j hj=>by obtain⟨_,e,_,hc⟩:=hy3 j hj;cases e;exact(zaq (ad:=ay.add j) (by rw[zaj];exact hg.block _ hby (by simp))).trans hc)
  (Nat.lt_of_lt_of_le hbx hg.size) (Nat.lt_of_lt_of_le hby hg.size)
 have HC:=zHd hcall;have HN:=zHd hn0;clear hcall hx1 hx2 hx3 hy1 hy2 hy3 hn0 hn hm0 hm;go_enter Tryz.func77,Tryz.ntmps77;go_wp2_with fail;refine(HC.out (w.alloc (.cells #[.slice (some ax) n cx,.slice (some ay) m cy] 33)) (zGA _ _ none) w.heap.size (by simp) (zak w _ _ rfl) (zak w _ _ rfl)).mono ?_;rintro e w1 ⟨v,rfl,hown,hg⟩;have HP:=zHd (zAI hown hg);clear hown hg;go_wp2;go_ret;obtain⟨hown,hg⟩:=HP.out;obtain⟨g,c,rfl,h1,h2,h3,h4⟩:=zye hown (by have:=HN.out;omega);refine⟨g,c,rfl,h1,h2,by simp at h3;omega,⟨h4.1,fun j hj=>(h4.2 j hj).trans ?_⟩,zaa (zGA _ _ none) hg⟩
 congr 1
 unfold preL
 dsimp only
 rw[List.getD_eq_getElem?_getD,List.getElem?_map,List.getElem?_range (by show j<preN n m 2;exact hj)]
 rfl
open Go.RowKit
section
variable {k:Int}
def fstF (hk:zad k)(A:Nat→El k)(j:Nat):El k:=(srE k hk).mul ((srE k hk).star (A 0)) (A (j+1))
def zwv (hk:zad k)(m:Nat)(A:Nat→El k):Prop:=FitE ((srE k hk).star (A 0))∧∀ j,j<m→FitE (fstF hk A j)
def solZ:Obj := .cells #[.int .i64 0,.string ⟨#[]⟩,.string ⟨#[]⟩,.slice none 0 0] 124
theorem ztv (hk:zad k)(m g0 off c0:Nat)(A:Nat→El k)(w:World)(hm0:1≤m)(hm:m≤10000)(hA:zam w g0 off (m+1) (txs A))(hc1:m+1≤c0)(hc2:c0≤maxLen)(hAf:∀ j,j<m+1→FitE (A j)) :
  Calls Tryz.prog 131 #[calV k,.slice (some ⟨g0,off,none⟩) (m+1) c0] w (zbo (zwv hk m A) (fun v w'=>∃ g,v=solV k g 0 m m∧w.heap.size≤g∧zam w' g 0 m (txs (fstF hk A))) w):=by
 have hmf:∀ (fn:Fn) (first cap:Array Value) (w:World),(Instr.makeFunc fn first cap).run Tryz.prog w = .ok (.func fn first cap) w:=fun _ _ _ _=>rfl;have hst:=fun w'=>zBa hk (hAf 0 (by omega)) w'
 have hmap:=fun(hs:FitE ((srE k hk).star (A 0))) (w5:World) (h5:w.grownBy w5 none)=>zuX 167 zoa #[facV k (tx ((srE k hk).star (A 0)))] #[] m (txs (fun j=>A (j+1))) (fun j=>FitE (fstF hk A j)) (fun j=>tx (fstF hk A j)) (.slice (some ⟨g0,off+1,none⟩) m (c0 - 1)) w5 hm
  ((hA.grown h5).tail.row (by omega) (by omega)) (fun i hi w' _=>zkE hk hs (hAf (i+1) (by omega)) w')
 have hW:w.grownBy ((w.alloc (.cells #[.int .i64 k,.string (zaf k),.string (oneT k)] 64)).alloc solZ) none:=zaa (zGA _ _ none) (zGA _ _ none);have hW1:(w.alloc (.cells #[.int .i64 k,.string (zaf k),.string (oneT k)] 64)).grownBy ((w.alloc (.cells #[.int .i64 k,.string (zaf k),.string (oneT k)] 64)).alloc solZ) none:=zGA _ _ none;have x0:=hW1.cell (zak w #[.int .i64 k,.string (zaf k),.string (oneT k)] 64 (j:=0) rfl) (by simp);have x1:=hW1.cell (zak w #[.int .i64 k,.string (zaf k),.string (oneT k)] 64 (j:=1) rfl) (by simp);have x2:=hW1.cell (zak w #[.int .i64 k,.string (zaf k),.string (oneT k)] 64 (j:=2) rfl) (by simp)
 have xr:((w.alloc (.cells #[.int .i64 k,.string (zaf k),.string (oneT k)] 64)).alloc solZ).heap[w.heap.size+1]? = some solZ:=by
  have h:=zau (w.alloc (.cells #[.int .i64 k,.string (zaf k),.string (oneT k)] 64)) solZ;rw[show(w.alloc (.cells #[.int .i64 k,.string (zaf k),.string (oneT k)] 64)).heap.size=w.heap.size+1 by simp] at h;exact h
 have a0:w.cell? ⟨g0,off,none⟩=some (.string (tx (A 0))):=hA.2 0 (by omega);have xa:=hW.cell a0 (by simp);have i5:(1:Int)≤(c0:Int):=by omega
 have i6:1≤c0:=by omega
 have i7:(1:Int)≤((m+1:Nat):Int):=by omega
 have i8:((m+1:Nat):Int)≤(c0:Int):=by omega
 have i3:¬ c0=1:=by omega
 have i9:(0:Int)<((m+1:Nat):Int):=by omega
 have j1:(1:Int)≤(m:Int)+1:=by omega
 have j2:(m:Int)+1≤(c0:Int):=by omega
 have j3:(0:Int)≤(m:Int):=by omega
 have j4:m+1≤c0:=by omega
 have j5:1≤m+1:=by omega
 have j6:(0:Int)<(m:Int)+1:=by omega
 have hne1:¬ w.heap.size+1=g0:=by have:=hA.1;omega
 have hne2:¬ g0=w.heap.size+1:=by have:=hA.1;omega
 have HST:=zHd hst;have HM:=zHd hmap;have HX:=zHd (zAI x0 (zAI x1 (zAI x2 (zAI xr (zAI xa hW)))));clear hst hmap x0 x1 x2 xr xa hW hW1 a0 hA hAf;unfold calV at *;go_enter Tryz.func131,Tryz.ntmps131;go_upto_region 1 with(fail)
 obtain⟨x0,x1,x2,xr,xa,hW⟩:=HX.out;unfold solZ at x0 x1 x2 xr xa hW;generalize ((w.alloc (.cells #[.int .i64 k,.string (zaf k),.string (oneT k)] 64)).alloc (.cells #[.int .i64 0,.string ⟨#[]⟩,.string ⟨#[]⟩,.slice none 0 0] 124))=W at *;have d0:W.drew.cell? ⟨w.heap.size,0,none⟩=some (.int .i64 k):=x0;have d1:W.drew.cell? ⟨w.heap.size,1,none⟩=some (.string (zaf k)):=x1;have d2:W.drew.cell? ⟨w.heap.size,2,none⟩=some (.string (oneT k)):=x2;have da:W.drew.cell? ⟨g0,off,none⟩=some (.string (tx (A 0))):=xa;have hWd:w.grownBy W.drew none:=zaa hW (zae W none);have HG:=zHd hWd;have HXR:=zHd (show W.drew.heap[w.heap.size+1]? = _ from xr);clear x0 x1 x2 xr xa hW HX hWd
 go_region_held2 (fun W'=>W'.cell? ⟨w.heap.size,0,none⟩=some (.int .i64 k)∧W'.cell? ⟨w.heap.size,1,none⟩=some (.string (zaf k))∧W'.cell? ⟨w.heap.size,2,none⟩=some (.string (oneT k))∧W'.cell? ⟨g0,off,none⟩=some (.string (tx (A 0)))) (go_keep)
  (first
  | (go_at_call 166;refine(HST.out _).mono ?_;clear HST;rintro e w5 (⟨hp,rfl,hg5⟩|⟨hn,rfl,hg5⟩);rotate_left 1;(exact⟨rfl,.inr ⟨fun h=>hn h.1,rfl,zaa HG.out hg5⟩⟩);have s0:=hg5.cell d0 (by simp);have s1:=hg5.cell d1 (by simp);have s2:=hg5.cell d2 (by simp);have sa:=hg5.cell da (by simp);have H5:=zHd (zAI hp hg5);clear hg5 hp)
  | (go_at_call 165;refine(HM.out H5.out.1 w5 (zaa HG.out H5.out.2)).mono ?_;clear HM;rintro e w6 (⟨hp,v,rfl,⟨rfl,hr6⟩,hg6⟩|⟨hn,rfl,hg6⟩);rotate_left 1;(exact⟨rfl,.inr ⟨fun h=>hn h.2,rfl,zaa (zaa HG.out H5.out.2) hg6⟩⟩);have p0:=hg6.cell s0 (by simp);have p1:=hg6.cell s1 (by simp);have p2:=hg6.cell s2 (by simp);have pa:=hg6.cell sa (by simp);have hx6:=(hg6.block _ (by have:=(Array.getElem?_eq_some_iff.1 HXR.out).1;have:=H5.out.2.size;omega) (by simp)).trans ((H5.out.2.block _ (Array.getElem?_eq_some_iff.1 HXR.out).1 (by simp)).trans HXR.out);have q0:=cell_of_row w6 _ 0 _ _ (0,0) hx6;have q1:=cell_of_row w6 _ 1 _ _ (0,0) hx6;have q2:=cell_of_row w6 _ 2 _ _ (0,0) hx6;have q3:=cell_of_row w6 _ 3 _ _ (0,0) hx6;have z0:=frozen_of_row w6 _ 0 _ _ hx6;have z1:=frozen_of_row w6 _ 1 _ _ hx6;have z2:=frozen_of_row w6 _ 2 _ _ hx6;have z3:=frozen_of_row w6 _ 3 _ _ hx6;have H6:=zHd (zAI hp (zAI hr6 (zAI hg6 hx6)));clear hp hr6 hg6 hx6))
 all_goals
  go_wp2;obtain⟨hp,hr6,hg6,hx6⟩:=H6.out;have hgg:=zaa (zaa HG.out H5.out.2) hg6;refine bodyPost_ret (v:=solV k w5.heap.size 0 m m) ?_ rfl (.inl ⟨⟨H5.out.1,hp⟩,_,rfl,⟨w5.heap.size,rfl,Nat.le_trans HG.out.size H5.out.2.size,?_⟩,?_⟩)
  ·simp[results,Tryz.results131,go_sem,q0,q1,q2,q3,solV]
  ·have hne:w5.heap.size≠w.heap.size+1:=by have:=(Array.getElem?_eq_some_iff.1 HXR.out).1;have:=H5.out.2.size;omega
   exact(((hr6.grownB (zac _ _ _) hne).grownB (zac _ _ _) hne).grownB (zac _ _ _) hne).grownB (zac _ _ _) hne
  ·exact zai (zai (zai (zai hgg (zac _ _ _) (by show w.heap.size≤w.heap.size+1;omega)) (zac _ _ _) (by show w.heap.size≤w.heap.size+1;omega)) (zac _ _ _) (by show w.heap.size≤w.heap.size+1;omega)) (zac _ _ _) (by show w.heap.size≤w.heap.size+1;omega)
end
open Go.RowKit
def zes (P:Prop)(Q:Value→World→Prop)(z:Value)(w:World)(e:Ending)(w':World):Prop :=
 (P∧∃ v,e = .returned (.tuple #[v,.int .i64 0])∧Q v w'∧w.grownBy w' none)∨(¬ P∧e = .returned (.tuple #[z,.int .i64 2])∧w.grownBy w' none)
section
variable {WB:Nat}
theorem zvb (p:Addr)(x E:Int)(older:List PanicEntry)(w:World)(hc:w.cell? p=some (.int .i64 x))(hz:w.frozen? p=false) :
  CallsD Tryz.prog 72 #[.pointer (some p)] (.panicking ({ v := .iface 24 (.int .i64 E),recovered:=false }::older)) w fun e u' w' =>
   e = .returned (.tuple #[])∧u' = .panicking ({ v := .iface 24 (.int .i64 E),recovered:=true }::older)∧w'=w.setCell p (.int .i64 E):=by
 refine callsD_of_wpS Tryz.func72 rfl fun c₀ cs hu => ?_
 apply wpS_seq
 apply wpS_region
 simp[wpOpsS,go_sem,recoverD,hu,Tryz.ntmps72,Exit.thenS];clear hu;obtain⟨fs,hfs⟩:∃ fs:List Frame,fs = { c₀ with mode := .panicking ({ v := .iface 24 (.int .i64 E),recovered:=true }::older) }::cs:=⟨_,rfl⟩;have HFS:=zHd hfs;rw[← hfs];clear hfs;have h1:∀ w:World,(binOp .neq 20 (.iface 24 (.int .i64 E)) .nilIface).run Tryz.prog w = .ok (.bool true) w:=fun w=>run_neq_held_nil _ _ _ _ (by kernel_rfl);have h2:∀ w:World,(Instr.typeAssert (.iface 24 (.int .i64 E)) 20 24 false).run Tryz.prog w = .ok (.int .i64 E) w:=fun w=>by kernel_rfl
 refine wpS_of_wp ?_;go_wp2_with fail;clear h1 h2 hc hz;rw[HFS.out];exact⟨rfl,_,rfl,.tuple #[],by simp[results,Tryz.results72],rfl,rfl,rfl⟩
theorem zBo (p:Addr)(w:World) :
  CallsD Tryz.prog 72 #[.pointer (some p)] .returning w fun e u' w'=>e = .returned (.tuple #[])∧u' = .returning∧w'=w:=by
 refine callsD_of_wpS Tryz.func72 rfl fun c₀ cs hu => ?_
 apply wpS_seq
 apply wpS_region
 simp[wpOpsS,go_sem,recoverD,hu,Tryz.ntmps72,Exit.thenS];refine wpS_of_wp ?_;go_wp2;cases c₀
 simp_all [bodyPostS,results,Tryz.results72]
theorem zrq (A:Option Addr)(n c:Nat)(P:Prop)(Q:Value→World→Prop)(hP:P)(w w2:World)(tmps:Array Value)(ht:tmps=#[tmps.getD 0 undef,tmps.getD 1 undef,(.slice A n c),.pointer (some ⟨w.heap.size,0,none⟩),tmps.getD 4 undef,tmps.getD 5 undef,tmps.getD 6 undef])
  (hq:Q (.slice A n c) w2) (hb:w2.heap[w.heap.size]? = some (.cells #[.int .i64 0] 24 (0,0))) (hg:w.grownBy w2 none) :
  Leaves Tryz.prog Tryz.f40 tmps (zes P Q (.slice none 0 0) w) [{ target := .fn (.func 72) #[.pointer (some ⟨w.heap.size,0,none⟩)],args:=#[] }] .returning w2:=by
 have hcell:=cell_of_one hb;refine leaves_cons (f:=72) (args:=#[.pointer (some ⟨w.heap.size,0,none⟩)]) (by simp) (by simp[go_sem]) ?_;refine(zBo ⟨w.heap.size,0,none⟩ _).mono ?_;rintro e u' w'' ⟨rfl,rfl,rfl⟩;rw[ht];refine⟨.tuple #[(.slice A n c),.int .i64 0],by simp[results,Tryz.results40,go_sem,hcell],.inl ⟨hP,_,rfl,hq,hg⟩⟩
theorem zrr (P:Prop)(Q:Value→World→Prop)(hP:¬ P)(w w2:World)(tmps:Array Value)(ht:tmps=#[tmps.getD 0 undef,tmps.getD 1 undef,(.slice none 0 0),.pointer (some ⟨w.heap.size,0,none⟩),tmps.getD 4 undef,tmps.getD 5 undef,tmps.getD 6 undef])
  (hb:w2.heap[w.heap.size]? = some (.cells #[.int .i64 0] 24 (0,0))) (hg:w.grownBy w2 none) :
  Leaves Tryz.prog Tryz.f40 tmps (zes P Q (.slice none 0 0) w) [{ target := .fn (.func 72) #[.pointer (some ⟨w.heap.size,0,none⟩)],args:=#[] }] (.panicking [{ v := .iface 24 (.int .i64 2),recovered:=false }]) w2:=by
 have hcell:=cell_of_one (one_setCell (u := .int .i64 2) hb);refine leaves_cons (f:=72) (args:=#[.pointer (some ⟨w.heap.size,0,none⟩)]) (by simp) (by simp[go_sem]) ?_;refine(zvb ⟨w.heap.size,0,none⟩ 0 2 [] _ (cell_of_one hb) (free_of_one hb)).mono ?_;rintro e u' w'' ⟨rfl,rfl,rfl⟩;rw[ht];refine⟨.tuple #[(.slice none 0 0),.int .i64 2],by simp[results,Tryz.results40,go_sem,hcell],.inr ⟨hP,rfl,?_⟩⟩;exact zai hg (zac w2 ⟨w.heap.size,0,none⟩ _) (Nat.le_refl _)
theorem ztw (F:Nat)(he:Enters F)(first cap:Array Value)(P:Prop)(Q:Value→World→Prop)(hmono:∀ v w1 w2 b,b<w1.heap.size→w1.grownBy w2 (some b)→b=WB→Q v w1→Q v w2)(w:World)(hWB:WB=w.heap.size)
  (h:Calls Tryz.prog F (first++cap) (w.alloc (.cells #[.int .i64 0] 24)) (zbo P (fun v w'=>(∃ A n c,v=(.slice A n c))∧Q v w') (w.alloc (.cells #[.int .i64 0] 24)))) :
  Calls Tryz.prog 40 #[.func (.func F) first cap] w (zes P Q (.slice none 0 0) w):=by
 have hmf:∀ (fn:Fn) (first cap:Array Value) (w:World),(Instr.makeFunc fn first cap).run Tryz.prog w = .ok (.func fn first cap) w:=fun _ _ _ _=>rfl;have H:=zHd h;have HE:=zHd he;have HMO:=zHd hmono;clear h he hmono
 go_enter_defers Tryz.func40,Tryz.ntmps40
 go_wp2_with fail;rw[HE.out];refine H.out.mono ?_;rintro e w2 (⟨hp,v,rfl,⟨⟨A,n,c,rfl⟩,hq⟩,hg⟩|⟨hn,rfl,hg⟩)
 ·have hb:=alloc_old hg
  have hcell:=cell_of_one hb;have hfree:=free_of_one hb;have HB:=zHd hb;have HG:=zHd hg;have HQ:=zHd (zAI hp hq);clear hb hg H HE hq hp;go_wp2;exact zrq A n c P Q HQ.out.1 w _ _ rfl (HMO.out _ _ _ _ (Array.getElem?_eq_some_iff.1 HB.out).1 (zac w2 ⟨w.heap.size,0,none⟩ _) hWB.symm HQ.out.2) (one_setCell HB.out) (zai (zaa (zGA _ _ none) HG.out) (zac w2 ⟨w.heap.size,0,none⟩ _) (Nat.le_refl _))
 ·have hb:=alloc_old hg
  have HB:=zHd hb;have HG:=zHd hg;clear hb hg H HE;exact zrr P Q hn w _ _ rfl HB.out (zaa (zGA _ _ none) HG.out)
theorem zyf (p:Addr)(x E:Int)(older:List PanicEntry)(w:World)(hc:w.cell? p=some (.int .i64 x))(hz:w.frozen? p=false) :
  CallsD Tryz.prog 93 #[.pointer (some p)] (.panicking ({ v := .iface 24 (.int .i64 E),recovered:=false }::older)) w fun e u' w' =>
   e = .returned (.tuple #[])∧u' = .panicking ({ v := .iface 24 (.int .i64 E),recovered:=true }::older)∧w'=w.setCell p (.int .i64 E):=by
 refine callsD_of_wpS Tryz.func93 rfl fun c₀ cs hu => ?_
 apply wpS_seq
 apply wpS_region
 simp[wpOpsS,go_sem,recoverD,hu,Tryz.ntmps93,Exit.thenS];clear hu;obtain⟨fs,hfs⟩:∃ fs:List Frame,fs = { c₀ with mode := .panicking ({ v := .iface 24 (.int .i64 E),recovered:=true }::older) }::cs:=⟨_,rfl⟩;have HFS:=zHd hfs;rw[← hfs];clear hfs;have h1:∀ w:World,(binOp .neq 20 (.iface 24 (.int .i64 E)) .nilIface).run Tryz.prog w = .ok (.bool true) w:=fun w=>run_neq_held_nil _ _ _ _ (by kernel_rfl);have h2:∀ w:World,(Instr.typeAssert (.iface 24 (.int .i64 E)) 20 24 false).run Tryz.prog w = .ok (.int .i64 E) w:=fun w=>by kernel_rfl
 refine wpS_of_wp ?_;go_wp2_with fail;clear h1 h2 hc hz;rw[HFS.out];exact⟨rfl,_,rfl,.tuple #[],by simp[results,Tryz.results93],rfl,rfl,rfl⟩
theorem zEh (p:Addr)(w:World) :
  CallsD Tryz.prog 93 #[.pointer (some p)] .returning w fun e u' w'=>e = .returned (.tuple #[])∧u' = .returning∧w'=w:=by
 refine callsD_of_wpS Tryz.func93 rfl fun c₀ cs hu => ?_
 apply wpS_seq
 apply wpS_region
 simp[wpOpsS,go_sem,recoverD,hu,Tryz.ntmps93,Exit.thenS];refine wpS_of_wp ?_;go_wp2;cases c₀
 simp_all [bodyPostS,results,Tryz.results93]
theorem ztx (A:Option Addr)(n c:Nat)(P:Prop)(Q:Value→World→Prop)(hP:P)(w w2:World)(tmps:Array Value)(ht:tmps=#[tmps.getD 0 undef,tmps.getD 1 undef,(.slice A n c),.pointer (some ⟨w.heap.size,0,none⟩),tmps.getD 4 undef,tmps.getD 5 undef,tmps.getD 6 undef])
  (hq:Q (.slice A n c) w2) (hb:w2.heap[w.heap.size]? = some (.cells #[.int .i64 0] 24 (0,0))) (hg:w.grownBy w2 none) :
  Leaves Tryz.prog Tryz.f51 tmps (zes P Q (.slice none 0 0) w) [{ target := .fn (.func 93) #[.pointer (some ⟨w.heap.size,0,none⟩)],args:=#[] }] .returning w2:=by
 have hcell:=cell_of_one hb;refine leaves_cons (f:=93) (args:=#[.pointer (some ⟨w.heap.size,0,none⟩)]) (by simp) (by simp[go_sem]) ?_;refine(zEh ⟨w.heap.size,0,none⟩ _).mono ?_;rintro e u' w'' ⟨rfl,rfl,rfl⟩;rw[ht];refine⟨.tuple #[(.slice A n c),.int .i64 0],by simp[results,Tryz.results51,go_sem,hcell],.inl ⟨hP,_,rfl,hq,hg⟩⟩
theorem zty (P:Prop)(Q:Value→World→Prop)(hP:¬ P)(w w2:World)(tmps:Array Value)(ht:tmps=#[tmps.getD 0 undef,tmps.getD 1 undef,(.slice none 0 0),.pointer (some ⟨w.heap.size,0,none⟩),tmps.getD 4 undef,tmps.getD 5 undef,tmps.getD 6 undef])
  (hb:w2.heap[w.heap.size]? = some (.cells #[.int .i64 0] 24 (0,0))) (hg:w.grownBy w2 none) :
  Leaves Tryz.prog Tryz.f51 tmps (zes P Q (.slice none 0 0) w) [{ target := .fn (.func 93) #[.pointer (some ⟨w.heap.size,0,none⟩)],args:=#[] }] (.panicking [{ v := .iface 24 (.int .i64 2),recovered:=false }]) w2:=by
 have hcell:=cell_of_one (one_setCell (u := .int .i64 2) hb);refine leaves_cons (f:=93) (args:=#[.pointer (some ⟨w.heap.size,0,none⟩)]) (by simp) (by simp[go_sem]) ?_;refine(zyf ⟨w.heap.size,0,none⟩ 0 2 [] _ (cell_of_one hb) (free_of_one hb)).mono ?_;rintro e u' w'' ⟨rfl,rfl,rfl⟩;rw[ht];refine⟨.tuple #[(.slice none 0 0),.int .i64 2],by simp[results,Tryz.results51,go_sem,hcell],.inr ⟨hP,rfl,?_⟩⟩;exact zai hg (zac w2 ⟨w.heap.size,0,none⟩ _) (Nat.le_refl _)
theorem zmg (F:Nat)(he:Enters F)(first cap:Array Value)(P:Prop)(Q:Value→World→Prop)(hmono:∀ v w1 w2 b,b<w1.heap.size→w1.grownBy w2 (some b)→b=WB→Q v w1→Q v w2)(w:World)(hWB:WB=w.heap.size)
  (h:Calls Tryz.prog F (first++cap) (w.alloc (.cells #[.int .i64 0] 24)) (zbo P (fun v w'=>(∃ A n c,v=(.slice A n c))∧Q v w') (w.alloc (.cells #[.int .i64 0] 24)))) :
  Calls Tryz.prog 51 #[.func (.func F) first cap] w (zes P Q (.slice none 0 0) w):=by
 have hmf:∀ (fn:Fn) (first cap:Array Value) (w:World),(Instr.makeFunc fn first cap).run Tryz.prog w = .ok (.func fn first cap) w:=fun _ _ _ _=>rfl;have H:=zHd h;have HE:=zHd he;have HMO:=zHd hmono;clear h he hmono
 go_enter_defers Tryz.func51,Tryz.ntmps51
 go_wp2_with fail;rw[HE.out];refine H.out.mono ?_;rintro e w2 (⟨hp,v,rfl,⟨⟨A,n,c,rfl⟩,hq⟩,hg⟩|⟨hn,rfl,hg⟩)
 ·have hb:=alloc_old hg
  have hcell:=cell_of_one hb;have hfree:=free_of_one hb;have HB:=zHd hb;have HG:=zHd hg;have HQ:=zHd (zAI hp hq);clear hb hg H HE hq hp;go_wp2;exact ztx A n c P Q HQ.out.1 w _ _ rfl (HMO.out _ _ _ _ (Array.getElem?_eq_some_iff.1 HB.out).1 (zac w2 ⟨w.heap.size,0,none⟩ _) hWB.symm HQ.out.2) (one_setCell HB.out) (zai (zaa (zGA _ _ none) HG.out) (zac w2 ⟨w.heap.size,0,none⟩ _) (Nat.le_refl _))
 ·have hb:=alloc_old hg
  have HB:=zHd hb;have HG:=zHd hg;clear hb hg H HE;exact zty P Q hn w _ _ rfl HB.out (zaa (zGA _ _ none) HG.out)
theorem zyg (p:Addr)(x E:Int)(older:List PanicEntry)(w:World)(hc:w.cell? p=some (.int .i64 x))(hz:w.frozen? p=false) :
  CallsD Tryz.prog 101 #[.pointer (some p)] (.panicking ({ v := .iface 24 (.int .i64 E),recovered:=false }::older)) w fun e u' w' =>
   e = .returned (.tuple #[])∧u' = .panicking ({ v := .iface 24 (.int .i64 E),recovered:=true }::older)∧w'=w.setCell p (.int .i64 E):=by
 refine callsD_of_wpS Tryz.func101 rfl fun c₀ cs hu => ?_
 apply wpS_seq
 apply wpS_region
 simp[wpOpsS,go_sem,recoverD,hu,Tryz.ntmps101,Exit.thenS];clear hu;obtain⟨fs,hfs⟩:∃ fs:List Frame,fs = { c₀ with mode := .panicking ({ v := .iface 24 (.int .i64 E),recovered:=true }::older) }::cs:=⟨_,rfl⟩;have HFS:=zHd hfs;rw[← hfs];clear hfs;have h1:∀ w:World,(binOp .neq 20 (.iface 24 (.int .i64 E)) .nilIface).run Tryz.prog w = .ok (.bool true) w:=fun w=>run_neq_held_nil _ _ _ _ (by kernel_rfl);have h2:∀ w:World,(Instr.typeAssert (.iface 24 (.int .i64 E)) 20 24 false).run Tryz.prog w = .ok (.int .i64 E) w:=fun w=>by kernel_rfl
 refine wpS_of_wp ?_;go_wp2_with fail;clear h1 h2 hc hz;rw[HFS.out];exact⟨rfl,_,rfl,.tuple #[],by simp[results,Tryz.results101],rfl,rfl,rfl⟩
theorem zEi (p:Addr)(w:World) :
  CallsD Tryz.prog 101 #[.pointer (some p)] .returning w fun e u' w'=>e = .returned (.tuple #[])∧u' = .returning∧w'=w:=by
 refine callsD_of_wpS Tryz.func101 rfl fun c₀ cs hu => ?_
 apply wpS_seq
 apply wpS_region
 simp[wpOpsS,go_sem,recoverD,hu,Tryz.ntmps101,Exit.thenS];refine wpS_of_wp ?_;go_wp2;cases c₀
 simp_all [bodyPostS,results,Tryz.results101]
theorem ztz (s:ByteArray)(P:Prop)(Q:Value→World→Prop)(hP:P)(w w2:World)(tmps:Array Value)(ht:tmps=#[tmps.getD 0 undef,tmps.getD 1 undef,(.string s),.pointer (some ⟨w.heap.size,0,none⟩),tmps.getD 4 undef,tmps.getD 5 undef,tmps.getD 6 undef])
  (hq:Q (.string s) w2) (hb:w2.heap[w.heap.size]? = some (.cells #[.int .i64 0] 24 (0,0))) (hg:w.grownBy w2 none) :
  Leaves Tryz.prog Tryz.f57 tmps (zes P Q (.string ⟨#[]⟩) w) [{ target := .fn (.func 101) #[.pointer (some ⟨w.heap.size,0,none⟩)],args:=#[] }] .returning w2:=by
 have hcell:=cell_of_one hb;refine leaves_cons (f:=101) (args:=#[.pointer (some ⟨w.heap.size,0,none⟩)]) (by simp) (by simp[go_sem]) ?_;refine(zEi ⟨w.heap.size,0,none⟩ _).mono ?_;rintro e u' w'' ⟨rfl,rfl,rfl⟩;rw[ht];refine⟨.tuple #[(.string s),.int .i64 0],by simp[results,Tryz.results57,go_sem,hcell],.inl ⟨hP,_,rfl,hq,hg⟩⟩
theorem ztA (P:Prop)(Q:Value→World→Prop)(hP:¬ P)(w w2:World)(tmps:Array Value)(ht:tmps=#[tmps.getD 0 undef,tmps.getD 1 undef,(.string ⟨#[]⟩),.pointer (some ⟨w.heap.size,0,none⟩),tmps.getD 4 undef,tmps.getD 5 undef,tmps.getD 6 undef])
  (hb:w2.heap[w.heap.size]? = some (.cells #[.int .i64 0] 24 (0,0))) (hg:w.grownBy w2 none) :
  Leaves Tryz.prog Tryz.f57 tmps (zes P Q (.string ⟨#[]⟩) w) [{ target := .fn (.func 101) #[.pointer (some ⟨w.heap.size,0,none⟩)],args:=#[] }] (.panicking [{ v := .iface 24 (.int .i64 2),recovered:=false }]) w2:=by
 have hcell:=cell_of_one (one_setCell (u := .int .i64 2) hb);refine leaves_cons (f:=101) (args:=#[.pointer (some ⟨w.heap.size,0,none⟩)]) (by simp) (by simp[go_sem]) ?_;refine(zyg ⟨w.heap.size,0,none⟩ 0 2 [] _ (cell_of_one hb) (free_of_one hb)).mono ?_;rintro e u' w'' ⟨rfl,rfl,rfl⟩;rw[ht];refine⟨.tuple #[(.string ⟨#[]⟩),.int .i64 2],by simp[results,Tryz.results57,go_sem,hcell],.inr ⟨hP,rfl,?_⟩⟩;exact zai hg (zac w2 ⟨w.heap.size,0,none⟩ _) (Nat.le_refl _)
theorem zvc (F:Nat)(he:Enters F)(first cap:Array Value)(P:Prop)(Q:Value→World→Prop)(hmono:∀ v w1 w2 b,b<w1.heap.size→w1.grownBy w2 (some b)→b=WB→Q v w1→Q v w2)(w:World)(hWB:WB=w.heap.size)
  (h:Calls Tryz.prog F (first++cap) (w.alloc (.cells #[.int .i64 0] 24)) (zbo P (fun v w'=>(∃ s,v=(.string s))∧Q v w') (w.alloc (.cells #[.int .i64 0] 24)))) :
  Calls Tryz.prog 57 #[.func (.func F) first cap] w (zes P Q (.string ⟨#[]⟩) w):=by
 have hmf:∀ (fn:Fn) (first cap:Array Value) (w:World),(Instr.makeFunc fn first cap).run Tryz.prog w = .ok (.func fn first cap) w:=fun _ _ _ _=>rfl;have H:=zHd h;have HE:=zHd he;have HMO:=zHd hmono;clear h he hmono
 go_enter_defers Tryz.func57,Tryz.ntmps57
 go_wp2_with fail;rw[HE.out];refine H.out.mono ?_;rintro e w2 (⟨hp,v,rfl,⟨⟨s,rfl⟩,hq⟩,hg⟩|⟨hn,rfl,hg⟩)
 ·have hb:=alloc_old hg
  have hcell:=cell_of_one hb;have hfree:=free_of_one hb;have HB:=zHd hb;have HG:=zHd hg;have HQ:=zHd (zAI hp hq);clear hb hg H HE hq hp;go_wp2;exact ztz s P Q HQ.out.1 w _ _ rfl (HMO.out _ _ _ _ (Array.getElem?_eq_some_iff.1 HB.out).1 (zac w2 ⟨w.heap.size,0,none⟩ _) hWB.symm HQ.out.2) (one_setCell HB.out) (zai (zaa (zGA _ _ none) HG.out) (zac w2 ⟨w.heap.size,0,none⟩ _) (Nat.le_refl _))
 ·have hb:=alloc_old hg
  have HB:=zHd hb;have HG:=zHd hg;clear hb hg H HE;exact ztA P Q hn w _ _ rfl HB.out (zaa (zGA _ _ none) HG.out)
end
open Go.RowKit
theorem zyh (n t g:Nat)(L:Nat→Value)(a:ByteArray)(fv:Value)(w:World)(hn:t<n)(hf:RowR w fv n L)(h0:L t = .string a)(hi:w.cell? ⟨g,0,none⟩=some (.int .i64 (t:Int))) :
  Calls Tryz.prog 144 #[fv,.pointer (some ⟨g,0,none⟩)] w (zab (.string a) w):=by
 obtain⟨A,c,rfl,h1,h2,h3⟩:=hf;obtain⟨ad,rfl,hb,hc⟩:=h3 t hn;rw[h0] at hc;have i1:(t:Int)<(n:Int):=by omega
 have i2:¬ (n:Int)≤(t:Int):=by omega
 have i3:¬ (t:Int)<0:=by omega
 clear h3 hb;go_enter Tryz.func144,Tryz.ntmps144;go_wp2;go_ret;exact⟨rfl,World.grownBy.refl _ _⟩
theorem zrs:Enters 144:=enters_of Tryz.func144 (by kernel_rfl) rfl
def ztB (G:Nat→Nat→ByteArray)(H n:Nat)(zs:List Value)(wr:World):Prop :=
 ∀ t,t<zs.length→∃ g,zs.getD t (.slice none 0 0) = .slice (some ⟨g,0,none⟩) n n∧H<g∧zam wr g 0 n (fun i => .string (G i t))
theorem zpI (n:Nat)(V:Nat→Value)(G:Nat→Nat→ByteArray)(lv:Value)(w:World)(hn:n≤10000)(hl:RowR w lv n V)(hrow:∀ i,i<n→RowR w (V i) n (fun j => .string (G i j))) :
  Calls Tryz.prog 99 #[lv] w (fun e w'=>∃ zs,e = .returned (.slice (some ⟨w.heap.size,0,none⟩) n n)∧zs.length=n∧zam w' w.heap.size 0 n (fun j=>zs.getD j (.slice none 0 0))∧ztB G w.heap.size n zs w'∧w.grownBy w' none):=by
 obtain⟨i0,hi,hz0,hz1,hz2⟩:=info_parts zdx
 have hm:∀ (t g:Nat) (w':World),t<n→w.grownBy w' none→w'.cell? ⟨g,0,none⟩=some (.int .i64 (t:Int))→Calls Tryz.prog 141 #[lv,.func (.func 144) #[] #[.pointer (some ⟨g,0,none⟩)]] w' (fun e w2=>e = .returned (.slice (some ⟨w'.heap.size,0,none⟩) n n)∧zam w2 w'.heap.size 0 n (fun i => .string (G i t))∧w'.grownBy w2 none):=by
  intro t g w' ht hg hc
  have h:=zjL 144 zrs #[] #[.pointer (some ⟨g,0,none⟩)] n V (fun _=>True) (fun i=>G i t) lv w' hn (hl.grown hg) (fun i hi w2 hg2=>by
   have h1:=zyh n t g _ (G i t) (V i) w2 ht (((hrow i hi).grown hg).grown hg2) rfl (hg2.cell hc (by simp));exact h1.mono (fun e w3 h3 => .inl ⟨trivial,h3⟩))
  refine h.mono (fun e w2 h2 => ?_);rcases h2 with⟨-,v,rfl,⟨rfl,hr⟩,hg2⟩|⟨hnp,-⟩
  ·exact⟨rfl,hr,hg2⟩
  ·exact absurd (fun _ _=>trivial) hnp
 obtain⟨A,c,rfl,hl1,hl2,-⟩:=hl;have HM:=zHd hm;have HN:=zHd hn;clear hm hn hrow hl1 hl2;have n0:¬ (n:Int)<0:=by omega
 go_enter Tryz.func99,Tryz.ntmps99;go_wp2_with (at_make;refine wpList_make_full _ rfl _ _ 22 rfl w.heap.size 33 i0 (.slice none 0 0) 1 Tryz.underlying22 hi hz0 hz1 _ _ _ _ n rfl rfl ?c0 ?c1 ?c2 (by have:=HN.out;unfold maxLen;omega) (Nat.le_refl _) ?_)
 case c0=>omega
 case c1=>omega
 case c2=>have:=HN.out;first|omega|(rw[hz2];omega)
 intro w1 hown hgr;have HFI:=zHd (zas.start hown hgr);clear hown hgr;go_wp2
 go_loopw [10] (fun iv wr=>∃ zs:List Value,iv = .int .i64 (zs.length:Int)∧zas 33 (.slice none 0 0) n zs w wr∧ztB G w.heap.size n zs wr) (fun iv _=>n - (intOf iv).toNat)
 case atStart=>exact⟨[],rfl,HFI.out,fun i hi=>absurd hi (by simp)⟩
 case round =>
  obtain⟨zs,rfl,hfill,hrows⟩:=hrel;obtain⟨t,hzt⟩:∃ t,zs.length=t:=⟨_,rfl⟩;have hle:=hfill.le
  by_cases ht:t<n
  ·have t1:decide (t<n)=true:=by simpa using ht
   have t1':decide ((t:Int)<(n:Int))=true:=by simpa using ht
   have hit:(t:Int)<(n:Int):=by omega
   have hit0:¬ (t:Int)<0:=by omega
   have n1:IntKind.i64.wrap ((t:Int)+1)=(t:Int)+1:=by have:=HN.out;rw[IntKind.wrap_i64];omega
   have hwr:w.heap.size<wr.heap.size:=(Array.getElem?_eq_some_iff.1 hfill.row).1;have HF:=zHd hfill;have HR:=zHd hrows;have HT:=zHd (zAI ht (zAI hzt (zAI hle hwr)));rw[hzt];clear hfill hrows ht hle hzt hwr;go_upto_region 5 with(fail)
   have c0:(wr.alloc (.cells #[.int .i64 (t:Int)] 3)).cell? ⟨wr.heap.size,0,none⟩=some (.int .i64 (t:Int)):=zak wr #[.int .i64 (t:Int)] 3 (j:=0) rfl;have hU:wr.grownBy (wr.alloc (.cells #[.int .i64 (t:Int)] 3)) none:=zGA _ _ none;generalize wr.alloc (.cells #[.int .i64 (t:Int)] 3)=U at *;have d0:U.drew.cell? ⟨wr.heap.size,0,none⟩=some (.int .i64 (t:Int)):=c0;have HG:=zHd (zaa hU (zae U none));have hne:¬ wr.heap.size=w.heap.size:=by have:=HT.out.2.2.2;omega
   clear hU
   go_region_held3 (fun W'=>W'.cell? ⟨wr.heap.size,0,none⟩=some (.int .i64 (t:Int))) (first|exact s1|go_keep)
    (first
     | (go_at_call 141;refine(HM.out t wr.heap.size _ HT.out.1 (zaa HF.out.gr HG.out) d0).mono ?_;rintro e w5 ⟨rfl,hr5,hg5⟩;have s0:=hg5.cell d0 (by simp);have s1:=zbj (w:=w5) (o:=t) (u := .slice (some ⟨U.drew.heap.size,0,none⟩) n n) hne s0;have q0:=((HF.out.grown HG.out).grown hg5).cell (by rw[HT.out.2.1];exact HT.out.1);have z0:=((HF.out.grown HG.out).grown hg5).free t;rw[HT.out.2.1] at q0;have H5:=zHd (zAI hr5 hg5);clear hr5 hg5))
   all_goals
    go_wp2;have hsz:=HG.out.size;have hzt:=HT.out.2.1;have hws:=HT.out.2.2.2;have hgg:=zaa HG.out H5.out.2;have hput:=((HF.out.grown HG.out).grown H5.out.2).put (by rw[hzt];exact HT.out.1) (.slice (some ⟨U.drew.heap.size,0,none⟩) n n);rw[hzt] at hput;refine⟨⟨zs++[.slice (some ⟨U.drew.heap.size,0,none⟩) n n],by simp[hzt],hput,fun i hi => ?_⟩,by have:=HT.out.1;simp[intOf];omega⟩
    by_cases hil:i<zs.length
    ·obtain⟨gi,q1,q2,q3⟩:=HR.out i hil
     refine⟨gi,?_,q2,(q3.grown hgg).grownB (zac _ _ _) (by show gi≠w.heap.size;omega)⟩;rw[List.getD_eq_getElem?_getD,List.getElem?_append_left hil,← List.getD_eq_getElem?_getD];exact q1
    ·have hie:i=t:=by simp at hi;omega
     subst hie;refine⟨U.drew.heap.size,?_,by omega,H5.out.1.grownB (zac _ _ _) (by show U.drew.heap.size≠w.heap.size;omega)⟩;rw[List.getD_eq_getElem?_getD,List.getElem?_append_right (by omega),hzt,Nat.sub_self]
     rfl
  ·have hte:t=n:=by omega
   subst hte;have t1:decide (t<t)=false:=by simp
   have t1':decide ((t:Int)<(t:Int))=false:=by simp
   have HF:=zHd hfill;have HR:=zHd hrows;have HT:=zHd hzt;rw[hzt];clear hfill hrows ht hle hzt;go_wp2;go_ret;exact⟨zs,rfl,HT.out,HF.out.rowAt HT.out,HR.out,HF.out.gr⟩
end Go.Proofs.YtaogepcaoogpgaaGreatDoor
