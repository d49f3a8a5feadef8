/- WE20 WE21 WE23 WE22 WE95 WE75 WEA2 -/
import Derived.Test.YtaogepcaoogpgaaGreatDoorKE18
set_option linter.unusedVariables false
set_option linter.unusedSimpArgs false
set_option maxRecDepth 100000
set_option maxHeartbeats 16000000
namespace Go.Proofs.YtaogepcaoogpgaaGreatDoor
open Go.RowKit
open Go.RowKit
theorem zvU (w:World)(a:MArc):zEt (w.alloc (.cells #[.int .i64 a.i,.int .i64 a.o,.string a.w,.int .i64 a.t] 59)) ⟨w.heap.size,0,none⟩ a:=by
 have hrow:(w.alloc (.cells #[.int .i64 a.i,.int .i64 a.o,.string a.w,.int .i64 a.t] 59)).heap[w.heap.size]? = some (.cells #[.int .i64 a.i,.int .i64 a.o,.string a.w,.int .i64 a.t] 59 (0,0)):=by
  show(w.heap.push _)[w.heap.size]? = _;rw[Array.getElem?_push_size]
 exact⟨by rw[cell_of_row _ w.heap.size 0 _ _ (0,0) hrow];rfl,by show World.cell? _ ⟨w.heap.size,0+1,none⟩=_;rw[cell_of_row _ w.heap.size 1 _ _ (0,0) hrow];rfl,by show World.cell? _ ⟨w.heap.size,0+2,none⟩=_;rw[cell_of_row _ w.heap.size 2 _ _ (0,0) hrow];rfl,by show World.cell? _ ⟨w.heap.size,0+3,none⟩=_;rw[cell_of_row _ w.heap.size 3 _ _ (0,0) hrow];rfl⟩
open Go.RowKit
structure EOut (P:MArc→Bool)(m:Mach)(k:Nat):Prop where
 hk:k≤m.states.length
 hs:∀ (j:Nat) (s:zah),j<k→m.states[j]? = some s→s.arcs.all P=true
theorem EOut.next {P:MArc→Bool}{m:Mach}{k:Nat}{s:zah}(h:EOut P m k)(hs:m.states[k]? = some s)(hP:s.arcs.all P=true):EOut P m (k+1) :=
 ⟨by have:=(List.getElem?_eq_some_iff.1 hs).1;omega,fun j t hj ht=>by
  by_cases e:j=k
  ·subst e;rw[hs] at ht;cases ht;exact hP
  ·exact h.hs j t (by omega) ht⟩
structure EIn (P:MArc→Bool)(s:zah)(j:Nat):Prop where
 hj:j≤s.arcs.length
 ha:∀ (i:Nat) (a:MArc),i<j→s.arcs[i]? = some a→P a=true
theorem EIn.next {P:MArc→Bool}{s:zah}{j:Nat}{a:MArc}(h:EIn P s j)(ha:s.arcs[j]? = some a)(hP:P a=true):EIn P s (j+1) :=
 ⟨by have:=(List.getElem?_eq_some_iff.1 ha).1;omega,fun i b hi hb=>by
  by_cases e:i=j
  ·subst e;rw[ha] at hb;cases hb;exact hP
  ·exact h.ha i b (by omega) hb⟩
theorem EIn.all {P:MArc→Bool}{s:zah}{j:Nat}(h:EIn P s j)(hj:¬ j<s.arcs.length):s.arcs.all P=true:=by
 rw[List.all_eq_true];intro a ha;obtain⟨i,hi⟩:=List.mem_iff_getElem?.1 ha;exact h.ha i a (by have:=(List.getElem?_eq_some_iff.1 hi).1;omega) hi
theorem zAQ {m:Mach}(h:validB m=true):m.states.length≤3000:=(zdv (zdu h)).2.2.1
theorem zAR {m:Mach}(h:validB m=true){s:zah}(hs:s∈m.states):s.arcs.length≤30000:=Nat.le_trans (zqg hs) (zjc h)
open Go.RowKit
open Go.RowKit
structure Kept (B:Nat)(W W':World):Prop where
 size:W.heap.size≤W'.heap.size
 block:∀ b,B≤b→b<W.heap.size→W'.heap[b]? = W.heap[b]?
theorem zgm {W W':World}{b B:Nat}(h:W.grownBy W' (some b))(hb:b<B):Kept B W W':=⟨h.size,fun c hc hl=>h.block c hl (by simp;omega)⟩
theorem znQ {W W':World}{B k n:Nat}{A:Option Addr}{xs:List Value}(h:Reads W W.heap.size k A n xs)(hB:0<n→∀ ad,A=some ad→B≤ad.block)(hk:Kept B W W'):Reads W' W'.heap.size k A n xs :=
 ⟨h.1,fun h0=>by
  obtain⟨ad,hA,hb,hc⟩:=h.2 h0;exact⟨ad,hA,Nat.lt_of_lt_of_le hb hk.size,fun j u hu=>(World.cell?_of_block (by rw[zff];exact hk.block _ (hB h0 ad hA) hb)).trans (hc j u hu)⟩⟩
theorem zct.keptN {W W':World}{B:Nat}{v:Value}{l:List MArc}(h:zct W v l)(hB:0<l.length→∀ b,v.ownBlock=some b→B≤b)(hk:Kept B W W'):zct W' v l:=by
 obtain⟨A,cap,rfl,hr⟩:=h;exact⟨A,cap,rfl,znQ hr (fun h0 ad hA=>by subst hA;exact hB h0 _ rfl) hk⟩
def StN (W:World)(B:Nat)(u:Value)(l:List zah):Prop:=∃ A cap us,u = .slice A l.length cap∧us.length=l.length∧Reads W W.heap.size 2 A l.length ((l.zip us).flatMap stC)∧(0<l.length→∀ ad,A=some ad→B≤ad.block) ∧
 ∀ (k:Nat) (s:zah) (x:Value),l[k]? = some s→us[k]? = some x→zct W x s.arcs∧(0<s.arcs.length→∀ b,x.ownBlock=some b→B≤b)
theorem StN.sl {W:World}{B:Nat}{u:Value}{l:List zah}(h:StN W B u l):StSl W u l:=by
 obtain⟨A,cap,us,hu,hl,hr,_,ha⟩:=h;exact⟨A,cap,us,hu,hl,hr,fun k s x hs hx=>(ha k s x hs hx).1⟩
theorem StN.kept {W W':World}{B:Nat}{u:Value}{l:List zah}(h:StN W B u l)(hk:Kept B W W'):StN W' B u l:=by
 obtain⟨A,cap,us,hu,hl,hr,hb,ha⟩:=h;exact⟨A,cap,us,hu,hl,znQ hr hb hk,hb,fun k s x hs hx=>⟨(ha k s x hs hx).1.keptN (ha k s x hs hx).2 hk,(ha k s x hs hx).2⟩⟩
theorem StN.mono {W:World}{B C:Nat}{u:Value}{l:List zah}(h:StN W B u l)(hC:C≤B):StN W C u l:=by
 obtain⟨A,cap,us,hu,hl,hr,hb,ha⟩:=h;exact⟨A,cap,us,hu,hl,hr,fun h0 ad hA=>Nat.le_trans hC (hb h0 ad hA),fun k s x hs hx=>⟨(ha k s x hs hx).1,fun h0 b hx2=>Nat.le_trans hC ((ha k s x hs hx).2 h0 b hx2)⟩⟩
theorem StN.nil (W:World)(B:Nat):StN W B (.slice none 0 0) []:=⟨none,0,[],rfl,rfl,Reads.none_,fun h=>by simp at h,fun k s x hs=>by simp at hs⟩
def MN (W:World)(B:Nat)(v:Value)(m:Mach):Prop:=∃ u,v = .agg #[.int .i64 m.kind,.int .i64 m.start,.string m.lead,u]∧StN W B u m.states
def zkx (m:Mach)(w:World)(e:Ending)(w':World):Prop:=∃ v,e = .returned v∧MN w' w.heap.size v m∧w.grownBy w' none
def zxG (r:Mach × Int)(w:World)(e:Ending)(w':World):Prop:=∃ v,e = .returned (.tuple #[v,.int .i64 r.2])∧MN w' w.heap.size v r.1∧w.grownBy w' none
theorem zkx.open6 {m:Mach}{w:World}{e:Ending}{w':World}(h:zkx m w e w'):∃ A c,e = .returned (.agg #[.int .i64 m.kind,.int .i64 m.start,.string m.lead,.slice A m.states.length c])∧StN w' w.heap.size (.slice A m.states.length c) m.states∧w.grownBy w' none:=by
 obtain⟨v,rfl,⟨u,rfl,hst⟩,hg⟩:=h;obtain⟨A,c,us,hv,_⟩:=id hst;subst hv;exact⟨A,c,rfl,hst,hg⟩
theorem zxG.open6 {m:Mach}{k:Int}{w:World}{e:Ending}{w':World}(h:zxG (m,k) w e w'):∃ A c,e = .returned (.tuple #[.agg #[.int .i64 m.kind,.int .i64 m.start,.string m.lead,.slice A m.states.length c],.int .i64 k])∧StN w' w.heap.size (.slice A m.states.length c) m.states∧w.grownBy w' none:=by
 obtain⟨v,rfl,⟨u,rfl,hst⟩,hg⟩:=h;obtain⟨A,c,us,hv,_⟩:=id hst;subst hv;exact⟨A,c,rfl,hst,hg⟩
open Go.RowKit
def zaP:Mach:=⟨0,0,ByteArray.empty,[]⟩
def zbC (k:Int):Mach:=⟨k,0,oneT k,[⟨ByteArray.empty,[]⟩]⟩
theorem zvV:(Tryz.prog.info? 57).map (fun i=>(i.zero,i.size,i.bytes))=some (some (.agg #[.string ByteArray.empty,.slice none 0 0]),2,40):=by kernel_rfl
theorem zci {t:TypeId}{z:Value}{n b:Nat}(h:(Tryz.prog.info? t).map (fun i=>(i.zero,i.size,i.bytes))=some (some z,n,b)) :
  ∃ i,Tryz.prog.info? t=some i∧i.zero=some z∧i.size=n∧i.bytes=b:=by
 obtain⟨i,hi,he⟩:=Option.map_eq_some_iff.1 h;simp only[Prod.mk.injEq] at he;exact⟨i,hi,he.1,he.2.1,he.2.2⟩
theorem zFI:madeCells (Value.agg #[.string ByteArray.empty,.slice none 0 0]).cells (Int.toNat 1 * 2)=#[.string ByteArray.empty,.slice none 0 0]:=by
 first
 | kernel_rfl
 | simp[madeCells,Value.cells]
 | decide
theorem zao.free {w:World}{g:Nat}{m:Mach}{u:Value}(h:zao w g m u)(k:Nat):w.frozen? ⟨g,k,none⟩=false:=frozen_of_row w g k _ _ h
theorem zao.set {w:World}{g:Nat}{m n:Mach}{u v:Value}(h:zao w g m u) :
  zao ((((w.setCell ⟨g,0,none⟩ (.int .i64 n.kind)).setCell ⟨g,1,none⟩ (.int .i64 n.start)).setCell ⟨g,2,none⟩ (.string n.lead)).setCell ⟨g,3,none⟩ v) g n v:=by
 unfold zao at h ⊢;have h1:=heap_setCell_same w g 0 _ _ (.int .i64 n.kind) h;have h2:=heap_setCell_same _ g 1 _ _ (.int .i64 n.start) h1;have h3:=heap_setCell_same _ g 2 _ _ (.string n.lead) h2;have h4:=heap_setCell_same _ g 3 _ _ v h3;rw[h4]
 rfl
def Place (W0 W':World)(g:Nat):Prop:=(W'.cell? ⟨g,0,none⟩=some (.int .i64 0)∧W'.cell? ⟨g,1,none⟩=some (.int .i64 0)∧W'.cell? ⟨g,2,none⟩=some (.string ByteArray.empty)∧W'.cell? ⟨g,3,none⟩=some (.slice none 0 0) ∧
  W'.frozen? ⟨g,0,none⟩=false∧W'.frozen? ⟨g,1,none⟩=false∧W'.frozen? ⟨g,2,none⟩=false∧W'.frozen? ⟨g,3,none⟩=false)∧Hid (zao W' g zaP (.slice none 0 0)∧W0.grownBy W' none)
theorem zmw {W0 W':World}{g:Nat}(hb:zao W' g zaP (.slice none 0 0))(hg:W0.grownBy W' none):Place W0 W' g :=
 ⟨⟨hb.cells.c0,hb.cells.c1,hb.cells.c2,hb.cells.c3,hb.free 0,hb.free 1,hb.free 2,hb.free 3⟩,zHd ⟨hb,hg⟩⟩
theorem Place.next_drew {W0 W:World}{g:Nat}(h:Place W0 W g):Place W0 W.drew g :=
 zmw (h.2.out.1.grown (zae _ _)) (zaa h.2.out.2 (zae _ _))
theorem zqr {W:World}{b B:Nat}(h:W.heap[b]? = some (.cells #[.string ByteArray.empty,.slice none 0 0] 57 (0,0)))(hB:B≤b):StN W B (.slice (some ⟨b,0,none⟩) 1 1) [⟨ByteArray.empty,[]⟩]:=by
 have hb:b<W.heap.size:=(Array.getElem?_eq_some_iff.1 h).1;have h0:W.cell? ⟨b,0,none⟩=some (.string ByteArray.empty):=by rw[cell_of_row _ b 0 _ _ (0,0) h];rfl
 have h1:W.cell? ⟨b,0+1,none⟩=some (.slice none 0 0):=by show World.cell? _ ⟨b,1,none⟩=_;rw[cell_of_row _ b 1 _ _ (0,0) h];rfl
 refine⟨some ⟨b,0,none⟩,1,[.slice none 0 0],rfl,rfl,⟨rfl,fun _=>⟨_,rfl,hb,fun j u hu => ?_⟩⟩,fun _ ad hA=>by cases hA;exact hB,fun k s u hs hu => ?_⟩
 ·match j,hu with
  | 0,hu=>simp[stC] at hu;subst hu;exact h0
  | 1,hu=>simp[stC] at hu;subst hu;exact h1
  | j+2,hu=>simp[stC] at hu
 ·match k,hs,hu with
  | 0,hs,hu=>simp at hs hu;subst hs hu;exact⟨zct.nil _,fun h=>by simp at h⟩
  | k+1,hs,hu=>simp at hs
theorem zjn (w:World){W W':World}(hg:W.grownBy W' none)(h:(W.cell? ⟨w.heap.size,0,none⟩=some (.int .i64 0)∧W.cell? ⟨w.heap.size,1,none⟩=some (.int .i64 0)∧W.cell? ⟨w.heap.size,2,none⟩=some (.string ByteArray.empty)∧W.cell? ⟨w.heap.size,3,none⟩=some (.slice none 0 0)∧W.frozen? ⟨w.heap.size,0,none⟩=false∧W.frozen? ⟨w.heap.size,1,none⟩=false∧W.frozen? ⟨w.heap.size,2,none⟩=false∧W.frozen? ⟨w.heap.size,3,none⟩=false)∧Hid (zao W w.heap.size zaP (.slice none 0 0)∧w.grownBy W none)):(W'.cell? ⟨w.heap.size,0,none⟩=some (.int .i64 0)∧W'.cell? ⟨w.heap.size,1,none⟩=some (.int .i64 0)∧W'.cell? ⟨w.heap.size,2,none⟩=some (.string ByteArray.empty)∧W'.cell? ⟨w.heap.size,3,none⟩=some (.slice none 0 0)∧W'.frozen? ⟨w.heap.size,0,none⟩=false∧W'.frozen? ⟨w.heap.size,1,none⟩=false∧W'.frozen? ⟨w.heap.size,2,none⟩=false∧W'.frozen? ⟨w.heap.size,3,none⟩=false)∧Hid (zao W' w.heap.size zaP (.slice none 0 0)∧w.grownBy W' none) :=
 zmw (h.2.out.1.grown hg) (zaa h.2.out.2 hg)
theorem znR {w W:World}{n:Mach}{v:Value}(h:Place w W w.heap.size) :
  zao ((((W.setCell ⟨w.heap.size,0,none⟩ (.int .i64 n.kind)).setCell ⟨w.heap.size,1,none⟩ (.int .i64 n.start)).setCell ⟨w.heap.size,2,none⟩ (.string n.lead)).setCell ⟨w.heap.size,3,none⟩ v) w.heap.size n v ∧
  w.grownBy ((((W.setCell ⟨w.heap.size,0,none⟩ (.int .i64 n.kind)).setCell ⟨w.heap.size,1,none⟩ (.int .i64 n.start)).setCell ⟨w.heap.size,2,none⟩ (.string n.lead)).setCell ⟨w.heap.size,3,none⟩ v) none ∧
  ∀ b,b≠w.heap.size→b<W.heap.size→((((W.setCell ⟨w.heap.size,0,none⟩ (.int .i64 n.kind)).setCell ⟨w.heap.size,1,none⟩ (.int .i64 n.start)).setCell ⟨w.heap.size,2,none⟩ (.string n.lead)).setCell ⟨w.heap.size,3,none⟩ v).heap[b]? = W.heap[b]? := by
 have g1:=zac W ⟨w.heap.size,0,none⟩ (.int .i64 n.kind);have g2:=zac (W.setCell ⟨w.heap.size,0,none⟩ (.int .i64 n.kind)) ⟨w.heap.size,1,none⟩ (.int .i64 n.start);have g3:=zac ((W.setCell ⟨w.heap.size,0,none⟩ (.int .i64 n.kind)).setCell ⟨w.heap.size,1,none⟩ (.int .i64 n.start)) ⟨w.heap.size,2,none⟩ (.string n.lead);have g4:=zac (((W.setCell ⟨w.heap.size,0,none⟩ (.int .i64 n.kind)).setCell ⟨w.heap.size,1,none⟩ (.int .i64 n.start)).setCell ⟨w.heap.size,2,none⟩ (.string n.lead)) ⟨w.heap.size,3,none⟩ v;have gg:=zaa g1 (zaa g2 (zaa g3 g4));exact⟨h.2.out.1.set,zai (g:=w.heap.size) h.2.out.2 gg (Nat.le_refl _),fun b hb hl=>gg.block b hl (by simpa using hb)⟩
def zaJ (o:List Nat)(y:Nat):List Nat:=if y∈o then o else o++[y]
def srch (succ:Nat→List Nat):Nat→Nat→List Nat→List Nat
 | 0,_,o=>o
 | f+1,i,o=>match o[i]? with
  | none=>o
  | some x=>srch succ f (i+1) ((succ x).foldl zaJ o)
theorem zAS {o:List Nat}{y x:Nat}:x∈zaJ o y↔(x∈o∨x=y):=by
 unfold zaJ
 split
 ·exact⟨.inl,fun h=>by rcases h with h|rfl <;> assumption⟩
 ·simp
theorem zuG {o:List Nat}{y:Nat}(h:o.Nodup):(zaJ o y).Nodup:=by
 unfold zaJ
 split
 ·exact h
 ·rw[List.nodup_append]
  exact⟨h,by simp,fun a ha b hb e=>by simp at hb;subst hb;subst e;contradiction⟩
theorem ztm (o:List Nat)(y:Nat):o <+: zaJ o y:=by
 unfold zaJ
 split
 ·exact List.prefix_refl _
 ·exact List.prefix_append _ _
theorem zdW {l o:List Nat}{x:Nat}:x∈l.foldl zaJ o↔(x∈o∨x∈l):=by
 induction l generalizing o with
 | nil=>simp
 | cons y l ih=>rw[List.foldl_cons,ih,zAS,List.mem_cons,or_assoc]
theorem zbJ {l o:List Nat}(h:o.Nodup):(l.foldl zaJ o).Nodup:=by
 induction l generalizing o with
 | nil=>exact h
 | cons y l ih=>exact ih (zuG h)
theorem zky (l o:List Nat):o <+: l.foldl zaJ o:=by
 induction l generalizing o with
 | nil=>exact List.prefix_refl _
 | cons y l ih=>exact(ztm o y).trans (ih _)
theorem zjo (l o:List Nat)(y:Nat):(l++[y]).foldl zaJ o=zaJ (l.foldl zaJ o) y:=by
 rw[List.foldl_append];rfl
theorem zcA {n:Nat}{l o:List Nat}(ho:∀ x∈o,x<n)(hl:∀ x∈l,x<n):∀ x∈l.foldl zaJ o,x<n:=fun x hx=>by
 rcases zdW.1 hx with h|h
 ·exact ho x h
 ·exact hl x h
theorem zhX {n:Nat}{o:List Nat}(h:o.Nodup)(hb:∀ x∈o,x<n):o.length≤n:=by
 have:=List.Nodup.length_le_of_subset (l₁:=o) (l₂:=List.range n) h (fun x hx=>List.mem_range.2 (hb x hx))
 rwa [List.length_range] at this
theorem zAT {succ:Nat→List Nat}{f i:Nat}{o:List Nat}(h:o.length≤i):srch succ f i o=o:=by
 cases f with
 | zero=>rfl
 | succ f=>unfold srch;rw[List.getElem?_eq_none h]
theorem zqs {succ:Nat→List Nat}{f i x:Nat}{o:List Nat}(h:o[i]? = some x):srch succ (f+1) i o=srch succ f (i+1) ((succ x).foldl zaJ o):=by
 rw[srch,h]
theorem znS {succ:Nat→List Nat}{f i:Nat}{o:List Nat}(h:o.Nodup):(srch succ f i o).Nodup:=by
 induction f generalizing i o with
 | zero=>exact h
 | succ f ih =>
  unfold srch
  split
  ·exact h
  ·exact ih (zbJ h)
theorem zhY (succ:Nat→List Nat)(f i:Nat)(o:List Nat):o <+: srch succ f i o:=by
 induction f generalizing i o with
 | zero=>exact List.prefix_refl _
 | succ f ih =>
  unfold srch
  split
  ·exact List.prefix_refl _
  ·exact(zky _ _).trans (ih _ _)
theorem zxH {succ:Nat→List Nat}{P:Nat→Prop}(hs:∀ x y,P x→y∈succ x→P y){f i:Nat}{o:List Nat}(h:∀ x∈o,P x):∀ x∈srch succ f i o,P x:=by
 induction f generalizing i o with
 | zero=>exact h
 | succ f ih =>
  unfold srch
  split
  ·exact h
  ·rename_i z hz
   refine ih (fun x hx => ?_);rcases zdW.1 hx with hx|hx
   ·exact h x hx
   ·exact hs _ _ (h z (List.mem_of_getElem? hz)) hx
theorem zAU {succ:Nat→List Nat}{n:Nat}(hs:∀ x,∀ y∈succ x,y<n){f i:Nat}{o:List Nat}(hn:o.Nodup)(h:∀ x∈o,x<n)(hf:n≤f+i) :
  ∀ j x,i≤j→(srch succ f i o)[j]? = some x→∀ y∈succ x,y∈srch succ f i o:=by
 induction f generalizing i o with
 | zero =>
  intro j x hj hx;have h1:=zhX hn h;have h2:=(List.getElem?_eq_some_iff.1 hx).1;unfold srch at h2
  omega
 | succ f ih =>
  intro j x hj hx y hy;cases ho:o[i]? with
  | none =>
   have h1:srch succ (f+1) i o=o:=by unfold srch;rw[ho]
   rw[h1] at hx;have h2:=(List.getElem?_eq_some_iff.1 hx).1;have h3:=List.getElem?_eq_none_iff.1 ho
   omega
  | some z =>
   rw[zqs ho] at hx ⊢
   by_cases e:j=i
   ·subst e
    have hp:=(zky (succ z) o).trans (zhY succ f (j+1) ((succ z).foldl zaJ o))
    have hz:(srch succ f (j+1) ((succ z).foldl zaJ o))[j]? = some z:=by
     obtain⟨r,hr⟩:=hp;rw[← hr,List.getElem?_append_left (List.getElem?_eq_some_iff.1 ho).1];exact ho
    rw[hz] at hx;cases hx;exact(zhY succ f (j+1) _).subset (zdW.2 (.inr hy))
   ·exact ih (zbJ hn) (zcA h (hs _)) (by omega) j x (by omega) hx y hy
theorem ztn {succ:Nat→List Nat}{n:Nat}(hs:∀ x,∀ y∈succ x,y<n){o:List Nat}(hn:o.Nodup)(h:∀ x∈o,x<n)(x:Nat):x∈srch succ n 0 o↔RFrom succ (fun y=>y∈o) x:=by
 refine⟨fun hx=>zxH (fun _ _ => .step) (fun _ => .start) x hx,fun hx => ?_⟩
 induction hx with
 | start hx=>exact(zhY succ n 0 o).subset hx
 | step _ hy ih =>
  obtain⟨j,hj⟩:=List.mem_iff_getElem?.1 ih;exact zAU hs hn h (by omega) j _ (by omega) hj _ hy
def zaQ (m:Mach)(x:Nat):List Nat:=(List.range m.states.length).flatMap (fun i=>(zaF m i).filterMap (fun t=>if t=x then some i else none))
def isFin (m:Mach)(x:Nat):Prop:=∃ s,m.states[x]? = some s∧s.fin.size≠0
def zhk (m:Mach)(x:Nat):Prop:=RFrom (zaF m) (fun y=>y=m.start.toNat) x∧RFrom (zaQ m) (isFin m) x
open Classical in
noncomputable def usefulL (m:Mach):List Nat:=(List.range m.states.length).filter (fun x=>decide (zhk m x))
def zcv (l:List Nat)(a:MArc):Option MArc:=if a.t.toNat∈l then some { a with t:=(l.idxOf a.t.toNat:Int) } else none
def stOf (m:Mach)(x:Nat):zah:=(m.states[x]?).getD ⟨ByteArray.empty,[]⟩
def zhl (l:List Nat)(s:zah):zah:=⟨s.fin,s.arcs.filterMap (zcv l)⟩
def zaH (m:Mach)(l:List Nat):Mach:=⟨m.kind,(l.idxOf m.start.toNat:Int),m.lead,l.map (fun x=>zhl l (stOf m x))⟩
structure Wf (m:Mach):Prop where
 start:0≤m.start∧m.start<(m.states.length:Int)
 arcs:∀ s∈m.states,∀ a∈s.arcs,0≤a.t∧a.t<(m.states.length:Int)
theorem zfK {m:Mach}{x:Nat}{s:zah}(h:m.states[x]? = some s):stOf m x=s:=by unfold stOf;rw[h];rfl
theorem zfV {m:Mach}(h:Wf m)(x:Nat):∀ y∈zaF m x,y<m.states.length:=by
 intro y hy;unfold zaF at hy
 split at hy
 ·rename_i s hs
  obtain⟨a,ha,rfl⟩:=List.mem_map.1 hy;have:=h.arcs s (List.mem_of_getElem? hs) a ha
  omega
 ·simp at hy
theorem zto {m:Mach}{x y:Nat}(hy:y∈zaF m x):x<m.states.length:=by
 unfold zaF at hy
 split at hy
 ·rename_i s hs
  exact(List.getElem?_eq_some_iff.1 hs).1
 ·simp at hy
theorem zmx {m:Mach}{x y:Nat}:y∈zaQ m x↔x∈zaF m y:=by
 unfold zaQ;rw[List.mem_flatMap]
 constructor
 ·rintro ⟨i,_,hi⟩
  obtain⟨t,ht,he⟩:=List.mem_filterMap.1 hi
  split at he
  ·cases he;subst_vars;exact ht
  ·cases he
 ·intro h
  exact⟨y,List.mem_range.2 (zto h),List.mem_filterMap.2 ⟨x,h,by simp⟩⟩
theorem zfs {m:Mach}(x:Nat):∀ y∈zaQ m x,y<m.states.length:=fun _ hy=>zto (zmx.1 hy)
theorem zGQ {m:Mach}{x:Nat}(h:isFin m x):x<m.states.length:=by
 obtain⟨s,hs,_⟩:=h;exact(List.getElem?_eq_some_iff.1 hs).1
theorem zjp {m:Mach}(h:Wf m){x:Nat}(hx:RFrom (zaF m) (fun y=>y=m.start.toNat) x):x<m.states.length:=by
 cases hx with
 | start e=>subst e;have:=h.start;omega
 | step _ hy=>exact zfV h _ _ hy
open Classical in
theorem zcw {m:Mach}(h:Wf m){x:Nat}:x∈usefulL m↔zhk m x:=by
 unfold usefulL;rw[List.mem_filter,List.mem_range,decide_eq_true_iff];exact⟨fun h=>h.2,fun hu=>⟨zjp h hu.1,hu⟩⟩
theorem zkz (m:Mach):(usefulL m).Nodup:=List.Pairwise.filter _ List.nodup_range
theorem zrd (m:Mach):(usefulL m).Pairwise (· < ·):=List.Pairwise.filter _ List.pairwise_lt_range
theorem zAV {l k:List Nat}(hl:l.Pairwise (· < ·))(hk:k.Pairwise (· < ·))(h:∀ x,x∈l↔x∈k):l=k:=by
 induction l generalizing k with
 | nil =>
  cases k with
  | nil=>rfl
  | cons y k=>have:=(h y).2 (by simp);simp at this
 | cons x l ih =>
  cases k with
  | nil=>have:=(h x).1 (by simp);simp at this
  | cons y k =>
   rw[List.pairwise_cons] at hl hk
   have e:x=y:=by
    have h1:=(h x).1 (by simp);have h2:=(h y).2 (by simp);simp only[List.mem_cons] at h1 h2;rcases h1 with h1|h1
    ·exact h1
    ·rcases h2 with h2|h2
     ·exact h2.symm
     ·have:=hl.1 y h2;have:=hk.1 x h1;omega
   subst e;rw[ih hl.2 hk.2 (fun z => ?_)];have:=h z;simp only[List.mem_cons] at this
   constructor
   ·intro hz
    have h1:=hl.1 z hz;rcases this.1 (.inr hz) with e|e
    ·omega
    ·exact e
   ·intro hz
    have h1:=hk.1 z hz;rcases this.2 (.inr hz) with e|e
    ·omega
    ·exact e
theorem zDF {m:Mach}{x y:Nat}(hy:RFrom (zaQ m) (isFin m) y)(h:y∈zaF m x):RFrom (zaQ m) (isFin m) x := .step hy (zmx.2 h)
theorem zDG {m:Mach}{x:Nat}(hx:RFrom (zaF m) (fun y=>y=m.start.toNat) x)(he:RFrom (zaQ m) (isFin m) x):RFrom (zaQ m) (isFin m) m.start.toNat:=by
 induction hx with
 | start e=>subst e;exact he
 | step _ hy ih=>exact ih (zDF he hy)
theorem zkA {m:Mach}{x:Nat}(h:zhk m x):zhk m m.start.toNat:=⟨.start rfl,zDG h.1 h.2⟩
theorem znT {m:Mach}(h:Wf m):usefulL m=[]↔¬ zhk m m.start.toNat:=by
 constructor
 ·intro e hu
  have:=(zcw h).2 hu;rw[e] at this;simp at this
 ·intro hn
  rw[List.eq_nil_iff_forall_not_mem];intro x hx;exact hn (zkA ((zcw h).1 hx))
theorem zFJ {l:List Nat}(hn:l.Nodup){i x:Nat}(h:l[i]? = some x):l.idxOf x=i:=by
 obtain⟨hi,rfl⟩:=List.getElem?_eq_some_iff.1 h;exact List.Nodup.idxOf_getElem hn i hi
end Go.Proofs.YtaogepcaoogpgaaGreatDoor
namespace Go.Proofs.YtaogepcaoogpgaaGreatDoor
theorem zqt {l:List Nat}{x:Nat}(h:x∈l):l.idxOf x<l.length:=List.idxOf_lt_length_of_mem h
theorem zdX (m:Mach)(l:List Nat):(zaH m l).states.length=l.length:=by unfold zaH;simp
noncomputable def trimW (none:Mach)(m:Mach):Mach:=if usefulL m=[] then none else zaH m (usefulL m)
end Go.Proofs.YtaogepcaoogpgaaGreatDoor
namespace Go.Proofs.YtaogepcaoogpgaaGreatDoor
theorem zAW {l:List Nat}{a:MArc}(h:a.t.toNat∈l):zcv l a=some { a with t:=(l.idxOf a.t.toNat:Int) }:=by
 unfold zcv;rw[if_pos h]
theorem zDH {l:List Nat}{a:MArc}(h:a.t.toNat ∉ l):zcv l a=none:=by
 unfold zcv;rw[if_neg h]
open Go.RowKit
def bv (zs:List Bool):List Value:=zs.map Value.bool
def zbP (w:World)(g:Nat)(l:List Value):Prop:=w.heap[g]? = some (.cells l.toArray 4 (0,0))
theorem zbP.cell {w:World}{g:Nat}{l:List Value}(h:zbP w g l)(k:Nat):w.cell? ⟨g,k,none⟩=l[k]? := by
 rw[zfA h];simp
theorem zbP.free {w:World}{g:Nat}{l:List Value}(h:zbP w g l)(k:Nat):w.frozen? ⟨g,k,none⟩=false:=frozen_of_row w g k _ _ h
theorem zbP.set {w:World}{g:Nat}{l:List Value}(h:zbP w g l)(k:Nat)(u:Value):zbP (w.setCell ⟨g,k,none⟩ u) g (l.set k u):=by
 unfold zbP;rw[heap_setCell_same w g k _ _ u h];simp
theorem zbP.lt {w:World}{g:Nat}{l:List Value}(h:zbP w g l):g<w.heap.size:=lt_of_block h
theorem zbP.of_full {w:World}{B g n:Nat}{l:List Value}(h:w.ownsRow B 4 1 (.slice (some ⟨g,0,none⟩) n n) n l):zbP w g l:=by
 rcases h.2 with⟨h',_⟩|⟨g',cap',cur,h',hb,hg,_,_,hs,ht⟩
 ·simp at h'
 ·simp only[Value.slice.injEq,Option.some.injEq,Addr.mk.injEq,and_true,true_and] at h'
  obtain⟨rfl,rfl⟩:=h';rw[List.take_of_length_le (by rw[Array.length_toList,hs];exact Nat.le_refl _)] at ht;subst ht;unfold zbP;rw[hg]
theorem zkB (n:Nat):(madeCells #[Value.bool false] n).toList=bv (List.replicate n false):=by
 rw[toList_madeCells_one];simp[bv]
theorem ztp (zs:List Bool)(k:Nat)(b:Bool)(h:zs[k]? = some b):(bv zs)[k]? = some (.bool b):=by
 unfold bv;rw[List.getElem?_map,h];rfl
theorem zGR (zs:List Bool)(i:Nat)(b:Bool):(bv zs).set i (.bool b)=bv (zs.set i b):=by simp[bv,List.map_set]
open Go.RowKit
def QAt (w:World)(B:Nat)(v:Value)(q:List Nat):Prop :=
 ∃ a cap,v = .slice a q.length cap∧((q=[]∧cap=0)∨∃ g off cur,a=some ⟨g,off,none⟩∧B≤g∧w.heap[g]? = some (.cells cur 3 (0,0))∧q.length≤cap∧off+cap≤cur.size ∧
  ∀ (i:Nat) (x:Nat),q[i]? = some x→cur[off+i]? = some (.int .i64 (x:Int)))
theorem QAt.nil (w:World)(B:Nat):QAt w B (.slice none 0 0) []:=⟨none,0,rfl,.inl ⟨rfl,rfl⟩⟩
theorem QAt.lt {w:World}{g:Nat}{c:Array Value}{t:TypeId}{f:Nat × Nat}(h:w.heap[g]? = some (.cells c t f)):g<w.heap.size:=(Array.getElem?_eq_some_iff.1 h).1
theorem QAt.grown {w w':World}{B:Nat}{v:Value}{q:List Nat}{r:Option Nat}(h:QAt w B v q)(hg:w.grownBy w' r)(hr:∀ k,r=some k→k<B):QAt w' B v q:=by
 obtain⟨a,cap,hv,h|⟨g,off,cur,ha,hB,hh,hc,ho,hx⟩⟩:=h
 ·exact⟨a,cap,hv,.inl h⟩
 ·exact⟨a,cap,hv,.inr ⟨g,off,cur,ha,hB,(hg.block g (QAt.lt hh) (fun e=>by have:=hr g e.symm;omega)).trans hh,hc,ho,hx⟩⟩
theorem znU (z:Value)(k:Nat):(Builtin.zeroCells #[z] k).size=k:=by
 unfold Builtin.zeroCells;simp
theorem QAt.push {w:World}{B:Nat}{v:Value}{q:List Nat}(h:QAt w B v q)(hB:B≤w.heap.size)(ty:TypeId)(ad:Addr)(c x:Nat)(hx:w.cell? ad=some (.int .i64 (x:Int)))(hl:q.length≤1000000) :
  ∃ v' w',(Builtin.append_ #[51,51] ty #[v,.slice (some ad) 1 c]).run Tryz.prog w = .ok v' w'∧QAt w' B v' (q++[x])∧Below B w w':=by
 obtain⟨i0,hi,hz0,hz1,hz2⟩:=zci (t:=3) (z := .int .i64 0) (n:=1) (b:=8) (by kernel_rfl)
 have hsrc:Src Tryz.prog i0.size 51 (.slice (some ad) 1 c) 1 [.int .i64 (x:Int)] w :=
  Src.ofSlice w Tryz.underlying51 ad 1 c [.int .i64 (x:Int)] (by rw[hz1];rfl) (fun j u hu=>by
   match j,hu with
   | 0,hu=>simp at hu;subst hu;exact hx
   | j+1,hu=>simp at hu) (by simp[Value.oneCell'])
 have grow:∀ (base:Option Addr) (cap:Nat) (olds:List Value),v = .slice base q.length cap→cap<q.length+1→olds=q.map (fun y:Nat=>Value.int .i64 (y:Int)) →
   (Builtin.firstCells i0.size q.length (.slice base q.length cap)).run Tryz.prog w.drew = .ok olds.toArray w.drew →
   ∃ v' w',(Builtin.append_ #[51,51] ty #[v,.slice (some ad) 1 c]).run Tryz.prog w = .ok v' w'∧QAt w' B v' (q++[x])∧Below B w w':=by
  intro base cap olds hv hcap hol hold;have hcap2:=growslice_fits (need:=q.length+1) (old:=cap) (bytes:=8) (by omega) (by omega);have hrun:=run_append_grow_src w 51 51 ty 3 i0 _ Tryz.underlying51 hi hz0 base q.length cap olds hold _ 1 _ hsrc (by omega) (by omega) (by rw[hz2];exact hcap2);rw[hv];refine⟨_,_,hrun,⟨_,_,by rw[List.length_append,List.length_singleton],.inr ⟨w.heap.size,0,_,rfl,hB,(by show(w.drew.heap.push _)[w.heap.size]? = _;exact Array.getElem?_push_size),?_,?_,?_⟩⟩,((Below.refl B w).grown (zae w none) hB (by simp)).alloc hB _⟩
  ·rw[List.length_append,List.length_singleton];exact grownCap_ge _ _ _ _
  ·have h1:=grownCap_ge w (q.length+1) cap 3
   rw[Array.size_append,List.size_toArray,List.length_append,hol,List.length_map,show(Value.int IntKind.i64 0).cells=#[.int .i64 0] from rfl,znU];simp;omega
  ·intro i y hy
   rw[Nat.zero_add];have hlt:=(List.getElem?_eq_some_iff.1 hy).1;rw[List.length_append,List.length_singleton] at hlt;rw[Array.getElem?_append_left (by rw[List.size_toArray,List.length_append,hol,List.length_map,List.length_singleton];exact hlt)];rw[List.getElem?_toArray,hol,show[Value.int IntKind.i64 (x:Int)]=[x].map (fun y:Nat=>Value.int .i64 (y:Int)) from rfl,← List.map_append,List.getElem?_map,hy]
   rfl
 obtain⟨a,cap,hv,⟨rfl,rfl⟩|⟨g,off,cur,rfl,hgB,hh,hc,ho,hq⟩⟩:=h
 ·refine grow a 0 [] hv (by simp) rfl ?_
  cases a with
  | none=>exact run_firstCells_none w.drew _ _ _ _
  | some b=>exact run_firstCells_some w.drew i0.size 0 b _ _ [] (by simp) (fun j u hu=>by simp at hu)
 ·by_cases hroom:q.length+1≤cap
  ·have hk:off+q.length<cur.size:=by omega
   have hrun:=run_append_room_src w 51 51 ty 3 i0 Tryz.underlying51 hi g off q.length cap _ 1 _ hsrc hroom
    (fun j hj=>by simp at hj;subst hj;rw[hz1,Nat.mul_one,Nat.add_zero,cell_of_row w g _ _ _ (0,0) hh,Array.getElem?_eq_getElem hk];rfl)
    (fun j hj=>frozen_of_row w g _ _ _ hh)
   rw[hv];rw[hz1,Nat.mul_one] at hrun;refine⟨_,_,hrun,⟨_,cap,by rw[List.length_append,List.length_singleton],.inr ⟨g,off,cur.setIfInBounds (off+q.length) (.int .i64 (x:Int)),rfl,hgB,?_,by rw[List.length_append,List.length_singleton];exact hroom,by simpa using ho,fun i y hy => ?_⟩⟩,?_⟩
   ·have:=heap_setCell_same w g (off+q.length) _ _ (.int .i64 (x:Int)) hh
    rw[World.setCells,World.setCells,this]
   ·by_cases e:i=q.length
    ·subst e
     rw[List.getElem?_append_right (Nat.le_refl _),Nat.sub_self] at hy;simp at hy;subst hy;rw[Array.getElem?_setIfInBounds_self_of_lt hk]
    ·have hlt:=(List.getElem?_eq_some_iff.1 hy).1
     rw[List.length_append,List.length_singleton] at hlt;rw[List.getElem?_append_left (by omega)] at hy;rw[Array.getElem?_setIfInBounds_ne (by omega)];exact hq i y hy
   ·exact(Below.refl B w).grown (zac w ⟨g,off+q.length,none⟩ _) hB (fun k e=>by cases e;exact hgB)
  ·refine grow _ cap _ hv (by omega) rfl (run_firstCells_some w.drew i0.size q.length _ _ _ _ (by rw[hz1];simp) (fun j u hu => ?_))
   rw[List.getElem?_map] at hu;obtain⟨y,hy,rfl⟩:=Option.map_eq_some_iff.1 hu;have hlt:=(List.getElem?_eq_some_iff.1 hy).1;have h1:Addr.add ⟨g,off,none⟩ j=⟨g,off+j,none⟩:=by unfold Addr.add;split <;> simp_all
   rw[h1];show w.cell? _=_;rw[cell_of_row w g _ _ _ (0,0) hh];exact hq j y hy
open Go.RowKit
theorem zlR {w:World}{B:Nat}{v:Value}{q:List Nat}(h:QAt w B v q)(hB:B≤w.heap.size){ops:Array Oper}{rest:List Oper}{o:Oper}{a:Act}{Q:Exit→Act→World→Prop}(hgd:o.guard=none)(s x:Operand)
  (ho:o.op = .call { callee := .builtin .append,args:=#[s,x],argTypes:=#[51,51] }) (hs:a.eval s=v) (ad:Addr) (c y:Nat) (hx:a.eval x = .slice (some ad) 1 c) (hc:w.cell? ad=some (.int .i64 (y:Int))) (hl:q.length≤1000000)
  (k:∀ v' w',QAt w' B v' (q++[y])→Below B w w'→wpList Tryz.prog ops Q rest (a.put o.dst v') w'):wpList Tryz.prog ops Q (o::rest) a w:=by
 refine wpList_plain hgd fun K hK => ?_;obtain⟨v',w',hrun,h1,h2⟩:=h.push hB o.type ad c y hc hl;unfold Oper.wp;simp[execOp,ho,resolve,invoke,builtin,hs,hx,hrun,Result.andThen];exact hK _ _ (k v' w' h1 h2)
theorem zqu (w:World)(y:Nat):(w.alloc (.cells #[.int .i64 (y:Int)] 3)).cell? ⟨w.heap.size,0,none⟩=some (.int .i64 (y:Int)):=by
 have h:(w.alloc (.cells #[.int .i64 (y:Int)] 3)).heap[w.heap.size]? = some (.cells #[.int .i64 (y:Int)] 3 (0,0)):=by
  show(w.heap.push _)[w.heap.size]? = _;rw[Array.getElem?_push_size]
 rw[cell_of_row _ w.heap.size 0 _ _ (0,0) h];rfl
open Go.RowKit
theorem zxI (n:Nat)(L:Nat→Value)(a:ByteArray)(fv:Value)(w:World)(hn:0<n)(hf:RowR w fv n L)(h0:L 0 = .string a) :
  Calls Tryz.prog 142 #[fv] w (zab (.string a) w):=by
 obtain⟨A,c,rfl,h1,h2,h3⟩:=hf;obtain⟨ad,rfl,hb,hc⟩:=h3 0 hn;rw[h0] at hc;have hz:ad.add 0=ad:=by cases ad;unfold Addr.add;split <;> simp_all
 have hc':=hc;rw[hz] at hc';have i1:(0:Int)<(n:Int):=by omega
 have i2:¬ (n:Int)≤0:=by omega
 have i3:¬ n=0:=by omega
 clear h3 hb;go_enter Tryz.func142,Tryz.ntmps142;go_wp2;go_ret;exact⟨rfl,World.grownBy.refl _ _⟩
theorem zre:Enters 142:=enters_of Tryz.func142 (by kernel_rfl) rfl
theorem znV (n m:Nat)(V:Nat→Value)(L:Nat→Nat→Value)(G:Nat→ByteArray)(lv:Value)(w:World)(hn:n≤10000)(hm:0<m)(hl:RowR w lv n V)(hrow:∀ i,i<n→RowR w (V i) m (L i))(h0:∀ i,i<n→L i 0 = .string (G i)) :
  Calls Tryz.prog 96 #[lv] w (fun e w'=>∃ v,e = .returned v∧v = .slice (some ⟨w.heap.size,0,none⟩) n n∧zam w' w.heap.size 0 n (fun i => .string (G i))∧w.grownBy w' none):=by
 have h:=zjA 142 zre #[] #[] n V (fun _=>True) G lv w hn hl (fun i hi w' hg=>by
  have h1:=zxI m (L i) (G i) (V i) w' hm ((hrow i hi).grown hg) (h0 i hi);exact h1.mono (fun e w2 h2 => .inl ⟨trivial,h2⟩))
 obtain⟨A,c,rfl,-⟩:=hl;have H:=zHd h;clear h hrow h0;go_enter Tryz.func96,Tryz.ntmps96;go_wp2_with fail;refine H.out.mono ?_;rintro e w1 (⟨hp,v,rfl,⟨rfl,hr⟩,hg1⟩|⟨hnp,-⟩)
 ·have HP:=zHd (zAI hr hg1)
  clear hp hr hg1 H;go_wp2;go_ret;exact⟨_,rfl,rfl,HP.out.1,HP.out.2⟩
 ·exact absurd (fun _ _=>trivial) hnp
open Go.RowKit
section
variable {k:Int}
def stA (l:List zah)(i:Nat):List MArc:=(l[i]?.map (·.arcs)).getD []
def stF (l:List zah)(i:Nat):ByteArray:=(l[i]?.map (·.fin)).getD ⟨#[]⟩
theorem zkC {l:List zah}{i:Nat}{s:zah}(h:l[i]? = some s):stA l i=s.arcs:=by unfold stA;rw[h];rfl
theorem ziw {l:List zah}{i:Nat}{s:zah}(h:l[i]? = some s):stF l i=s.fin:=by unfold stF;rw[h];rfl
noncomputable def arcM (hk:zad k)(l:List zah)(i d:Nat):El k:=mrgP hk (arcF hk (stA l i)) (arcK (stA l i)) (stA l i).length d
def zfL (hk:zad k)(l:List zah):Prop:=∀ i,i<l.length→∀ s,s<(stA l i).length→FitE (mrgP hk (arcF hk (stA l i)) (arcK (stA l i)) (s+1) (arcK (stA l i) s))
noncomputable def finE (hk:zad k)(a:ByteArray):El k := @ite _ (a=⟨#[]⟩) (Classical.propDecidable _) (srE k hk).zero (vE hk a)
noncomputable def finM (hk:zad k)(l:List zah)(i:Nat):El k:=finE hk (stF l i)
structure zcx (k:Int)(l:List zah):Prop where
 n60:l.length≤60
 arcs:∀ i,i<l.length→ztl k l.length (stA l i)∧(stA l i).length≤30000
 fins:∀ i,i<l.length→stF l i=⟨#[]⟩∨∃ v,Val k (stF l i) v
theorem ztq (hk:zad k){l:List zah}(h:zfL hk l){i:Nat}(hi:i<l.length)(d:Nat):FitE (arcM hk l i d):=zmv hk _ _ _ (h i hi) d
theorem zDI (hk:zad k){a:ByteArray}(h:a=⟨#[]⟩∨∃ v,Val k a v):FitE (finE hk a):=by
 unfold finE
 split
 ·exact zbR hk
 ·next hn =>
  rcases h with h|h
  ·exact absurd h hn
  ·exact(zlu hk h).2
theorem zrf:Enters 143:=enters_of Tryz.func143 (by kernel_rfl) rfl
theorem zrg:Enters 95:=enters_of Tryz.func95 (by kernel_rfl) rfl
theorem zlA:Enters 98:=enters_of Tryz.func98 (by kernel_rfl) rfl
theorem zqv (hk:zad k)(l:List zah)(us:List Value)(As:Option Addr)(cs:Nat)(kd st:Int)(ld:ByteArray)(w:World)(hok:zcx k l)(hst:StsR w l us As cs) :
  Calls Tryz.prog 97 #[calV k,.agg #[.int .i64 kd,.int .i64 st,.string ld,.slice As l.length cs]] w (zbn (zfL hk l) (fun v w'=>MatV w' v l.length l.length (arcM hk l)) w):=by
 have hmf:∀ (fn:Fn) (first cap:Array Value) (w:World),(Instr.makeFunc fn first cap).run Tryz.prog w = .ok (.func fn first cap) w:=fun _ _ _ _=>rfl;have hal1:=zGA w (.cells #[.int .i64 k,.string (zaf k),.string (oneT k)] 64) none;have hal2:=zGA (w.alloc (.cells #[.int .i64 k,.string (zaf k),.string (oneT k)] 64)) (.cells #[.int .i64 kd,.int .i64 st,.string ld,.slice As l.length cs] 31) none;have hW:=zaa hal1 hal2
 have xc:zca ((w.alloc (.cells #[.int .i64 k,.string (zaf k),.string (oneT k)] 64)).alloc (.cells #[.int .i64 kd,.int .i64 st,.string ld,.slice As l.length cs] 31)) w.heap.size k:=by
  have h:zca (w.alloc (.cells #[.int .i64 k,.string (zaf k),.string (oneT k)] 64)) w.heap.size k:=⟨zak w _ _ rfl,zak w _ _ rfl,zak w _ _ rfl⟩;exact h.grown hal2
 have xs:((w.alloc (.cells #[.int .i64 k,.string (zaf k),.string (oneT k)] 64)).alloc (.cells #[.int .i64 kd,.int .i64 st,.string ld,.slice As l.length cs] 31)).cell? ⟨w.heap.size+1,3,none⟩=some (.slice As l.length cs):=by
  have h:=zak (w.alloc (.cells #[.int .i64 k,.string (zaf k),.string (oneT k)] 64)) #[.int .i64 kd,.int .i64 st,.string ld,.slice As l.length cs] 31 (j:=3) (u := .slice As l.length cs) rfl;rw[show(w.alloc (.cells #[.int .i64 k,.string (zaf k),.string (oneT k)] 64)).heap.size=w.heap.size+1 by simp] at h;exact h
 have hmap:=zgr 143 zrf #[] #[.pointer (some ⟨w.heap.size,0,none⟩),.pointer (some ⟨w.heap.size+1,0,none⟩)] l us As cs l.length (fun i=>∀ s,s<(stA l i).length→FitE (mrgP hk (arcF hk (stA l i)) (arcK (stA l i)) (s+1) (arcK (stA l i) s))) (fun i=>txs (arcM hk l i)) _ (by have:=hok.n60;omega) (hst.grown hW) (fun i s u hs hu w' hw' ha=>by
  have hil:=(List.getElem?_eq_some_iff.1 hs).1;have he:=zkC hs;obtain⟨h1,h2⟩:=hok.arcs i hil;rw[he] at h1 h2;have h:=zxF hk l.length w.heap.size (w.heap.size+1) cs s.fin u s.arcs As w' (by have:=hok.n60;omega) h2 h1 ha (xc.grown hw') (hw'.cell xs (by simp));refine h.mono (fun e w3 h => ?_);rcases h with⟨hp,v,e1,⟨g,e2,q1,q2⟩,q3⟩|⟨hp,q⟩
  ·refine .inl ⟨by rw[he];exact hp,v,e1,⟨g,0,l.length,e2,Nat.le_refl _,by have:=hok.n60;unfold maxLen;omega,.inr q1,?_⟩,q3⟩
   show zam w3 g 0 l.length (txs (arcM hk l i));unfold arcM;rw[he];exact q2
  ·exact .inr ⟨by rw[he];exact hp,q⟩)
 have HM:=zHd hmap;have HW:=zHd hW;have HN:=zHd hok.n60;clear hmap hal1 hal2 hW xc xs hst hok;unfold calV at *;go_enter Tryz.func97,Tryz.ntmps97;go_wp2_with fail;refine HM.out.mono ?_;rintro e w1 (⟨hp,v,rfl,⟨zs,rfl,hzs,_⟩,hg1⟩|⟨hn,rfl,hg1⟩)
 ·have HP:=zHd (zAI hp (zAI hzs hg1))
  clear hp hzs hg1 HM;go_wp2;go_ret;obtain⟨hp,hzs,hg1⟩:=HP.out;refine .inl ⟨hp,_,rfl,?_,zaa HW.out hg1⟩;have h:=hzs.mat (by have:=HN.out;omega)
  simpa using h
 ·exact⟨rfl,.inr ⟨hn,rfl,zaa HW.out hg1⟩⟩
end
open Go.RowKit
def zxJ (n m:Nat)(X Y:Nat→ByteArray):Prop:=n=m∧∀ i,i<n→X i=Y i
theorem zkD (n m:Nat)(X Y:Nat→ByteArray)(av bv:Value)(w:World)(hn:n≤10000)(hm:m≤10000)(ha:RowR w av n (fun i => .string (X i)))(hb:RowR w bv m (fun i => .string (Y i))) :
  Calls Tryz.prog 27 #[av,bv] w (zbb (zxJ n m X Y) w):=by
 obtain⟨Aa,ca,rfl,_,_,ha3⟩:=ha;obtain⟨Ab,cb,rfl,_,_,hb3⟩:=hb;have HA:=zHd ha3;have HB:=zHd hb3;have HN:=zHd (zAI hn hm);clear ha3 hb3
 by_cases hnm:n=m
 ·subst hnm
  have t1:((n:Int) == (n:Int))=true:=by simp
  have t2:((n:Int) != (n:Int))=false:=by simp
  clear hn hm;go_enter Tryz.func27,Tryz.ntmps27;go_wp2
  go_loopw [5] (fun iv wr=>∃ i:Nat,i≤n∧iv = .int .i64 (i:Int)∧w.grownBy wr none∧∀ x,x<i→X x=Y x) (fun iv _=>n - (intOf iv).toNat)
  case atStart=>exact⟨0,Nat.zero_le _,rfl,World.grownBy.refl _ _,fun x hx=>absurd hx (by omega)⟩
  case round =>
   obtain⟨i,hi,rfl,hg,hx⟩:=hrel
   by_cases hin:i<n
   ·obtain⟨ad,rfl,hbl,hca⟩:=HA.out i hin
    obtain⟨bd,rfl,hbl2,hcb⟩:=HB.out i hin;have q1:wr.drew.cell? (ad.add i)=some (.string (X i)):=(zap (w:=w) (w':=wr) (ad:=ad.add i) (by rw[zaj];exact hg.block _ hbl (by simp))).trans hca;have q2:wr.drew.cell? (bd.add i)=some (.string (Y i)):=(zap (w:=w) (w':=wr) (ad:=bd.add i) (by rw[zaj];exact hg.block _ hbl2 (by simp))).trans hcb;have u1:decide (i<n)=true:=by simpa using hin
    have u1':decide ((i:Int)<(n:Int))=true:=by simpa using hin
    have hit:(i:Int)<(n:Int):=by omega
    have hi0:(0:Int)≤(i:Int):=by omega
    have n1:IntKind.i64.wrap ((i:Int)+1)=(i:Int)+1:=by have:=HN.out;rw[IntKind.wrap_i64];omega
    have HI:=zHd (zAI hin (zAI hg hx));clear hi hin hg hx hbl hbl2 hca hcb;rcases zcR (X i) (Y i) with⟨f1,e1⟩|⟨f1,e1⟩
    ·have f2:((X i).toList != (Y i).toList)=false:=by simp[bne,f1]
     have HE:=zHd e1;clear e1;go_upto_region 6 with(fail)
     go_region_held2 (fun W'=>W'.cell? (ad.add i)=some (.string (X i))∧W'.cell? (bd.add i)=some (.string (Y i))) (first|exact⟨q1,q2⟩|go_keep) (fail)
     all_goals
      go_wp2;refine⟨⟨i+1,HI.out.1,by simp,zaa HI.out.2.1 (zae wr none),fun x hx => ?_⟩,by have:=HI.out.1;simp[intOf];omega⟩
      by_cases e:x<i
      ·exact HI.out.2.2 x e
      ·rw[show x=i by omega];exact HE.out
    ·have f2:((X i).toList != (Y i).toList)=true:=by simp[bne,f1]
     have HE:=zHd e1;clear e1;go_upto_region 6 with(fail)
     go_region_held2 (fun W'=>W'.cell? (ad.add i)=some (.string (X i))∧W'.cell? (bd.add i)=some (.string (Y i))) (first|exact⟨q1,q2⟩|go_keep) (fail)
     all_goals
      go_wp2;go_ret;exact zbb.no (fun h=>HE.out (h.2 i HI.out.1)) (zaa HI.out.2.1 (zae wr none))
   ·obtain rfl:i=n:=by omega
    have u1:decide (i<i)=false:=by simp
    have u1':decide ((i:Int)<(i:Int))=false:=by simp
    have HI:=zHd (zAI hg hx);clear hi hin hg hx;go_wp2;go_ret;exact zbb.yes ⟨rfl,HI.out.2⟩ HI.out.1
 ·have t1:((n:Int) == (m:Int))=false:=by simp;omega
  have t2:((n:Int) != (m:Int))=true:=by simp[bne];omega
  have HE:=zHd hnm;clear hnm hn hm;go_enter Tryz.func27,Tryz.ntmps27;go_wp2;go_ret;exact zbb.no (fun h=>HE.out h.1) (World.grownBy.refl _ _)
def ztr (n m:Nat)(la lb:Nat→Nat)(X Y:Nat→Nat→ByteArray):Prop:=n=m∧∀ i,i<n→zxJ (la i) (lb i) (X i) (Y i)
theorem zeu (n m:Nat)(la lb:Nat→Nat)(X Y:Nat→Nat→ByteArray)(av bv:Value)(w:World)(hn:n≤10000)(hm:m≤10000)(hla:∀ i,i<n→la i≤10000)(hlb:∀ i,i<m→lb i≤10000)(ha:MatA w av n la X)(hb:MatA w bv m lb Y) :
  Calls Tryz.prog 16 #[av,bv] w (zbb (ztr n m la lb X Y) w):=by
 obtain⟨ra,⟨Aa,ca,rfl,_,_,ha3⟩,ha4⟩:=ha;obtain⟨rb,⟨Ab,cb,rfl,_,_,hb3⟩,hb4⟩:=hb;have hsame:=fun(i:Nat) (hi:i<n) (hi2:i<m) (w':World) (hg:w.grownBy w' none)=>zkD (la i) (lb i) (X i) (Y i) (ra i) (rb i) w' (hla i hi) (hlb i hi2) ((ha4 i hi).grown hg) ((hb4 i hi2).grown hg);have hra:∀ i,i<n→∃ A c,ra i = .slice A (la i) c:=fun i hi=>by obtain⟨A,c,e,_⟩:=ha4 i hi;exact⟨A,c,e⟩
 have hrb:∀ i,i<m→∃ A c,rb i = .slice A (lb i) c:=fun i hi=>by obtain⟨A,c,e,_⟩:=hb4 i hi;exact⟨A,c,e⟩
 have HA:=zHd ha3;have HB:=zHd hb3;have HN:=zHd (zAI hn hm);have HS:=zHd hsame;have HRA:=zHd hra;have HRB:=zHd hrb;clear ha3 hb3 ha4 hb4 hsame hra hrb hla hlb
 by_cases hnm:n=m
 ·subst hnm
  have t1:((n:Int) == (n:Int))=true:=by simp
  have t2:((n:Int) != (n:Int))=false:=by simp
  clear hn hm;go_enter Tryz.func16,Tryz.ntmps16;go_wp2
  go_loopw [5] (fun iv wr=>∃ i:Nat,i≤n∧iv = .int .i64 (i:Int)∧w.grownBy wr none∧∀ x,x<i→zxJ (la x) (lb x) (X x) (Y x)) (fun iv _=>n - (intOf iv).toNat)
  case atStart=>exact⟨0,Nat.zero_le _,rfl,World.grownBy.refl _ _,fun x hx=>absurd hx (by omega)⟩
  case round =>
   obtain⟨i,hi,rfl,hg,hx⟩:=hrel
   by_cases hin:i<n
   ·obtain⟨ad,rfl,hbl,hca⟩:=HA.out i hin
    obtain⟨bd,rfl,hbl2,hcb⟩:=HB.out i hin;obtain⟨A1,c1,e1⟩:=HRA.out i hin;obtain⟨A2,c2,e2⟩:=HRB.out i hin;have q1:wr.drew.cell? (ad.add i)=some (ra i):=(zap (w:=w) (w':=wr) (ad:=ad.add i) (by rw[zaj];exact hg.block _ hbl (by simp))).trans hca;have q2:wr.drew.cell? (bd.add i)=some (rb i):=(zap (w:=w) (w':=wr) (ad:=bd.add i) (by rw[zaj];exact hg.block _ hbl2 (by simp))).trans hcb;have hcall:=HS.out i hin hin wr.drew (zaa hg (zae wr none));rw[e1,e2] at hcall;rw[e1] at q1;rw[e2] at q2;have u1:decide (i<n)=true:=by simpa using hin
    have u1':decide ((i:Int)<(n:Int))=true:=by simpa using hin
    have hit:(i:Int)<(n:Int):=by omega
    have hi0:(0:Int)≤(i:Int):=by omega
    have n1:IntKind.i64.wrap ((i:Int)+1)=(i:Int)+1:=by have:=HN.out;rw[IntKind.wrap_i64];omega
    have HI:=zHd (zAI hin (zAI hg hx));have HC:=zHd hcall;clear hi hin hg hx hbl hbl2 hca hcb hcall e1 e2;go_upto_region 6 with(fail)
    go_region_held2 (fun W'=>W'.cell? (ad.add i)=some (.slice A1 (la i) c1)∧W'.cell? (bd.add i)=some (.slice A2 (lb i) c2)) (first|exact⟨q1,q2⟩|exact S5|go_keep)
     (first|(go_at_call 27;refine HC.out.mono ?_;rintro e w5 ⟨b,rfl,hb,hg5⟩;have S5:(fun W':World=>W'.cell? (ad.add i)=some (.slice A1 (la i) c1)∧W'.cell? (bd.add i)=some (.slice A2 (lb i) c2)) w5:=⟨hg5.cell q1 (by simp),hg5.cell q2 (by simp)⟩;have H5:=zHd (zAI hb (zaa HI.out.2.1 (zaa (zae wr none) hg5)));clear hb hg5))
    all_goals
     cases b
     ·go_wp2
      go_ret;refine zbb.no (fun h => ?_) H5.out.2;have:=H5.out.1.2 (h.2 i HI.out.1);cases this
     ·go_wp2
      refine⟨⟨i+1,HI.out.1,by simp,H5.out.2,fun x hx => ?_⟩,by have:=HI.out.1;simp[intOf];omega⟩
      by_cases e:x<i
      ·exact HI.out.2.2 x e
      ·rw[show x=i by omega];exact H5.out.1.1 rfl
   ·obtain rfl:i=n:=by omega
    have u1:decide (i<i)=false:=by simp
    have u1':decide ((i:Int)<(i:Int))=false:=by simp
    have HI:=zHd (zAI hg hx);clear hi hin hg hx;go_wp2;go_ret;exact zbb.yes ⟨rfl,HI.out.2⟩ HI.out.1
 ·have t1:((n:Int) == (m:Int))=false:=by simp;omega
  have t2:((n:Int) != (m:Int))=true:=by simp[bne];omega
  have HE:=zHd hnm;clear hnm hn hm;go_enter Tryz.func16,Tryz.ntmps16;go_wp2;go_ret;exact zbb.no (fun h=>HE.out h.1) (World.grownBy.refl _ _)
theorem MatV.texts {k:Int}{w:World}{v:Value}{n m:Nat}{F:Nat→Nat→El k}(h:MatV w v n m F):MatA w v n (fun _=>m) (fun i j=>tx (F i j)):=by
 obtain⟨rs,h1,h2⟩:=h;exact⟨rs,h1,fun i hi=>(h2 i hi).row⟩
end Go.Proofs.YtaogepcaoogpgaaGreatDoor
