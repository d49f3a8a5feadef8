/- A machine that came in. · The program's sorted arcs. · The program's withSortedArcs. · The program's Clone. -/
import Derived.Test.YtbmonhnojkiapaaGreatDoorV19
import Derived.Test.YtbmonhnojkiapaaGreatDoorV24
import Derived.Test.YtbmonhnojkiapaaGreatDoorV30
import Derived.Test.YtbmonhnojkiapaaGreatDoorV25
import Derived.WalkKit
import Derived.ProofKit
import Derived.OpenShut
import Derived.SliceStrings
import Derived.SizedLaws
import Derived.Carry
import Derived.Lib.SmallJoins
import Derived.ChangeOld
set_option linter.unusedVariables false
set_option linter.unusedSimpArgs false
namespace Go.Proofs.YtbmonhnojkiapaaGreatDoor
open Go.ChangeShapes Go.WideShapes Go.ChangeAt Go.RowKit Go.Lib Go.Joins

/-- A row of cells, from its elements. -/
theorem reads_of_each {α : Type} (f : α → List Value) (n : Nat) (hn : ∀ a, (f a).length = n) (h0 : 0 < n) {w : World} {ad : Addr} {l : List α} (hb : 0 < l.length → ad.block < w.heap.size)
    (h : ∀ i a, l[i]? = some a → ∀ r, r < n → w.cell? (ad.add (i * n + r)) = (f a)[r]?) : Reads w w.heap.size n (some ad) l.length (l.flatMap f) := by
  refine ⟨flat_len f n hn l, fun hl => ⟨ad, rfl, hb hl, fun j u hu => ?_⟩⟩
  have hj : j < l.length * n := by
    have := (List.getElem?_eq_some_iff.1 hu).1
    rw [flat_len f n hn l] at this; exact this
  have hq : j / n < l.length := Nat.div_lt_of_lt_mul (by rw [Nat.mul_comm]; exact hj)
  have hx : l[j / n]? = some l[j / n] := List.getElem?_eq_getElem hq
  have hr := Nat.mod_lt j h0
  have e : j / n * n + j % n = j := by rw [Nat.mul_comm]; exact Nat.div_add_mod j n
  have h1 := h _ _ hx _ hr
  have h2 := flat_get f n hn l _ _ _ hx hr
  rw [e] at h1 h2
  rw [h1, ← h2, hu]
section
variable {H : Type} {enc : TypeId × Value → H} {w : World}

end
end Go.Proofs.YtbmonhnojkiapaaGreatDoor
set_option linter.unusedVariables false
set_option linter.unusedSimpArgs false
namespace Go.Proofs.YtbmonhnojkiapaaGreatDoor
open Go.RowKit

instance : Inhabited MArc := ⟨⟨0, 0, ByteArray.empty, 0⟩⟩
theorem ltOf_arc (a b : MArc) : ltOf arcCmp a b = ltA a b := rfl
theorem swo_arc : Go.Sort.SWO (ltOf arcCmp) where
  irrefl x := by rw [ltOf_arc]; exact ltA_irrefl x
  trans x y z h1 h2 := by rw [ltOf_arc] at *; exact ltA_trans h1 h2
  ntrans x y z h1 h2 := by
    rw [ltOf_arc] at *
    cases h : ltA x z
    · rfl
    · cases h3 : ltA y x
      · have := ltA_total h1 h3
        subst this
        rw [h] at h2; cases h2
      · have := ltA_trans h3 h
        rw [h2] at this; cases this
theorem grown_putRow {α : Type} [Inhabited α] (enc : α → Value) (w : World) (blk off n : Nat) (d : Array α) (os : Array Obj) : w.grownBy (Go.Sort.grow (Go.Sort.putRow enc (Go.Sort.ahead w n) blk off d) os) (some blk) := by
  refine ⟨rfl, rfl, rfl, by simp, fun k hk hne => ?_⟩
  rw [Go.Sort.heap_grow_old _ _ (by simpa using hk)]
  show ((Go.Sort.ahead w n).heap.modify blk _)[k]? = w.heap[k]?
  rw [Array.getElem?_modify, if_neg (fun e => hne (by rw [e]))]
  rfl
theorem enters_compareArcs : Enters 58 := enters_of Tryz.func58 (by kernel_rfl) rfl
/-- The row holds the arcs in order. -/
theorem arcs_of_holds {w : World} {g cap : Nat} {l : List MArc} (h : Go.Sort.HoldsK arcC 4 w g 0 l.toArray) (hb : 0 < l.length → g < w.heap.size) : ArcsSl w (.slice (some ⟨g, 0, none⟩) l.length cap) l := by
  refine ⟨_, cap, rfl, reads_of_each arcC 4 arcC_len (by omega) hb (fun i a ha r hr => ?_)⟩
  have hi := (List.getElem?_eq_some_iff.1 ha).1
  have hc := h.cell (i := i) (c := r) (by simpa using hi) hr
  have he : l.toArray[i]! = a := by
    rw [getElem!_pos l.toArray i (by simpa using hi)]
    have := (List.getElem?_eq_some_iff.1 ha).2
    simpa using this
  rw [he] at hc
  have hadd : Addr.add ⟨g, 0, none⟩ (i * 4 + r) = ⟨g, 0 + (i * 4 + r), none⟩ := by unfold Addr.add; split <;> simp_all
  rw [hadd]
  have h2 : w.cell? ⟨g, 0 + (i * 4 + r), none⟩ = some ((arcC a)[r]!) := by
    first
    | exact hc.1
    | exact hc
    | (rw [← Nat.add_assoc]; exact hc.1)
    | (rw [← Nat.add_assoc]; exact hc)
  rw [h2, List.getElem?_eq_getElem (by rw [arcC_len]; exact hr), getElem!_pos (arcC a) r (by rw [arcC_len]; exact hr)]
theorem holds_of_own {w : World} {B g : Nat} {l : List MArc} (h : w.ownsRow B 35 4 (.slice (some ⟨g, 0, none⟩) l.length l.length) l.length (l.flatMap arcC)) : Go.Sort.HoldsK arcC 4 w g 0 l.toArray := by
  intro j hj
  rw [Go.Sort.size_flatK] at hj
  have hj' : j < l.length * 4 := by simpa using hj
  refine ⟨?_, by rw [Nat.zero_add]; exact h.frozenAt j⟩
  rw [Nat.zero_add, h.cellAt j hj', Go.Sort.get_flatK _ _ _ _ hj]
  have hq : j / 4 < l.length := Nat.div_lt_of_lt_mul (by omega)
  have hx : l[j / 4]? = some l[j / 4] := List.getElem?_eq_getElem hq
  have h1 := flat_get arcC 4 arcC_len l (j / 4) (j % 4) _ hx (by omega)
  rw [show j / 4 * 4 + j % 4 = j by omega] at h1
  rw [h1, getElem!_pos l.toArray (j / 4) (by simpa using hq)]
  rw [List.getElem?_eq_getElem (by rw [arcC_len]; omega)]
  show some _ = some (id _)
  rw [getElem!_pos (arcC _) (j % 4) (by rw [arcC_len]; omega)]
  simp
theorem sortA_nil : sortA [] = [] := by simp [sortA]
def ArcsPost (l : List MArc) (w : World) (e : Ending) (w' : World) : Prop := ∃ v, e = .returned v ∧ ArcsSl w' v l ∧ (0 < l.length → ∃ b, v.ownBlock = some b ∧ w.heap.size ≤ b) ∧ w.grownBy w' none
set_option maxRecDepth 20000 in
set_option maxHeartbeats 2000000 in
theorem sorted_any {w : World} {A : Option Addr} {cap : Nat} {l : List MArc} (hr : Reads w w.heap.size 4 A l.length (l.flatMap arcC)) (hl : l.length ≤ 1000000) :
    Calls Tryz.prog 57 #[.slice A l.length cap, .func (.func 58) #[] #[]] w (ArcsPost (sortA l) w) := by
  have HCP := Lib.hid (copiedA_any (cap := cap) hr (arcC_one l) hl)
  clear hr
  go_enter Tryz.func57, Tryz.ntmps57
  go_wp2_with fail
  refine HCP.out.mono ?_
  rintro e w1 ⟨g, rfl, hown, hg1⟩
  have HO := Lib.hid hown; have HG1 := Lib.hid hg1
  have hlt := hown.lt g rfl
  clear hown hg1
  by_cases h0 : l.length = 0
  · obtain rfl : l = [] := List.eq_nil_of_length_eq_zero h0
    have hn := fun c w => Tryz.slices_SortFunc_none (some ⟨g, 0, none⟩) c (.func (.func 58) #[] #[]) w
    have HN := Lib.hid hn
    clear hn h0
    go_wp2_with fail
    refine (HN.out _ _).mono ?_
    rintro e w2 ⟨rfl, rfl⟩
    go_wp2
    go_ret
    refine ⟨_, rfl, ?_, ?_, HG1.out⟩
    · rw [sortA_nil]; exact ⟨_, _, rfl, by simp, fun h => by simp at h⟩
    · rw [sortA_nil]; intro h; simp at h
  · have hs := Tryz.slices_SortFunc_total (α := MArc) 4 Tryz.isAgg35 Tryz.sizeOf35 arcC arcC_len (fun x v hv => by simp [arcC] at hv; rcases hv with rfl | rfl | rfl | rfl <;> rfl) arcCmp swo_arc 58 #[] g 0 l.length l.toArray w1 enters_compareArcs
      (fun m os dk _ x y => (compareArcs_any x y _).mono fun e w' ⟨h1, q, os', h2⟩ => ⟨h1, q, os', h2⟩) (holds_of_own HO.out) hlt.2 (by simp; omega) (fun x y h1 h2 => ltA_total h1 h2)
    have HS := Lib.hid hs
    have hsz : l.toArray.size = l.length := by simp
    rw [hsz] at HS
    clear hs
    go_wp2_with fail
    refine HS.out.mono ?_
    rintro e w2 ⟨rfl, n, os, hw2⟩
    have hm : (l.toArray.toList.mergeSort fun x y => !(ltOf arcCmp) y x) = sortA l := by rfl
    rw [hm] at hw2
    have hg2 : w1.grownBy w2 (some g) := by rw [hw2]; exact grown_putRow id w1 g 0 n _ os
    have hH : Go.Sort.HoldsK arcC 4 w2 g 0 (sortA l).toArray := by
      rw [hw2]
      refine Go.Sort.holdsK_grow _ _ _ _ _ _ _ (by unfold Go.Sort.putRowK; rw [Go.Sort.size_putRow]; exact hlt.2) ?_
      exact Go.Sort.holdsK_putRowK _ _ _ _ _ _ _ (Go.Sort.holdsK_ahead _ _ _ _ _ _ _ (holds_of_own HO.out)) (by simp [sortA_len])
    have hA := arcs_of_holds (cap := l.length) hH (fun _ => by have := hg2.size; omega)
    rw [sortA_len] at hA
    have HA := Lib.hid hA
    have HG2 := Lib.hid (grown_step (g := g) HG1.out hg2 hlt.1)
    clear hw2 hm hg2 hH hA
    go_wp2
    go_ret
    exact ⟨_, rfl, HA.out, fun _ => ⟨g, rfl, hlt.1⟩, HG2.out⟩
end Go.Proofs.YtbmonhnojkiapaaGreatDoor
set_option linter.unusedVariables false
set_option linter.unusedSimpArgs false
namespace Go.Proofs.YtbmonhnojkiapaaGreatDoor
open Go.RowKit

/-- The first k by f. -/
def partM {α : Type} (f : α → α) (l : List α) (k : Nat) : List α := (l.take k).map f ++ l.drop k
theorem part_len {α : Type} (f : α → α) (l : List α) (k : Nat) : (partM f l k).length = l.length := by
  unfold partM; simp; omega
theorem part_zero {α : Type} (f : α → α) (l : List α) : partM f l 0 = l := by unfold partM; simp
theorem part_end {α : Type} (f : α → α) {l : List α} {k : Nat} (h : l.length ≤ k) : partM f l k = l.map f := by
  unfold partM; rw [List.take_of_length_le h, List.drop_of_length_le h, List.append_nil]
theorem part_get {α : Type} (f : α → α) {l : List α} {k : Nat} {a : α} (h : l[k]? = some a) : (partM f l k)[k]? = some a := by
  have hk := (List.getElem?_eq_some_iff.1 h).1
  unfold partM
  rw [List.getElem?_append_right (by simp; omega)]
  simp only [List.length_map, List.length_take, Nat.min_eq_left (Nat.le_of_lt hk), Nat.sub_self, List.getElem?_drop, Nat.add_zero]
  exact h
theorem part_set {α : Type} (f : α → α) {l : List α} {k : Nat} {a : α} (h : l[k]? = some a) : (partM f l k).set k (f a) = partM f l (k + 1) := by
  have hk := (List.getElem?_eq_some_iff.1 h).1
  unfold partM
  rw [take_one h, List.map_append, List.map_singleton, List.set_append_right _ _ (by simp; omega)]
  simp only [List.length_map, List.length_take, Nat.min_eq_left (Nat.le_of_lt hk), Nat.sub_self]
  rw [List.append_assoc]
  congr 1
  have hd : l.drop k = a :: l.drop (k + 1) := by
    rw [List.drop_eq_getElem_cons hk]
    congr 1
    exact (List.getElem?_eq_some_iff.1 h).2
  rw [hd, List.set_cons_zero]
  rfl
theorem stC_one {l : List MState} {us : List Value} (h : ∀ u ∈ us, u.oneCell' = true) : ∀ v ∈ (l.zip us).flatMap stC, v.oneCell' = true := by
  intro v hv
  obtain ⟨p, hp, hm⟩ := List.mem_flatMap.1 hv
  have h2 := List.of_mem_zip hp
  simp [stC] at hm
  rcases hm with rfl | rfl
  · rfl
  · exact h _ h2.2
theorem StAt.one {w : World} {A : Option Addr} {us : List Value} {l : List MState} (h : StAt w A us l) : ∀ u ∈ us, u.oneCell' = true := by
  intro u hu
  obtain ⟨k, hk⟩ := List.mem_iff_getElem?.1 hu
  have hl := (List.getElem?_eq_some_iff.1 hk).1
  have hs : l[k]? = some (l[k]'(by rw [← h.len]; exact hl)) := List.getElem?_eq_getElem (by rw [← h.len]; exact hl)
  obtain ⟨B, cb, rfl, _⟩ := h.arcs k _ u hs hk
  rfl
/-- A new row with the same cells holds the same states. -/
theorem StOwn.copy {w w2 : World} {A : Option Addr} {us : List Value} {l : List MState} {g cap B : Nat} {P : Nat → Prop} (h : StAt w A us l) (hb : Below w.heap.size w w2) (ho : w2.ownsRow B 29 2 (.slice (some ⟨g, 0, none⟩) l.length cap) l.length ((l.zip us).flatMap stC)) (hg : w.heap.size ≤ g) (hP : ∀ b, b < w.heap.size → P b) :
    StOwn w2 B P (.slice (some ⟨g, 0, none⟩) l.length cap) l := by
  refine ⟨us, h.len, ho, fun k s x hs hx => ?_⟩
  have h1 := h.arcs k s x hs hx
  refine ⟨⟨h1.below hb, fun hl e => ?_⟩, fun hl b hbb => by obtain ⟨b', hb1, hb2⟩ := h1.block hl; rw [hb1] at hbb; cases hbb; exact hP _ hb2⟩
  obtain ⟨b, hb1, hb2⟩ := h1.block hl
  rw [hb1] at e
  have e2 : b = g := by simpa [Value.ownBlock] using e
  omega
theorem BoxAt.set3 {w : World} {g : Nat} {m : Mach} {u v : Value} (h : BoxAt w g m u) : BoxAt (w.setCell ⟨g, 3, none⟩ v) g m v := by
  unfold BoxAt at *
  rw [heap_setCell_same w g 3 _ _ v h]
  rfl
/-- A named result is filled. -/
theorem box_fill {W : World} {g : Nat} {m n : Mach} {u v : Value} (h : BoxAt W g m u) :
    BoxAt ((((W.setCell ⟨g, 0, none⟩ (.int .i64 n.kind)).setCell ⟨g, 1, none⟩ (.int .i64 n.start)).setCell ⟨g, 2, none⟩ (.string n.lead)).setCell ⟨g, 3, none⟩ v) g n v ∧
    W.grownBy ((((W.setCell ⟨g, 0, none⟩ (.int .i64 n.kind)).setCell ⟨g, 1, none⟩ (.int .i64 n.start)).setCell ⟨g, 2, none⟩ (.string n.lead)).setCell ⟨g, 3, none⟩ v) (some g) := by
  have g1 := grown_setCell W ⟨g, 0, none⟩ (.int .i64 n.kind)
  have g2 := grown_setCell (W.setCell ⟨g, 0, none⟩ (.int .i64 n.kind)) ⟨g, 1, none⟩ (.int .i64 n.start)
  have g3 := grown_setCell ((W.setCell ⟨g, 0, none⟩ (.int .i64 n.kind)).setCell ⟨g, 1, none⟩ (.int .i64 n.start)) ⟨g, 2, none⟩ (.string n.lead)
  have g4 := grown_setCell (((W.setCell ⟨g, 0, none⟩ (.int .i64 n.kind)).setCell ⟨g, 1, none⟩ (.int .i64 n.start)).setCell ⟨g, 2, none⟩ (.string n.lead)) ⟨g, 3, none⟩ v
  exact ⟨h.set, World.grownBy.trans g1 (World.grownBy.trans g2 (World.grownBy.trans g3 g4))⟩
theorem StOwn.sharp {w : World} {B g cap : Nat} {P P' : Nat → Prop} {l : List MState} (h : StOwn w B P (.slice (some ⟨g, 0, none⟩) l.length cap) l) (hc : ∀ (j : Nat) (s : MState), l[j]? = some s → 0 < s.arcs.length → ∀ (x : Value) (b : Nat), w.cell? ⟨g, j * 2 + 1, none⟩ = some x → x.ownBlock = some b → P' b) :
    StOwn w B P' (.slice (some ⟨g, 0, none⟩) l.length cap) l := by
  obtain ⟨us, hl, ho, ha⟩ := h
  refine ⟨us, hl, ho, fun k s x hs hx => ⟨(ha k s x hs hx).1, fun h0 b hb => ?_⟩⟩
  have hk := (List.getElem?_eq_some_iff.1 hs).1
  have hz : (l.zip us)[k]? = some (s, x) := by rw [List.getElem?_zip_eq_some]; exact ⟨hs, hx⟩
  have h1 := flat_get stC 2 stC_len (l.zip us) k 1 _ hz (by omega)
  exact hc k s hs h0 x b ((ho.cellAt (k * 2 + 1) (by omega)).trans h1) hb
/-- The arcs of the first k states lie in new memory. -/
def Fresh (W : World) (B g : Nat) (l : List MState) (k : Nat) : Prop := ∀ (j : Nat) (s : MState), j < k → l[j]? = some s → 0 < s.arcs.length → ∀ (x : Value) (b : Nat), W.cell? ⟨g, j * 2 + 1, none⟩ = some x → x.ownBlock = some b → B ≤ b
theorem Fresh.next {W w5 : World} {B g k : Nat} {l : List MState} {s : MState} {y : Value} (h : Fresh W B g l k) (hg : W.grownBy w5 none) (hgw : g < W.heap.size) (hs : l[k]? = some s) (hy : 0 < s.arcs.length → ∀ b, y.ownBlock = some b → B ≤ b) (hc : (w5.setCell ⟨g, k * 2 + 1, none⟩ y).cell? ⟨g, k * 2 + 1, none⟩ = some y) :
    Fresh (w5.setCell ⟨g, k * 2 + 1, none⟩ y) B g l (k + 1) := by
  intro j t hj ht h0 x b hx hb
  by_cases e : j = k
  · subst e
    rw [hs] at ht
    cases ht
    rw [hc] at hx
    cases hx
    exact hy h0 b hb
  · refine h j t (by omega) ht h0 x b ?_ hb
    rw [World.cell?_setCell_other _ _ _ _ (by intro e2; simp only [Addr.mk.injEq] at e2; omega)] at hx
    exact (World.cell?_of_block (hg.block g hgw (by simp))).symm.trans hx
def sortS (s : MState) : MState := ⟨s.fin, sortA s.arcs⟩
set_option maxRecDepth 20000 in
set_option maxHeartbeats 8000000 in
theorem wsort_any {w : World} {v : Value} {m : Mach} (hv : MachV w v m) (hn : m.states.length ≤ 3000) (ha : ∀ s ∈ m.states, s.arcs.length ≤ 30000) : Calls Tryz.prog 34 #[v] w (MNPost (sortM m) w) := by
  obtain ⟨u, rfl, hst0⟩ := hv
  obtain ⟨A, cap, us, rfl, hS0⟩ := StAt.of hst0
  have g1 : w.grownBy (w.alloc (.cells #[.int .i64 m.kind, .int .i64 m.start, .string m.lead, .slice A m.states.length cap] 24)) none := World.grownBy_alloc _ _ _
  have b1 := BoxAt.new w m (.slice A m.states.length cap)
  have e1 : (w.alloc (.cells #[.int .i64 m.kind, .int .i64 m.start, .string m.lead, .slice A m.states.length cap] 24)).heap.size = w.heap.size + 1 := by simp
  have g2 := World.grownBy_alloc (w.alloc (.cells #[.int .i64 m.kind, .int .i64 m.start, .string m.lead, .slice A m.states.length cap] 24)) (.cells #[.int .i64 0, .int .i64 0, .string ByteArray.empty, .slice none 0 0] 24) none
  have b2 := BoxAt.new (w.alloc (.cells #[.int .i64 m.kind, .int .i64 m.start, .string m.lead, .slice A m.states.length cap] 24)) mach0 (.slice none 0 0)
  rw [e1] at b2
  have e2 : ((w.alloc (.cells #[.int .i64 m.kind, .int .i64 m.start, .string m.lead, .slice A m.states.length cap] 24)).alloc (.cells #[.int .i64 0, .int .i64 0, .string ByteArray.empty, .slice none 0 0] 24)).heap.size = w.heap.size + 2 := by simp
  have g3 := World.grownBy_alloc ((w.alloc (.cells #[.int .i64 m.kind, .int .i64 m.start, .string m.lead, .slice A m.states.length cap] 24)).alloc (.cells #[.int .i64 0, .int .i64 0, .string ByteArray.empty, .slice none 0 0] 24)) (.cells #[.int .i64 m.kind, .int .i64 m.start, .string m.lead, .slice A m.states.length cap] 24) none
  have b3 := BoxAt.new ((w.alloc (.cells #[.int .i64 m.kind, .int .i64 m.start, .string m.lead, .slice A m.states.length cap] 24)).alloc (.cells #[.int .i64 0, .int .i64 0, .string ByteArray.empty, .slice none 0 0] 24)) m (.slice A m.states.length cap)
  rw [e2] at b3
  have e3 : (((w.alloc (.cells #[.int .i64 m.kind, .int .i64 m.start, .string m.lead, .slice A m.states.length cap] 24)).alloc (.cells #[.int .i64 0, .int .i64 0, .string ByteArray.empty, .slice none 0 0] 24)).alloc (.cells #[.int .i64 m.kind, .int .i64 m.start, .string m.lead, .slice A m.states.length cap] 24)).heap.size = w.heap.size + 3 := by simp
  have hb1 := (b1.grown g2).grown g3
  have hb2 := b2.grown g3
  have hg := grown_trans g1 (grown_trans g2 g3)
  have HG := Lib.hid hg; have HB2 := Lib.hid hb2; have HB3 := Lib.hid b3; have HS := Lib.hid hS0; have HA := Lib.hid ha
  have hcp := copiedS_any (cap := cap) ((hS0.grown hg).row) (stC_one hS0.one) (by omega : m.states.length ≤ 1000000)
  have HCP := Lib.hid hcp
  obtain ⟨x0, x1, x2, x3⟩ := hb1.cells
  clear hst0 hS0 g1 g2 g3 b1 b2 b3 e1 e2 hb1 hb2 hg hcp ha
  go_enter Tryz.func34, Tryz.ntmps34
  go_wp2_with fail
  refine HCP.out.mono ?_
  rintro e w1 ⟨g, rfl, hown, hg1⟩
  generalize hW : ((w.alloc (.cells #[.int .i64 m.kind, .int .i64 m.start, .string m.lead, .slice A m.states.length cap] 24)).alloc (.cells #[.int .i64 0, .int .i64 0, .string ByteArray.empty, .slice none 0 0] 24)).alloc (.cells #[.int .i64 m.kind, .int .i64 m.start, .string m.lead, .slice A m.states.length cap] 24) = W0 at *
  clear hW x0 x1 x2 x3
  have hb3 := HB3.out.grown hg1
  obtain ⟨y0, y1, y2, y3⟩ := hb3.cells
  have y4 := hb3.free 3
  have gs := grown_setCell w1 ⟨w.heap.size + 2, 3, none⟩ (.slice (some ⟨g, 0, none⟩) m.states.length m.states.length)
  have hlt := hown.lt g rfl
  have HG1 := Lib.hid (grown_step (g := w.heap.size + 2) (grown_trans HG.out hg1) gs (by omega))
  have HB3b := Lib.hid (hb3.set3 (v := .slice (some ⟨g, 0, none⟩) m.states.length m.states.length))
  have HB2b := Lib.hid ((gs.block (w.heap.size + 1) (by have := (HB2.out.grown hg1).lt; omega) (by simp)).trans (HB2.out.grown hg1))
  have hso := StOwn.copy HS.out (below_of HG1.out) (ownsRow_setCell_below hown (a := ⟨w.heap.size + 2, 3, none⟩) (by show w.heap.size + 2 < W0.heap.size; omega) (.slice (some ⟨g, 0, none⟩) m.states.length m.states.length)) (by omega) (P := fun b => b < w.heap.size ∨ W0.heap.size ≤ b) (fun b hb => .inl hb)
  have HSO := Lib.hid hso
  have HLT := Lib.hid hlt
  have hgl : w.heap.size + 3 ≤ g := by omega
  clear hown hg1 hb3 gs hlt hso HCP
  go_wp2
  generalize hW2 : w1.setCell ⟨w.heap.size + 2, 3, none⟩ (.slice (some ⟨g, 0, none⟩) m.states.length m.states.length) = W2 at *
  clear hW2 y0 y1 y2 y3 y4
  go_loopw [14] (fun i wr => ∃ k : Nat, i = .int .i64 k ∧ k ≤ m.states.length ∧ StOwn wr W0.heap.size (fun b => b < w.heap.size ∨ W0.heap.size ≤ b) (.slice (some ⟨g, 0, none⟩) m.states.length m.states.length) (partM sortS m.states k) ∧ BoxAt wr (w.heap.size + 1) mach0 (.slice none 0 0) ∧ BoxAt wr (w.heap.size + 2) m (.slice (some ⟨g, 0, none⟩) m.states.length m.states.length) ∧ w.grownBy wr none ∧ Fresh wr W0.heap.size g m.states k) (fun i _ => m.states.length - (intOf i).toNat)
  case atStart => exact ⟨0, rfl, by omega, by rw [part_zero]; exact HSO.out, HB2b.out, HB3b.out, HG1.out, fun j s hj => by omega⟩
  case round =>
    obtain ⟨k, rfl, hk, hso, hb2, hb3, hgr, hfr0⟩ := hrel
    have HFRE := Lib.hid hfr0
    clear hfr0
    have HSO2 := Lib.hid hso; have HB2c := Lib.hid hb2; have HB3c := Lib.hid hb3; have HGR := Lib.hid hgr
    obtain ⟨y0, y1, y2, y3⟩ := hb3.cells
    clear hb2 hb3 hgr
    by_cases hlt : k < m.states.length
    · obtain ⟨s, hs⟩ : ∃ s, m.states[k]? = some s := ⟨_, List.getElem?_eq_getElem hlt⟩
      have hsp := part_get sortS hs
      rw [show m.states.length = (partM sortS m.states k).length from (part_len _ _ _).symm] at hso
      obtain ⟨x, z0, z1, hoff, hfree⟩ := hso.at_ hsp
      obtain ⟨B, cb, hx, hra⟩ := hoff.1
      subst hx
      have hal := HA.out s (List.mem_of_getElem? hs)
      have n1 : (k : Int) < (m.states.length : Int) := by omega
      have n2 : IntKind.i64.wrap ((k : Int) + 1) = (k : Int) + 1 := by rw [IntKind.wrap_i64]; omega
      have n3 : (0 : Int) ≤ (k : Int) := by omega
      have hga := World.grownBy_alloc wr (.cells #[.string s.fin, .slice B s.arcs.length cb] 29) none
      have HGA := Lib.hid hga
      have HSS := Lib.hid hs; have HSP := Lib.hid hsp
      have HC := Lib.hid (sorted_any (cap := cb) (reads_grown hra (grown_trans hga (grown_drew _ _))) (by omega : s.arcs.length ≤ 1000000))
      have HZ1 := Lib.hid z1; have HFR := Lib.hid (hfree (k * 2 + 1))
      have hgw : g < wr.heap.size := by
        obtain ⟨_, _, ho, _⟩ := hso
        exact (ho.lt g rfl).2
      have t0 := (st_new wr s.fin (.slice B s.arcs.length cb)).c1
      simp only [Nat.zero_add] at t0
      have HB3d := Lib.hid (HB3c.out.grown hga)
      have c3 := HB3d.out.cells.c3
      clear hso hs hsp hoff hra hga hfree
      go_wp2_with fail
      clear z0 z1 y0 y1 y2 y3
      have d1 : g ≠ w.heap.size + 2 := by omega
      have d2 : g ≠ wr.heap.size := by omega
      have q1 := World.new_ne (wr.alloc (.cells #[.string s.fin, .slice B s.arcs.length cb] 29)) _ t0
      go_region_held3 (fun W' => W'.cell? ⟨w.heap.size + 2, 3, none⟩ = some (.slice (some ⟨g, 0, none⟩) m.states.length m.states.length) ∧ W'.cell? ⟨wr.heap.size, 1, none⟩ = some (.slice B s.arcs.length cb)) (go_keep)
        (first
          | (go_at_call 57; refine HC.out.mono ?_; rintro e w5 ⟨v5, rfl, hA5, hO5, hg5⟩; have s1 := hg5.cell (show (wr.alloc (.cells #[.string s.fin, .slice B s.arcs.length cb] 29)).drew.cell? _ = _ from c3) (by simp); have s2 := hg5.cell (show (wr.alloc (.cells #[.string s.fin, .slice B s.arcs.length cb] 29)).drew.cell? _ = _ from t0) (by simp); have hgg := grown_trans (grown_trans (World.grownBy_alloc wr (.cells #[.string s.fin, .slice B s.arcs.length cb] 29) none) (grown_drew _ none)) hg5; have s3 := hgg.cell HZ1.out (by simp); have s4 := (World.frozen?_of_block (hgg.block g hgw (by simp))).trans HFR.out; obtain ⟨B5, c5, hv5, _⟩ := id hA5; subst hv5))
      have hso3 := HSO2.out.grown hgg
      have hoff5 : ArcsOff w5 (some g) (.slice B5 (sortA s.arcs).length c5) (sortA s.arcs) := ⟨hA5, fun hl e => by
        obtain ⟨b, hb1, hb2⟩ := hO5 hl
        rw [hb1] at e
        have e2 : b = g := by simpa using e
        have : wr.heap.size ≤ b := Nat.le_trans (by show wr.heap.size ≤ (wr.alloc (.cells #[.string s.fin, .slice B s.arcs.length cb] 29)).heap.size; simp) hb2
        omega⟩
      rw [show m.states.length = (partM sortS m.states k).length from (part_len _ _ _).symm] at hso3
      have hso4 := hso3.set_arcs HSP.out hoff5 (fun hl b hb => .inr (by obtain ⟨b', hb1, hb2⟩ := hO5 hl; rw [hb1] at hb; cases hb; have := HGR.out.size; have h3 : wr.heap.size ≤ (wr.alloc (.cells #[.string s.fin, .slice B s.arcs.length cb] 29)).drew.heap.size := (grown_trans (World.grownBy_alloc wr (.cells #[.string s.fin, .slice B s.arcs.length cb] 29) none) (grown_drew _ none)).size; omega))
      rw [show (partM sortS m.states k).set k ⟨s.fin, sortA s.arcs⟩ = partM sortS m.states (k + 1) from part_set sortS HSS.out] at hso4
      simp only [part_len] at hso4
      have HSO4 := Lib.hid hso4
      have HFR4 := Lib.hid (HFRE.out.next (y := .slice B5 (sortA s.arcs).length c5) hgg hgw HSS.out (fun h0 b hb => by obtain ⟨b', hb1, hb2⟩ := hO5 (by rw [sortA_len]; exact h0); rw [hb1] at hb; cases hb; have := HGR.out.size; have h3 : wr.heap.size ≤ (wr.alloc (.cells #[.string s.fin, .slice B s.arcs.length cb] 29)).drew.heap.size := (grown_trans (World.grownBy_alloc wr (.cells #[.string s.fin, .slice B s.arcs.length cb] 29) none) (grown_drew _ none)).size; omega) (World.cell?_setCell_same _ _ _ s3))
      have gst := grown_setCell w5 ⟨g, k * 2 + 1, none⟩ (.slice B5 (sortA s.arcs).length c5)
      have hb3e := (HB3c.out.grown hgg)
      have hb2e := (HB2c.out.grown hgg)
      have HB3f := Lib.hid ((gst.block (w.heap.size + 2) hb3e.lt (by simp; omega)).trans hb3e)
      have HB2f := Lib.hid ((gst.block (w.heap.size + 1) hb2e.lt (by simp; omega)).trans hb2e)
      have HGF := Lib.hid (grown_step (g := g) (grown_trans HGR.out hgg) gst (by omega))
      clear s1 s2 s3 s4 hA5 hO5 hg5 hgg hso3 hoff5 hso4 gst hb3e hb2e c3 t0 q1
      go_wp2
      go_roundw
      case rel => exact ⟨k + 1, by go_num, by omega, HSO4.out, HB2f.out, HB3f.out, HGF.out, HFR4.out⟩
      case measure => simp [intOf]; omega
    · have n1 : ¬ (k : Int) < (m.states.length : Int) := by omega
      rw [part_end sortS (by omega)] at HSO2
      obtain ⟨r0, r1, r2, r3⟩ := HB2c.out.cells
      have f0 := HB2c.out.free 0; have f1 := HB2c.out.free 1; have f2 := HB2c.out.free 2; have f3 := HB2c.out.free 3
      simp only [mach0] at r0 r1 r2
      obtain ⟨hbf, hgf⟩ := box_fill (n := m) (v := .slice (some ⟨g, 0, none⟩) m.states.length m.states.length) HB2c.out
      have HGF := Lib.hid (grown_step (g := w.heap.size + 1) HGR.out hgf (by omega))
      have hgw : g < wr.heap.size := by
        obtain ⟨_, _, ho, _⟩ := HSO2.out
        exact (ho.lt g rfl).2
      have hso5 : StOwn wr W0.heap.size (fun b => W0.heap.size ≤ b) (.slice (some ⟨g, 0, none⟩) m.states.length m.states.length) (m.states.map sortS) := by
        have h := HSO2.out
        rw [show m.states.length = (m.states.map sortS).length by simp] at h ⊢
        refine h.sharp (fun j s hs h0 x b hx hb => ?_)
        rw [List.getElem?_map] at hs
        cases hs2 : m.states[j]? with
        | none => rw [hs2] at hs; cases hs
        | some s2 =>
          rw [hs2] at hs
          cases hs
          exact HFRE.out j s2 (by have := (List.getElem?_eq_some_iff.1 hs2).1; omega) hs2 (by simpa [sortS, sortA_len] using h0) x b hx hb
      have hso6 := hso5.other hgf (by show some g ≠ some _; intro e; cases e; omega) (by intro h; omega)
      have HSL := Lib.hid ((hso6.mono (B' := w.heap.size) (P' := fun b => w.heap.size ≤ b) (by omega) (fun b hb => by omega)).stN (Nat.le_refl _))
      obtain ⟨c0, c1, c2, c3⟩ := hbf.cells
      clear hbf hgf hso5 hso6
      go_wp2_with fail
      generalize (((wr.setCell ⟨w.heap.size + 1, 0, none⟩ (.int .i64 m.kind)).setCell ⟨w.heap.size + 1, 1, none⟩ (.int .i64 m.start)).setCell ⟨w.heap.size + 1, 2, none⟩ (.string m.lead)).setCell ⟨w.heap.size + 1, 3, none⟩ (.slice (some ⟨g, 0, none⟩) m.states.length m.states.length) = WW at *
      exact bodyPost_ret (v := .agg #[.int .i64 m.kind, .int .i64 m.start, .string m.lead, .slice (some ⟨g, 0, none⟩) m.states.length m.states.length]) (by simp [results, Tryz.results34, go_sem, c0, c1, c2, c3]) rfl ⟨_, rfl, ⟨_, rfl, HSL.out⟩, HGF.out⟩
end Go.Proofs.YtbmonhnojkiapaaGreatDoor
set_option linter.unusedVariables false
set_option linter.unusedSimpArgs false
namespace Go.Proofs.YtbmonhnojkiapaaGreatDoor
open Go.RowKit

end Go.Proofs.YtbmonhnojkiapaaGreatDoor
