/- Searches, plain. · The machine of some states, plain. · The order of arcs, plain. · Trimming, plain. · The normal order, plain. · The normal order again, plain. · Renumbering, plain. -/
import Derived.Test.YtbmonhnojkiapaaGreatDoorV19
set_option linter.unusedVariables false
set_option linter.unusedSimpArgs false
namespace Go.Proofs.YtbmonhnojkiapaaGreatDoor
/-- A list of places: what is new is put behind. -/
def pushN (o : List Nat) (y : Nat) : List Nat := if y ∈ o then o else o ++ [y]
/-- A search: the places are taken one after the other, what they reach is put behind. -/
def srch (succ : Nat → List Nat) : Nat → Nat → List Nat → List Nat
  | 0, _, o => o
  | f + 1, i, o => match o[i]? with
    | none => o
    | some x => srch succ f (i + 1) ((succ x).foldl pushN o)
theorem pushN_mem {o : List Nat} {y x : Nat} : x ∈ pushN o y ↔ (x ∈ o ∨ x = y) := by
  unfold pushN
  split
  · exact ⟨.inl, fun h => by rcases h with h | rfl <;> assumption⟩
  · simp
theorem pushN_nodup {o : List Nat} {y : Nat} (h : o.Nodup) : (pushN o y).Nodup := by
  unfold pushN
  split
  · exact h
  · rw [List.nodup_append]
    exact ⟨h, by simp, fun a ha b hb e => by simp at hb; subst hb; subst e; contradiction⟩
theorem pushN_prefix (o : List Nat) (y : Nat) : o <+: pushN o y := by
  unfold pushN
  split
  · exact List.prefix_refl _
  · exact List.prefix_append _ _
theorem folds_mem {l o : List Nat} {x : Nat} : x ∈ l.foldl pushN o ↔ (x ∈ o ∨ x ∈ l) := by
  induction l generalizing o with
  | nil => simp
  | cons y l ih => rw [List.foldl_cons, ih, pushN_mem, List.mem_cons, or_assoc]
theorem folds_nodup {l o : List Nat} (h : o.Nodup) : (l.foldl pushN o).Nodup := by
  induction l generalizing o with
  | nil => exact h
  | cons y l ih => exact ih (pushN_nodup h)
theorem folds_prefix (l o : List Nat) : o <+: l.foldl pushN o := by
  induction l generalizing o with
  | nil => exact List.prefix_refl _
  | cons y l ih => exact (pushN_prefix o y).trans (ih _)
theorem folds_snoc (l o : List Nat) (y : Nat) : (l ++ [y]).foldl pushN o = pushN (l.foldl pushN o) y := by
  rw [List.foldl_append]; rfl
theorem folds_below {n : Nat} {l o : List Nat} (ho : ∀ x ∈ o, x < n) (hl : ∀ x ∈ l, x < n) : ∀ x ∈ l.foldl pushN o, x < n := fun x hx => by
  rcases folds_mem.1 hx with h | h
  · exact ho x h
  · exact hl x h
theorem nodup_short {n : Nat} {o : List Nat} (h : o.Nodup) (hb : ∀ x ∈ o, x < n) : o.length ≤ n := by
  have := List.Nodup.length_le_of_subset (l₁ := o) (l₂ := List.range n) h (fun x hx => List.mem_range.2 (hb x hx))
  rwa [List.length_range] at this
theorem srch_stop {succ : Nat → List Nat} {f i : Nat} {o : List Nat} (h : o.length ≤ i) : srch succ f i o = o := by
  cases f with
  | zero => rfl
  | succ f => unfold srch; rw [List.getElem?_eq_none h]
theorem srch_next {succ : Nat → List Nat} {f i x : Nat} {o : List Nat} (h : o[i]? = some x) : srch succ (f + 1) i o = srch succ f (i + 1) ((succ x).foldl pushN o) := by
  rw [srch, h]
theorem srch_nodup {succ : Nat → List Nat} {f i : Nat} {o : List Nat} (h : o.Nodup) : (srch succ f i o).Nodup := by
  induction f generalizing i o with
  | zero => exact h
  | succ f ih =>
    unfold srch
    split
    · exact h
    · exact ih (folds_nodup h)
theorem srch_prefix (succ : Nat → List Nat) (f i : Nat) (o : List Nat) : o <+: srch succ f i o := by
  induction f generalizing i o with
  | zero => exact List.prefix_refl _
  | succ f ih =>
    unfold srch
    split
    · exact List.prefix_refl _
    · exact (folds_prefix _ _).trans (ih _ _)
theorem srch_below {succ : Nat → List Nat} {n : Nat} (hs : ∀ x, ∀ y ∈ succ x, y < n) {f i : Nat} {o : List Nat} (h : ∀ x ∈ o, x < n) : ∀ x ∈ srch succ f i o, x < n := by
  induction f generalizing i o with
  | zero => exact h
  | succ f ih =>
    unfold srch
    split
    · exact h
    · exact ih (folds_below h (hs _))
theorem srch_sound {succ : Nat → List Nat} {P : Nat → Prop} (hs : ∀ x y, P x → y ∈ succ x → P y) {f i : Nat} {o : List Nat} (h : ∀ x ∈ o, P x) : ∀ x ∈ srch succ f i o, P x := by
  induction f generalizing i o with
  | zero => exact h
  | succ f ih =>
    unfold srch
    split
    · exact h
    · rename_i z hz
      refine ih (fun x hx => ?_)
      rcases folds_mem.1 hx with hx | hx
      · exact h x hx
      · exact hs _ _ (h z (List.mem_of_getElem? hz)) hx
/-- From place i on, all that is reached lies in the list. -/
theorem srch_done {succ : Nat → List Nat} {n : Nat} (hs : ∀ x, ∀ y ∈ succ x, y < n) {f i : Nat} {o : List Nat} (hn : o.Nodup) (h : ∀ x ∈ o, x < n) (hf : n ≤ f + i) :
    ∀ j x, i ≤ j → (srch succ f i o)[j]? = some x → ∀ y ∈ succ x, y ∈ srch succ f i o := by
  induction f generalizing i o with
  | zero =>
    intro j x hj hx
    have h1 := nodup_short hn h
    have h2 := (List.getElem?_eq_some_iff.1 hx).1
    unfold srch at h2
    omega
  | succ f ih =>
    intro j x hj hx y hy
    cases ho : o[i]? with
    | none =>
      have h1 : srch succ (f + 1) i o = o := by unfold srch; rw [ho]
      rw [h1] at hx
      have h2 := (List.getElem?_eq_some_iff.1 hx).1
      have h3 := List.getElem?_eq_none_iff.1 ho
      omega
    | some z =>
      rw [srch_next ho] at hx ⊢
      by_cases e : j = i
      · subst e
        have hp := (folds_prefix (succ z) o).trans (srch_prefix succ f (j + 1) ((succ z).foldl pushN o))
        have hz : (srch succ f (j + 1) ((succ z).foldl pushN o))[j]? = some z := by
          obtain ⟨r, hr⟩ := hp
          rw [← hr, List.getElem?_append_left (List.getElem?_eq_some_iff.1 ho).1]; exact ho
        rw [hz] at hx
        cases hx
        exact (srch_prefix succ f (j + 1) _).subset (folds_mem.2 (.inr hy))
      · exact ih (folds_nodup hn) (folds_below h (hs _)) (by omega) j x (by omega) hx y hy
/-- The search finds just what is reached. -/
theorem srch_mem {succ : Nat → List Nat} {n : Nat} (hs : ∀ x, ∀ y ∈ succ x, y < n) {o : List Nat} (hn : o.Nodup) (h : ∀ x ∈ o, x < n) (x : Nat) : x ∈ srch succ n 0 o ↔ RFrom succ (fun y => y ∈ o) x := by
  refine ⟨fun hx => srch_sound (fun _ _ => .step) (fun _ => .start) x hx, fun hx => ?_⟩
  induction hx with
  | start hx => exact (srch_prefix succ n 0 o).subset hx
  | step _ hy ih =>
    obtain ⟨j, hj⟩ := List.mem_iff_getElem?.1 ih
    exact srch_done hs hn h (by omega) j _ (by omega) hj _ hy
end Go.Proofs.YtbmonhnojkiapaaGreatDoor
set_option linter.unusedVariables false
set_option linter.unusedSimpArgs false
namespace Go.Proofs.YtbmonhnojkiapaaGreatDoor
/-- From where an arc leads to a state, arc by arc. -/
def backM (m : Mach) (x : Nat) : List Nat := (List.range m.states.length).flatMap (fun i => (stepsM m i).filterMap (fun t => if t = x then some i else none))
def isFin (m : Mach) (x : Nat) : Prop := ∃ s, m.states[x]? = some s ∧ s.fin.size ≠ 0
/-- The state is on a path. -/
def Useful (m : Mach) (x : Nat) : Prop := RFrom (stepsM m) (fun y => y = m.start.toNat) x ∧ RFrom (backM m) (isFin m) x
open Classical in
noncomputable def usefulL (m : Mach) : List Nat := (List.range m.states.length).filter (fun x => decide (Useful m x))
/-- The arcs that lead to listed states, with their new numbers. -/
def keepA (l : List Nat) (a : MArc) : Option MArc := if a.t.toNat ∈ l then some { a with t := (l.idxOf a.t.toNat : Int) } else none
def stOf (m : Mach) (x : Nat) : MState := (m.states[x]?).getD ⟨ByteArray.empty, []⟩
def renumS (l : List Nat) (s : MState) : MState := ⟨s.fin, s.arcs.filterMap (keepA l)⟩
/-- The machine of some states, in their order. -/
def renumM (m : Mach) (l : List Nat) : Mach := ⟨m.kind, (l.idxOf m.start.toNat : Int), m.lead, l.map (fun x => renumS l (stOf m x))⟩

structure Wf (m : Mach) : Prop where
  start : 0 ≤ m.start ∧ m.start < (m.states.length : Int)
  arcs : ∀ s ∈ m.states, ∀ a ∈ s.arcs, 0 ≤ a.t ∧ a.t < (m.states.length : Int)
theorem stOf_at {m : Mach} {x : Nat} {s : MState} (h : m.states[x]? = some s) : stOf m x = s := by unfold stOf; rw [h]; rfl
theorem steps_below {m : Mach} (h : Wf m) (x : Nat) : ∀ y ∈ stepsM m x, y < m.states.length := by
  intro y hy
  unfold stepsM at hy
  split at hy
  · rename_i s hs
    obtain ⟨a, ha, rfl⟩ := List.mem_map.1 hy
    have := h.arcs s (List.mem_of_getElem? hs) a ha
    omega
  · simp at hy
theorem steps_lt {m : Mach} {x y : Nat} (hy : y ∈ stepsM m x) : x < m.states.length := by
  unfold stepsM at hy
  split at hy
  · rename_i s hs
    exact (List.getElem?_eq_some_iff.1 hs).1
  · simp at hy
theorem back_mem {m : Mach} {x y : Nat} : y ∈ backM m x ↔ x ∈ stepsM m y := by
  unfold backM
  rw [List.mem_flatMap]
  constructor
  · rintro ⟨i, _, hi⟩
    obtain ⟨t, ht, he⟩ := List.mem_filterMap.1 hi
    split at he
    · cases he; subst_vars; exact ht
    · cases he
  · intro h
    exact ⟨y, List.mem_range.2 (steps_lt h), List.mem_filterMap.2 ⟨x, h, by simp⟩⟩
theorem back_below {m : Mach} (x : Nat) : ∀ y ∈ backM m x, y < m.states.length := fun _ hy => steps_lt (back_mem.1 hy)
theorem fin_lt {m : Mach} {x : Nat} (h : isFin m x) : x < m.states.length := by
  obtain ⟨s, hs, _⟩ := h
  exact (List.getElem?_eq_some_iff.1 hs).1
theorem reach_lt {m : Mach} (h : Wf m) {x : Nat} (hx : RFrom (stepsM m) (fun y => y = m.start.toNat) x) : x < m.states.length := by
  cases hx with
  | start e => subst e; have := h.start; omega
  | step _ hy => exact steps_below h _ _ hy
open Classical in
theorem useful_mem {m : Mach} (h : Wf m) {x : Nat} : x ∈ usefulL m ↔ Useful m x := by
  unfold usefulL
  rw [List.mem_filter, List.mem_range, decide_eq_true_iff]
  exact ⟨fun h => h.2, fun hu => ⟨reach_lt h hu.1, hu⟩⟩
theorem useful_nodup (m : Mach) : (usefulL m).Nodup := List.Pairwise.filter _ List.nodup_range
theorem useful_sorted (m : Mach) : (usefulL m).Pairwise (· < ·) := List.Pairwise.filter _ List.pairwise_lt_range
/-- Two rising lists with the same members are one. -/
theorem rising_eq {l k : List Nat} (hl : l.Pairwise (· < ·)) (hk : k.Pairwise (· < ·)) (h : ∀ x, x ∈ l ↔ x ∈ k) : l = k := by
  induction l generalizing k with
  | nil =>
    cases k with
    | nil => rfl
    | cons y k => have := (h y).2 (by simp); simp at this
  | cons x l ih =>
    cases k with
    | nil => have := (h x).1 (by simp); simp at this
    | cons y k =>
      rw [List.pairwise_cons] at hl hk
      have e : x = y := by
        have h1 := (h x).1 (by simp)
        have h2 := (h y).2 (by simp)
        simp only [List.mem_cons] at h1 h2
        rcases h1 with h1 | h1
        · exact h1
        · rcases h2 with h2 | h2
          · exact h2.symm
          · have := hl.1 y h2; have := hk.1 x h1; omega
      subst e
      rw [ih hl.2 hk.2 (fun z => ?_)]
      have := h z
      simp only [List.mem_cons] at this
      constructor
      · intro hz
        have h1 := hl.1 z hz
        rcases this.1 (.inr hz) with e | e
        · omega
        · exact e
      · intro hz
        have h1 := hk.1 z hz
        rcases this.2 (.inr hz) with e | e
        · omega
        · exact e
theorem end_back {m : Mach} {x y : Nat} (hy : RFrom (backM m) (isFin m) y) (h : y ∈ stepsM m x) : RFrom (backM m) (isFin m) x := .step hy (back_mem.2 h)
theorem end_from {m : Mach} {x : Nat} (hx : RFrom (stepsM m) (fun y => y = m.start.toNat) x) (he : RFrom (backM m) (isFin m) x) : RFrom (backM m) (isFin m) m.start.toNat := by
  induction hx with
  | start e => subst e; exact he
  | step _ hy ih => exact ih (end_back he hy)
theorem useful_start {m : Mach} {x : Nat} (h : Useful m x) : Useful m m.start.toNat := ⟨.start rfl, end_from h.1 h.2⟩
theorem useful_nil {m : Mach} (h : Wf m) : usefulL m = [] ↔ ¬ Useful m m.start.toNat := by
  constructor
  · intro e hu
    have := (useful_mem h).2 hu
    rw [e] at this; simp at this
  · intro hn
    rw [List.eq_nil_iff_forall_not_mem]
    intro x hx
    exact hn (useful_start ((useful_mem h).1 hx))
theorem idx_get {l : List Nat} (hn : l.Nodup) {i x : Nat} (h : l[i]? = some x) : l.idxOf x = i := by
  obtain ⟨hi, rfl⟩ := List.getElem?_eq_some_iff.1 h
  exact List.Nodup.idxOf_getElem hn i hi
end Go.Proofs.YtbmonhnojkiapaaGreatDoor
set_option linter.unusedVariables false
set_option linter.unusedSimpArgs false
namespace Go.Proofs.YtbmonhnojkiapaaGreatDoor
def cmpZ (x y : Int) : Int := if x < y then -1 else if x > y then 1 else 0
def strZ (x y : ByteArray) : Int := if x.data.toList < y.data.toList then -1 else if y.data.toList < x.data.toList then 1 else 0
/-- The order of arcs: by input, output, weight, end. -/
def arcCmp (a b : MArc) : Int := if cmpZ a.i b.i ≠ 0 then cmpZ a.i b.i else if cmpZ a.o b.o ≠ 0 then cmpZ a.o b.o else if strZ a.w b.w ≠ 0 then strZ a.w b.w else cmpZ a.t b.t
def ltA (a b : MArc) : Bool := decide (arcCmp a b < 0)
theorem cmpZ_zero {x y : Int} : cmpZ x y = 0 ↔ x = y := by unfold cmpZ; split <;> (try split) <;> omega
theorem cmpZ_neg {x y : Int} : cmpZ x y < 0 ↔ x < y := by unfold cmpZ; split <;> (try split) <;> omega
theorem str_anti {x y : ByteArray} (h1 : ¬ x.data.toList < y.data.toList) (h2 : ¬ y.data.toList < x.data.toList) : x = y := by
  apply ByteArray.ext
  rw [← Array.toList_inj]
  exact List.le_antisymm (by simpa using h2) (by simpa using h1)
theorem strZ_zero {x y : ByteArray} : strZ x y = 0 ↔ x = y := by
  unfold strZ
  split
  · rename_i h
    refine ⟨fun e => by omega, fun e => ?_⟩
    subst e; exact absurd h (List.lt_irrefl _)
  · rename_i h
    split
    · rename_i h2
      refine ⟨fun e => by omega, fun e => ?_⟩
      subst e; exact absurd h2 (List.lt_irrefl _)
    · rename_i h2
      exact ⟨fun _ => str_anti h h2, fun _ => rfl⟩
theorem strZ_neg {x y : ByteArray} : strZ x y < 0 ↔ x.data.toList < y.data.toList := by
  unfold strZ
  split
  · rename_i h; simp [h]
  · rename_i h; split <;> simp [h]
theorem ltA_iff {a b : MArc} : ltA a b = true ↔ (a.i < b.i ∨ (a.i = b.i ∧ (a.o < b.o ∨ (a.o = b.o ∧ (a.w.data.toList < b.w.data.toList ∨ (a.w = b.w ∧ a.t < b.t)))))) := by
  unfold ltA arcCmp
  rw [decide_eq_true_iff]
  have i0 := cmpZ_zero (x := a.i) (y := b.i); have i1 := cmpZ_neg (x := a.i) (y := b.i)
  have o0 := cmpZ_zero (x := a.o) (y := b.o); have o1 := cmpZ_neg (x := a.o) (y := b.o)
  have w0 := strZ_zero (x := a.w) (y := b.w); have w1 := strZ_neg (x := a.w) (y := b.w)
  have t1 := cmpZ_neg (x := a.t) (y := b.t)
  by_cases hi : a.i = b.i
  · rw [if_neg (by simpa using i0.2 hi)]
    by_cases ho : a.o = b.o
    · rw [if_neg (by simpa using o0.2 ho)]
      by_cases hw : a.w = b.w
      · rw [if_neg (by simpa using w0.2 hw), t1]
        rw [hw]
        simp [hi, ho, List.lt_irrefl]
      · rw [if_pos (fun e => hw (w0.1 e)), w1]
        simp [hi, ho, hw]
    · rw [if_pos (fun e => ho (o0.1 e)), o1]
      simp [hi, ho]
  · rw [if_pos (fun e => hi (i0.1 e)), i1]
    simp [hi]
theorem ltA_irrefl (a : MArc) : ltA a a = false := by
  cases h : ltA a a
  · rfl
  · rw [ltA_iff] at h
    have := List.lt_irrefl a.w.data.toList
    simp [this] at h
theorem ltA_trans {a b c : MArc} (h1 : ltA a b = true) (h2 : ltA b c = true) : ltA a c = true := by
  rw [ltA_iff] at *
  rcases h1 with h1 | ⟨e1, h1⟩
  · rcases h2 with h2 | ⟨e2, h2⟩
    · left; omega
    · left; omega
  · rcases h2 with h2 | ⟨e2, h2⟩
    · left; omega
    · right; refine ⟨by omega, ?_⟩
      rcases h1 with h1 | ⟨e1, h1⟩
      · rcases h2 with h2 | ⟨e2, h2⟩
        · left; omega
        · left; omega
      · rcases h2 with h2 | ⟨e2, h2⟩
        · left; omega
        · right; refine ⟨by omega, ?_⟩
          rcases h1 with h1 | ⟨e1, h1⟩
          · rcases h2 with h2 | ⟨e2, h2⟩
            · left; exact List.lt_trans h1 h2
            · left; rw [← e2]; exact h1
          · rcases h2 with h2 | ⟨e2, h2⟩
            · left; rw [e1]; exact h2
            · right; exact ⟨e1.trans e2, by omega⟩
theorem ltA_total {a b : MArc} (h1 : ltA a b = false) (h2 : ltA b a = false) : a = b := by
  have h1 : ¬ ltA a b = true := by rw [h1]; simp
  have h2 : ¬ ltA b a = true := by rw [h2]; simp
  rw [ltA_iff] at h1 h2
  have hi : a.i = b.i := by
    have e1 : ¬ a.i < b.i := fun h => h1 (.inl h)
    have e2 : ¬ b.i < a.i := fun h => h2 (.inl h)
    omega
  have ho : a.o = b.o := by
    have e1 : ¬ a.o < b.o := fun h => h1 (.inr ⟨hi, .inl h⟩)
    have e2 : ¬ b.o < a.o := fun h => h2 (.inr ⟨hi.symm, .inl h⟩)
    omega
  have hw : a.w = b.w := by
    refine str_anti (fun h => h1 (.inr ⟨hi, .inr ⟨ho, .inl h⟩⟩)) (fun h => h2 (.inr ⟨hi.symm, .inr ⟨ho.symm, .inl h⟩⟩))
  have ht : a.t = b.t := by
    have e1 : ¬ a.t < b.t := fun h => h1 (.inr ⟨hi, .inr ⟨ho, .inr ⟨hw, h⟩⟩⟩)
    have e2 : ¬ b.t < a.t := fun h => h2 (.inr ⟨hi.symm, .inr ⟨ho.symm, .inr ⟨hw.symm, h⟩⟩⟩)
    omega
  cases a; cases b; simp_all
theorem ltA_asymm {a b : MArc} (h : ltA a b = true) : ltA b a = false := by
  cases h2 : ltA b a
  · rfl
  · have := ltA_trans h h2
    rw [ltA_irrefl] at this; cases this
/-- not greater -/
def leA (a b : MArc) : Bool := !ltA b a
theorem leA_trans (a b c : MArc) (h1 : leA a b = true) (h2 : leA b c = true) : leA a c = true := by
  unfold leA at *
  simp only [Bool.not_eq_true'] at *
  cases h : ltA c a
  · rfl
  · cases h3 : ltA a b
    · have := ltA_total h3 h1
      subst this; rw [h2] at h; cases h
    · have := ltA_trans h h3
      rw [h2] at this; cases this
theorem leA_total (a b : MArc) : (leA a b || leA b a) = true := by
  unfold leA
  cases h : ltA b a
  · rfl
  · rw [ltA_asymm h]; rfl
theorem leA_anti {a b : MArc} (h1 : leA a b = true) (h2 : leA b a = true) : a = b := by
  unfold leA at *
  simp only [Bool.not_eq_true'] at *
  exact ltA_total h2 h1
/-- The arcs in their order. -/
def sortA (l : List MArc) : List MArc := l.mergeSort leA
theorem sortA_perm (l : List MArc) : (sortA l).Perm l := List.mergeSort_perm _ _
theorem sortA_sorted (l : List MArc) : (sortA l).Pairwise (fun a b => leA a b = true) := List.pairwise_mergeSort leA_trans leA_total l
theorem sorted_one {l k : List MArc} (hl : l.Pairwise (fun a b => leA a b = true)) (hk : k.Pairwise (fun a b => leA a b = true)) (hp : l.Perm k) : l = k :=
  List.Perm.eq_of_pairwise (fun _ _ _ _ h1 h2 => leA_anti h1 h2) hl hk hp
theorem sortA_own {l : List MArc} (h : l.Pairwise (fun a b => leA a b = true)) : sortA l = l := sorted_one (sortA_sorted l) h (sortA_perm l)
theorem sortA_is {l k : List MArc} (hk : k.Pairwise (fun a b => leA a b = true)) (h : k.Perm l) : k = sortA l := sorted_one hk (sortA_sorted l) (h.trans (sortA_perm l).symm)
theorem sortA_len (l : List MArc) : (sortA l).length = l.length := List.length_mergeSort l
theorem sortA_mem {l : List MArc} {a : MArc} : a ∈ sortA l ↔ a ∈ l := List.mem_mergeSort
/-- The machine with the arcs of each state in order. -/
def sortM (m : Mach) : Mach := { m with states := m.states.map (fun s => ⟨s.fin, sortA s.arcs⟩) }
def noneOf (k : Int) (one : ByteArray) : Mach := ⟨k, 0, one, [⟨ByteArray.empty, []⟩]⟩
end Go.Proofs.YtbmonhnojkiapaaGreatDoor
set_option linter.unusedVariables false
set_option linter.unusedSimpArgs false
namespace Go.Proofs.YtbmonhnojkiapaaGreatDoor
/-! Trimming, plain. -/
theorem idx_lt_of {l : List Nat} {x : Nat} (h : x ∈ l) : l.idxOf x < l.length := List.idxOf_lt_length_of_mem h
theorem get_idx {l : List Nat} {x : Nat} (h : x ∈ l) : l[l.idxOf x]? = some x := by
  rw [List.getElem?_eq_getElem (idx_lt_of h), List.getElem_idxOf]
theorem idx_inj {l : List Nat} {x y : Nat} (hx : x ∈ l) (hy : y ∈ l) (h : l.idxOf x = l.idxOf y) : x = y := by
  have h1 := get_idx hx
  rw [h, get_idx hy] at h1
  exact (Option.some.inj h1).symm
theorem renum_len (m : Mach) (l : List Nat) : (renumM m l).states.length = l.length := by unfold renumM; simp
theorem renum_at {m : Mach} {l : List Nat} {i x : Nat} {s : MState} (hi : l[i]? = some x) (hs : m.states[x]? = some s) : (renumM m l).states[i]? = some (renumS l s) := by
  unfold renumM
  simp only [List.getElem?_map, hi, Option.map_some, stOf_at hs]
theorem renum_steps {m : Mach} {l : List Nat} {i x : Nat} (hi : l[i]? = some x) : stepsM (renumM m l) i = (stepsM m x).filterMap (fun y => if y ∈ l then some (l.idxOf y) else none) := by
  have e : (renumM m l).states[i]? = some (renumS l (stOf m x)) := by
    unfold renumM
    simp only [List.getElem?_map, hi, Option.map_some]
  rw [stepsM_at e]
  unfold renumS
  simp only []
  have key : ∀ al : List MArc, (al.filterMap (keepA l)).map (fun a => a.t.toNat) = (al.map (fun a => a.t.toNat)).filterMap (fun y => if y ∈ l then some (l.idxOf y) else none) := by
    intro al
    induction al with
    | nil => rfl
    | cons a al ih =>
      rw [List.filterMap_cons, List.map_cons, List.filterMap_cons]
      unfold keepA
      by_cases h : a.t.toNat ∈ l
      · simp only [h, if_true]
        rw [List.map_cons]
        simp only [Int.toNat_natCast]
        congr 1
      · simp only [h, if_false]
        exact ih
  rw [key]
  congr 1
  unfold stOf stepsM
  cases m.states[x]? with
  | none => rfl
  | some s => rfl
theorem renum_step {m : Mach} {l : List Nat} {x y : Nat} (hx : x ∈ l) (hy : y ∈ l) (h : y ∈ stepsM m x) : l.idxOf y ∈ stepsM (renumM m l) (l.idxOf x) := by
  rw [renum_steps (get_idx hx), List.mem_filterMap]
  exact ⟨y, h, by simp [hy]⟩
theorem renum_fin {m : Mach} {l : List Nat} {x : Nat} (hx : x ∈ l) (h : isFin m x) : isFin (renumM m l) (l.idxOf x) := by
  obtain ⟨s, hs, hf⟩ := h
  exact ⟨_, renum_at (get_idx hx) hs, hf⟩
theorem renum_from {m : Mach} {l : List Nat} (hl : ∀ x, Useful m x → x ∈ l) {x : Nat} (hx : RFrom (stepsM m) (fun y => y = m.start.toNat) x) (he : RFrom (backM m) (isFin m) x) :
    RFrom (stepsM (renumM m l)) (fun y => y = (renumM m l).start.toNat) (l.idxOf x) := by
  induction hx with
  | start e => subst e; exact .start (by unfold renumM; simp)
  | step h hy ih => exact .step (ih (end_back he hy)) (renum_step (hl _ ⟨h, end_back he hy⟩) (hl _ ⟨.step h hy, he⟩) hy)
theorem from_back {m : Mach} {x y : Nat} (hy : RFrom (stepsM m) (fun y => y = m.start.toNat) y) (h : x ∈ stepsM m y) : RFrom (stepsM m) (fun y => y = m.start.toNat) x := .step hy h
theorem renum_end {m : Mach} {l : List Nat} (hl : ∀ x, Useful m x → x ∈ l) {x : Nat} (he : RFrom (backM m) (isFin m) x) (hx : RFrom (stepsM m) (fun y => y = m.start.toNat) x) :
    RFrom (backM (renumM m l)) (isFin (renumM m l)) (l.idxOf x) := by
  induction he with
  | start h => exact .start (renum_fin (hl _ ⟨hx, .start h⟩) h)
  | step h hy ih =>
    have hx2 := from_back hx (back_mem.1 hy)
    exact .step (ih hx2) (back_mem.2 (renum_step (hl _ ⟨hx, .step h hy⟩) (hl _ ⟨hx2, h⟩) (back_mem.1 hy)))
/-- Each state is on a path. -/
def AllUse (m : Mach) : Prop := ∀ x, x < m.states.length → Useful m x
theorem renum_all {m : Mach} {l : List Nat} (hn : l.Nodup) (hl : ∀ x, x ∈ l ↔ Useful m x) : AllUse (renumM m l) := by
  intro i hi
  rw [renum_len] at hi
  have hg : l[i]? = some l[i] := List.getElem?_eq_getElem hi
  have hm : l[i] ∈ l := List.getElem_mem hi
  have e := idx_get hn hg
  have hu := (hl _).1 hm
  rw [← e]
  exact ⟨renum_from (fun x hx => (hl x).2 hx) hu.1 hu.2, renum_end (fun x hx => (hl x).2 hx) hu.2 hu.1⟩
theorem renum_wf {m : Mach} {l : List Nat} (hs : m.start.toNat ∈ l) : Wf (renumM m l) := by
  refine ⟨?_, fun s hm a ha => ?_⟩
  · rw [renum_len]
    have := idx_lt_of hs
    unfold renumM
    constructor
    · show (0 : Int) ≤ (l.idxOf m.start.toNat : Int); omega
    · show (l.idxOf m.start.toNat : Int) < _; omega
  · rw [renum_len]
    unfold renumM at hm
    simp only [List.mem_map] at hm
    obtain ⟨x, hx, rfl⟩ := hm
    unfold renumS at ha
    simp only [] at ha
    obtain ⟨b, hb, e⟩ := List.mem_filterMap.1 ha
    unfold keepA at e
    split at e
    · rename_i hb2
      cases e
      have := idx_lt_of hb2
      simp only []
      omega
    · cases e
/-- The machine trimmed; none is the machine with no path. -/
noncomputable def trimW (none : Mach) (m : Mach) : Mach := if usefulL m = [] then none else renumM m (usefulL m)
end Go.Proofs.YtbmonhnojkiapaaGreatDoor
set_option linter.unusedVariables false
set_option linter.unusedSimpArgs false
namespace Go.Proofs.YtbmonhnojkiapaaGreatDoor
/-! The normal order, plain. -/
/-- Sorting changes no path. -/
theorem sort_steps (m : Mach) (x y : Nat) : y ∈ stepsM (sortM m) x ↔ y ∈ stepsM m x := by
  unfold stepsM sortM
  simp only [List.getElem?_map]
  cases m.states[x]? with
  | none => simp
  | some s =>
    simp only [Option.map_some, List.mem_map, sortA_mem]
theorem RFrom.mono {succ succ' : Nat → List Nat} {S S' : Nat → Prop} (h1 : ∀ x y, y ∈ succ x → y ∈ succ' x) (h2 : ∀ x, S x → S' x) {x : Nat} (h : RFrom succ S x) : RFrom succ' S' x := by
  induction h with
  | start h => exact .start (h2 _ h)
  | step _ hy ih => exact .step ih (h1 _ _ hy)
theorem sort_fin (m : Mach) (x : Nat) : isFin (sortM m) x ↔ isFin m x := by
  unfold isFin sortM
  simp only [List.getElem?_map]
  cases m.states[x]? with
  | none => simp
  | some s => simp
theorem sort_len (m : Mach) : (sortM m).states.length = m.states.length := by unfold sortM; simp
theorem sort_back (m : Mach) (x y : Nat) : y ∈ backM (sortM m) x ↔ y ∈ backM m x := by rw [back_mem, back_mem, sort_steps]
theorem sort_useful (m : Mach) (x : Nat) : Useful (sortM m) x ↔ Useful m x := by
  constructor
  · rintro ⟨h1, h2⟩
    exact ⟨h1.mono (fun x y => (sort_steps m x y).1) (fun _ h => h), h2.mono (fun x y => (sort_back m x y).1) (fun x => (sort_fin m x).1)⟩
  · rintro ⟨h1, h2⟩
    exact ⟨h1.mono (fun x y => (sort_steps m x y).2) (fun _ h => h), h2.mono (fun x y => (sort_back m x y).2) (fun x => (sort_fin m x).2)⟩
theorem sort_all {m : Mach} (h : AllUse m) : AllUse (sortM m) := fun x hx => (sort_useful m x).2 (h x (by rwa [sort_len] at hx))
theorem sort_wf {m : Mach} (h : Wf m) : Wf (sortM m) := by
  refine ⟨by rw [sort_len]; exact h.start, fun s hs a ha => ?_⟩
  rw [sort_len]
  unfold sortM at hs
  simp only [List.mem_map] at hs
  obtain ⟨s', hs', rfl⟩ := hs
  exact h.arcs s' hs' a (sortA_mem.1 ha)
/-- The order in which a search meets the states. -/
def orderM (m : Mach) : List Nat := srch (stepsM m) m.states.length 0 [m.start.toNat]
/-- The normal order of a trimmed machine. -/
def canonT (t : Mach) : Mach := sortM (renumM (sortM t) (orderM (sortM t)))
noncomputable def canonW (none : Mach) (m : Mach) : Mach := canonT (trimW none m)
theorem one_below {m : Mach} (hw : Wf m) : ∀ x ∈ [m.start.toNat], x < m.states.length := by
  intro x hx
  simp at hx
  subst hx
  have := hw.start
  omega
theorem order_mem {m : Mach} (hw : Wf m) (x : Nat) : x ∈ orderM m ↔ RFrom (stepsM m) (fun y => y = m.start.toNat) x := by
  unfold orderM
  rw [srch_mem (steps_below hw) (by simp) (one_below hw)]
  simp
theorem order_nodup (m : Mach) : (orderM m).Nodup := srch_nodup (by simp)
theorem order_below {m : Mach} (hw : Wf m) : ∀ x ∈ orderM m, x < m.states.length := srch_below (steps_below hw) (one_below hw)
theorem order_use {m : Mach} (hw : Wf m) (h : AllUse m) (x : Nat) : x ∈ orderM m ↔ Useful m x := by
  rw [order_mem hw]
  exact ⟨fun hx => h x (reach_lt hw hx), fun hu => hu.1⟩
theorem order_start (m : Mach) : ∃ r, orderM m = m.start.toNat :: r := by
  obtain ⟨r, hr⟩ := srch_prefix (stepsM m) m.states.length 0 [m.start.toNat]
  exact ⟨r, hr.symm⟩
theorem order_mem_start (m : Mach) : m.start.toNat ∈ orderM m := by
  obtain ⟨r, hr⟩ := order_start m
  rw [hr]; simp
/-! The search through the machine in normal order meets the states as they stand. -/
theorem push_map {f : Nat → Nat} {o : List Nat} {y : Nat} (hf : ∀ x ∈ o, f x = f y → x = y) : pushN (o.map f) (f y) = (pushN o y).map f := by
  unfold pushN
  by_cases h : y ∈ o
  · rw [if_pos h, if_pos (List.mem_map_of_mem h)]
  · rw [if_neg h, if_neg, List.map_append]; rfl
    intro hm
    obtain ⟨x, hx, e⟩ := List.mem_map.1 hm
    exact h (hf x hx e ▸ hx)
theorem folds_map {f : Nat → Nat} {P : Nat → Prop} (hf : ∀ x y, P x → P y → f x = f y → x = y) {l o : List Nat} (hl : ∀ x ∈ l, P x) (ho : ∀ x ∈ o, P x) : (l.map f).foldl pushN (o.map f) = (l.foldl pushN o).map f := by
  induction l generalizing o with
  | nil => rfl
  | cons y l ih =>
    have hy := hl y (by simp)
    rw [List.map_cons, List.foldl_cons, List.foldl_cons, push_map (fun x hx => hf x y (ho x hx) hy)]
    exact ih (fun x hx => hl x (by simp [hx])) (fun x hx => by
      rcases pushN_mem.1 hx with h | h
      · exact ho x h
      · subst h; exact hy)
theorem srch_map {f : Nat → Nat} {P : Nat → Prop} {succ succ' : Nat → List Nat} (hf : ∀ x y, P x → P y → f x = f y → x = y) (hs : ∀ x, P x → ∀ y ∈ succ x, P y) (hm : ∀ x, P x → succ' (f x) = (succ x).map f) {k i : Nat} {o : List Nat} (ho : ∀ x ∈ o, P x) :
    srch succ' k i (o.map f) = (srch succ k i o).map f := by
  induction k generalizing i o with
  | zero => rfl
  | succ k ih =>
    cases h : o[i]? with
    | none =>
      rw [srch_stop (by rw [List.length_map]; exact List.getElem?_eq_none_iff.1 h), srch_stop (List.getElem?_eq_none_iff.1 h)]
    | some x =>
      have hx := ho x (List.mem_of_getElem? h)
      rw [srch_next (x := f x) (by rw [List.getElem?_map, h]; rfl), srch_next h, hm x hx, folds_map hf (hs x hx) ho]
      exact ih (fun y hy => by
        rcases folds_mem.1 hy with h | h
        · exact ho y h
        · exact hs x hx y h)
def keyLe (a b : MArc) : Prop := a.i < b.i ∨ (a.i = b.i ∧ (a.o < b.o ∨ (a.o = b.o ∧ (a.w.data.toList < b.w.data.toList ∨ a.w = b.w))))
theorem leA_key {a b : MArc} (h : leA a b = true) : keyLe a b := by
  unfold leA at h
  simp only [Bool.not_eq_true'] at h
  by_cases e : a = b
  · subst e; right; exact ⟨rfl, .inr ⟨rfl, .inr rfl⟩⟩
  · have h2 : ltA a b = true := by
      cases h3 : ltA a b
      · exact absurd (ltA_total h3 h) e
      · rfl
    rw [ltA_iff] at h2
    unfold keyLe
    rcases h2 with h | ⟨e1, h | ⟨e2, h | ⟨e3, h⟩⟩⟩
    · exact .inl h
    · exact .inr ⟨e1, .inl h⟩
    · exact .inr ⟨e1, .inr ⟨e2, .inl h⟩⟩
    · exact .inr ⟨e1, .inr ⟨e2, .inr e3⟩⟩
end Go.Proofs.YtbmonhnojkiapaaGreatDoor
set_option linter.unusedVariables false
set_option linter.unusedSimpArgs false
namespace Go.Proofs.YtbmonhnojkiapaaGreatDoor
/-! The normal order of the normal order. -/
end Go.Proofs.YtbmonhnojkiapaaGreatDoor
set_option linter.unusedVariables false
set_option linter.unusedSimpArgs false
namespace Go.Proofs.YtbmonhnojkiapaaGreatDoor
/-! Renumbering, plain. -/
def movA (f : Nat → Nat) (a : MArc) : MArc := { a with t := (f a.t.toNat : Int) }
/-- Each state of m stands in m' at the place that f says, its arcs in whatever order. -/
structure Moved (f : Nat → Nat) (m m' : Mach) : Prop where
  kind : m'.kind = m.kind
  lead : m'.lead = m.lead
  len : m'.states.length = m.states.length
  start : m'.start = (f m.start.toNat : Int)
  lt : ∀ x, x < m.states.length → f x < m.states.length
  inj : ∀ x y, x < m.states.length → y < m.states.length → f x = f y → x = y
  st : ∀ (x : Nat) (s : MState), m.states[x]? = some s → ∃ s', m'.states[f x]? = some s' ∧ s'.fin = s.fin ∧ s'.arcs.Perm (s.arcs.map (movA f))
theorem nodup_map_on {f : Nat → Nat} {l : List Nat} (hf : ∀ x ∈ l, ∀ y ∈ l, f x = f y → x = y) (h : l.Nodup) : (l.map f).Nodup := by
  induction l with
  | nil => simp
  | cons x l ih =>
    rw [List.nodup_cons] at h
    rw [List.map_cons, List.nodup_cons]
    refine ⟨fun hm => ?_, ih (fun a ha b hb => hf a (by simp [ha]) b (by simp [hb])) h.2⟩
    obtain ⟨y, hy, e⟩ := List.mem_map.1 hm
    have := hf y (by simp [hy]) x (by simp) e
    subst this
    exact h.1 hy
theorem filterMap_on {α β : Type} {f g : α → Option β} {l : List α} (h : ∀ a ∈ l, f a = g a) : l.filterMap f = l.filterMap g := by
  induction l with
  | nil => rfl
  | cons a l ih =>
    rw [List.filterMap_cons, List.filterMap_cons, h a (by simp), ih (fun b hb => h b (by simp [hb]))]
theorem keepA_yes {l : List Nat} {a : MArc} (h : a.t.toNat ∈ l) : keepA l a = some { a with t := (l.idxOf a.t.toNat : Int) } := by
  unfold keepA; rw [if_pos h]
theorem keepA_no {l : List Nat} {a : MArc} (h : a.t.toNat ∉ l) : keepA l a = none := by
  unfold keepA; rw [if_neg h]
theorem onto {n : Nat} {f : Nat → Nat} (lt : ∀ x, x < n → f x < n) (inj : ∀ x y, x < n → y < n → f x = f y → x = y) {y : Nat} (hy : y < n) : ∃ x, x < n ∧ f x = y := by
  have hn : ((List.range n).map f).Nodup := nodup_map_on (fun x hx y hy => inj x y (List.mem_range.1 hx) (List.mem_range.1 hy)) List.nodup_range
  apply Classical.byContradiction
  intro hc
  have h1 : ((List.range n).map f ++ [y]).Nodup := by
    rw [List.nodup_append]
    refine ⟨hn, by simp, fun a ha b hb e => ?_⟩
    simp at hb
    subst hb
    obtain ⟨x, hx, e2⟩ := List.mem_map.1 ha
    exact hc ⟨x, List.mem_range.1 hx, e2.trans e⟩
  have h2 := nodup_short h1 (n := n) (fun x hx => by
    rcases List.mem_append.1 hx with h | h
    · obtain ⟨z, hz, rfl⟩ := List.mem_map.1 h
      exact lt z (List.mem_range.1 hz)
    · simp at h; subst h; exact hy)
  simp at h2
  omega
theorem Moved.steps {f : Nat → Nat} {m m' : Mach} (h : Moved f m m') {x : Nat} (hx : x < m.states.length) : (stepsM m' (f x)).Perm ((stepsM m x).map f) := by
  have hs : m.states[x]? = some m.states[x] := List.getElem?_eq_getElem hx
  obtain ⟨s', h1, _, h3⟩ := h.st x _ hs
  rw [stepsM_at h1, stepsM_at hs]
  refine (h3.map _).trans ?_
  rw [List.map_map, List.map_map]
  refine List.Perm.of_eq ?_
  apply List.map_congr_left
  intro a _
  simp [movA]
theorem Moved.step_mem {f : Nat → Nat} {m m' : Mach} (h : Moved f m m') (hw : Wf m) {x y : Nat} (hx : x < m.states.length) (hy : y < m.states.length) : f y ∈ stepsM m' (f x) ↔ y ∈ stepsM m x := by
  rw [(h.steps hx).mem_iff, List.mem_map]
  constructor
  · rintro ⟨z, hz, e⟩
    have := h.inj z y (steps_below hw x z hz) hy e
    subst this; exact hz
  · exact fun hy => ⟨y, hy, rfl⟩
theorem Moved.from {f : Nat → Nat} {m m' : Mach} (h : Moved f m m') (hw : Wf m) {x : Nat} (hx : RFrom (stepsM m) (fun y => y = m.start.toNat) x) : RFrom (stepsM m') (fun y => y = m'.start.toNat) (f x) := by
  induction hx with
  | start e => subst e; exact .start (by rw [h.start]; simp)
  | step h1 hy ih => exact .step ih ((h.step_mem hw (reach_lt hw h1) (steps_below hw _ _ hy)).2 hy)
theorem Moved.fin {f : Nat → Nat} {m m' : Mach} (h : Moved f m m') {x : Nat} (hx : isFin m x) : isFin m' (f x) := by
  obtain ⟨s, hs, hf⟩ := hx
  obtain ⟨s', h1, h2, _⟩ := h.st x s hs
  exact ⟨s', h1, by rw [h2]; exact hf⟩
theorem Moved.endT {f : Nat → Nat} {m m' : Mach} (h : Moved f m m') (hw : Wf m) {x : Nat} (hx : RFrom (backM m) (isFin m) x) : RFrom (backM m') (isFin m') (f x) := by
  induction hx with
  | start e => exact .start (h.fin e)
  | step h1 hy ih =>
    have hy := back_mem.1 hy
    exact .step ih (back_mem.2 ((h.step_mem hw (steps_lt hy) (steps_below hw _ _ hy)).2 hy))
theorem Moved.wf {f : Nat → Nat} {m m' : Mach} (h : Moved f m m') (hw : Wf m) : Wf m' := by
  refine ⟨?_, fun s hs a ha => ?_⟩
  · have h1 := h.lt m.start.toNat (by have := hw.start; omega)
    rw [h.start, h.len]
    omega
  · obtain ⟨y, hy⟩ := List.mem_iff_getElem?.1 hs
    have hyl : y < m.states.length := by have := (List.getElem?_eq_some_iff.1 hy).1; rw [h.len] at this; exact this
    obtain ⟨x, hx, rfl⟩ := onto h.lt h.inj hyl
    obtain ⟨s', h1, _, h3⟩ := h.st x _ (List.getElem?_eq_getElem hx)
    rw [hy] at h1
    cases h1
    obtain ⟨b, hb, rfl⟩ := List.mem_map.1 (h3.mem_iff.1 ha)
    have h4 := hw.arcs _ (List.getElem_mem hx) b hb
    have := h.lt b.t.toNat (by omega)
    rw [h.len]
    simp only [movA]
    omega
/-- The way back. -/
theorem Moved.back {f : Nat → Nat} {m m' : Mach} (h : Moved f m m') (hw : Wf m) : ∃ g : Nat → Nat, (∀ x, x < m.states.length → g (f x) = x) ∧ Moved g m' m := by
  have hex : ∀ y, ∃ x, y < m.states.length → x < m.states.length ∧ f x = y := fun y => by
    by_cases hy : y < m.states.length
    · obtain ⟨x, h1, h2⟩ := onto h.lt h.inj hy
      exact ⟨x, fun _ => ⟨h1, h2⟩⟩
    · exact ⟨0, fun h => absurd h hy⟩
  obtain ⟨g, hg⟩ := Classical.axiomOfChoice hex
  have hgf : ∀ x, x < m.states.length → g (f x) = x := fun x hx => h.inj _ _ (hg _ (h.lt x hx)).1 hx (hg _ (h.lt x hx)).2
  refine ⟨g, hgf, ⟨h.kind.symm, h.lead.symm, h.len.symm, ?_, fun y hy => ?_, fun x y hx hy e => ?_, fun y s hs => ?_⟩⟩
  · rw [h.start, Int.toNat_natCast, hgf _ (by have := hw.start; omega)]
    have := hw.start; omega
  · rw [h.len] at hy ⊢; exact (hg y hy).1
  · rw [h.len] at hx hy
    rw [← (hg x hx).2, ← (hg y hy).2, e]
  · have hyl : y < m.states.length := by have := (List.getElem?_eq_some_iff.1 hs).1; rw [h.len] at this; exact this
    obtain ⟨h1, h2⟩ := hg y hyl
    obtain ⟨s', h3, h4, h5⟩ := h.st (g y) _ (List.getElem?_eq_getElem h1)
    rw [h2, hs] at h3
    cases h3
    refine ⟨_, List.getElem?_eq_getElem h1, h4.symm, ?_⟩
    refine List.Perm.trans (List.Perm.of_eq ?_) (h5.symm.map (movA g))
    rw [List.map_map]
    have hall := hw.arcs _ (List.getElem_mem h1)
    revert hall
    generalize m.states[g y].arcs = al
    intro hall
    have e0 : al.map (movA g ∘ movA f) = al.map id := by
      apply List.map_congr_left
      intro a ha
      have := hall a ha
      simp only [Function.comp_apply, movA, Int.toNat_natCast, id]
      rw [hgf _ (by omega)]
      cases a
      simp only [MArc.mk.injEq, true_and] at *
      omega
    rw [e0, List.map_id]
theorem Moved.useful {f : Nat → Nat} {m m' : Mach} (h : Moved f m m') (hw : Wf m) {x : Nat} (hx : x < m.states.length) : Useful m' (f x) ↔ Useful m x := by
  constructor
  · rintro ⟨h1, h2⟩
    obtain ⟨g, hg, hb⟩ := h.back hw
    have h3 := hb.from (h.wf hw) h1
    have h4 := hb.endT (h.wf hw) h2
    rw [hg x hx] at h3 h4
    exact ⟨h3, h4⟩
  · rintro ⟨h1, h2⟩
    exact ⟨h.from hw h1, h.endT hw h2⟩
/-- No two arcs of a state have one input. -/
def Apart (m : Mach) : Prop := ∀ s ∈ m.states, ∀ a ∈ s.arcs, ∀ b ∈ s.arcs, a.i = b.i → a = b
theorem renum_apart {m : Mach} {l : List Nat} (h : Apart m) : Apart (renumM m l) := by
  intro s hs a ha b hb e
  unfold renumM at hs
  simp only [List.mem_map] at hs
  obtain ⟨x, hx, rfl⟩ := hs
  unfold renumS at ha hb
  simp only [] at ha hb
  obtain ⟨a', ha', e1⟩ := List.mem_filterMap.1 ha
  obtain ⟨b', hb', e2⟩ := List.mem_filterMap.1 hb
  have hst : ∀ c ∈ (stOf m x).arcs, ∀ d ∈ (stOf m x).arcs, c.i = d.i → c = d := by
    intro c hc d hd
    unfold stOf at hc hd
    cases hx2 : m.states[x]? with
    | none => rw [hx2] at hc; simp at hc
    | some s => rw [hx2] at hc hd; exact h s (List.mem_of_getElem? hx2) c hc d hd
  have hi : a'.i = b'.i := by
    unfold keepA at e1 e2
    split at e1
    · split at e2
      · cases e1; cases e2; exact e
      · cases e2
    · cases e1
  have := hst a' ha' b' hb' hi
  subst this
  rw [e1] at e2
  exact Option.some.inj e2
theorem mem_list {m m' : Mach} {f : Nat → Nat} (h : Moved f m m') (hw : Wf m) {x : Nat} (hx : x < m.states.length) : f x ∈ usefulL m' ↔ x ∈ usefulL m := by
  rw [useful_mem (h.wf hw), useful_mem hw, h.useful hw hx]
theorem stOf_moved {f : Nat → Nat} {m m' : Mach} (h : Moved f m m') {x : Nat} (hx : x < m.states.length) : (stOf m' (f x)).fin = (stOf m x).fin ∧ (stOf m' (f x)).arcs.Perm ((stOf m x).arcs.map (movA f)) := by
  have hs : m.states[x]? = some m.states[x] := List.getElem?_eq_getElem hx
  obtain ⟨s', h1, h2, h3⟩ := h.st x _ hs
  rw [stOf_at h1, stOf_at hs]
  exact ⟨h2, h3⟩
/-- What is left of moved machines is moved. -/
theorem Moved.trim {f : Nat → Nat} {m m' : Mach} (h : Moved f m m') (hw : Wf m) {l l' : List Nat} (hl : l.Nodup) (hb : ∀ x ∈ l, x < m.states.length) (hm : ∀ x, x < m.states.length → (f x ∈ l' ↔ x ∈ l)) (hlen : l'.length = l.length) (hs : m.start.toNat ∈ l) :
    Moved (fun i => l'.idxOf (f ((l[i]?).getD 0))) (renumM m l) (renumM m' l') := by
  have hfl : ∀ x ∈ l, f x ∈ l' := fun x hx => (hm x (hb x hx)).2 hx
  have hat : ∀ i, i < l.length → ∃ x, l[i]? = some x ∧ x ∈ l := fun i hi => ⟨_, List.getElem?_eq_getElem hi, List.getElem_mem hi⟩
  refine ⟨h.kind, h.lead, by rw [renum_len, renum_len, hlen], ?_, fun i hi => ?_, fun i j hi hj e => ?_, fun i s hi => ?_⟩
  · unfold renumM
    simp only [Int.toNat_natCast, get_idx hs, Option.getD_some, h.start]
  · rw [renum_len] at hi ⊢
    obtain ⟨x, hx, hxl⟩ := hat i hi
    simp only [hx, Option.getD_some]
    rw [← hlen]
    exact idx_lt_of (hfl x hxl)
  · rw [renum_len] at hi hj
    obtain ⟨x, hx, hxl⟩ := hat i hi
    obtain ⟨y, hy, hyl⟩ := hat j hj
    simp only [hx, hy, Option.getD_some] at e
    have e2 := h.inj x y (hb x hxl) (hb y hyl) (idx_inj (hfl x hxl) (hfl y hyl) e)
    subst e2
    rw [← idx_get hl hx, ← idx_get hl hy]
  · have hil : i < l.length := by have := (List.getElem?_eq_some_iff.1 hi).1; rwa [renum_len] at this
    obtain ⟨x, hx, hxl⟩ := hat i hil
    have e0 : (renumM m l).states[i]? = some (renumS l (stOf m x)) := by
      unfold renumM; simp only [List.getElem?_map, hx, Option.map_some]
    rw [e0] at hi
    cases hi
    obtain ⟨h1, h2⟩ := stOf_moved h (hb x hxl)
    refine ⟨renumS l' (stOf m' (f x)), ?_, h1, ?_⟩
    · unfold renumM
      simp only [List.getElem?_map, hx, Option.getD_some, get_idx (hfl x hxl), Option.map_some]
    · unfold renumS
      simp only []
      refine (h2.filterMap _).trans (List.Perm.of_eq ?_)
      rw [List.filterMap_map, List.map_filterMap]
      apply filterMap_on
      intro a ha
      have hab : a.t.toNat < m.states.length := by
        unfold stOf at ha
        have hs2 : m.states[x]? = some (m.states[x]'(hb x hxl)) := List.getElem?_eq_getElem (hb x hxl)
        rw [hs2] at ha
        have := hw.arcs _ (List.getElem_mem (hb x hxl)) a ha
        omega
      have ht : (movA f a).t.toNat = f a.t.toNat := by simp [movA]
      show keepA l' (movA f a) = Option.map _ (keepA l a)
      by_cases hal : a.t.toNat ∈ l
      · rw [keepA_yes (l := l) hal, keepA_yes (l := l') (by rw [ht]; exact hfl _ hal), ht]
        simp only [Option.map_some, movA, Int.toNat_natCast, get_idx hal, Option.getD_some]
      · rw [keepA_no (l := l) hal, keepA_no (l := l') (by rw [ht]; exact fun e => hal ((hm _ hab).1 e))]
        rfl
theorem useful_moved_len {f : Nat → Nat} {m m' : Mach} (h : Moved f m m') (hw : Wf m) : (usefulL m').length = (usefulL m).length := by
  have half : ∀ {f : Nat → Nat} {m m' : Mach}, Moved f m m' → Wf m → (usefulL m).length ≤ (usefulL m').length := by
    intro f m m' h hw
    have hn : ((usefulL m).map f).Nodup := nodup_map_on (fun x hx y hy => h.inj x y (reach_lt hw ((useful_mem hw).1 hx).1) (reach_lt hw ((useful_mem hw).1 hy).1)) (useful_nodup m)
    have := List.Nodup.length_le_of_subset hn (l₂ := usefulL m') (fun y hy => by
      obtain ⟨x, hx, rfl⟩ := List.mem_map.1 hy
      exact (mem_list h hw (reach_lt hw ((useful_mem hw).1 hx).1)).2 hx)
    simpa using this
  obtain ⟨g, _, hb⟩ := h.back hw
  have h1 := half h hw
  have h2 := half hb (h.wf hw)
  omega
theorem sort_movA {f : Nat → Nat} {al bs : List MArc} (hA : ∀ a ∈ al, ∀ b ∈ al, a.i = b.i → a = b) (hp : bs.Perm (al.map (movA f))) : sortA bs = (sortA al).map (movA f) := by
  refine (sortA_is ?_ (((sortA_perm al).map _).trans hp.symm)).symm
  rw [List.pairwise_map]
  refine (sortA_sorted al).imp_of_mem ?_
  intro a b ha hb hab
  have hk := leA_key hab
  unfold leA
  simp only [Bool.not_eq_true']
  cases h : ltA (movA f b) (movA f a)
  · rfl
  · exfalso
    rw [ltA_iff] at h
    simp only [movA] at h
    by_cases e : a.i = b.i
    · have := hA a (sortA_mem.1 ha) b (sortA_mem.1 hb) e
      subst this
      have := List.lt_irrefl a.w.data.toList
      simp [this] at h
    · rcases hk with h1 | ⟨h1, _⟩
      · rcases h with h | ⟨h, _⟩ <;> omega
      · exact e h1
/-- The normal order does not tell moved machines apart. -/
theorem Moved.canon {f : Nat → Nat} {t t' : Mach} (h : Moved f t t') (hw : Wf t) (ha : AllUse t) (hd : Apart t) : canonT t' = canonT t := by
  have hws := sort_wf hw
  have hus := sort_all ha
  have hst : ∀ x, x < t.states.length → stOf (sortM t') (f x) = ⟨(stOf (sortM t) x).fin, (stOf (sortM t) x).arcs.map (movA f)⟩ := by
    intro x hx
    have hs : t.states[x]? = some t.states[x] := List.getElem?_eq_getElem hx
    obtain ⟨s', h1, h2, h3⟩ := h.st x _ hs
    rw [stOf_at (m := sortM t') (s := ⟨s'.fin, sortA s'.arcs⟩) (by unfold sortM; simp only [List.getElem?_map, h1]; rfl), stOf_at (m := sortM t) (s := ⟨t.states[x].fin, sortA t.states[x].arcs⟩) (by unfold sortM; simp only [List.getElem?_map, hs]; rfl)]
    rw [h2, sort_movA (hd _ (List.getElem_mem hx)) h3]
  have hsteps : ∀ x, x < t.states.length → stepsM (sortM t') (f x) = (stepsM (sortM t) x).map f := by
    intro x hx
    have e1 : ∀ m : Mach, ∀ x, stepsM m x = (stOf m x).arcs.map (fun a => a.t.toNat) := by
      intro m x
      unfold stepsM stOf
      cases m.states[x]? with
      | none => rfl
      | some s => rfl
    rw [e1, e1, hst x hx, List.map_map, List.map_map]
    apply List.map_congr_left
    intro a _
    simp [movA]
  have ho : orderM (sortM t') = (orderM (sortM t)).map f := by
    unfold orderM
    rw [sort_len, sort_len, h.len]
    have e : [(sortM t').start.toNat] = [(sortM t).start.toNat].map f := by
      show [t'.start.toNat] = [t.start.toNat].map f
      rw [h.start]; simp
    rw [e]
    refine srch_map (P := fun x => x < t.states.length) h.inj (fun x hx y hy => ?_) hsteps (fun x hx => ?_)
    · have := steps_below hws x y hy; rwa [sort_len] at this
    · simp at hx; subst hx
      show t.start.toNat < _
      have := hw.start; omega
  have hb : ∀ x ∈ orderM (sortM t), x < t.states.length := fun x hx => by have := order_below hws x hx; rwa [sort_len] at this
  have hmem : ∀ x, x < t.states.length → x ∈ orderM (sortM t) := fun x hx => (order_use hws hus x).2 (hus x (by rw [sort_len]; exact hx))
  have hidx : ∀ x, x < t.states.length → ((orderM (sortM t)).map f).idxOf (f x) = (orderM (sortM t)).idxOf x := by
    intro x hx
    have hn : ((orderM (sortM t)).map f).Nodup := by rw [← ho]; exact order_nodup _
    exact idx_get hn (by rw [List.getElem?_map, get_idx (hmem x hx)]; rfl)
  have hfm : ∀ x, x < t.states.length → f x ∈ (orderM (sortM t)).map f := fun x hx => List.mem_map_of_mem (hmem x hx)
  have key : renumM (sortM t') (orderM (sortM t')) = renumM (sortM t) (orderM (sortM t)) := by
    rw [ho]
    unfold renumM
    simp only [Mach.mk.injEq]
    refine ⟨h.kind, ?_, h.lead, ?_⟩
    · show (((orderM (sortM t)).map f).idxOf t'.start.toNat : Int) = ((orderM (sortM t)).idxOf t.start.toNat : Int)
      rw [h.start, Int.toNat_natCast, hidx _ (by have := hw.start; omega)]
    · rw [List.map_map]
      apply List.map_congr_left
      intro x hx
      have hxl := hb x hx
      simp only [Function.comp_apply]
      rw [hst x hxl]
      unfold renumS
      simp only [MState.mk.injEq, true_and]
      rw [List.filterMap_map]
      apply filterMap_on
      intro a ha2
      have hal : a.t.toNat < t.states.length := by
        have hs : (sortM t).states[x]? = some ((sortM t).states[x]'(by rw [sort_len]; exact hxl)) := List.getElem?_eq_getElem (by rw [sort_len]; exact hxl)
        rw [stOf_at hs] at ha2
        have := hws.arcs _ (List.mem_of_getElem? hs) a ha2
        rw [sort_len] at this
        omega
      have ht : (movA f a).t.toNat = f a.t.toNat := by simp [movA]
      show keepA ((orderM (sortM t)).map f) (movA f a) = keepA (orderM (sortM t)) a
      rw [keepA_yes (l := orderM (sortM t)) (hmem _ hal), keepA_yes (l := (orderM (sortM t)).map f) (by rw [ht]; exact hfm _ hal), ht, hidx _ hal]
      rfl
  unfold canonT
  rw [key]
/-- Renumbering changes no normal order of a machine whose states have one arc for an input. -/
theorem Moved.canonW {k : Int} {one : ByteArray} {f : Nat → Nat} {m m' : Mach} (h : Moved f m m') (hw : Wf m) (hd : Apart m) : canonW (noneOf k one) m' = canonW (noneOf k one) m := by
  unfold YtbmonhnojkiapaaGreatDoor.canonW trimW
  by_cases hn : usefulL m = []
  · have hl := useful_moved_len h hw
    rw [hn] at hl
    rw [if_pos hn, if_pos (List.eq_nil_of_length_eq_zero hl)]
  · have hl := useful_moved_len h hw
    have hn' : usefulL m' ≠ [] := fun e => hn (by rw [e] at hl; exact List.eq_nil_of_length_eq_zero hl.symm)
    rw [if_neg hn, if_neg hn']
    have hs : m.start.toNat ∈ usefulL m := (useful_mem hw).2 (Classical.byContradiction fun hc => hn ((useful_nil hw).2 hc))
    exact (h.trim hw (useful_nodup m) (fun x hx => reach_lt hw ((useful_mem hw).1 hx).1) (fun x hx => mem_list h hw hx) hl hs).canon (renum_wf hs) (renum_all (useful_nodup m) (fun x => useful_mem hw)) (renum_apart hd)
end Go.Proofs.YtbmonhnojkiapaaGreatDoor
