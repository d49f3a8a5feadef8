/- U20 U23 U95 U75 -/
import Derived.Test.YtaogepcaoogpgaaGreatDoorV22
import Derived.Test.YtaogepcaoogpgaaGreatDoorV17
import Derived.Test.YtaogepcaoogpgaaGreatDoorV30
import Derived.Test.YtaogepcaoogpgaaGreatDoorV23
set_option linter.unusedVariables false
set_option linter.unusedSimpArgs false
namespace Go.Proofs.YtaogepcaoogpgaaGreatDoor
open Go.RowKit
open Go.RowKit
theorem arc_new (w : World) (a : MArc) : ArcAt (w.alloc (.cells #[.int .i64 a.i, .int .i64 a.o, .string a.w, .int .i64 a.t] 59)) ⟨w.heap.size, 0, none⟩ a := by
 have hrow : (w.alloc (.cells #[.int .i64 a.i, .int .i64 a.o, .string a.w, .int .i64 a.t] 59)).heap[w.heap.size]? = some (.cells #[.int .i64 a.i, .int .i64 a.o, .string a.w, .int .i64 a.t] 59 (0, 0)) := by
  show (w.heap.push _)[w.heap.size]? = _
  rw [Array.getElem?_push_size]
 exact ⟨by rw [cell_of_row _ w.heap.size 0 _ _ (0, 0) hrow]; rfl, by show World.cell? _ ⟨w.heap.size, 0 + 1, none⟩ = _; rw [cell_of_row _ w.heap.size 1 _ _ (0, 0) hrow]; rfl, by show World.cell? _ ⟨w.heap.size, 0 + 2, none⟩ = _; rw [cell_of_row _ w.heap.size 2 _ _ (0, 0) hrow]; rfl, by show World.cell? _ ⟨w.heap.size, 0 + 3, none⟩ = _; rw [cell_of_row _ w.heap.size 3 _ _ (0, 0) hrow]; rfl⟩
def pushN (o : List Nat) (y : Nat) : List Nat := if y ∈ o then o else o ++ [y]
def srch (succ : Nat → List Nat) : Nat → Nat → List Nat → List Nat
 | 0, _, o => o
 | f + 1, i, o => match o[i]? with
  | none => o
  | some x => srch succ f (i + 1) ((succ x).foldl pushN o)
theorem pushN_mem {o : List Nat} {y x : Nat} : x ∈ pushN o y ↔ (x ∈ o ∨ x = y) := by
 unfold pushN
 split
 ·exact ⟨.inl, fun h => by rcases h with h | rfl <;> assumption⟩
 ·simp
theorem pushN_nodup {o : List Nat} {y : Nat} (h : o.Nodup) : (pushN o y).Nodup := by
 unfold pushN
 split
 ·exact h
 ·rw [List.nodup_append]
  exact ⟨h, by simp, fun a ha b hb e => by simp at hb; subst hb; subst e; contradiction⟩
theorem pushN_prefix (o : List Nat) (y : Nat) : o <+: pushN o y := by
 unfold pushN
 split
 ·exact List.prefix_refl _
 ·exact List.prefix_append _ _
theorem folds_mem {l o : List Nat} {x : Nat} : x ∈ l.foldl pushN o ↔ (x ∈ o ∨ x ∈ l) := by
 induction l generalizing o with
 | nil => simp
 | cons y l ih => rw [List.foldl_cons, ih, pushN_mem, List.mem_cons, or_assoc]
theorem folds_nodup {l o : List Nat} (h : o.Nodup) : (l.foldl pushN o).Nodup := by
 induction l generalizing o with
 | nil => exact h
 | cons y l ih => exact ih (pushN_nodup h)
theorem folds_prefix (l o : List Nat) : o <+: l.foldl pushN o := by
 induction l generalizing o with
 | nil => exact List.prefix_refl _
 | cons y l ih => exact (pushN_prefix o y).trans (ih _)
theorem folds_snoc (l o : List Nat) (y : Nat) : (l ++ [y]).foldl pushN o = pushN (l.foldl pushN o) y := by
 rw [List.foldl_append]; rfl
theorem folds_below {n : Nat} {l o : List Nat} (ho : ∀ x ∈ o, x < n) (hl : ∀ x ∈ l, x < n) : ∀ x ∈ l.foldl pushN o, x < n := fun x hx => by
 rcases folds_mem.1 hx with h | h
 ·exact ho x h
 ·exact hl x h
theorem nodup_short {n : Nat} {o : List Nat} (h : o.Nodup) (hb : ∀ x ∈ o, x < n) : o.length ≤ n := by
 have := List.Nodup.length_le_of_subset (l₁ := o) (l₂ := List.range n) h (fun x hx => List.mem_range.2 (hb x hx))
 rwa [List.length_range] at this
theorem srch_stop {succ : Nat → List Nat} {f i : Nat} {o : List Nat} (h : o.length ≤ i) : srch succ f i o = o := by
 cases f with
 | zero => rfl
 | succ f => unfold srch; rw [List.getElem?_eq_none h]
theorem srch_next {succ : Nat → List Nat} {f i x : Nat} {o : List Nat} (h : o[i]? = some x) : srch succ (f + 1) i o = srch succ f (i + 1) ((succ x).foldl pushN o) := by
 rw [srch, h]
theorem srch_nodup {succ : Nat → List Nat} {f i : Nat} {o : List Nat} (h : o.Nodup) : (srch succ f i o).Nodup := by
 induction f generalizing i o with
 | zero => exact h
 | succ f ih =>
  unfold srch
  split
  ·exact h
  ·exact ih (folds_nodup h)
theorem srch_prefix (succ : Nat → List Nat) (f i : Nat) (o : List Nat) : o <+: srch succ f i o := by
 induction f generalizing i o with
 | zero => exact List.prefix_refl _
 | succ f ih =>
  unfold srch
  split
  ·exact List.prefix_refl _
  ·exact (folds_prefix _ _).trans (ih _ _)
theorem srch_sound {succ : Nat → List Nat} {P : Nat → Prop} (hs : ∀ x y, P x → y ∈ succ x → P y) {f i : Nat} {o : List Nat} (h : ∀ x ∈ o, P x) : ∀ x ∈ srch succ f i o, P x := by
 induction f generalizing i o with
 | zero => exact h
 | succ f ih =>
  unfold srch
  split
  ·exact h
  ·rename_i z hz
   refine ih (fun x hx => ?_)
   rcases folds_mem.1 hx with hx | hx
   ·exact h x hx
   ·exact hs _ _ (h z (List.mem_of_getElem? hz)) hx
theorem srch_done {succ : Nat → List Nat} {n : Nat} (hs : ∀ x, ∀ y ∈ succ x, y < n) {f i : Nat} {o : List Nat} (hn : o.Nodup) (h : ∀ x ∈ o, x < n) (hf : n ≤ f + i) :
  ∀ j x, i ≤ j → (srch succ f i o)[j]? = some x → ∀ y ∈ succ x, y ∈ srch succ f i o := by
 induction f generalizing i o with
 | zero =>
  intro j x hj hx
  have h1 := nodup_short hn h
  have h2 := (List.getElem?_eq_some_iff.1 hx).1
  unfold srch at h2
  omega
 | succ f ih =>
  intro j x hj hx y hy
  cases ho : o[i]? with
  | none =>
   have h1 : srch succ (f + 1) i o = o := by unfold srch; rw [ho]
   rw [h1] at hx
   have h2 := (List.getElem?_eq_some_iff.1 hx).1
   have h3 := List.getElem?_eq_none_iff.1 ho
   omega
  | some z =>
   rw [srch_next ho] at hx ⊢
   by_cases e : j = i
   ·subst e
    have hp := (folds_prefix (succ z) o).trans (srch_prefix succ f (j + 1) ((succ z).foldl pushN o))
    have hz : (srch succ f (j + 1) ((succ z).foldl pushN o))[j]? = some z := by
     obtain ⟨r, hr⟩ := hp
     rw [← hr, List.getElem?_append_left (List.getElem?_eq_some_iff.1 ho).1]; exact ho
    rw [hz] at hx
    cases hx
    exact (srch_prefix succ f (j + 1) _).subset (folds_mem.2 (.inr hy))
   ·exact ih (folds_nodup hn) (folds_below h (hs _)) (by omega) j x (by omega) hx y hy
theorem srch_mem {succ : Nat → List Nat} {n : Nat} (hs : ∀ x, ∀ y ∈ succ x, y < n) {o : List Nat} (hn : o.Nodup) (h : ∀ x ∈ o, x < n) (x : Nat) : x ∈ srch succ n 0 o ↔ RFrom succ (fun y => y ∈ o) x := by
 refine ⟨fun hx => srch_sound (fun _ _ => .step) (fun _ => .start) x hx, fun hx => ?_⟩
 induction hx with
 | start hx => exact (srch_prefix succ n 0 o).subset hx
 | step _ hy ih =>
  obtain ⟨j, hj⟩ := List.mem_iff_getElem?.1 ih
  exact srch_done hs hn h (by omega) j _ (by omega) hj _ hy
def backM (m : Mach) (x : Nat) : List Nat := (List.range m.states.length).flatMap (fun i => (stepsM m i).filterMap (fun t => if t = x then some i else none))
def isFin (m : Mach) (x : Nat) : Prop := ∃ s, m.states[x]? = some s ∧ s.fin.size ≠ 0
def Useful (m : Mach) (x : Nat) : Prop := RFrom (stepsM m) (fun y => y = m.start.toNat) x ∧ RFrom (backM m) (isFin m) x
open Classical in
noncomputable def usefulL (m : Mach) : List Nat := (List.range m.states.length).filter (fun x => decide (Useful m x))
def keepA (l : List Nat) (a : MArc) : Option MArc := if a.t.toNat ∈ l then some { a with t := (l.idxOf a.t.toNat : Int) } else none
def stOf (m : Mach) (x : Nat) : MState := (m.states[x]?).getD ⟨ByteArray.empty, []⟩
def renumS (l : List Nat) (s : MState) : MState := ⟨s.fin, s.arcs.filterMap (keepA l)⟩
def renumM (m : Mach) (l : List Nat) : Mach := ⟨m.kind, (l.idxOf m.start.toNat : Int), m.lead, l.map (fun x => renumS l (stOf m x))⟩
structure Wf (m : Mach) : Prop where
 start : 0 ≤ m.start ∧ m.start < (m.states.length : Int)
 arcs : ∀ s ∈ m.states, ∀ a ∈ s.arcs, 0 ≤ a.t ∧ a.t < (m.states.length : Int)
theorem stOf_at {m : Mach} {x : Nat} {s : MState} (h : m.states[x]? = some s) : stOf m x = s := by unfold stOf; rw [h]; rfl
theorem steps_below {m : Mach} (h : Wf m) (x : Nat) : ∀ y ∈ stepsM m x, y < m.states.length := by
 intro y hy
 unfold stepsM at hy
 split at hy
 ·rename_i s hs
  obtain ⟨a, ha, rfl⟩ := List.mem_map.1 hy
  have := h.arcs s (List.mem_of_getElem? hs) a ha
  omega
 ·simp at hy
theorem steps_lt {m : Mach} {x y : Nat} (hy : y ∈ stepsM m x) : x < m.states.length := by
 unfold stepsM at hy
 split at hy
 ·rename_i s hs
  exact (List.getElem?_eq_some_iff.1 hs).1
 ·simp at hy
theorem back_mem {m : Mach} {x y : Nat} : y ∈ backM m x ↔ x ∈ stepsM m y := by
 unfold backM
 rw [List.mem_flatMap]
 constructor
 ·rintro ⟨i, _, hi⟩
  obtain ⟨t, ht, he⟩ := List.mem_filterMap.1 hi
  split at he
  ·cases he; subst_vars; exact ht
  ·cases he
 ·intro h
  exact ⟨y, List.mem_range.2 (steps_lt h), List.mem_filterMap.2 ⟨x, h, by simp⟩⟩
theorem back_below {m : Mach} (x : Nat) : ∀ y ∈ backM m x, y < m.states.length := fun _ hy => steps_lt (back_mem.1 hy)
theorem fin_lt {m : Mach} {x : Nat} (h : isFin m x) : x < m.states.length := by
 obtain ⟨s, hs, _⟩ := h
 exact (List.getElem?_eq_some_iff.1 hs).1
theorem reach_lt {m : Mach} (h : Wf m) {x : Nat} (hx : RFrom (stepsM m) (fun y => y = m.start.toNat) x) : x < m.states.length := by
 cases hx with
 | start e => subst e; have := h.start; omega
 | step _ hy => exact steps_below h _ _ hy
open Classical in
theorem useful_mem {m : Mach} (h : Wf m) {x : Nat} : x ∈ usefulL m ↔ Useful m x := by
 unfold usefulL
 rw [List.mem_filter, List.mem_range, decide_eq_true_iff]
 exact ⟨fun h => h.2, fun hu => ⟨reach_lt h hu.1, hu⟩⟩
theorem useful_nodup (m : Mach) : (usefulL m).Nodup := List.Pairwise.filter _ List.nodup_range
theorem useful_sorted (m : Mach) : (usefulL m).Pairwise (· < ·) := List.Pairwise.filter _ List.pairwise_lt_range
theorem rising_eq {l k : List Nat} (hl : l.Pairwise (· < ·)) (hk : k.Pairwise (· < ·)) (h : ∀ x, x ∈ l ↔ x ∈ k) : l = k := by
 induction l generalizing k with
 | nil =>
  cases k with
  | nil => rfl
  | cons y k => have := (h y).2 (by simp); simp at this
 | cons x l ih =>
  cases k with
  | nil => have := (h x).1 (by simp); simp at this
  | cons y k =>
   rw [List.pairwise_cons] at hl hk
   have e : x = y := by
    have h1 := (h x).1 (by simp)
    have h2 := (h y).2 (by simp)
    simp only [List.mem_cons] at h1 h2
    rcases h1 with h1 | h1
    ·exact h1
    ·rcases h2 with h2 | h2
     ·exact h2.symm
     ·have := hl.1 y h2; have := hk.1 x h1; omega
   subst e
   rw [ih hl.2 hk.2 (fun z => ?_)]
   have := h z
   simp only [List.mem_cons] at this
   constructor
   ·intro hz
    have h1 := hl.1 z hz
    rcases this.1 (.inr hz) with e | e
    ·omega
    ·exact e
   ·intro hz
    have h1 := hk.1 z hz
    rcases this.2 (.inr hz) with e | e
    ·omega
    ·exact e
theorem end_back {m : Mach} {x y : Nat} (hy : RFrom (backM m) (isFin m) y) (h : y ∈ stepsM m x) : RFrom (backM m) (isFin m) x := .step hy (back_mem.2 h)
theorem end_from {m : Mach} {x : Nat} (hx : RFrom (stepsM m) (fun y => y = m.start.toNat) x) (he : RFrom (backM m) (isFin m) x) : RFrom (backM m) (isFin m) m.start.toNat := by
 induction hx with
 | start e => subst e; exact he
 | step _ hy ih => exact ih (end_back he hy)
theorem useful_start {m : Mach} {x : Nat} (h : Useful m x) : Useful m m.start.toNat := ⟨.start rfl, end_from h.1 h.2⟩
theorem useful_nil {m : Mach} (h : Wf m) : usefulL m = [] ↔ ¬ Useful m m.start.toNat := by
 constructor
 ·intro e hu
  have := (useful_mem h).2 hu
  rw [e] at this; simp at this
 ·intro hn
  rw [List.eq_nil_iff_forall_not_mem]
  intro x hx
  exact hn (useful_start ((useful_mem h).1 hx))
theorem idx_get {l : List Nat} (hn : l.Nodup) {i x : Nat} (h : l[i]? = some x) : l.idxOf x = i := by
 obtain ⟨hi, rfl⟩ := List.getElem?_eq_some_iff.1 h
 exact List.Nodup.idxOf_getElem hn i hi
end Go.Proofs.YtaogepcaoogpgaaGreatDoor
namespace Go.Proofs.YtaogepcaoogpgaaGreatDoor
theorem idx_lt_of {l : List Nat} {x : Nat} (h : x ∈ l) : l.idxOf x < l.length := List.idxOf_lt_length_of_mem h
theorem renum_len (m : Mach) (l : List Nat) : (renumM m l).states.length = l.length := by unfold renumM; simp
noncomputable def trimW (none : Mach) (m : Mach) : Mach := if usefulL m = [] then none else renumM m (usefulL m)
end Go.Proofs.YtaogepcaoogpgaaGreatDoor
namespace Go.Proofs.YtaogepcaoogpgaaGreatDoor
theorem keepA_yes {l : List Nat} {a : MArc} (h : a.t.toNat ∈ l) : keepA l a = some { a with t := (l.idxOf a.t.toNat : Int) } := by
 unfold keepA; rw [if_pos h]
theorem keepA_no {l : List Nat} {a : MArc} (h : a.t.toNat ∉ l) : keepA l a = none := by
 unfold keepA; rw [if_neg h]
open Go.RowKit
set_option maxRecDepth 20000 in
set_option maxHeartbeats 1000000 in
theorem first_any7 (n : Nat) (L : Nat → Value) (a : ByteArray) (fv : Value) (w : World) (hn : 0 < n) (hf : RowR w fv n L) (h0 : L 0 = .string a) :
  Calls Tryz.prog 142 #[fv] w (ValPost (.string a) w) := by
 obtain ⟨A, c, rfl, h1, h2, h3⟩ := hf
 obtain ⟨ad, rfl, hb, hc⟩ := h3 0 hn
 rw [h0] at hc
 have hz : ad.add 0 = ad := by cases ad; unfold Addr.add; split <;> simp_all
 have hc' := hc
 rw [hz] at hc'
 have i1 : (0 : Int) < (n : Int) := by omega
 have i2 : ¬ (n : Int) ≤ 0 := by omega
 have i3 : ¬ n = 0 := by omega
 clear h3 hb
 go_enter Tryz.func142, Tryz.ntmps142
 go_wp2
 go_ret
 exact ⟨rfl, World.grownBy.refl _ _⟩
theorem enters_first7 : Enters 142 := enters_of Tryz.func142 (by kernel_rfl) rfl
set_option maxRecDepth 20000 in
set_option maxHeartbeats 1000000 in
theorem column_any (n m : Nat) (V : Nat → Value) (L : Nat → Nat → Value) (G : Nat → ByteArray) (lv : Value) (w : World) (hn : n ≤ 10000) (hm : 0 < m) (hl : RowR w lv n V) (hrow : ∀ i, i < n → RowR w (V i) m (L i)) (h0 : ∀ i, i < n → L i 0 = .string (G i)) :
  Calls Tryz.prog 96 #[lv] w (fun e w' => ∃ v, e = .returned v ∧ v = .slice (some ⟨w.heap.size, 0, none⟩) n n ∧ RowAt w' w.heap.size 0 n (fun i => .string (G i)) ∧ w.grownBy w' none) := by
 have h := mapped_firsts 142 enters_first7 #[] #[] n V (fun _ => True) G lv w hn hl (fun i hi w' hg => by
  have h1 := first_any7 m (L i) (G i) (V i) w' hm ((hrow i hi).grown hg) (h0 i hi)
  exact h1.mono (fun e w2 h2 => .inl ⟨trivial, h2⟩))
 obtain ⟨A, c, rfl, -⟩ := hl
 have H := Lib.hid h
 clear h hrow h0
 go_enter Tryz.func96, Tryz.ntmps96
 go_wp2_with fail
 refine H.out.mono ?_
 rintro e w1 (⟨hp, v, rfl, ⟨rfl, hr⟩, hg1⟩ | ⟨hnp, -⟩)
 ·have HP := Lib.hid (And.intro hr hg1)
  clear hp hr hg1 H
  go_wp2
  go_ret
  exact ⟨_, rfl, rfl, HP.out.1, HP.out.2⟩
 ·exact absurd (fun _ _ => trivial) hnp
open Go.RowKit
section
variable {k : Int}
def stA (l : List MState) (i : Nat) : List MArc := (l[i]?.map (·.arcs)).getD []
def stF (l : List MState) (i : Nat) : ByteArray := (l[i]?.map (·.fin)).getD ⟨#[]⟩
theorem stA_at {l : List MState} {i : Nat} {s : MState} (h : l[i]? = some s) : stA l i = s.arcs := by unfold stA; rw [h]; rfl
theorem stF_at {l : List MState} {i : Nat} {s : MState} (h : l[i]? = some s) : stF l i = s.fin := by unfold stF; rw [h]; rfl
noncomputable def arcM (hk : IsKind k) (l : List MState) (i d : Nat) : El k := mrgP hk (arcF hk (stA l i)) (arcK (stA l i)) (stA l i).length d
def ArcFits (hk : IsKind k) (l : List MState) : Prop := ∀ i, i < l.length → ∀ s, s < (stA l i).length → FitE (mrgP hk (arcF hk (stA l i)) (arcK (stA l i)) (s + 1) (arcK (stA l i) s))
noncomputable def finE (hk : IsKind k) (a : ByteArray) : El k := @ite _ (a = ⟨#[]⟩) (Classical.propDecidable _) (srE k hk).zero (vE hk a)
noncomputable def finM (hk : IsKind k) (l : List MState) (i : Nat) : El k := finE hk (stF l i)
structure StsOk (k : Int) (l : List MState) : Prop where
 n60 : l.length ≤ 60
 arcs : ∀ i, i < l.length → ArcsOk k l.length (stA l i) ∧ (stA l i).length ≤ 30000
 fins : ∀ i, i < l.length → stF l i = ⟨#[]⟩ ∨ ∃ v, Val k (stF l i) v
theorem arcM_fit (hk : IsKind k) {l : List MState} (h : ArcFits hk l) {i : Nat} (hi : i < l.length) (d : Nat) : FitE (arcM hk l i d) := mrg_now7 hk _ _ _ (h i hi) d
theorem finE_fit (hk : IsKind k) {a : ByteArray} (h : a = ⟨#[]⟩ ∨ ∃ v, Val k a v) : FitE (finE hk a) := by
 unfold finE
 split
 ·exact fit_zero hk
 ·next hn =>
  rcases h with h | h
  ·exact absurd h hn
  ·exact (vE_tx hk h).2
theorem enters_steps1 : Enters 143 := enters_of Tryz.func143 (by kernel_rfl) rfl
theorem enters_toEnd1 : Enters 95 := enters_of Tryz.func95 (by kernel_rfl) rfl
theorem enters_fromStart1 : Enters 98 := enters_of Tryz.func98 (by kernel_rfl) rfl
set_option maxRecDepth 20000 in
set_option maxHeartbeats 4000000 in
theorem steps_any (hk : IsKind k) (l : List MState) (us : List Value) (As : Option Addr) (cs : Nat) (kd st : Int) (ld : ByteArray) (w : World) (hok : StsOk k l) (hst : StsR w l us As cs) :
  Calls Tryz.prog 97 #[calV k, .agg #[.int .i64 kd, .int .i64 st, .string ld, .slice As l.length cs]] w (OrDieQ (ArcFits hk l) (fun v w' => MatV w' v l.length l.length (arcM hk l)) w) := by
 have hmf : ∀ (fn : Fn) (first cap : Array Value) (w : World), (Instr.makeFunc fn first cap).run Tryz.prog w = .ok (.func fn first cap) w := fun _ _ _ _ => rfl
 have hal1 := World.grownBy_alloc w (.cells #[.int .i64 k, .string (zeroT k), .string (oneT k)] 64) none
 have hal2 := World.grownBy_alloc (w.alloc (.cells #[.int .i64 k, .string (zeroT k), .string (oneT k)] 64)) (.cells #[.int .i64 kd, .int .i64 st, .string ld, .slice As l.length cs] 31) none
 have hW := grown_trans hal1 hal2
 have xc : CalAt ((w.alloc (.cells #[.int .i64 k, .string (zeroT k), .string (oneT k)] 64)).alloc (.cells #[.int .i64 kd, .int .i64 st, .string ld, .slice As l.length cs] 31)) w.heap.size k := by
  have h : CalAt (w.alloc (.cells #[.int .i64 k, .string (zeroT k), .string (oneT k)] 64)) w.heap.size k := ⟨box_cell w _ _ rfl, box_cell w _ _ rfl, box_cell w _ _ rfl⟩
  exact h.grown hal2
 have xs : ((w.alloc (.cells #[.int .i64 k, .string (zeroT k), .string (oneT k)] 64)).alloc (.cells #[.int .i64 kd, .int .i64 st, .string ld, .slice As l.length cs] 31)).cell? ⟨w.heap.size + 1, 3, none⟩ = some (.slice As l.length cs) := by
  have h := box_cell (w.alloc (.cells #[.int .i64 k, .string (zeroT k), .string (oneT k)] 64)) #[.int .i64 kd, .int .i64 st, .string ld, .slice As l.length cs] 31 (j := 3) (u := .slice As l.length cs) rfl
  rw [show (w.alloc (.cells #[.int .i64 k, .string (zeroT k), .string (oneT k)] 64)).heap.size = w.heap.size + 1 by simp] at h
  exact h
 have hmap := mapped_states 143 enters_steps1 #[] #[.pointer (some ⟨w.heap.size, 0, none⟩), .pointer (some ⟨w.heap.size + 1, 0, none⟩)] l us As cs l.length (fun i => ∀ s, s < (stA l i).length → FitE (mrgP hk (arcF hk (stA l i)) (arcK (stA l i)) (s + 1) (arcK (stA l i) s))) (fun i => txs (arcM hk l i)) _ (by have := hok.n60; omega) (hst.grown hW) (fun i s u hs hu w' hw' ha => by
  have hil := (List.getElem?_eq_some_iff.1 hs).1
  have he := stA_at hs
  obtain ⟨h1, h2⟩ := hok.arcs i hil
  rw [he] at h1 h2
  have h := steps1_any hk l.length w.heap.size (w.heap.size + 1) cs s.fin u s.arcs As w' (by have := hok.n60; omega) h2 h1 ha (xc.grown hw') (hw'.cell xs (by simp))
  refine h.mono (fun e w3 h => ?_)
  rcases h with ⟨hp, v, e1, ⟨g, e2, q1, q2⟩, q3⟩ | ⟨hp, q⟩
  ·refine .inl ⟨by rw [he]; exact hp, v, e1, ⟨g, 0, l.length, e2, Nat.le_refl _, by have := hok.n60; unfold maxLen; omega, .inr q1, ?_⟩, q3⟩
   show RowAt w3 g 0 l.length (txs (arcM hk l i))
   unfold arcM
   rw [he]
   exact q2
  ·exact .inr ⟨by rw [he]; exact hp, q⟩)
 have HM := Lib.hid hmap; have HW := Lib.hid hW; have HN := Lib.hid hok.n60
 clear hmap hal1 hal2 hW xc xs hst hok
 unfold calV at *
 go_enter Tryz.func97, Tryz.ntmps97
 go_wp2_with fail
 refine HM.out.mono ?_
 rintro e w1 (⟨hp, v, rfl, ⟨zs, rfl, hzs, _⟩, hg1⟩ | ⟨hn, rfl, hg1⟩)
 ·have HP := Lib.hid (And.intro hp (And.intro hzs hg1))
  clear hp hzs hg1 HM
  go_wp2
  go_ret
  obtain ⟨hp, hzs, hg1⟩ := HP.out
  refine .inl ⟨hp, _, rfl, ?_, grown_trans HW.out hg1⟩
  have h := hzs.mat (by have := HN.out; omega)
  simpa using h
 ·exact ⟨rfl, .inr ⟨hn, rfl, grown_trans HW.out hg1⟩⟩
end
end Go.Proofs.YtaogepcaoogpgaaGreatDoor
