/- Plain Lean: the reference's lenient reading of a quoted text; both Unquotes agree. -/
import Derived.Test.YtpockcolelfecaaDoorPo
set_option linter.unusedVariables false
set_option linter.unusedSimpArgs false
namespace Go.Proofs.YtpockcolelfecaaDoor

/-- One step of the lenient reading: the byte that is read, and how far it goes. -/
def yStep (s : ByteArray) (i : Nat) : UInt8 × Nat :=
  if gb s i = 37 ∧ i + 3 < s.size ∧ gb s (i + 1) = 120 ∧ 0 ≤ hexV (gb s (i + 2)) ∧ 0 ≤ hexV (gb s (i + 3)) then (UInt8.ofNat (16 * hexV (gb s (i + 2)) + hexV (gb s (i + 3))).toNat, 4)
  else if gb s i = 37 ∧ i + 1 < s.size then (UInt8.ofNat (gb s (i + 1)), 2)
  else (UInt8.ofNat (gb s i), 1)
def yFrom (s : ByteArray) : Nat → Nat → List UInt8
  | 0, _ => []
  | f + 1, i => if i < s.size then (yStep s i).1 :: yFrom s f (i + (yStep s i).2) else []
theorem yFrom_end (s : ByteArray) (f i : Nat) (h : ¬ i < s.size) : yFrom s f i = [] := by cases f <;> simp [yFrom, h]
theorem yFrom_step (s : ByteArray) (f i : Nat) (h : i < s.size) {b : UInt8} {n : Nat} (hy : yStep s i = (b, n)) : yFrom s (f + 1) i = b :: yFrom s f (i + n) := by simp [yFrom, h, hy]
theorem yStep_hex (s : ByteArray) (i : Nat) (h : gb s i = 37 ∧ i + 3 < s.size ∧ gb s (i + 1) = 120 ∧ 0 ≤ hexV (gb s (i + 2)) ∧ 0 ≤ hexV (gb s (i + 3))) : yStep s i = (UInt8.ofNat (16 * hexV (gb s (i + 2)) + hexV (gb s (i + 3))).toNat, 4) := by unfold yStep; rw [if_pos h]
theorem yStep_two (s : ByteArray) (i : Nat) (h : ¬ (gb s i = 37 ∧ i + 3 < s.size ∧ gb s (i + 1) = 120 ∧ 0 ≤ hexV (gb s (i + 2)) ∧ 0 ≤ hexV (gb s (i + 3)))) (h2 : gb s i = 37 ∧ i + 1 < s.size) : yStep s i = (UInt8.ofNat (gb s (i + 1)), 2) := by unfold yStep; rw [if_neg h, if_pos h2]
theorem yStep_one (s : ByteArray) (i : Nat) (h : ¬ (gb s i = 37 ∧ i + 3 < s.size ∧ gb s (i + 1) = 120 ∧ 0 ≤ hexV (gb s (i + 2)) ∧ 0 ≤ hexV (gb s (i + 3)))) (h2 : ¬ (gb s i = 37 ∧ i + 1 < s.size)) : yStep s i = (UInt8.ofNat (gb s i), 1) := by unfold yStep; rw [if_neg h, if_neg h2]
theorem yStep_of (s : ByteArray) (i : Nat) (hi : i < s.size) {b : UInt8} {n : Nat} (h : xStep s i = some (b, n)) : yStep s i = (b, n) := by
  have o1 := gb_out s (i + 1); have o2 := gb_out s (i + 2); have o3 := gb_out s (i + 3)
  by_cases h0 : gb s i = 37
  · by_cases h1 : gb s (i + 1) = 120
    · by_cases h2 : s.size < i + 4
      · rw [xStep_short s i h0 h1 h2] at h; cases h
      · by_cases h3 : hexV (gb s (i + 2)) < 0 ∨ hexV (gb s (i + 3)) < 0
        · rw [xStep_nohex s i h0 h1 h2 h3] at h; cases h
        · rw [xStep_hex s i h0 h1 h2 h3] at h
          rw [yStep_hex s i ⟨h0, by omega, h1, by omega, by omega⟩, ← Option.some.inj h]
          congr 3
          omega
    · by_cases h2 : s.size < i + 2
      · rw [xStep_end s i h0 h1 h2] at h; cases h
      · rw [xStep_two s i h0 h1 h2] at h
        rw [yStep_two s i (fun g => h1 g.2.2.1) ⟨h0, by omega⟩]
        exact Option.some.inj h
  · rw [xStep_plain s i h0] at h
    rw [yStep_one s i (fun g => h0 g.1) (fun g => h0 g.1)]
    exact Option.some.inj h
theorem yFrom_of (s : ByteArray) : ∀ f i l, xFrom s f i = some l → yFrom s f i = l
  | 0, i, l, h => by simp [xFrom] at h; subst h; rfl
  | f + 1, i, l, h => by
    by_cases hi : i < s.size
    · cases hx : xStep s i with
      | none => rw [xFrom_none s f i hi hx] at h; cases h
      | some p =>
        obtain ⟨b, n⟩ := p
        rw [xFrom_some s f i hi hx] at h
        rw [yFrom_step s f i hi (yStep_of s i hi hx)]
        cases hr : xFrom s f (i + n) with
        | none => rw [hr] at h; cases h
        | some r =>
          rw [hr] at h
          rw [yFrom_of s f (i + n) r hr]
          exact Option.some.inj h
    · rw [xFrom_end s _ i hi] at h
      rw [yFrom_end s _ i hi]
      exact Option.some.inj h
def yL (s : ByteArray) : List UInt8 := yFrom s s.size 0
theorem yFrom_len (s : ByteArray) : ∀ f i, (yFrom s f i).length ≤ f
  | 0, i => by simp [yFrom]
  | f + 1, i => by
    unfold yFrom
    split
    · have := yFrom_len s f (i + (yStep s i).2)
      simp; omega
    · simp

theorem yL_empty (s : ByteArray) (h : yL s = []) : s.size = 0 := by
  rcases Nat.eq_zero_or_pos s.size with e | e
  · exact e
  · unfold yL at h
    obtain ⟨n, hn⟩ : ∃ n, s.size = n + 1 := ⟨s.size - 1, by omega⟩
    rw [hn, yFrom_step s n 0 e (b := (yStep s 0).1) (n := (yStep s 0).2) rfl] at h
    cases h
theorem quote_nil : quoteL ⟨#[]⟩ = [37, 48] := by decide
/-- What the reference's Unquote returns. -/
theorem unq_nil (s : ByteArray) (h0 : s.data.toList ≠ [37, 48]) (h : yL s = []) : unqL s = none := by
  have hz := yL_empty s h
  have e : s.data.toList = [] := List.length_eq_zero_iff.1 (by rw [len_list]; exact hz)
  cases hx : expandL s with
  | none => exact unqL_none s h0 hx
  | some l =>
    have hl := yFrom_of s _ _ l hx
    have : l = [] := by rw [← hl]; exact h
    subst this
    refine unqL_other s [] h0 hx ?_
    rw [show (⟨([] : List UInt8).toArray⟩ : ByteArray) = ⟨#[]⟩ from rfl, quote_nil, e]
    decide
theorem unq_bad (s : ByteArray) (h0 : s.data.toList ≠ [37, 48]) (h : quoteL ⟨(yL s).toArray⟩ ≠ s.data.toList) : unqL s = none := by
  cases hx : expandL s with
  | none => exact unqL_none s h0 hx
  | some l =>
    have hl := yFrom_of s _ _ l hx
    refine unqL_other s l h0 hx ?_
    rw [← hl]; exact h
theorem unq_good (s : ByteArray) (h0 : s.data.toList ≠ [37, 48]) (h1 : yL s ≠ []) (h : quoteL ⟨(yL s).toArray⟩ = s.data.toList) : unqL s = some (yL s) := by
  have := unq_quote ⟨(yL s).toArray⟩
  rw [h] at this
  exact this
theorem unq_back (s : ByteArray) (l : List UInt8) (h : unqL s = some l) : quoteL ⟨l.toArray⟩ = s.data.toList := by
  by_cases h0 : s.data.toList = [37, 48]
  · rw [unqL_zero s h0] at h
    rw [← Option.some.inj h, h0]; exact quote_nil
  · cases hx : expandL s with
    | none => rw [unqL_none s h0 hx] at h; cases h
    | some r =>
      by_cases h3 : quoteL ⟨r.toArray⟩ = s.data.toList
      · rw [unqL_some s r h0 hx h3] at h
        rw [← Option.some.inj h]; exact h3
      · rw [unqL_other s r h0 hx h3] at h; cases h
theorem unq_len (s : ByteArray) (l : List UInt8) (h : unqL s = some l) : l.length ≤ s.size := by
  by_cases h0 : s.data.toList = [37, 48]
  · rw [unqL_zero s h0] at h
    rw [← Option.some.inj h]; simp
  · cases hx : expandL s with
    | none => rw [unqL_none s h0 hx] at h; cases h
    | some r =>
      by_cases h3 : quoteL ⟨r.toArray⟩ = s.data.toList
      · rw [unqL_some s r h0 hx h3] at h
        rw [← Option.some.inj h]; exact expandL_len s r hx
      · rw [unqL_other s r h0 hx h3] at h; cases h
end Go.Proofs.YtpockcolelfecaaDoor
