/- Plain: the values of the three semirings (a number, inf or -inf), how a text is one, and what is computed with them. · Plain: how many digits sums, products, quotients have. -/
import Derived.Test.YtbmonhnojkiapaaGreatDoorV09
set_option linter.unusedVariables false
set_option linter.unusedSimpArgs false
namespace Go.Proofs.YtbmonhnojkiapaaGreatDoor
open Go.RowKit
open Go.Lib (nDigits decDigits)

def infS : ByteArray := ⟨#[105, 110, 102]⟩
def lowS : ByteArray := ⟨#[45, 105, 110, 102]⟩
def zeroS : ByteArray := ⟨#[48]⟩
def oneS : ByteArray := ⟨#[49]⟩
/-- A value: a number, or inf (true), -inf (false). -/
abbrev Ext := Sum Bool Rat
def IsE (a : ByteArray) : Ext → Prop
  | .inl true => a = infS
  | .inl false => a = lowS
  | .inr x => IsRat a x
theorem not_inf : ∀ x, ¬ IsRat infS x := fun x h => by
  have h1 := (rat_parts h).n
  revert h1
  decide +kernel
theorem not_low : ∀ x, ¬ IsRat lowS x := fun x h => by
  have h1 := (rat_parts h).n
  revert h1
  decide +kernel
theorem low_inf : lowS ≠ infS := by decide +kernel
theorem IsE.uniq {a : ByteArray} {u v : Ext} (h : IsE a u) (k : IsE a v) : u = v := by
  rcases u with (_ | _) | x <;> rcases v with (_ | _) | y
  · rfl
  · exact absurd (h.symm.trans k) low_inf
  · cases h; exact absurd k (not_low y)
  · exact absurd (k.symm.trans h) low_inf
  · rfl
  · cases h; exact absurd k (not_inf y)
  · cases k; exact absurd h (not_low x)
  · cases k; exact absurd h (not_inf x)
  · rw [IsRat.uniq h k]
theorem IsE.same {a b : ByteArray} {v : Ext} (h : IsE a v) (k : IsE b v) : a = b := by
  rcases v with (_ | _) | x
  · exact h.trans k.symm
  · exact h.trans k.symm
  · exact h.eq.trans k.eq.symm
theorem IsE.len {a : ByteArray} {v : Ext} (h : IsE a v) : a.size ≤ maxLen := by
  rcases v with (_ | _) | x
  · cases h; decide
  · cases h; decide
  · exact rat_len h
theorem zeroE : IsE zeroS (.inr 0) := zero_rat
theorem oneE : IsE oneS (.inr 1) := ⟨by decide +kernel, by decide +kernel⟩
theorem topE : IsE infS (.inl true) := rfl
theorem lowE : IsE lowS (.inl false) := rfl

/-! ### The order -/
def sizeE : Ext → Int
  | .inl true => 1
  | .inl false => -1
  | .inr _ => 0
theorem cmpQ_neg (x y : Rat) : cmpQ x y < 0 ↔ x < y := by
  unfold cmpQ
  split
  · simp_all
  · split <;> simp_all
theorem cmpQ_flip (x y : Rat) : cmpQ y x = -cmpQ x y := by
  unfold cmpQ
  by_cases h : x < y
  · rw [if_pos h, if_neg (Rat.not_lt.2 (Rat.le_of_lt h)), if_pos h]; rfl
  · by_cases k : y < x
    · rw [if_pos k, if_neg h, if_pos k]
    · rw [if_neg k, if_neg h, if_neg h, if_neg k]; rfl
theorem cmpQ_pos (x y : Rat) : 0 < cmpQ x y ↔ y < x := by
  rw [← cmpQ_neg, cmpQ_flip]; omega
/-! ### Kinds -/
def kindB (k : Int) : Bool := decide (k = 1) || (decide (k = 2) || decide (k = 3))
/-- Has the kind this value? -/
def hasE (k : Int) : Ext → Bool
  | .inl true => kindB k
  | .inl false => decide (k = 1)
  | .inr x => decide (k = 1) || ((decide (k = 2) || decide (k = 3)) && decide (0 ≤ x))
def wgtE (k : Int) : Ext → Bool
  | .inl _ => false
  | .inr x => decide (k = 1) || ((decide (k = 2) || decide (k = 3)) && decide (0 < x))
def unitOf (k : Int) : Ext := if k = 1 then .inr 0 else .inr 1

/-! ### Operations -/
/-! ### Texts that are values -/
structure Val (k : Int) (a : ByteArray) (v : Ext) : Prop where
  e : IsE a v
  has : hasE k v = true
structure Wgt (k : Int) (a : ByteArray) (v : Ext) : Prop where
  e : IsE a v
  has : wgtE k v = true
def NoVal (k : Int) (a : ByteArray) : Prop := ∀ v, IsE a v → hasE k v = false
def NoWgt (k : Int) (a : ByteArray) : Prop := ∀ v, IsE a v → wgtE k v = false
theorem wgt_or (k : Int) (a : ByteArray) : (∃ v, Wgt k a v) ∨ NoWgt k a := by
  by_cases h : ∃ v, Wgt k a v
  · exact .inl h
  · refine .inr fun v hv => ?_
    cases hk : wgtE k v
    · rfl
    · exact absurd ⟨v, hv, hk⟩ h
theorem wgt_has {k : Int} {v : Ext} (h : wgtE k v = true) : hasE k v = true := by
  rcases v with (_ | _) | x
  · cases h
  · cases h
  · unfold wgtE at h; unfold hasE
    simp only [Bool.or_eq_true, Bool.and_eq_true, decide_eq_true_eq] at h ⊢
    rcases h with h | ⟨h1, h2⟩
    · exact .inl h
    · exact .inr ⟨h1, Rat.le_of_lt h2⟩
theorem Wgt.val {k : Int} {a : ByteArray} {v : Ext} (h : Wgt k a v) : Val k a v := ⟨h.e, wgt_has h.has⟩
theorem no_kind {k : Int} (h1 : k ≠ 1) (h2 : k ≠ 2) (h3 : k ≠ 3) (v : Ext) : hasE k v = false := by
  rcases v with (_ | _) | x <;> simp [hasE, kindB, h1, h2, h3]
theorem Val.kind {k : Int} {a : ByteArray} {v : Ext} (h : Val k a v) : k = 1 ∨ k = 2 ∨ k = 3 := by
  by_cases h1 : k = 1
  · exact .inl h1
  by_cases h2 : k = 2
  · exact .inr (.inl h2)
  by_cases h3 : k = 3
  · exact .inr (.inr h3)
  have := no_kind h1 h2 h3 v
  rw [h.has] at this; cases this
theorem has_two (v : Ext) : hasE 2 v = hasE 3 v := by rcases v with (_ | _) | x <;> rfl
theorem wgt_two (v : Ext) : wgtE 2 v = wgtE 3 v := by rcases v with (_ | _) | x <;> rfl
theorem has_one (v : Ext) : hasE 1 v = true := by rcases v with (_ | _) | x <;> rfl
end Go.Proofs.YtbmonhnojkiapaaGreatDoor
set_option linter.unusedVariables false
set_option linter.unusedSimpArgs false
namespace Go.Proofs.YtbmonhnojkiapaaGreatDoor
open Go.RowKit
open Go.Lib (nDigits decDigits)

/-- The numerator and the denominator have at most n digits. -/
def Wide (n : Nat) (x : Rat) : Prop := nDigits x.num.natAbs ≤ n ∧ nDigits x.den ≤ n
theorem Wide.mono {m n : Nat} {x : Rat} (h : Wide m x) (k : m ≤ n) : Wide n x := ⟨Nat.le_trans h.1 k, Nat.le_trans h.2 k⟩
theorem Wide.short {x : Rat} (h : Wide 400 x) : Short x := h
/-! ### One less a number from 0 to 1 -/
end Go.Proofs.YtbmonhnojkiapaaGreatDoor
