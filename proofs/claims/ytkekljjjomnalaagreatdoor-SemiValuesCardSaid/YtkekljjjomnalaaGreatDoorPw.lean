/- Plain: how many digits sums, products, quotients have. -/
import Derived.Test.YtkekljjjomnalaaGreatDoorPs
set_option linter.unusedVariables false
set_option linter.unusedSimpArgs false
namespace Go.Proofs.YtkekljjjomnalaaGreatDoor
open Go.RowKit
open Go.Lib (nDigits decDigits)

/-- The numerator and the denominator have at most n digits. -/
def Wide (n : Nat) (x : Rat) : Prop := nDigits x.num.natAbs ≤ n ∧ nDigits x.den ≤ n
theorem Wide.mono {m n : Nat} {x : Rat} (h : Wide m x) (k : m ≤ n) : Wide n x := ⟨Nat.le_trans h.1 k, Nat.le_trans h.2 k⟩
theorem Wide.short {x : Rat} (h : Wide 400 x) : Short x := h
theorem mk_small (z : Int) (d : Nat) (hd : d ≠ 0) : (mkRat z d).num.natAbs ≤ z.natAbs ∧ (mkRat z d).den ≤ d := by
  have e : sg (decide (z < 0)) z.natAbs = z := by
    unfold sg
    by_cases h : z < 0
    · rw [if_pos (by simpa using h)]; omega
    · rw [if_neg (by simpa using h)]; omega
  have h1 := mk_num (decide (z < 0)) z.natAbs d hd
  have h2 := mk_den (decide (z < 0)) z.natAbs d hd
  rw [e] at h1 h2
  rw [h1, h2]
  exact ⟨Nat.div_le_self _ _, Nat.div_le_self _ _⟩
theorem wide_mk (z : Int) (d n : Nat) (hd : d ≠ 0) (h1 : nDigits z.natAbs ≤ n) (h2 : nDigits d ≤ n) : Wide n (mkRat z d) := by
  obtain ⟨k1, k2⟩ := mk_small z d hd
  exact ⟨Nat.le_trans (nDigits_mono k1) h1, Nat.le_trans (nDigits_mono k2) h2⟩
theorem dig_mul' {x y m n : Nat} (hx : nDigits x ≤ m) (hy : nDigits y ≤ n) : nDigits (x * y) ≤ m + n := by have := nDigits_mul x y; omega
theorem den_ne (x y : Rat) : x.den * y.den ≠ 0 := Nat.mul_ne_zero x.den_nz y.den_nz
theorem wide_mul {m n : Nat} {x y : Rat} (hx : Wide m x) (hy : Wide n y) : Wide (m + n) (x * y) := by
  rw [← mul_parts x y]
  refine wide_mk _ _ _ (den_ne x y) ?_ (dig_mul' hx.2 hy.2)
  rw [sg_abs]
  exact dig_mul' hx.1 hy.1
theorem wide_add {m n : Nat} {x y : Rat} (hx : Wide m x) (hy : Wide n y) : Wide (m + n + 1) (x + y) := by
  rw [← add_parts x y _ rfl]
  refine wide_mk _ _ _ (den_ne x y) ?_ (Nat.le_succ_of_le (dig_mul' hx.2 hy.2))
  have d1 := dig_mul' hx.1 hy.2
  have d2 : nDigits (y.num.natAbs * x.den) ≤ m + n := by have := dig_mul' hy.1 hx.2; omega
  refine Nat.le_trans (nDigits_mono ?_) (nDigits_add _ _ _ d1 d2)
  have e1 := sg_abs (sgn x) (x.num.natAbs * y.den)
  have e2 := sg_abs (sgn y) (y.num.natAbs * x.den)
  omega
theorem wide_neg {n : Nat} {x : Rat} (hx : Wide n x) : Wide n (-x) := by
  unfold Wide at *
  rw [Rat.neg_num, Rat.neg_den, Int.natAbs_neg]
  exact hx
theorem wide_sub {m n : Nat} {x y : Rat} (hx : Wide m x) (hy : Wide n y) : Wide (m + n + 1) (x - y) := by
  rw [Rat.sub_eq_add_neg]
  exact wide_add hx (wide_neg hy)
theorem wide_div {m n : Nat} {x y : Rat} (hx : Wide m x) (hy : Wide n y) (h : y.num ≠ 0) : Wide (m + n) (x / y) := by
  rw [← div_parts x y h]
  refine wide_mk _ _ _ (Nat.mul_ne_zero x.den_nz (by omega)) ?_ (dig_mul' hx.2 hy.1)
  rw [sg_abs]
  exact dig_mul' hx.1 hy.2
theorem wide_zero : Wide 1 (0 : Rat) := by unfold Wide; decide +kernel
theorem wide_one : Wide 1 (1 : Rat) := by unfold Wide; decide +kernel
/-- A text of at most n bytes. -/
theorem wide_text {a : ByteArray} {x : Rat} {n : Nat} (h : IsRat a x) (hn : a.size ≤ n) (h1 : 1 ≤ n) : Wide n x := by
  have e : a.size = (ratL x).length := by rw [h.eq]; exact List.size_toArray
  unfold ratL at e
  rw [List.length_append, List.length_append] at e
  have l1 := Lib.decDigits_length x.num.natAbs
  have l2 := Lib.decDigits_length x.den
  refine ⟨by omega, ?_⟩
  by_cases hd : x.den = 1
  · rw [hd, show nDigits 1 = 1 by rw [Lib.nDigits_small (by decide)]]
    exact h1
  · rw [if_neg hd, List.length_cons] at e
    omega
/-! ### One less a number from 0 to 1 -/
theorem less_parts {x : Rat} : (1 - x) = mkRat ((x.den : Int) - x.num) x.den := by
  have e := add_parts 1 (-x) _ rfl
  rw [Rat.sub_eq_add_neg, ← e]
  have h1 : sg (sgn 1) ((1 : Rat).num.natAbs * (-x).den) = (x.den : Int) := by
    rw [Rat.neg_den, show sgn 1 = false by decide +kernel, show (1 : Rat).num.natAbs = 1 by decide +kernel]
    unfold sg
    simp
  have h2 : sg (sgn (-x)) ((-x).num.natAbs * (1 : Rat).den) = -x.num := by
    rw [show (1 : Rat).den = 1 by decide +kernel, Nat.mul_one, ← Rat.neg_num]
    exact sg_num (-x)
  rw [h1, h2, show (1 : Rat).den * (-x).den = x.den by rw [Rat.neg_den, show (1 : Rat).den = 1 by decide +kernel, Nat.one_mul], Int.sub_eq_add_neg]
theorem short_less {x : Rat} (h0 : 0 ≤ x) (h1 : x ≤ 1) (h : Short x) : Short (1 - x) := by
  rw [less_parts]
  have k0 := Rat.num_nonneg.2 h0
  have k1 : x.num ≤ x.den := by
    have := (Rat.le_iff x 1).1 h1
    rw [show (1 : Rat).num = 1 by decide +kernel, show (1 : Rat).den = 1 by decide +kernel] at this
    omega
  refine wide_mk _ _ 400 x.den_nz ?_ h.2
  refine Nat.le_trans (nDigits_mono ?_) h.2
  omega
theorem less_ne {x : Rat} (h : x < 1) : (1 - x).num ≠ 0 := fun k => by
  rw [Rat.num_eq_zero] at k
  have := Rat.sub_add_cancel (a := 1) (b := x)
  rw [k, Rat.zero_add] at this
  rw [this] at h
  exact Rat.lt_irrefl h
end Go.Proofs.YtkekljjjomnalaaGreatDoor
