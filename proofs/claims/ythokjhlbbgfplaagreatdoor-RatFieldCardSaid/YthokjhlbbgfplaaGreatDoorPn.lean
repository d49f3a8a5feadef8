/- Plain: sums, products, quotients and the order of rational numbers, by their parts. -/
import Derived.Test.YthokjhlbbgfplaaGreatDoorQb
set_option linter.unusedVariables false
set_option linter.unusedSimpArgs false
namespace Go.Proofs.YthokjhlbbgfplaaGreatDoor
open Go.Lib

theorem nDigits_up (u : Nat) : u < 10 ^ nDigits u := by
  induction u using Nat.strongRecOn with
  | _ u ih =>
    by_cases h : u < 10
    · rw [nDigits_small h]; omega
    · rw [nDigits_big h, Nat.pow_succ]
      have := ih (u / 10) (by omega)
      omega
theorem nDigits_le (n k : Nat) (hk : 1 ≤ k) (h : n < 10 ^ k) : nDigits n ≤ k := by
  rcases Nat.lt_or_ge k (nDigits n) with h1 | h1
  · rcases nDigits_unique_le n k (by omega) with h2 | h2
    · omega
    · omega
  · exact h1
theorem nDigits_mul (m n : Nat) : nDigits (m * n) ≤ nDigits m + nDigits n := by
  apply nDigits_le _ _ (by have := nDigits_pos m; omega)
  rw [Nat.pow_add]
  exact Nat.mul_lt_mul'' (nDigits_up m) (nDigits_up n)
theorem nDigits_add (m n k : Nat) (hm : nDigits m ≤ k) (hn : nDigits n ≤ k) : nDigits (m + n) ≤ k + 1 := by
  apply nDigits_le _ _ (by omega)
  have h1 := nDigits_up m
  have h2 := nDigits_up n
  have h3 := Nat.pow_le_pow_right (show 0 < 10 by omega) hm
  have h4 := Nat.pow_le_pow_right (show 0 < 10 by omega) hn
  rw [Nat.pow_succ]
  omega

/-- Is a number below zero? -/
def sgn (x : Rat) : Bool := decide (x.num < 0)
theorem sgn_num (x : Rat) : x.num = sg (sgn x) x.num.natAbs := (sg_num x).symm
theorem sg_mulN (s : Bool) (n d : Nat) : sg s (n * d) = sg s n * (d : Int) := by
  unfold sg; split <;> simp [Int.neg_mul]
theorem sg_same (s : Bool) (p q : Nat) : sg s (p + q) = sg s p + sg s q := by
  unfold sg; split <;> omega
theorem sg_less (s t : Bool) (p q : Nat) (h : s ≠ t) (hl : p < q) : sg t (q - p) = sg s p + sg t q := by
  cases s <;> cases t <;> simp_all [sg] <;> omega
theorem sg_more (s t : Bool) (p q : Nat) (h : s ≠ t) (hl : ¬ p < q) : sg s (p - q) = sg s p + sg t q := by
  cases s <;> cases t <;> simp_all [sg] <;> omega
theorem sg_mul2 (s t : Bool) (m n : Nat) : sg (s != t) (m * n) = sg s m * sg t n := by
  cases s <;> cases t <;> simp [sg, Int.neg_mul, Int.mul_neg]

theorem add_parts (x y : Rat) (z : Int) (h : z = sg (sgn x) (x.num.natAbs * y.den) + sg (sgn y) (y.num.natAbs * x.den)) : mkRat z (x.den * y.den) = x + y := by
  rw [Rat.add_def', h, sg_mulN, sg_mulN, ← sgn_num, ← sgn_num]
theorem mul_parts (x y : Rat) : mkRat (sg (sgn x != sgn y) (x.num.natAbs * y.num.natAbs)) (x.den * y.den) = x * y := by
  rw [Rat.mul_def', sg_mul2, ← sgn_num, ← sgn_num]
theorem div_parts (x y : Rat) (h : y.num ≠ 0) : mkRat (sg (sgn x != sgn y) (x.num.natAbs * y.den)) (x.den * y.num.natAbs) = x / y := by
  rw [Rat.div_def, Rat.mul_def', Rat.num_inv, Rat.den_inv, if_neg h, sg_mul2, ← sgn_num]
  congr 2
  unfold sg sgn
  by_cases hn : y.num < 0
  · rw [if_pos (by simpa using hn), Int.sign_eq_neg_one_of_neg hn]; omega
  · rw [if_neg (by simpa using hn), Int.sign_eq_one_of_pos (by omega)]; omega
theorem neg_parts (x : Rat) : ratV (-x) = .agg #[.bool (!sgn x && !decide (x.num.natAbs = 0)), .string (decS x.num.natAbs), .string (decS x.den)] := by
  unfold ratV sgn
  rw [Rat.neg_num, Rat.neg_den, Int.natAbs_neg]
  congr 3
  congr 1
  rw [Bool.eq_iff_iff, decide_eq_true_eq]
  simp only [Bool.and_eq_true, Bool.not_eq_true', decide_eq_false_iff_not]
  omega
theorem neg_short {x : Rat} (h : Short x) : Short (-x) := by
  unfold Short at *
  rw [Rat.neg_num, Rat.neg_den, Int.natAbs_neg]
  exact h

/-! ### The order -/
def cmpQ (x y : Rat) : Int := if x < y then -1 else if y < x then 1 else 0
theorem cmp_sign1 (x y : Rat) (h1 : sgn x = true) (h2 : sgn y = false) : cmpQ x y = -1 := by
  unfold sgn at h1 h2
  have h1 : x.num < 0 := by simpa using h1
  have h2 : ¬ y.num < 0 := by simpa using h2
  unfold cmpQ
  rw [if_pos]
  rw [Rat.lt_iff]
  have := Int.mul_neg_of_neg_of_pos h1 (show (0 : Int) < y.den by have := y.den_pos; omega)
  have := Int.mul_nonneg (show 0 ≤ y.num by omega) (show (0 : Int) ≤ x.den by omega)
  omega
theorem cmp_sign2 (x y : Rat) (h1 : sgn x = false) (h2 : sgn y = true) : cmpQ x y = 1 := by
  unfold sgn at h1 h2
  have h1 : ¬ x.num < 0 := by simpa using h1
  have h2 : y.num < 0 := by simpa using h2
  unfold cmpQ
  have := Int.mul_neg_of_neg_of_pos h2 (show (0 : Int) < x.den by have := x.den_pos; omega)
  have := Int.mul_nonneg (show 0 ≤ x.num by omega) (show (0 : Int) ≤ y.den by omega)
  rw [if_neg (by rw [Rat.lt_iff]; omega), if_pos (by rw [Rat.lt_iff]; omega)]
theorem cmp_plus (x y : Rat) (h1 : sgn x = false) (h2 : sgn y = false) : cmpQ x y = cmpN (x.num.natAbs * y.den) (y.num.natAbs * x.den) := by
  have ex := sgn_num x
  have ey := sgn_num y
  rw [h1, sg, if_neg (by simp)] at ex
  rw [h2, sg, if_neg (by simp)] at ey
  unfold cmpQ cmpN
  simp only [Rat.lt_iff]
  have e1 : x.num * y.den = ((x.num.natAbs * y.den : Nat) : Int) := by rw [Int.natCast_mul, ← ex]
  have e2 : y.num * x.den = ((y.num.natAbs * x.den : Nat) : Int) := by rw [Int.natCast_mul, ← ey]
  simp only [e1, e2, Int.ofNat_lt]
theorem cmp_minus (x y : Rat) (h1 : sgn x = true) (h2 : sgn y = true) : cmpQ x y = cmpN (y.num.natAbs * x.den) (x.num.natAbs * y.den) := by
  have ex := sgn_num x
  have ey := sgn_num y
  rw [h1, sg, if_pos rfl] at ex
  rw [h2, sg, if_pos rfl] at ey
  unfold cmpQ cmpN
  simp only [Rat.lt_iff]
  have e1 : x.num * y.den = -((x.num.natAbs * y.den : Nat) : Int) := by rw [Int.natCast_mul, ← Int.neg_mul, ← ex]
  have e2 : y.num * x.den = -((y.num.natAbs * x.den : Nat) : Int) := by rw [Int.natCast_mul, ← Int.neg_mul, ← ey]
  simp only [e1, e2]
  generalize x.num.natAbs * y.den = p
  generalize y.num.natAbs * x.den = q
  split <;> split <;> (try split) <;> omega
theorem cmp_sub (x y : Rat) : cmpQ (x - y) 0 = cmpQ x y := by
  have h1 : x - y < 0 ↔ x < y := by rw [Rat.lt_iff_sub_pos x y, Rat.lt_iff_sub_pos (x - y) 0, Rat.sub_eq_add_neg 0, Rat.neg_sub, Rat.zero_add]
  have h2 : 0 < x - y ↔ y < x := (Rat.lt_iff_sub_pos y x).symm
  unfold cmpQ
  simp only [h1, h2]
theorem zero_rat : IsRat ⟨#[48]⟩ 0 := ⟨by decide +kernel, by decide +kernel⟩
theorem zero_iff {b : ByteArray} {y : Rat} (h : IsRat b y) : (b = ⟨#[48]⟩) ↔ y = 0 := by
  constructor
  · rintro rfl; exact IsRat.uniq h zero_rat
  · rintro rfl; rw [h.eq]; exact zero_rat.eq.symm
theorem rat_size {a : ByteArray} {x : Rat} (h : IsRat a x) : a.size ≤ 802 := by
  rw [h.eq]
  have h1 := h.short.1; have h2 := h.short.2
  show (ratL x).toArray.size ≤ _
  rw [List.size_toArray]
  unfold ratL
  rw [List.length_append, List.length_append]
  have := decDigits_length x.num.natAbs
  have := decDigits_length x.den
  split <;> split <;> simp <;> omega
theorem rat_len {a : ByteArray} {x : Rat} (h : IsRat a x) : a.size ≤ maxLen := by have := rat_size h; unfold maxLen; omega
end Go.Proofs.YthokjhlbbgfplaaGreatDoor
