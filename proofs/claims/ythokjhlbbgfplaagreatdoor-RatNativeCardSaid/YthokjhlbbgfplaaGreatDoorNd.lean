/- fraction by contract; small fractions as rational numbers. -/
import Derived.Test.YthokjhlbbgfplaaGreatDoorNc
set_option linter.unusedVariables false
set_option linter.unusedSimpArgs false
namespace Go.Proofs.YthokjhlbbgfplaaGreatDoor
open Go.RowKit
open Go.Lib (nDigits decDigits)

def FracOk (z m : Int) (S : ByteArray) : Prop := ∀ w, Calls Tryz.prog 30 #[.int .i64 z, .int .i64 m] w (ValPost (.string S) w)
theorem digits_small (n : Nat) (h : n < 9223372036854775807) : nDigits n ≤ 20 := nDigits_le n 20 (by omega) (by omega)
theorem sg_of (p : Int) : p = sg (decide (p < 0)) p.natAbs := by
  by_cases h : p < 0
  · rw [sg, if_pos (by simpa using h)]; omega
  · rw [sg, if_neg (by simpa using h)]; omega
theorem app_empty (a : ByteArray) : a ++ ⟨#[]⟩ = a := by apply ByteArray.ext; apply Array.ext'; rw [cat_list]; simp
theorem frac_any (p : Int) (m : Nat) (hp : p.natAbs < 9223372036854775807) (hm : m < 9223372036854775807) (h1 : 1 ≤ m) : FracOk p m (ratS (mkRat p m)) := fun w => by
  have h0 : m ≠ 0 := by omega
  have es := sg_of p
  have e1 := mk_num (decide (p < 0)) p.natAbs m h0
  have e2 := mk_den (decide (p < 0)) p.natAbs m h0
  have e3 := mk_neg (decide (p < 0)) p.natAbs m h0
  rw [← es] at e1 e2 e3
  have ht := ratS_text (mkRat p m)
  rw [e1, e2] at ht
  obtain ⟨n, hn⟩ : ∃ n, p.natAbs = n := ⟨_, rfl⟩
  rw [hn] at e3 ht hp
  have ha : n / Nat.gcd n m ≤ n := Nat.div_le_self _ _
  have hb : m / Nat.gcd n m ≤ m := Nat.div_le_self _ _
  have sa := decS_size (n / Nat.gcd n m)
  have sb := decS_size (m / Nat.gcd n m)
  have da := digits_small (n / Nat.gcd n m) (by omega)
  have db := digits_small (m / Nat.gcd n m) (by omega)
  have DB := Lib.hid fun w => decimal_plus (m / Nat.gcd n m) w (by omega)
  by_cases hneg : p < 0
  · have hn1 : 1 ≤ n := by omega
    have hq : n / Nat.gcd n m ≠ 0 := by
      intro h
      have := Nat.div_mul_cancel (Nat.gcd_dvd_left n m)
      rw [h] at this
      omega
    have hd : decide ((mkRat p m).num < 0) = true := by
      rw [decide_eq_true_eq, e3]
      exact ⟨by simpa using hneg, by omega⟩
    rw [hd] at ht
    simp only [if_true] at ht
    have DA := Lib.hid fun w => decimal_minus (n / Nat.gcd n m) w (by omega) hq
    have sA : (⟨#[45]⟩ ++ decS (n / Nat.gcd n m) : ByteArray).size ≤ 30 := by rw [ByteArray.size_append]; show 1 + _ ≤ 30; omega
    rw [show p = -(n : Int) by omega]
    rw [show p = -(n : Int) by omega] at ht
    by_cases h : m / Nat.gcd n m = 1
    · rw [ht, if_pos h, app_empty]
      exact fraction_minus_int n m _ ⟨#[]⟩ w hp hm h1 hn1 h DA sA (by decide)
    · rw [ht, if_neg h, ← ByteArray.append_assoc]
      exact fraction_minus_frac n m _ _ w hp hm h1 hn1 h DA DB sA (by omega)
  · have hd : decide ((mkRat p m).num < 0) = false := by
      rw [decide_eq_false_iff_not, e3]
      intro h
      exact hneg (by simpa using h.1)
    rw [hd] at ht
    simp only [Bool.false_eq_true, if_false] at ht
    have DA := Lib.hid fun w => decimal_plus (n / Nat.gcd n m) w (by omega)
    rw [show p = (n : Int) by omega]
    rw [show p = (n : Int) by omega] at ht
    by_cases h : m / Nat.gcd n m = 1
    · rw [ht, if_pos h, app_empty]
      exact fraction_plus_int n m _ ⟨#[]⟩ w hp hm h1 h DA (by omega) (by decide)
    · rw [ht, if_neg h, ← ByteArray.append_assoc]
      exact fraction_plus_frac n m _ _ w hp hm h1 h DA DB (by omega) (by omega)
theorem mk_small (p : Int) (m : Nat) (hp : p.natAbs < 9223372036854775807) (hm : m < 9223372036854775807) (h1 : 1 ≤ m) : IsRat (ratS (mkRat p m)) (mkRat p m) := by
  have h0 : m ≠ 0 := by omega
  have es := sg_of p
  have e1 := mk_num (decide (p < 0)) p.natAbs m h0
  have e2 := mk_den (decide (p < 0)) p.natAbs m h0
  rw [← es] at e1 e2
  have ha : p.natAbs / Nat.gcd p.natAbs m ≤ p.natAbs := Nat.div_le_self _ _
  have hb : m / Nat.gcd p.natAbs m ≤ m := Nat.div_le_self _ _
  refine ⟨⟨?_, ?_⟩, rfl⟩
  · rw [e1]; exact Nat.le_trans (digits_small _ (by omega)) (by omega)
  · rw [e2]; exact Nat.le_trans (digits_small _ (by omega)) (by omega)
theorem frac_add (p q : Int) (m n : Nat) (hm : m ≠ 0) (hn : n ≠ 0) : mkRat p m + mkRat q n = mkRat (p * n + q * m) (m * n) := Rat.mkRat_add_mkRat p q hm hn
theorem frac_sub (p q : Int) (m n : Nat) (hm : m ≠ 0) (hn : n ≠ 0) : mkRat p m - mkRat q n = mkRat (p * n - q * m) (m * n) := by
  rw [Rat.sub_eq_add_neg, Rat.neg_mkRat, Rat.mkRat_add_mkRat p (-q) hm hn, Int.neg_mul, Int.sub_eq_add_neg]
theorem frac_mul (p q : Int) (m n : Nat) : mkRat p m * mkRat q n = mkRat (p * q) (m * n) := Rat.mkRat_mul_mkRat p q m n
theorem frac_div (p q : Int) (m n : Nat) (b : Nat) (z : Int) (h : (q = b ∧ z = p * n) ∨ (q = -(b : Int) ∧ z = -p * n)) : mkRat p m / mkRat q n = mkRat z (m * b) := by
  rw [Rat.div_def, ← Rat.divInt_ofNat p m, ← Rat.divInt_ofNat q n, Rat.inv_divInt, Rat.divInt_mul_divInt, ← Rat.divInt_ofNat z]
  rcases h with ⟨rfl, rfl⟩ | ⟨rfl, rfl⟩
  · rw [Int.natCast_mul]
  · rw [Int.natCast_mul, Int.mul_neg, Rat.divInt_neg', Int.neg_mul]
theorem mk_sign (z : Int) (d : Nat) (hd : d ≠ 0) : ((mkRat z d).num < 0 ↔ z < 0) ∧ (0 < (mkRat z d).num ↔ 0 < z) := by
  have h1 := mk_neg (decide (z < 0)) z.natAbs d hd
  rw [← sg_of] at h1
  have h2 : (mkRat z d).num = 0 ↔ z = 0 := by rw [Rat.num_eq_zero, Rat.mkRat_eq_zero hd]
  simp only [decide_eq_true_eq] at h1
  constructor
  · rw [h1]; omega
  · constructor
    · intro h
      have : ¬ (mkRat z d).num < 0 := by omega
      have : (mkRat z d).num ≠ 0 := by omega
      omega
    · intro h
      have : ¬ (mkRat z d).num < 0 := by omega
      have : (mkRat z d).num ≠ 0 := by omega
      omega
theorem frac_cmp (p q : Int) (m n : Nat) (hm : m ≠ 0) (hn : n ≠ 0) : cmpQ (mkRat p m) (mkRat q n) = if p * n < q * m then -1 else if q * m < p * n then 1 else 0 := by
  rw [← cmp_sub, frac_sub p q m n hm hn]
  obtain ⟨h1, h2⟩ := mk_sign (p * n - q * m) (m * n) (Nat.mul_ne_zero hm hn)
  unfold cmpQ
  simp only [Rat.lt_iff]
  simp only [show (0 : Rat).num = 0 from rfl, show (0 : Rat).den = 1 from rfl, Int.zero_mul, Int.natCast_one, Int.mul_one, h1, h2]
  split <;> split <;> (try split) <;> omega
end Go.Proofs.YthokjhlbbgfplaaGreatDoor
