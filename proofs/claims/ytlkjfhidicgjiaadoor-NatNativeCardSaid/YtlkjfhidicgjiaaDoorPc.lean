/- Plain: the quotient of two words by one, half a word at a time (the way of math/bits.Div64). -/
import Derived.Test.YtlkjfhidicgjiaaDoorPb
set_option linter.unusedVariables false
namespace Go.Proofs.YtlkjfhidicgjiaaDoor

/-- One digit of the quotient: what the loop keeps. β U + m1 is divided by Y = β c + d. -/
structure DInv (U m1 c Y a r : Nat) : Prop where
  eq : c * a + r = U
  ge : (4294967296 * U + m1) / Y ≤ a
  le : a ≤ 4294967297

section
variable {U m1 c d Y a r : Nat}

theorem dinv_mul (h : DInv U m1 c Y a r) (hY : Y = 4294967296 * c + d) : Y * a + 4294967296 * r = 4294967296 * U + d * a := by
  have := h.eq
  rw [hY, ← this, Nat.add_mul, Nat.mul_assoc, Nat.mul_add]
  omega
theorem DInv.start (hY : Y = 4294967296 * c + d) (hc : 2147483648 ≤ c) (hd : d < 4294967296) (hm : m1 < 4294967296) (hU : U < Y) : DInv U m1 c Y (U / c) (U - c * (U / c)) := by
  have hdm := Nat.div_add_mod U c
  have hlt := Nat.mod_lt U (show c > 0 by omega)
  refine ⟨by omega, ?_, ?_⟩
  · apply Nat.le_of_lt_succ
    rw [Nat.div_lt_iff_lt_mul (by omega)]
    show 4294967296 * U + m1 < (U / c + 1) * Y
    rw [Nat.add_mul, Nat.one_mul, Nat.mul_comm (U / c) Y]
    have e : Y * (U / c) = 4294967296 * (c * (U / c)) + d * (U / c) := by rw [hY, Nat.add_mul, Nat.mul_assoc]
    rw [e]
    omega
  · apply Nat.le_of_lt_succ
    rw [Nat.div_lt_iff_lt_mul (by omega)]
    omega
theorem DInv.rest_lt (hc : 2147483648 ≤ c) : U - c * (U / c) < c := by
  have hdm := Nat.div_add_mod U c
  have hlt := Nat.mod_lt U (show c > 0 by omega)
  omega
/-- The test says that the digit is too great. -/
theorem DInv.down (h : DInv U m1 c Y a r) (hY : Y = 4294967296 * c + d) (hc : 2147483648 ≤ c) (hd : d < 4294967296) (hm : m1 < 4294967296) (hU : U < Y)
    (ht : 4294967296 ≤ a ∨ 4294967296 * r + m1 < d * a) : 1 ≤ a ∧ DInv U m1 c Y (a - 1) (r + c) := by
  have hq : (4294967296 * U + m1) / Y < a := by
    have hmul := dinv_mul h hY
    rw [Nat.div_lt_iff_lt_mul (by omega), Nat.mul_comm a Y]
    rcases ht with ht | ht
    · have h1 : 4294967296 * Y ≤ a * Y := Nat.mul_le_mul_right Y ht
      rw [Nat.mul_comm a Y] at h1
      refine Nat.lt_of_lt_of_le ?_ h1
      clear h1 hmul ht h
      omega
    · clear hY hU hc hd h
      omega
  have ha : 1 ≤ a := Nat.lt_of_le_of_lt (Nat.zero_le _) hq
  refine ⟨ha, ?_, Nat.le_sub_one_of_lt hq, by have := h.le; omega⟩
  have := h.eq
  have e : c * a = c * (a - 1) + c := by rw [← Nat.mul_succ]; congr 1; omega
  omega
/-- The test says that it is right. -/
theorem DInv.done (h : DInv U m1 c Y a r) (hY : Y = 4294967296 * c + d) (hc : 2147483648 ≤ c) (ht : d * a ≤ 4294967296 * r + m1) :
    a = (4294967296 * U + m1) / Y := by
  have h2 : a ≤ (4294967296 * U + m1) / Y := by
    have hmul := dinv_mul h hY
    rw [Nat.le_div_iff_mul_le (by omega), Nat.mul_comm a Y]
    clear hY hc h
    omega
  exact Nat.le_antisymm h2 h.ge
theorem DInv.prod (h : DInv U m1 c Y a r) (hd : d < 4294967296) : d * a ≤ 18446744073709551615 := by
  have : d * a ≤ 4294967295 * 4294967297 := Nat.mul_le_mul (by omega) h.le
  omega
/-- The rest has left its half word: it is right. -/
theorem DInv.out (h : DInv U m1 c Y a r) (hY : Y = 4294967296 * c + d) (hc : 2147483648 ≤ c) (hd : d < 4294967296) (ha : a ≤ 4294967296) (hr : 4294967296 ≤ r) :
    a = (4294967296 * U + m1) / Y := by
  refine h.done hY hc ?_
  have : d * a ≤ 4294967295 * 4294967296 := Nat.mul_le_mul (by omega) ha
  omega
end

theorem pow_split (s : Nat) (hs : s ≤ 63) : (2 : Nat) ^ 64 = 2 ^ s * 2 ^ (64 - s) := by rw [← Nat.pow_add]; congr 1; omega

/-- The two words, shifted. -/
theorem d64_shift (hi lo y s : Nat) (hs : s ≤ 63) (h2 : hi < y) (hlo : lo < 18446744073709551616) (hY : y * 2 ^ s < 18446744073709551616) :
    hi * 2 ^ s < y * 2 ^ s ∧ lo / 2 ^ (64 - s) < 2 ^ s ∧ (hi * 2 ^ s) ||| (lo / 2 ^ (64 - s)) = hi * 2 ^ s + lo / 2 ^ (64 - s) ∧ hi * 2 ^ s + lo / 2 ^ (64 - s) < y * 2 ^ s ∧
    (18446744073709551616 * hi + lo) * 2 ^ s = 18446744073709551616 * (hi * 2 ^ s + lo / 2 ^ (64 - s)) + lo * 2 ^ s % 18446744073709551616 := by
  have hp : 0 < 2 ^ s := Nat.two_pow_pos s
  have e64 : (18446744073709551616 : Nat) = 2 ^ s * 2 ^ (64 - s) := pow_split s hs
  have a2 : lo / 2 ^ (64 - s) < 2 ^ s := by rw [Nat.div_lt_iff_lt_mul (Nat.two_pow_pos _), ← e64]; exact hlo
  have a1 : hi * 2 ^ s + 2 ^ s ≤ y * 2 ^ s := by rw [← Nat.succ_mul]; exact Nat.mul_le_mul_right _ h2
  refine ⟨by omega, a2, ?_, by omega, ?_⟩
  · rw [Nat.mul_comm hi, Nat.two_pow_add_eq_or_of_lt a2]
  · have e : lo * 2 ^ s / 18446744073709551616 = lo / 2 ^ (64 - s) := by
      rw [e64, Nat.mul_comm lo, Nat.mul_div_mul_left _ _ hp]
    have h3 := Nat.div_add_mod (lo * 2 ^ s) 18446744073709551616
    rw [e] at h3
    rw [Nat.add_mul, Nat.mul_add, Nat.add_assoc, h3, Nat.mul_assoc]

/-- The two digits make up the quotient. -/
theorem d64_quot (U m1 m0 Y : Nat) (hY : 0 < Y) :
    (18446744073709551616 * U + (4294967296 * m1 + m0)) / Y = 4294967296 * ((4294967296 * U + m1) / Y) + (4294967296 * ((4294967296 * U + m1) % Y) + m0) / Y := by
  have h1 := Nat.div_add_mod (4294967296 * U + m1) Y
  have e : 18446744073709551616 * U + (4294967296 * m1 + m0) = Y * (4294967296 * ((4294967296 * U + m1) / Y)) + (4294967296 * ((4294967296 * U + m1) % Y) + m0) := by
    have h2 : Y * (4294967296 * ((4294967296 * U + m1) / Y)) = 4294967296 * (Y * ((4294967296 * U + m1) / Y)) := by rw [← Nat.mul_assoc, Nat.mul_comm Y, Nat.mul_assoc]
    rw [h2]
    omega
  rw [e, Nat.add_comm, Nat.add_mul_div_left _ _ hY, Nat.add_comm]
theorem d64_digit (U m Y : Nat) (hY : 0 < Y) (hU : U < Y) (hm : m < 4294967296) : (4294967296 * U + m) / Y < 4294967296 := by
  rw [Nat.div_lt_iff_lt_mul hY]
  omega
end Go.Proofs.YtlkjfhidicgjiaaDoor
