/- Plain: the guessed block of a quotient is right, or one too great. -/
import Derived.Test.YtlkjfhidicgjiaaDoorPb
set_option linter.unusedVariables false
namespace Go.Proofs.YtlkjfhidicgjiaaDoor

def bAt (xs : List Nat) (i : Int) : Nat := if i < 0 then 0 else xs.getD i.toNat 0

structure GuessOk (xs ys : List Nat) (N Y2 : Nat) : Prop where
  lo : vl 1000000000 xs / vl 1000000000 ys ≤ N / Y2
  hi : N / Y2 ≤ vl 1000000000 xs / vl 1000000000 ys + 1
  le : N / Y2 ≤ 1000000000
  lt : N < 1000000001 * Y2
  ge : 1000000000 ≤ Y2

theorem guess_ok (xs ys : List Nat) (m : Nat) (hm : ys.length = m + 1) (hl : xs.length = m + 2) (hx : ∀ x ∈ xs, x < 1000000000) (hy : ∀ y ∈ ys, y < 1000000000) (hyt : topOk ys)
    (hlt : vl 1000000000 xs < 1000000000 * vl 1000000000 ys) :
    GuessOk xs ys (1000000000 * (1000000000 * xs.getD (m + 1) 0 + xs.getD m 0) + bAt xs ((m : Int) - 1)) (1000000000 * ys.getD m 0 + bAt ys ((m : Int) - 1)) := by
  have hy0 : ys.getD m 0 ≠ 0 := by
    have := hyt (by intro e; rw [e] at hm; simp at hm)
    rw [List.getLast_eq_getElem] at this
    rw [List.getD_eq_getElem?_getD, List.getElem?_eq_getElem (by omega)]
    simp only [Option.getD_some]
    have e : ys.length - 1 = m := by omega
    simp only [e] at this
    exact this
  have hxs := vl_take_succ 1000000000 xs (m + 1)
  rw [List.take_of_length_le (by omega), vl_take_succ] at hxs
  have hys := vl_take_succ 1000000000 ys m
  rw [List.take_of_length_le (by omega)] at hys
  cases m with
  | zero =>
    simp only [List.take_zero, vl, Nat.zero_add, Nat.pow_zero, Nat.one_mul, Nat.pow_one] at hxs hys
    have e1 : bAt xs (((0 : Nat) : Int) - 1) = 0 := by unfold bAt; rw [if_pos (by omega)]
    have e2 : bAt ys (((0 : Nat) : Int) - 1) = 0 := by unfold bAt; rw [if_pos (by omega)]
    rw [e1, e2]
    simp only [Nat.add_zero, Nat.zero_add] at *
    have hN : 1000000000 * xs.getD 1 0 + xs.getD 0 0 = vl 1000000000 xs := by omega
    rw [hN, ← hys]
    have ed : 1000000000 * vl 1000000000 xs / (1000000000 * vl 1000000000 ys) = vl 1000000000 xs / vl 1000000000 ys := Nat.mul_div_mul_left _ _ (by decide)
    have hq : vl 1000000000 xs / vl 1000000000 ys < 1000000000 := by rw [Nat.div_lt_iff_lt_mul (by omega)]; exact hlt
    refine ⟨by rw [ed]; exact Nat.le_refl _, by rw [ed]; omega, by rw [ed]; omega, by omega, by omega⟩
  | succ k =>
    have e1 : bAt xs (((k + 1 : Nat) : Int) - 1) = xs.getD k 0 := by unfold bAt; rw [if_neg (by omega)]; congr 1; omega
    have e2 : bAt ys (((k + 1 : Nat) : Int) - 1) = ys.getD k 0 := by unfold bAt; rw [if_neg (by omega)]; congr 1; omega
    rw [e1, e2]
    rw [vl_take_succ] at hxs hys
    have hp := vl_lt 1000000000 (xs.take k) (fun x h => hx x (List.mem_of_mem_take h))
    have hp2 := vl_lt 1000000000 (ys.take k) (fun x h => hy x (List.mem_of_mem_take h))
    rw [List.length_take, Nat.min_eq_left (by omega)] at hp hp2
    have p1 : (1000000000 : Nat) ^ (k + 1) = 1000000000 * 1000000000 ^ k := by rw [Nat.pow_succ, Nat.mul_comm]
    have p2 : (1000000000 : Nat) ^ (k + 1 + 1) = 1000000000 * (1000000000 * 1000000000 ^ k) := by rw [Nat.pow_succ, Nat.mul_comm, p1]
    rw [p1, p2] at hxs
    rw [p1] at hys
    have hS : 0 < (1000000000 : Nat) ^ k := Nat.pow_pos (by decide)
    generalize (1000000000 : Nat) ^ k = S at *
    generalize xs.getD (k + 1 + 1) 0 = x1 at *
    generalize xs.getD (k + 1) 0 = x2 at *
    generalize xs.getD k 0 = x3 at *
    generalize ys.getD (k + 1) 0 = y1 at *
    have hy2 : ys.getD k 0 < 1000000000 := getD_mem_lt _ (by decide) ys hy k
    generalize ys.getD k 0 = y2 at *
    generalize vl 1000000000 (xs.take k) = p at *
    generalize vl 1000000000 (ys.take k) = p' at *
    have eN : S * (1000000000 * (1000000000 * x1 + x2) + x3) = 1000000000 * (1000000000 * S) * x1 + 1000000000 * S * x2 + S * x3 := by
      simp only [Nat.mul_add]
      congr 1
      · congr 1
        · rw [← Nat.mul_assoc, Nat.mul_comm S 1000000000, ← Nat.mul_assoc, Nat.mul_assoc 1000000000 S, Nat.mul_comm S 1000000000]
        · rw [← Nat.mul_assoc, Nat.mul_comm S]
    have eY : S * (1000000000 * y1 + y2) = 1000000000 * S * y1 + S * y2 := by
      rw [Nat.mul_add, ← Nat.mul_assoc, Nat.mul_comm S]
    have hX : vl 1000000000 xs = p + S * (1000000000 * (1000000000 * x1 + x2) + x3) := by rw [eN]; omega
    have hY : vl 1000000000 ys = p' + S * (1000000000 * y1 + y2) := by rw [eY]; omega
    have hYb : 1000000000 ≤ 1000000000 * y1 + y2 := by omega
    clear hxs hys eN eY p1 p2 e1 e2 hy0
    rw [hX, hY] at hlt
    generalize 1000000000 * (1000000000 * x1 + x2) + x3 = N at *
    generalize 1000000000 * y1 + y2 = Y at *
    have hSY : S * 1 ≤ S * Y := Nat.mul_le_mul_left _ (by omega)
    -- N < 1000000001 Y
    have hNY : N < 1000000001 * Y := by
      have h1 : S * N < S * (1000000000 * (Y + 1)) := by
        have : S * (1000000000 * (Y + 1)) = 1000000000 * (S * Y + S) := by rw [← Nat.mul_assoc, Nat.mul_comm S 1000000000, Nat.mul_assoc, Nat.mul_add, Nat.mul_one]
        rw [this]
        omega
      have h2 := Nat.lt_of_mul_lt_mul_left h1
      omega
    have hQ : N / Y ≤ 1000000000 := by
      apply Nat.le_of_lt_succ
      rw [Nat.div_lt_iff_lt_mul (by omega)]
      exact hNY
    refine ⟨?_, ?_, hQ, hNY, hYb⟩
    · rw [hX, hY, Nat.le_div_iff_mul_le (by omega)]
      have h1 := Nat.div_mul_le_self (p + S * N) (p' + S * Y)
      generalize (p + S * N) / (p' + S * Y) = q at *
      have h2 : S * (q * Y) ≤ q * (p' + S * Y) := by
        rw [Nat.mul_add]
        have : q * (S * Y) = S * (q * Y) := by rw [← Nat.mul_assoc, Nat.mul_comm q S, Nat.mul_assoc]
        omega
      have h3 : S * (q * Y) < S * (N + 1) := by rw [Nat.mul_add, Nat.mul_one]; omega
      have h4 := Nat.lt_of_mul_lt_mul_left h3
      omega
    · have h1 := Nat.div_mul_le_self N Y
      generalize N / Y = q at *
      rcases Nat.eq_zero_or_pos q with rfl | hq
      · exact Nat.zero_le _
      obtain ⟨t, rfl⟩ : ∃ t, q = t + 1 := ⟨q - 1, by omega⟩
      apply Nat.succ_le_succ
      rw [hX, hY, Nat.le_div_iff_mul_le (by omega)]
      have h2 : S * ((t + 1) * Y) ≤ S * N := Nat.mul_le_mul_left _ h1
      rw [Nat.add_mul, Nat.one_mul, Nat.mul_add] at h2
      have h3 : t * (p' + S * Y) = t * p' + S * (t * Y) := by
        rw [Nat.mul_add, ← Nat.mul_assoc, Nat.mul_comm t S, Nat.mul_assoc]
      have h4 : t * p' ≤ Y * S := Nat.mul_le_mul (by omega) (by omega)
      rw [Nat.mul_comm Y S] at h4
      rw [h3]
      omega
end Go.Proofs.YtlkjfhidicgjiaaDoor
