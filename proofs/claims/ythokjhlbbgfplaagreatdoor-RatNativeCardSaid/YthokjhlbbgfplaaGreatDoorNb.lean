/- decimal of a negative integer; fraction. -/
import Derived.Test.YthokjhlbbgfplaaGreatDoorNa
import Derived.BigQuiet
set_option linter.unusedVariables false
set_option linter.unusedSimpArgs false
namespace Go.Proofs.YthokjhlbbgfplaaGreatDoor
open Go.RowKit
open Go.Lib (nDigits decDigits)

theorem tdiv_neg (m : Nat) : (-(m : Int)).tdiv 10 = -((m / 10 : Nat) : Int) := by
  rw [Int.neg_tdiv, Int.tdiv_eq_ediv_of_nonneg (by omega)]
  omega
theorem tmod_neg (m : Nat) : (-(m : Int)).tmod 10 = -((m % 10 : Nat) : Int) := by
  rw [Int.neg_tmod, Int.tmod_eq_emod_of_nonneg (by omega)]
  omega
set_option maxRecDepth 100000 in
set_option maxHeartbeats 2000000 in
theorem decimal_minus (N : Nat) (w : World) (hN : N < 9223372036854775807) (h0 : N ≠ 0) :
    Calls Tryz.prog 55 #[.int .i64 (-(N : Int))] w (ValPost (.string (⟨#[45]⟩ ++ decS N)) w) := by
  have hd20 : nDigits N ≤ 20 := nDigits_le N 20 (by omega) (by omega)
  have hneg : -(N : Int) < 0 := by omega
  go_enter Tryz.func55, Tryz.ntmps55
  go_wp2
  go_loopw [0, 3] (fun n s wr => ∃ (m : Nat) (S : ByteArray), n = .int .i64 (-(m : Int)) ∧ s = .string S ∧ m ≤ N ∧ S.size ≤ 20 ∧ decDigits N = decDigits m ++ S.data.toList ∧ w.grownBy wr none) (fun n _ _ => (intOf n).natAbs)
  case atStart => exact ⟨N, ⟨#[]⟩, rfl, rfl, Nat.le_refl _, by decide, by simp, grown_refl _ _⟩
  case round =>
    obtain ⟨m, S, rfl, rfl, hm, hS, hdec, hg⟩ := hrel
    have hlen := congrArg List.length hdec
    rw [List.length_append, Lib.decDigits_length, Lib.decDigits_length, ← Lib.size_eq] at hlen
    have hp := Lib.nDigits_pos m
    obtain ⟨d1, d2⟩ := dec_step m
    have e1 := tmod_neg m
    have e2 := tdiv_neg m
    have hcv := conv_one (wr.alloc (.cells #[.int .u8 (48 + (m : Int) % 10)] 5)) wr.heap.size (UInt8.ofNat (48 + m % 10)) (48 + (m : Int) % 10) (dig_toNat m).symm (by rw [cell_of_row _ _ _ _ _ (0, 0) (new_block _ _)]; rfl)
    obtain ⟨c, hc⟩ : ∃ c, UInt8.ofNat (48 + m % 10) = c := ⟨_, rfl⟩
    rw [hc] at d1 d2 hcv
    obtain ⟨C, hC⟩ : ∃ C : ByteArray, (⟨#[c]⟩ : ByteArray) = C := ⟨_, rfl⟩
    rw [hC] at hcv
    have hC1 : C.size = 1 := by rw [← hC]; rfl
    have hcat : (C ++ S).data.toList = c :: S.data.toList := by rw [← hC]; exact cons_back c S
    have HG := Lib.hid (grown_trans hg (World.grownBy_alloc wr (.cells #[.int .u8 (48 + (m : Int) % 10)] 5) none)); have HDEC := Lib.hid hdec; have HC := Lib.hid hcat
    have hq : (m : Int) / 10 = ((m / 10 : Nat) : Int) := (Int.natCast_ediv m 10).symm
    have D1 := Lib.hid d1; have D2 := Lib.hid d2
    have hS20 : S.size + 1 ≤ 20 := by omega
    clear hg hdec hlen d1 d2 hC hcat hc hp hd20
    by_cases hm0 : (m : Int) % 10 = 0
    all_goals
      by_cases h0 : m / 10 = 0
      · have hq2 : (m : Int) / 10 = 0 := by omega
        have HF := Lib.hid (dec_of (C ++ S) N (by rw [HDEC.out, D1.out h0, HC.out]; rfl))
        try rw [hm0, Int.add_zero] at hcv HG
        have hpos : (m : Int) % 10 = 0 ∨ 0 < (m : Int) % 10 := by omega
        clear hq h0
        first
          | (have hx : 0 < (m : Int) % 10 := by omega
             go_wp2
             go_ret
             exact ⟨by rw [← HF.out]; rfl, HG.out⟩)
          | (go_wp2
             go_ret
             exact ⟨by rw [← HF.out]; rfl, HG.out⟩)
      · have hq2 : ((m : Int) / 10 == 0) = false := by rw [hq]; simp; omega
        have hq3 : ¬ (m : Int) / 10 = 0 := by omega
        have HN := Lib.hid (show decDigits N = decDigits (m / 10) ++ (C ++ S).data.toList by rw [HDEC.out, D2.out h0, HC.out, List.append_assoc]; rfl)
        have HQ := Lib.hid hq
        have H0 := Lib.hid h0
        try rw [hm0, Int.add_zero] at hcv HG
        clear hq h0
        first
          | (have hx : 0 < (m : Int) % 10 := by omega
             go_wp2
             go_roundw
             case rel => exact ⟨m / 10, C ++ S, by rw [← HQ.out], rfl, by omega, by rw [ByteArray.size_append]; omega, HN.out, HG.out⟩
             case measure => have := H0.out; simp [intOf]; omega)
          | (go_wp2
             go_roundw
             case rel => exact ⟨m / 10, C ++ S, by rw [← HQ.out], rfl, by omega, by rw [ByteArray.size_append]; omega, HN.out, HG.out⟩
             case measure => have := H0.out; simp [intOf]; omega)
end Go.Proofs.YthokjhlbbgfplaaGreatDoor
