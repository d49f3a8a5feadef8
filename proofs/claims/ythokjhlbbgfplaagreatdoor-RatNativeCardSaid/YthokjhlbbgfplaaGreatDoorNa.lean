/- decimal: an integer written. -/
import Derived.Test.YthokjhlbbgfplaaGreatDoorZb
set_option linter.unusedVariables false
set_option linter.unusedSimpArgs false
namespace Go.Proofs.YthokjhlbbgfplaaGreatDoor
open Go.RowKit
open Go.Lib (nDigits decDigits)

theorem dec_step (m : Nat) : (m / 10 = 0 → decDigits m = [UInt8.ofNat (48 + m % 10)]) ∧ (m / 10 ≠ 0 → decDigits m = decDigits (m / 10) ++ [UInt8.ofNat (48 + m % 10)]) := by
  constructor
  · intro h
    rw [Lib.decDigits_one (by omega)]
    rw [show m % 10 = m by omega]
  · intro h
    conv => lhs; rw [decDigits, dif_neg (by omega)]
theorem back_list' (s : ByteArray) : (⟨s.data.toList.toArray⟩ : ByteArray) = s := by
  apply ByteArray.ext
  apply Array.ext'
  simp
/-- The integer's text. -/
def intS (neg : Bool) (m : Nat) : ByteArray := if neg && !decide (m = 0) then ⟨#[45]⟩ ++ decS m else decS m

theorem conv_one (W : World) (g : Nat) (c : UInt8) (z : Int) (hz : z = (c.toNat : Int)) (h : W.cell? ⟨g, 0, none⟩ = some (.int .u8 z)) :
    (convert 65 9 (.slice (some ⟨g, 0, none⟩) 1 1)).run Tryz.prog W = .ok (.string ⟨#[c]⟩) W := by
  subst hz
  refine run_convert_bytes_back W 65 9 5 ⟨g, 0, none⟩ 1 [c] Tryz.underlying65 Tryz.underlying5 Tryz.underlying9 (fun j hj => ?_)
  have : j = 0 := by simp at hj; omega
  subst this
  exact h
theorem dig_toNat (m : Nat) : ((UInt8.ofNat (48 + m % 10)).toNat : Int) = 48 + (m : Int) % 10 := by
  rw [UInt8.toNat_ofNat']
  omega
theorem cons_back (c : UInt8) (S : ByteArray) : (⟨#[c]⟩ ++ S : ByteArray).data.toList = c :: S.data.toList := by rw [cat_list]; rfl
theorem dec_of (S : ByteArray) (N : Nat) (h : decDigits N = S.data.toList) : S = decS N := by
  unfold decS
  rw [h]

set_option maxRecDepth 100000 in
set_option maxHeartbeats 2000000 in
theorem decimal_plus (N : Nat) (w : World) (hN : N < 9223372036854775807) :
    Calls Tryz.prog 55 #[.int .i64 N] w (ValPost (.string (decS N)) w) := by
  have hd20 : nDigits N ≤ 20 := nDigits_le N 20 (by omega) (by omega)
  go_enter Tryz.func55, Tryz.ntmps55
  go_wp2
  go_loopw [0, 3] (fun n s wr => ∃ (m : Nat) (S : ByteArray), n = .int .i64 m ∧ s = .string S ∧ m ≤ N ∧ S.size ≤ 20 ∧ decDigits N = decDigits m ++ S.data.toList ∧ w.grownBy wr none) (fun n _ _ => (intOf n).toNat)
  case atStart => exact ⟨N, ⟨#[]⟩, rfl, rfl, Nat.le_refl _, by decide, by simp, grown_refl _ _⟩
  case round =>
    obtain ⟨m, S, rfl, rfl, hm, hS, hdec, hg⟩ := hrel
    have hlen := congrArg List.length hdec
    rw [List.length_append, Lib.decDigits_length, Lib.decDigits_length, ← Lib.size_eq] at hlen
    have hp := Lib.nDigits_pos m
    obtain ⟨d1, d2⟩ := dec_step m
    have hcv := conv_one (wr.alloc (.cells #[.int .u8 (48 + (m : Int) % 10)] 5)) wr.heap.size (UInt8.ofNat (48 + m % 10)) (48 + (m : Int) % 10) (dig_toNat m).symm (by rw [cell_of_row _ _ _ _ _ (0, 0) (new_block _ _)]; rfl)
    obtain ⟨c, hc⟩ : ∃ c, UInt8.ofNat (48 + m % 10) = c := ⟨_, rfl⟩
    rw [hc] at d1 d2 hcv
    obtain ⟨C, hC⟩ : ∃ C : ByteArray, (⟨#[c]⟩ : ByteArray) = C := ⟨_, rfl⟩
    rw [hC] at hcv
    have hC1 : C.size = 1 := by rw [← hC]; rfl
    have hcat : (C ++ S).data.toList = c :: S.data.toList := by rw [← hC]; exact cons_back c S
    have HG := Lib.hid (grown_trans hg (World.grownBy_alloc wr (.cells #[.int .u8 (48 + (m : Int) % 10)] 5) none)); have HDEC := Lib.hid hdec; have HC := Lib.hid hcat
    have hq : (m : Int) / 10 = ((m / 10 : Nat) : Int) := (Int.natCast_ediv m 10).symm
    have D1 := Lib.hid d1; have D2 := Lib.hid d2
    have hS20 : S.size + 1 ≤ 20 := by omega
    clear hg hdec hlen d1 d2 hC hcat hc hp hd20
    by_cases h0 : m / 10 = 0
    · have hq2 : (m : Int) / 10 = 0 := by omega
      have HF := Lib.hid (dec_of (C ++ S) N (by rw [HDEC.out, D1.out h0, HC.out]; rfl))
      clear hq h0
      go_wp2
      go_ret
      exact ⟨by rw [← HF.out]; rfl, HG.out⟩
    · have hq2 : ((m : Int) / 10 == 0) = false := by rw [hq]; simp; omega
      have hq3 : ¬ (m : Int) / 10 = 0 := by omega
      have HN := Lib.hid (show decDigits N = decDigits (m / 10) ++ (C ++ S).data.toList by rw [HDEC.out, D2.out h0, HC.out, List.append_assoc]; rfl)
      have HQ := Lib.hid hq
      have H0 := Lib.hid h0
      clear hq h0
      go_wp2
      go_roundw
      case rel => exact ⟨m / 10, C ++ S, by rw [HQ.out], rfl, by omega, by rw [ByteArray.size_append]; omega, HN.out, HG.out⟩
      case measure => have := H0.out; simp [intOf]; omega
end Go.Proofs.YthokjhlbbgfplaaGreatDoor
