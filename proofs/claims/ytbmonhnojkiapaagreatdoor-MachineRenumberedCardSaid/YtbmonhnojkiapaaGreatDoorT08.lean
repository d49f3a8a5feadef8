/- Plain facts on numbers, and Valid by contract. -/
import Derived.Test.YtbmonhnojkiapaaGreatDoorT05
set_option linter.unusedVariables false
set_option linter.unusedSimpArgs false
namespace Go.Proofs.YtbmonhnojkiapaaGreatDoor
open Go.RowKit
open Go.Lib (nDigits)

theorem sub_back (S a b : ByteArray) (na : numB a = true) (nb : numB b = true) (nS : numB S = true) (h : nv S = nv a + nv b) : subV S b = .tuple #[.string a, .int .i64 0] := by
  unfold subV
  rw [nS, nb, h]
  simp only [Bool.and_self, if_true]
  rw [if_neg (by omega), Nat.add_sub_cancel, ← (num_is a na).1]
theorem zero_num : numB ⟨#[48]⟩ = true := by decide +kernel
theorem zero_val : nv ⟨#[48]⟩ = 0 := by decide +kernel
theorem div_back (P a b : ByteArray) (na : numB a = true) (nb : numB b = true) (nP : numB P = true) (h : nv P = nv a * nv b) (h0 : nv b ≠ 0) : divV P b = .tuple #[.string a, .string ⟨#[48]⟩, .int .i64 0] :=
  divV_lit P b a ⟨#[48]⟩ nP nb na zero_num h0 (by rw [h, Nat.mul_div_cancel _ (by omega)]) (by rw [h, Nat.mul_mod_left, zero_val])
theorem num_le {m : Nat} (a : ByteArray) (ha : numB a = true) (h : m ≤ nv a) : numB (decS m) = true := by
  rw [num_dec]
  have := (num_is a ha).2
  have := nDigits_mono h
  simp
  omega
/-- A strings fact, in both of the walk's spellings. -/
theorem str_facts (b : ByteArray) (h : numB b = true) : (b.toList == [48]) = decide (nv b = 0) ∧ (b.toList != [48]) = !decide (nv b = 0) := by
  have := zero_str b h
  exact ⟨this, by rw [bne, this]⟩
def ValOk (s : ByteArray) (b : Bool) : Prop := ∀ w, Calls Tryz.prog 178 #[.string s] w fun e w' => e = .returned (.bool b) ∧ w = w'
theorem valOk (s : ByteArray) (hs : s.size ≤ maxLen) : ValOk s (numB s) := fun w => valid_any s w hs
theorem gcd_num (a b : ByteArray) (na : numB a = true) (nb : numB b = true) : numB (decS (Nat.gcd (nv a) (nv b))) = true := by
  rcases Nat.eq_zero_or_pos (nv a) with h | h
  · rw [h, Nat.gcd_zero_left]; exact num_le b nb (Nat.le_refl _)
  · exact num_le a na (Nat.le_of_dvd h (Nat.gcd_dvd_left _ _))
theorem dec_zero : decS 0 = ⟨#[48]⟩ := by decide +kernel
theorem dec_one : decS 1 = ⟨#[49]⟩ := by decide +kernel
theorem one_num : numB ⟨#[49]⟩ = true := by decide +kernel
end Go.Proofs.YtbmonhnojkiapaaGreatDoor
