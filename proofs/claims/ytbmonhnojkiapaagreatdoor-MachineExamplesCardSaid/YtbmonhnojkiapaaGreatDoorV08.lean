/- Plain facts on numbers, and Valid by contract. -/
import Derived.Test.YtbmonhnojkiapaaGreatDoorV05
set_option linter.unusedVariables false
set_option linter.unusedSimpArgs false
namespace Go.Proofs.YtbmonhnojkiapaaGreatDoor
open Go.RowKit
open Go.Lib (nDigits)

/-- A strings fact, in both of the walk's spellings. -/
theorem str_facts (b : ByteArray) (h : numB b = true) : (b.toList == [48]) = decide (nv b = 0) ∧ (b.toList != [48]) = !decide (nv b = 0) := by
  have := zero_str b h
  exact ⟨this, by rw [bne, this]⟩
def ValOk (s : ByteArray) (b : Bool) : Prop := ∀ w, Calls Tryz.prog 178 #[.string s] w fun e w' => e = .returned (.bool b) ∧ w = w'
theorem valOk (s : ByteArray) (hs : s.size ≤ maxLen) : ValOk s (numB s) := fun w => valid_any s w hs
theorem dec_zero : decS 0 = ⟨#[48]⟩ := by decide +kernel
theorem dec_one : decS 1 = ⟨#[49]⟩ := by decide +kernel
end Go.Proofs.YtbmonhnojkiapaaGreatDoor
