/- Walks of the reference's small functions: at, more, Point, Valid, within. -/
import Derived.Test.YtegbgkljpdlpnaaRows
import Derived.Test.YtegbgkljpdlpnaaPa
import Derived.WalkKit
import Derived.WalkSpells
import Derived.WalkLawsBesides
import Derived.Deep.QuietTactic
import Derived.BigQuiet
import Derived.Lib.Hide
set_option linter.unusedVariables false
set_option linter.unusedSimpArgs false
namespace Go.Proofs.Ytegbgkljpdlpnaa
open Go.RowKit

set_option maxHeartbeats 400000 in
theorem at_in (s : ByteArray) (i : Nat) (w : World) (h : i < s.size) :
    Calls Try.prog 54 #[.string s, .int .i64 i] w fun e w' => e = .returned (.int .i64 (gb s i)) ∧ w = w' := by
  have hb : (gb s i : Int) = (s[i]'h).toNat := by rw [gb_pos s i h]
  have hb2 : ((s[i]'h).toNat : Int) < 256 := by have := (s[i]'h).toNat_lt; omega
  go_enter Try.func54, Try.ntmps54
  go_wp2
  go_ret
  exact ⟨by rw [hb]; rfl, rfl⟩
set_option maxHeartbeats 400000 in
theorem at_out (s : ByteArray) (i : Nat) (w : World) (h : ¬ i < s.size) :
    Calls Try.prog 54 #[.string s, .int .i64 i] w fun e w' => e = .returned (.int .i64 (gb s i)) ∧ w = w' := by
  have hb : gb s i = 0 := gb_out s i h
  go_enter Try.func54, Try.ntmps54
  go_wp2
  go_ret
  exact ⟨by rw [hb]; rfl, rfl⟩
theorem at_any (s : ByteArray) (i : Nat) (w : World) :
    Calls Try.prog 54 #[.string s, .int .i64 i] w fun e w' => e = .returned (.int .i64 (gb s i)) ∧ w = w' := by
  by_cases h : i < s.size
  · exact at_in s i w h
  · exact at_out s i w h

/-- Does a byte continue a letter? -/
def cont (n : Nat) : Bool := decide (128 ≤ n ∧ n < 192)
theorem cont_yes {n : Nat} : cont n = true ↔ 128 ≤ n ∧ n < 192 := by unfold cont; simp
theorem cont_no {n : Nat} : cont n = false ↔ ¬ (128 ≤ n ∧ n < 192) := by unfold cont; simp

set_option maxHeartbeats 400000 in
theorem more_any (s : ByteArray) (i : Nat) (w : World) :
    Calls Try.prog 55 #[.string s, .int .i64 i] w fun e w' => e = .returned (.bool (cont (gb s i))) ∧ w = w' := by
  have hc := fun w => at_any s i w
  generalize gb s i = g at hc
  by_cases h : 128 ≤ g
  · have h0 : (128 : Int) ≤ (g : Int) := by omega
    go_enter Try.func55, Try.ntmps55
    go_wp2_with (go_at_call 54; refine (hc _).mono ?_; rintro e w' ⟨rfl, rfl⟩)
    go_ret
    exact ⟨by simp [cont, h]; omega, rfl⟩
  · have h3 : decide ((128 : Int) ≤ (g : Int)) = false := by simp; omega
    have H := Lib.hid h; clear h
    go_enter Try.func55, Try.ntmps55
    go_wp2_with (go_at_call 54; refine (hc _).mono ?_; rintro e w' ⟨rfl, rfl⟩)
    go_ret
    exact ⟨by simp [cont, H.out], rfl⟩
end Go.Proofs.Ytegbgkljpdlpnaa
