/- The reference's Valid, Control, within, digit, latin; the program's isControl; the law's digit. -/
import Derived.Test.YtegbgkljpdlpnaaWf
set_option linter.unusedVariables false
set_option linter.unusedSimpArgs false
namespace Go.Proofs.Ytegbgkljpdlpnaa
open Go.RowKit

def vrS (s : ByteArray) : Bool := decide (0 < (ptN s 0).2 ∧ (ptN s 0).2 = s.size)

set_option maxHeartbeats 400000 in
theorem rvalid_any (s : ByteArray) (w : World) (hs : s.size ≤ 9223372036854775800) :
    Calls Try.prog 50 #[.string s] w fun e w' => e = .returned (.bool (vrS s)) ∧ w = w' := by
  have hc := fun w => point_any s 0 w hs
  obtain ⟨V, hV⟩ : ∃ V, vrS s = V := ⟨_, rfl⟩
  have hV2 := hV
  unfold vrS at hV2
  have HV := Lib.hid hV; have HV2 := Lib.hid hV2; clear hV hV2
  generalize (ptN s 0).1 = p at *
  generalize (ptN s 0).2 = n at *
  by_cases h1 : 0 < n
  · have f1 : decide ((0 : Int) < (n : Int)) = true := by simp; omega
    by_cases h2 : n = s.size
    · have f2 : ((n : Int) == (s.size : Int)) = true := by simp; omega
      have H1 := Lib.hid h1; have H2 := Lib.hid h2; clear h1 h2
      go_enter Try.func50, Try.ntmps50
      go_wp2_with (go_at_call 52; refine (hc _).mono ?_; rintro e w' ⟨rfl, rfl⟩)
      go_ret
      exact ⟨ret_bool (by rw [HV.out, ← HV2.out]; simp [H1.out, H2.out.symm]), rfl⟩
    · have f2 : ((n : Int) == (s.size : Int)) = false := by simp; omega
      have H1 := Lib.hid h1; have H2 := Lib.hid h2; clear h1 h2
      go_enter Try.func50, Try.ntmps50
      go_wp2_with (go_at_call 52; refine (hc _).mono ?_; rintro e w' ⟨rfl, rfl⟩)
      go_ret
      exact ⟨ret_bool (by rw [HV.out, ← HV2.out]; simp [H1.out, H2.out]), rfl⟩
  · have f1 : decide ((0 : Int) < (n : Int)) = false := by simp; omega
    have H1 := Lib.hid h1; clear h1
    go_enter Try.func50, Try.ntmps50
    go_wp2_with (go_at_call 52; refine (hc _).mono ?_; rintro e w' ⟨rfl, rfl⟩)
    go_ret
    exact ⟨ret_bool (by rw [HV.out, ← HV2.out]; simp [H1.out]), rfl⟩

end Go.Proofs.Ytegbgkljpdlpnaa
