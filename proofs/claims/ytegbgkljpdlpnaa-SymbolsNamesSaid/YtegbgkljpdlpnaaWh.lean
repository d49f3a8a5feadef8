/- The program's isStray, Valid, Class, Compare; the reference's latin, Compare. -/
import Derived.Test.YtegbgkljpdlpnaaWg
import Derived.Test.YtegbgkljpdlpnaaSh
import Derived.Test.YtegbgkljpdlpnaaPd
import Derived.Laws.Strings3
set_option linter.unusedVariables false
set_option linter.unusedSimpArgs false
namespace Go.Proofs.Ytegbgkljpdlpnaa
open Go.RowKit

set_option maxHeartbeats 400000 in
theorem isStray_any (s : ByteArray) (i : Nat) (r : Int) (w : World) (hi : i ≤ s.size) (hs : s.size ≤ 9223372036854775807) :
    Calls Try.prog 48 #[.string s, .int .i64 i, .int .i32 r] w fun e w' => e = .returned (.bool (strayR s i r)) ∧ w = w' := by
  by_cases h : r = 65533
  · have f1 : (r == 65533) = true := by simpa using h
    have hp : ∀ w, Calls Try.prog 51 #[.string (s.extract i s.size), .string ⟨#[239, 191, 189]⟩] w fun e w' => e = .returned (.bool (Lib.hasPrefix (s.data.toList.drop i) isB)) ∧ w = w' := by
      intro w
      refine (Try.sh_HasPrefix _ _ w).mono ?_
      rintro e w' ⟨rfl, rfl⟩
      exact ⟨by rw [Lib.extract_to_end]; rfl, rfl⟩
    obtain ⟨B, hB⟩ : ∃ B, Lib.hasPrefix (s.data.toList.drop i) isB = B := ⟨_, rfl⟩
    have hR : strayR s i r = !B := by unfold strayR; rw [hB]; simp [h]
    rw [hR]
    rw [hB] at hp
    clear hB hR h
    cases B
    all_goals
      go_enter Try.func48, Try.ntmps48
      go_wp2_with (go_at_call 51; refine (hp _).mono ?_; rintro e w' ⟨rfl, rfl⟩)
      go_ret
      exact ⟨rfl, rfl⟩
  · have f1 : (r == 65533) = false := by simpa using h
    have hR : strayR s i r = false := by unfold strayR; simp [h]
    rw [hR]
    clear hR h
    go_enter Try.func48, Try.ntmps48
    go_wp2
    go_ret
    exact ⟨rfl, rfl⟩

end Go.Proofs.Ytegbgkljpdlpnaa
