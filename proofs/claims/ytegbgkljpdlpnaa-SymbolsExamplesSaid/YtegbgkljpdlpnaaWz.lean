/- The reference's at and more, at any number that is not negative. -/
import Derived.Test.YtegbgkljpdlpnaaWa
set_option linter.unusedVariables false
set_option linter.unusedSimpArgs false
namespace Go.Proofs.Ytegbgkljpdlpnaa
open Go.RowKit

theorem at_z (s : ByteArray) (z : Int) (w : World) (hz : 0 ≤ z) :
    Calls Try.prog 54 #[.string s, .int .i64 z] w fun e w' => e = .returned (.int .i64 (gb s z.toNat)) ∧ w = w' := by
  obtain ⟨n, rfl⟩ := Int.eq_ofNat_of_zero_le hz
  rw [Int.toNat_natCast]; exact at_any s n w
theorem more_z (s : ByteArray) (z : Int) (w : World) (hz : 0 ≤ z) :
    Calls Try.prog 55 #[.string s, .int .i64 z] w fun e w' => e = .returned (.bool (cont (gb s z.toNat))) ∧ w = w' := by
  obtain ⟨n, rfl⟩ := Int.eq_ofNat_of_zero_le hz
  rw [Int.toNat_natCast]; exact more_any s n w
end Go.Proofs.Ytegbgkljpdlpnaa
