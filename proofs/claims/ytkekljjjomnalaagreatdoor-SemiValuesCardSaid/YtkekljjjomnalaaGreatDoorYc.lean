/- Plain facts of digit slices. -/
import Derived.Test.YtkekljjjomnalaaGreatDoorYb
set_option linter.unusedVariables false
set_option linter.unusedSimpArgs false
namespace Go.Proofs.YtkekljjjomnalaaGreatDoor
open Go.RowKit
open Go.Lib (nDigits decDigits)

theorem iv_append (a b : List Nat) : iv (a ++ b) = iv a ++ iv b := by simp [iv]
theorem iv_one (d : Nat) : iv [d] = [Value.int .i64 (d : Int)] := rfl
theorem pow_short (k u : Nat) (h : 10 ^ k ≤ u) (hu : u < 18446744073709551616) : k < 20 := by
  rcases Nat.lt_or_ge k 20 with h1 | h1
  · exact h1
  · have := Nat.pow_le_pow_right (n := 10) (by decide) h1
    have e : (10 : Nat) ^ 20 = 100000000000000000000 := by decide
    omega

end Go.Proofs.YtkekljjjomnalaaGreatDoor
