/- The reference of layer 4, by contract. · The reference's Times, Star, Over, by contract. -/
import Derived.Test.YtbmonhnojkiapaaGreatDoorV10
import Derived.Test.YtbmonhnojkiapaaGreatDoorV07
import Derived.Test.YtbmonhnojkiapaaGreatDoorV01
import Derived.Test.YtbmonhnojkiapaaGreatDoorV16
set_option linter.unusedVariables false
set_option linter.unusedSimpArgs false
namespace Go.Proofs.YtbmonhnojkiapaaGreatDoor
open Go.RowKit
open Go.Lib (nDigits decDigits)

/-! ### Kind, Valid, Weight -/
def RK (k : Int) (x : Bool) : Prop := ∀ w, Calls Tryz.prog 39 #[.int .i64 k] w fun e w' => e = .returned (.bool x) ∧ w = w'
theorem rk_yes (k : Int) (h1 : 1 ≤ k) (h2 : k ≤ 3) : RK k true := fun w => by
  go_enter Tryz.func39, Tryz.ntmps39
  go_wp2
  go_ret
  exact ⟨rfl, rfl⟩
theorem rk_low (k : Int) (h1 : ¬ 1 ≤ k) : RK k false := fun w => by
  go_enter Tryz.func39, Tryz.ntmps39
  go_wp2
  go_ret
  exact ⟨rfl, rfl⟩
theorem rk_high (k : Int) (h1 : 1 ≤ k) (h2 : ¬ k ≤ 3) : RK k false := fun w => by
  go_enter Tryz.func39, Tryz.ntmps39
  go_wp2
  go_ret
  exact ⟨rfl, rfl⟩
theorem rk_kind {k : Int} (h : k = 1 ∨ k = 2 ∨ k = 3) : RK k true := rk_yes k (by omega) (by omega)
theorem rk_none {k : Int} (h : ¬ (k = 1 ∨ k = 2 ∨ k = 3)) : RK k false := by
  by_cases h1 : 1 ≤ k
  · exact rk_high k h1 (by omega)
  · exact rk_low k h1
theorem k_one (k : Int) : ((k == 1) = true ∧ (k != 1) = false ∧ k = 1) ∨ ((k == 1) = false ∧ (k != 1) = true ∧ k ≠ 1) := by
  by_cases h : k = 1
  · subst h; exact .inl ⟨rfl, rfl, rfl⟩
  · exact .inr ⟨by simpa using h, by simpa using h, h⟩
theorem flip_t {l m : List UInt8} (h : (l == m) = true) : (l != m) = false := by rw [bne, h]; rfl
theorem flip_f {l m : List UInt8} (h : (l == m) = false) : (l != m) = true := by rw [bne, h]; rfl
/-! ### Zero, One -/
set_option maxRecDepth 100000 in
set_option maxHeartbeats 1000000 in
theorem rone_none (k : Int) (K : Hid (RK k false)) (w : World) : Calls Tryz.prog 40 #[.int .i64 k] w (ValPost (.string ⟨#[]⟩) w) := by
  go_enter Tryz.func40, Tryz.ntmps40
  go_wp2_with fail
  refine (K.out _).mono ?_
  rintro e w' ⟨rfl, rfl⟩
  go_wp2
  go_ret
  exact ⟨rfl, grown_refl _ _⟩
set_option maxRecDepth 100000 in
set_option maxHeartbeats 1000000 in
theorem rone_cost (k : Int) (K : Hid (RK k true)) (k1 : (k == 1) = true) (w : World) : Calls Tryz.prog 40 #[.int .i64 k] w (ValPost (.string zeroS) w) := by
  go_enter Tryz.func40, Tryz.ntmps40
  go_wp2_with fail
  refine (K.out _).mono ?_
  rintro e w' ⟨rfl, rfl⟩
  go_wp2
  go_ret
  exact ⟨rfl, grown_refl _ _⟩
set_option maxRecDepth 100000 in
set_option maxHeartbeats 1000000 in
theorem rone_other (k : Int) (K : Hid (RK k true)) (k1 : (k == 1) = false) (w : World) : Calls Tryz.prog 40 #[.int .i64 k] w (ValPost (.string oneS) w) := by
  go_enter Tryz.func40, Tryz.ntmps40
  go_wp2_with fail
  refine (K.out _).mono ?_
  rintro e w' ⟨rfl, rfl⟩
  go_wp2
  go_ret
  exact ⟨rfl, grown_refl _ _⟩
theorem rone_any (k : Int) (w : World) : Calls Tryz.prog 40 #[.int .i64 k] w (ValPost (.string (oneT k)) w) := by
  unfold oneT
  by_cases hk : k = 1 ∨ k = 2 ∨ k = 3
  · rcases k_one k with ⟨k1, _, k2⟩ | ⟨k1, _, k2⟩
    · rw [if_pos k2]; exact rone_cost k (Lib.hid (rk_kind hk)) k1 w
    · rw [if_neg k2, if_pos (by rcases hk with h | h; exact absurd h k2; exact h)]; exact rone_other k (Lib.hid (rk_kind hk)) k1 w
  · rw [if_neg (fun h => hk (.inl h)), if_neg (fun h => hk (.inr h))]
    exact rone_none k (Lib.hid (rk_none hk)) w
/-! ### compare, Better -/
/-! ### Plus -/
end Go.Proofs.YtbmonhnojkiapaaGreatDoor
set_option linter.unusedVariables false
set_option linter.unusedSimpArgs false
namespace Go.Proofs.YtbmonhnojkiapaaGreatDoor
open Go.RowKit
open Go.Lib (nDigits decDigits)

/-! ### Star -/
/-! ### Over -/
end Go.Proofs.YtbmonhnojkiapaaGreatDoor
