/- The reference's Point, whole; its Valid, Control; within, isControl, the digits, latin. -/
import Derived.Test.YtegbgkljpdlpnaaWb
import Derived.Test.YtegbgkljpdlpnaaWc
import Derived.Test.YtegbgkljpdlpnaaWd
set_option linter.unusedVariables false
set_option linter.unusedSimpArgs false
namespace Go.Proofs.Ytegbgkljpdlpnaa
open Go.RowKit

theorem ret_int {k : IntKind} {a b : Int} (h : a = b) : Ending.returned (.int k a) = .returned (.int k b) := by rw [h]
theorem ret_bool {a b : Bool} (h : a = b) : Ending.returned (.bool a) = .returned (.bool b) := by rw [h]
theorem ret_two {x y x' y' : Int} (h : x = x') (h2 : y = y') : Ending.returned (.tuple #[.int .i64 x, .int .i64 y]) = .returned (.tuple #[.int .i64 x', .int .i64 y']) := by rw [h, h2]

set_option maxHeartbeats 400000 in
theorem pt_out (s : ByteArray) (i : Nat) (w : World) (h : ¬ i < s.size) :
    Calls Try.prog 52 #[.string s, .int .i64 i] w fun e w' => e = .returned (.tuple #[.int .i64 0, .int .i64 0]) ∧ w = w' := by
  have hc := at_z s
  go_enter Try.func52, Try.ntmps52
  go_wp2_with (first | (go_at_call 54; refine (hc _ _ ?_).mono ?_; omega; rintro e w' ⟨rfl, rfl⟩))
  go_ret2
  exact ⟨rfl, rfl⟩

theorem point_any (s : ByteArray) (i : Nat) (w : World) (hs : s.size ≤ 9223372036854775800) :
    Calls Try.prog 52 #[.string s, .int .i64 i] w fun e w' => e = .returned (.tuple #[.int .i64 (ptN s i).1, .int .i64 (ptN s i).2]) ∧ w = w' := by
  by_cases h : i < s.size
  rotate_left
  · have e : ptN s i = (0, 0) := by unfold ptN; rw [if_pos h]
    rw [e]
    exact pt_out s i w h
  have la := gb_lt s i; have lb := gb_lt s (i+1); have lc := gb_lt s (i+2); have ld := gb_lt s (i+3)
  have hp := ptN_in s i h
  have key : ∀ (x y : Int), (Calls Try.prog 52 #[.string s, .int .i64 i] w fun e w' => e = .returned (.tuple #[.int .i64 x, .int .i64 y]) ∧ w = w') → ((ptN s i).1 : Int) = x → ((ptN s i).2 : Int) = y →
      Calls Try.prog 52 #[.string s, .int .i64 i] w fun e w' => e = .returned (.tuple #[.int .i64 (ptN s i).1, .int .i64 (ptN s i).2]) ∧ w = w' := by
    intro x y hc h1 h2
    rw [h1, h2]; exact hc
  by_cases c1 : gb s i < 128
  · rw [if_pos c1] at hp
    exact key _ _ (pt_1 s i _ _ _ _ w h hs rfl rfl rfl rfl la lb lc ld c1) (by rw [hp]) (by rw [hp]; rfl)
  rw [if_neg c1] at hp
  by_cases c2 : gb s i < 192
  · rw [if_neg (by omega), if_neg (by omega), if_neg (by omega)] at hp
    exact key _ _ (pt_5 s i _ _ _ _ w h hs rfl rfl rfl rfl la lb lc ld (by omega) c2) (by rw [hp]; rfl) (by rw [hp]; rfl)
  by_cases c3 : gb s i < 224
  · by_cases m1 : cont (gb s (i+1)) = true
    · have b1 := cont_yes.1 m1
      by_cases q : 128 ≤ (gb s i - 192) * 64 + gb s (i+1) - 128
      · rw [if_pos (by omega)] at hp
        exact key _ _ (pt_2 s i _ _ _ _ w h hs rfl rfl rfl rfl la lb lc ld (by omega) c3 m1 b1.1 b1.2 (by omega)) (by rw [hp]; omega) (by rw [hp]; rfl)
      · rw [if_neg (by omega), if_neg (by omega), if_neg (by omega)] at hp
        exact key _ _ (pt_2b s i _ _ _ _ w h hs rfl rfl rfl rfl la lb lc ld (by omega) c3 m1 b1.1 b1.2 (by omega)) (by rw [hp]; rfl) (by rw [hp]; rfl)
    · have m1 : cont (gb s (i+1)) = false := by simpa using m1
      have b1 := cont_no.1 m1
      rw [if_neg (by omega), if_neg (by omega), if_neg (by omega)] at hp
      exact key _ _ (pt_2c s i _ _ _ _ w h hs rfl rfl rfl rfl la lb lc ld (by omega) c3 m1) (by rw [hp]; rfl) (by rw [hp]; rfl)
  rw [if_neg (by omega)] at hp
  by_cases c4 : gb s i < 240
  · by_cases m1 : cont (gb s (i+1)) = true
    · have b1 := cont_yes.1 m1
      by_cases m2 : cont (gb s (i+2)) = true
      · have b2 := cont_yes.1 m2
        by_cases q : 2048 ≤ (gb s i - 224) * 4096 + (gb s (i+1) - 128) * 64 + gb s (i+2) - 128
        · by_cases q1 : (gb s i - 224) * 4096 + (gb s (i+1) - 128) * 64 + gb s (i+2) - 128 < 55296
          · rw [if_pos (by omega)] at hp
            exact key _ _ (pt_3 s i _ _ _ _ w h hs rfl rfl rfl rfl la lb lc ld (by omega) c4 m1 b1.1 b1.2 m2 b2.1 b2.2 (by omega) (by omega)) (by rw [hp]; omega) (by rw [hp]; rfl)
          · by_cases q2 : 57343 < (gb s i - 224) * 4096 + (gb s (i+1) - 128) * 64 + gb s (i+2) - 128
            · rw [if_pos (by omega)] at hp
              exact key _ _ (pt_3h s i _ _ _ _ w h hs rfl rfl rfl rfl la lb lc ld (by omega) c4 m1 b1.1 b1.2 m2 b2.1 b2.2 (by omega)) (by rw [hp]; omega) (by rw [hp]; rfl)
            · rw [if_neg (by omega), if_neg (by omega)] at hp
              exact key _ _ (pt_3c s i _ _ _ _ w h hs rfl rfl rfl rfl la lb lc ld (by omega) c4 m1 b1.1 b1.2 m2 b2.1 b2.2 (by omega) (by omega)) (by rw [hp]; rfl) (by rw [hp]; rfl)
        · rw [if_neg (by omega), if_neg (by omega)] at hp
          exact key _ _ (pt_3b s i _ _ _ _ w h hs rfl rfl rfl rfl la lb lc ld (by omega) c4 m1 b1.1 b1.2 m2 b2.1 b2.2 (by omega)) (by rw [hp]; rfl) (by rw [hp]; rfl)
      · have m2 : cont (gb s (i+2)) = false := by simpa using m2
        have b2 := cont_no.1 m2
        rw [if_neg (by omega), if_neg (by omega)] at hp
        exact key _ _ (pt_3e s i _ _ _ _ w h hs rfl rfl rfl rfl la lb lc ld (by omega) c4 m1 b1.1 b1.2 m2) (by rw [hp]; rfl) (by rw [hp]; rfl)
    · have m1 : cont (gb s (i+1)) = false := by simpa using m1
      have b1 := cont_no.1 m1
      rw [if_neg (by omega), if_neg (by omega)] at hp
      exact key _ _ (pt_3d s i _ _ _ _ w h hs rfl rfl rfl rfl la lb lc ld (by omega) c4 m1) (by rw [hp]; rfl) (by rw [hp]; rfl)
  rw [if_neg (by omega)] at hp
  by_cases c5 : gb s i < 248
  rotate_left
  · rw [if_neg (by omega)] at hp
    exact key _ _ (pt_6 s i _ _ _ _ w h hs rfl rfl rfl rfl la lb lc ld (by omega)) (by rw [hp]; rfl) (by rw [hp]; rfl)
  by_cases m1 : cont (gb s (i+1)) = true
  rotate_left
  · have m1 : cont (gb s (i+1)) = false := by simpa using m1
    have b1 := cont_no.1 m1
    rw [if_neg (by omega)] at hp
    exact key _ _ (pt_4d s i _ _ _ _ w h hs rfl rfl rfl rfl la lb lc ld (by omega) c5 m1) (by rw [hp]; rfl) (by rw [hp]; rfl)
  have b1 := cont_yes.1 m1
  by_cases m2 : cont (gb s (i+2)) = true
  rotate_left
  · have m2 : cont (gb s (i+2)) = false := by simpa using m2
    have b2 := cont_no.1 m2
    rw [if_neg (by omega)] at hp
    exact key _ _ (pt_4e s i _ _ _ _ w h hs rfl rfl rfl rfl la lb lc ld (by omega) c5 m1 b1.1 b1.2 m2) (by rw [hp]; rfl) (by rw [hp]; rfl)
  have b2 := cont_yes.1 m2
  by_cases m3 : cont (gb s (i+3)) = true
  rotate_left
  · have m3 : cont (gb s (i+3)) = false := by simpa using m3
    have b3 := cont_no.1 m3
    rw [if_neg (by omega)] at hp
    exact key _ _ (pt_4f s i _ _ _ _ w h hs rfl rfl rfl rfl la lb lc ld (by omega) c5 m1 b1.1 b1.2 m2 b2.1 b2.2 m3) (by rw [hp]; rfl) (by rw [hp]; rfl)
  have b3 := cont_yes.1 m3
  by_cases q : 65536 ≤ (gb s i - 240) * 262144 + (gb s (i+1) - 128) * 4096 + (gb s (i+2) - 128) * 64 + gb s (i+3) - 128
  · by_cases q1 : (gb s i - 240) * 262144 + (gb s (i+1) - 128) * 4096 + (gb s (i+2) - 128) * 64 + gb s (i+3) - 128 ≤ 1114111
    · rw [if_pos (by omega)] at hp
      exact key _ _ (pt_4 s i _ _ _ _ w h hs rfl rfl rfl rfl la lb lc ld (by omega) c5 m1 b1.1 b1.2 m2 b2.1 b2.2 m3 b3.1 b3.2 (by omega) (by omega)) (by rw [hp]; omega) (by rw [hp]; rfl)
    · rw [if_neg (by omega)] at hp
      exact key _ _ (pt_4c s i _ _ _ _ w h hs rfl rfl rfl rfl la lb lc ld (by omega) c5 m1 b1.1 b1.2 m2 b2.1 b2.2 m3 b3.1 b3.2 (by omega)) (by rw [hp]; rfl) (by rw [hp]; rfl)
  · rw [if_neg (by omega)] at hp
    exact key _ _ (pt_4b s i _ _ _ _ w h hs rfl rfl rfl rfl la lb lc ld (by omega) c5 m1 b1.1 b1.2 m2 b2.1 b2.2 m3 b3.1 b3.2 (by omega)) (by rw [hp]; rfl) (by rw [hp]; rfl)
end Go.Proofs.Ytegbgkljpdlpnaa
