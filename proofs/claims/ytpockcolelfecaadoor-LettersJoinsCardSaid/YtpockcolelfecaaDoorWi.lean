/- The walk of the reference's Class, a theorem for each way. -/
import Derived.Test.YtpockcolelfecaaDoorWg
import Derived.Test.YtpockcolelfecaaDoorPb
set_option linter.unusedVariables false
set_option linter.unusedSimpArgs false
namespace Go.Proofs.YtpockcolelfecaaDoor
open Go.RowKit

set_option maxHeartbeats 1000000 in
theorem rc_bad (s : ByteArray) (w : World) (p : Nat) (n : Int)
    (hp : ∀ w, Calls Tryd.prog 46 #[.string s, .int .i64 0] w fun e w' => e = .returned (.tuple #[.int .i64 p, .int .i64 n]) ∧ w = w')
    (hv : ∀ w, Calls Tryd.prog 21 #[.string s] w fun e w' => e = .returned (.bool false) ∧ w = w') :
    Calls Tryd.prog 25 #[.string s] w fun e w' => e = .returned (.int .i64 0) ∧ w = w' := by
  go_enter Tryd.func25, Tryd.ntmps25
  go_wp2_with (first | (go_at_call 46; refine (hp _).mono ?_; rintro e w' ⟨rfl, rfl⟩) | (go_at_call 21; refine (hv _).mono ?_; rintro e w' ⟨rfl, rfl⟩) | (go_at_call 47; refine (within_any _ _ _ _).mono ?_; rintro e w' ⟨rfl, rfl⟩))
  go_ret
  exact ⟨rfl, rfl⟩
set_option maxHeartbeats 1000000 in
theorem rc_0 (s : ByteArray) (w : World) (p : Nat) (n : Int)
    (hp : ∀ w, Calls Tryd.prog 46 #[.string s, .int .i64 0] w fun e w' => e = .returned (.tuple #[.int .i64 p, .int .i64 n]) ∧ w = w')
    (hv : ∀ w, Calls Tryd.prog 21 #[.string s] w fun e w' => e = .returned (.bool true) ∧ w = w') (f0 : inR (p : Int) 97 122 = true) :
    Calls Tryd.prog 25 #[.string s] w fun e w' => e = .returned (.int .i64 1) ∧ w = w' := by
  go_enter Tryd.func25, Tryd.ntmps25
  go_wp2_with (first | (go_at_call 46; refine (hp _).mono ?_; rintro e w' ⟨rfl, rfl⟩) | (go_at_call 21; refine (hv _).mono ?_; rintro e w' ⟨rfl, rfl⟩) | (go_at_call 47; refine (within_any _ _ _ _).mono ?_; rintro e w' ⟨rfl, rfl⟩))
  go_ret
  exact ⟨rfl, rfl⟩
set_option maxHeartbeats 1000000 in
theorem rc_1 (s : ByteArray) (w : World) (p : Nat) (n : Int)
    (hp : ∀ w, Calls Tryd.prog 46 #[.string s, .int .i64 0] w fun e w' => e = .returned (.tuple #[.int .i64 p, .int .i64 n]) ∧ w = w')
    (hv : ∀ w, Calls Tryd.prog 21 #[.string s] w fun e w' => e = .returned (.bool true) ∧ w = w') (f0 : inR (p : Int) 97 122 = false) (f1 : ((p : Int) == 181) = true) :
    Calls Tryd.prog 25 #[.string s] w fun e w' => e = .returned (.int .i64 1) ∧ w = w' := by
  go_enter Tryd.func25, Tryd.ntmps25
  go_wp2_with (first | (go_at_call 46; refine (hp _).mono ?_; rintro e w' ⟨rfl, rfl⟩) | (go_at_call 21; refine (hv _).mono ?_; rintro e w' ⟨rfl, rfl⟩) | (go_at_call 47; refine (within_any _ _ _ _).mono ?_; rintro e w' ⟨rfl, rfl⟩))
  go_ret
  exact ⟨rfl, rfl⟩
set_option maxHeartbeats 1000000 in
theorem rc_2 (s : ByteArray) (w : World) (p : Nat) (n : Int)
    (hp : ∀ w, Calls Tryd.prog 46 #[.string s, .int .i64 0] w fun e w' => e = .returned (.tuple #[.int .i64 p, .int .i64 n]) ∧ w = w')
    (hv : ∀ w, Calls Tryd.prog 21 #[.string s] w fun e w' => e = .returned (.bool true) ∧ w = w') (f0 : inR (p : Int) 97 122 = false) (f1 : ((p : Int) == 181) = false) (f2 : inR (p : Int) 223 246 = true) :
    Calls Tryd.prog 25 #[.string s] w fun e w' => e = .returned (.int .i64 1) ∧ w = w' := by
  go_enter Tryd.func25, Tryd.ntmps25
  go_wp2_with (first | (go_at_call 46; refine (hp _).mono ?_; rintro e w' ⟨rfl, rfl⟩) | (go_at_call 21; refine (hv _).mono ?_; rintro e w' ⟨rfl, rfl⟩) | (go_at_call 47; refine (within_any _ _ _ _).mono ?_; rintro e w' ⟨rfl, rfl⟩))
  go_ret
  exact ⟨rfl, rfl⟩
set_option maxHeartbeats 1000000 in
theorem rc_3 (s : ByteArray) (w : World) (p : Nat) (n : Int)
    (hp : ∀ w, Calls Tryd.prog 46 #[.string s, .int .i64 0] w fun e w' => e = .returned (.tuple #[.int .i64 p, .int .i64 n]) ∧ w = w')
    (hv : ∀ w, Calls Tryd.prog 21 #[.string s] w fun e w' => e = .returned (.bool true) ∧ w = w') (f0 : inR (p : Int) 97 122 = false) (f1 : ((p : Int) == 181) = false) (f2 : inR (p : Int) 223 246 = false) (f3 : inR (p : Int) 248 255 = true) :
    Calls Tryd.prog 25 #[.string s] w fun e w' => e = .returned (.int .i64 1) ∧ w = w' := by
  go_enter Tryd.func25, Tryd.ntmps25
  go_wp2_with (first | (go_at_call 46; refine (hp _).mono ?_; rintro e w' ⟨rfl, rfl⟩) | (go_at_call 21; refine (hv _).mono ?_; rintro e w' ⟨rfl, rfl⟩) | (go_at_call 47; refine (within_any _ _ _ _).mono ?_; rintro e w' ⟨rfl, rfl⟩))
  go_ret
  exact ⟨rfl, rfl⟩
set_option maxHeartbeats 1000000 in
theorem rc_4 (s : ByteArray) (w : World) (p : Nat) (n : Int)
    (hp : ∀ w, Calls Tryd.prog 46 #[.string s, .int .i64 0] w fun e w' => e = .returned (.tuple #[.int .i64 p, .int .i64 n]) ∧ w = w')
    (hv : ∀ w, Calls Tryd.prog 21 #[.string s] w fun e w' => e = .returned (.bool true) ∧ w = w') (f0 : inR (p : Int) 97 122 = false) (f1 : ((p : Int) == 181) = false) (f2 : inR (p : Int) 223 246 = false) (f3 : inR (p : Int) 248 255 = false) (f4 : inR (p : Int) 65 90 = true) :
    Calls Tryd.prog 25 #[.string s] w fun e w' => e = .returned (.int .i64 2) ∧ w = w' := by
  go_enter Tryd.func25, Tryd.ntmps25
  go_wp2_with (first | (go_at_call 46; refine (hp _).mono ?_; rintro e w' ⟨rfl, rfl⟩) | (go_at_call 21; refine (hv _).mono ?_; rintro e w' ⟨rfl, rfl⟩) | (go_at_call 47; refine (within_any _ _ _ _).mono ?_; rintro e w' ⟨rfl, rfl⟩))
  go_ret
  exact ⟨rfl, rfl⟩
set_option maxHeartbeats 1000000 in
theorem rc_5 (s : ByteArray) (w : World) (p : Nat) (n : Int)
    (hp : ∀ w, Calls Tryd.prog 46 #[.string s, .int .i64 0] w fun e w' => e = .returned (.tuple #[.int .i64 p, .int .i64 n]) ∧ w = w')
    (hv : ∀ w, Calls Tryd.prog 21 #[.string s] w fun e w' => e = .returned (.bool true) ∧ w = w') (f0 : inR (p : Int) 97 122 = false) (f1 : ((p : Int) == 181) = false) (f2 : inR (p : Int) 223 246 = false) (f3 : inR (p : Int) 248 255 = false) (f4 : inR (p : Int) 65 90 = false) (f5 : inR (p : Int) 192 214 = true) :
    Calls Tryd.prog 25 #[.string s] w fun e w' => e = .returned (.int .i64 2) ∧ w = w' := by
  go_enter Tryd.func25, Tryd.ntmps25
  go_wp2_with (first | (go_at_call 46; refine (hp _).mono ?_; rintro e w' ⟨rfl, rfl⟩) | (go_at_call 21; refine (hv _).mono ?_; rintro e w' ⟨rfl, rfl⟩) | (go_at_call 47; refine (within_any _ _ _ _).mono ?_; rintro e w' ⟨rfl, rfl⟩))
  go_ret
  exact ⟨rfl, rfl⟩
set_option maxHeartbeats 1000000 in
theorem rc_6 (s : ByteArray) (w : World) (p : Nat) (n : Int)
    (hp : ∀ w, Calls Tryd.prog 46 #[.string s, .int .i64 0] w fun e w' => e = .returned (.tuple #[.int .i64 p, .int .i64 n]) ∧ w = w')
    (hv : ∀ w, Calls Tryd.prog 21 #[.string s] w fun e w' => e = .returned (.bool true) ∧ w = w') (f0 : inR (p : Int) 97 122 = false) (f1 : ((p : Int) == 181) = false) (f2 : inR (p : Int) 223 246 = false) (f3 : inR (p : Int) 248 255 = false) (f4 : inR (p : Int) 65 90 = false) (f5 : inR (p : Int) 192 214 = false) (f6 : inR (p : Int) 216 222 = true) :
    Calls Tryd.prog 25 #[.string s] w fun e w' => e = .returned (.int .i64 2) ∧ w = w' := by
  go_enter Tryd.func25, Tryd.ntmps25
  go_wp2_with (first | (go_at_call 46; refine (hp _).mono ?_; rintro e w' ⟨rfl, rfl⟩) | (go_at_call 21; refine (hv _).mono ?_; rintro e w' ⟨rfl, rfl⟩) | (go_at_call 47; refine (within_any _ _ _ _).mono ?_; rintro e w' ⟨rfl, rfl⟩))
  go_ret
  exact ⟨rfl, rfl⟩
set_option maxHeartbeats 1000000 in
theorem rc_7 (s : ByteArray) (w : World) (p : Nat) (n : Int)
    (hp : ∀ w, Calls Tryd.prog 46 #[.string s, .int .i64 0] w fun e w' => e = .returned (.tuple #[.int .i64 p, .int .i64 n]) ∧ w = w')
    (hv : ∀ w, Calls Tryd.prog 21 #[.string s] w fun e w' => e = .returned (.bool true) ∧ w = w') (f0 : inR (p : Int) 97 122 = false) (f1 : ((p : Int) == 181) = false) (f2 : inR (p : Int) 223 246 = false) (f3 : inR (p : Int) 248 255 = false) (f4 : inR (p : Int) 65 90 = false) (f5 : inR (p : Int) 192 214 = false) (f6 : inR (p : Int) 216 222 = false) (f7 : inR (p : Int) 48 57 = true) :
    Calls Tryd.prog 25 #[.string s] w fun e w' => e = .returned (.int .i64 3) ∧ w = w' := by
  go_enter Tryd.func25, Tryd.ntmps25
  go_wp2_with (first | (go_at_call 46; refine (hp _).mono ?_; rintro e w' ⟨rfl, rfl⟩) | (go_at_call 21; refine (hv _).mono ?_; rintro e w' ⟨rfl, rfl⟩) | (go_at_call 47; refine (within_any _ _ _ _).mono ?_; rintro e w' ⟨rfl, rfl⟩))
  go_ret
  exact ⟨rfl, rfl⟩
set_option maxHeartbeats 1000000 in
theorem rc_8 (s : ByteArray) (w : World) (p : Nat) (n : Int)
    (hp : ∀ w, Calls Tryd.prog 46 #[.string s, .int .i64 0] w fun e w' => e = .returned (.tuple #[.int .i64 p, .int .i64 n]) ∧ w = w')
    (hv : ∀ w, Calls Tryd.prog 21 #[.string s] w fun e w' => e = .returned (.bool true) ∧ w = w') (f0 : inR (p : Int) 97 122 = false) (f1 : ((p : Int) == 181) = false) (f2 : inR (p : Int) 223 246 = false) (f3 : inR (p : Int) 248 255 = false) (f4 : inR (p : Int) 65 90 = false) (f5 : inR (p : Int) 192 214 = false) (f6 : inR (p : Int) 216 222 = false) (f7 : inR (p : Int) 48 57 = false) (f8 : inR (p : Int) 9 13 = true) :
    Calls Tryd.prog 25 #[.string s] w fun e w' => e = .returned (.int .i64 4) ∧ w = w' := by
  go_enter Tryd.func25, Tryd.ntmps25
  go_wp2_with (first | (go_at_call 46; refine (hp _).mono ?_; rintro e w' ⟨rfl, rfl⟩) | (go_at_call 21; refine (hv _).mono ?_; rintro e w' ⟨rfl, rfl⟩) | (go_at_call 47; refine (within_any _ _ _ _).mono ?_; rintro e w' ⟨rfl, rfl⟩))
  go_ret
  exact ⟨rfl, rfl⟩
set_option maxHeartbeats 1000000 in
theorem rc_9 (s : ByteArray) (w : World) (p : Nat) (n : Int)
    (hp : ∀ w, Calls Tryd.prog 46 #[.string s, .int .i64 0] w fun e w' => e = .returned (.tuple #[.int .i64 p, .int .i64 n]) ∧ w = w')
    (hv : ∀ w, Calls Tryd.prog 21 #[.string s] w fun e w' => e = .returned (.bool true) ∧ w = w') (f0 : inR (p : Int) 97 122 = false) (f1 : ((p : Int) == 181) = false) (f2 : inR (p : Int) 223 246 = false) (f3 : inR (p : Int) 248 255 = false) (f4 : inR (p : Int) 65 90 = false) (f5 : inR (p : Int) 192 214 = false) (f6 : inR (p : Int) 216 222 = false) (f7 : inR (p : Int) 48 57 = false) (f8 : inR (p : Int) 9 13 = false) (f9 : ((p : Int) == 32) = true) :
    Calls Tryd.prog 25 #[.string s] w fun e w' => e = .returned (.int .i64 4) ∧ w = w' := by
  go_enter Tryd.func25, Tryd.ntmps25
  go_wp2_with (first | (go_at_call 46; refine (hp _).mono ?_; rintro e w' ⟨rfl, rfl⟩) | (go_at_call 21; refine (hv _).mono ?_; rintro e w' ⟨rfl, rfl⟩) | (go_at_call 47; refine (within_any _ _ _ _).mono ?_; rintro e w' ⟨rfl, rfl⟩))
  go_ret
  exact ⟨rfl, rfl⟩
set_option maxHeartbeats 1000000 in
theorem rc_10 (s : ByteArray) (w : World) (p : Nat) (n : Int)
    (hp : ∀ w, Calls Tryd.prog 46 #[.string s, .int .i64 0] w fun e w' => e = .returned (.tuple #[.int .i64 p, .int .i64 n]) ∧ w = w')
    (hv : ∀ w, Calls Tryd.prog 21 #[.string s] w fun e w' => e = .returned (.bool true) ∧ w = w') (f0 : inR (p : Int) 97 122 = false) (f1 : ((p : Int) == 181) = false) (f2 : inR (p : Int) 223 246 = false) (f3 : inR (p : Int) 248 255 = false) (f4 : inR (p : Int) 65 90 = false) (f5 : inR (p : Int) 192 214 = false) (f6 : inR (p : Int) 216 222 = false) (f7 : inR (p : Int) 48 57 = false) (f8 : inR (p : Int) 9 13 = false) (f9 : ((p : Int) == 32) = false) (f10 : ((p : Int) == 160) = true) :
    Calls Tryd.prog 25 #[.string s] w fun e w' => e = .returned (.int .i64 4) ∧ w = w' := by
  go_enter Tryd.func25, Tryd.ntmps25
  go_wp2_with (first | (go_at_call 46; refine (hp _).mono ?_; rintro e w' ⟨rfl, rfl⟩) | (go_at_call 21; refine (hv _).mono ?_; rintro e w' ⟨rfl, rfl⟩) | (go_at_call 47; refine (within_any _ _ _ _).mono ?_; rintro e w' ⟨rfl, rfl⟩))
  go_ret
  exact ⟨rfl, rfl⟩
set_option maxHeartbeats 1000000 in
theorem rc_11 (s : ByteArray) (w : World) (p : Nat) (n : Int)
    (hp : ∀ w, Calls Tryd.prog 46 #[.string s, .int .i64 0] w fun e w' => e = .returned (.tuple #[.int .i64 p, .int .i64 n]) ∧ w = w')
    (hv : ∀ w, Calls Tryd.prog 21 #[.string s] w fun e w' => e = .returned (.bool true) ∧ w = w') (f0 : inR (p : Int) 97 122 = false) (f1 : ((p : Int) == 181) = false) (f2 : inR (p : Int) 223 246 = false) (f3 : inR (p : Int) 248 255 = false) (f4 : inR (p : Int) 65 90 = false) (f5 : inR (p : Int) 192 214 = false) (f6 : inR (p : Int) 216 222 = false) (f7 : inR (p : Int) 48 57 = false) (f8 : inR (p : Int) 9 13 = false) (f9 : ((p : Int) == 32) = false) (f10 : ((p : Int) == 160) = false) (f11 : inR (p : Int) 33 126 = true) :
    Calls Tryd.prog 25 #[.string s] w fun e w' => e = .returned (.int .i64 5) ∧ w = w' := by
  go_enter Tryd.func25, Tryd.ntmps25
  go_wp2_with (first | (go_at_call 46; refine (hp _).mono ?_; rintro e w' ⟨rfl, rfl⟩) | (go_at_call 21; refine (hv _).mono ?_; rintro e w' ⟨rfl, rfl⟩) | (go_at_call 47; refine (within_any _ _ _ _).mono ?_; rintro e w' ⟨rfl, rfl⟩))
  go_ret
  exact ⟨rfl, rfl⟩
set_option maxHeartbeats 1000000 in
theorem rc_12 (s : ByteArray) (w : World) (p : Nat) (n : Int)
    (hp : ∀ w, Calls Tryd.prog 46 #[.string s, .int .i64 0] w fun e w' => e = .returned (.tuple #[.int .i64 p, .int .i64 n]) ∧ w = w')
    (hv : ∀ w, Calls Tryd.prog 21 #[.string s] w fun e w' => e = .returned (.bool true) ∧ w = w') (f0 : inR (p : Int) 97 122 = false) (f1 : ((p : Int) == 181) = false) (f2 : inR (p : Int) 223 246 = false) (f3 : inR (p : Int) 248 255 = false) (f4 : inR (p : Int) 65 90 = false) (f5 : inR (p : Int) 192 214 = false) (f6 : inR (p : Int) 216 222 = false) (f7 : inR (p : Int) 48 57 = false) (f8 : inR (p : Int) 9 13 = false) (f9 : ((p : Int) == 32) = false) (f10 : ((p : Int) == 160) = false) (f11 : inR (p : Int) 33 126 = false) :
    Calls Tryd.prog 25 #[.string s] w fun e w' => e = .returned (.int .i64 6) ∧ w = w' := by
  go_enter Tryd.func25, Tryd.ntmps25
  go_wp2_with (first | (go_at_call 46; refine (hp _).mono ?_; rintro e w' ⟨rfl, rfl⟩) | (go_at_call 21; refine (hv _).mono ?_; rintro e w' ⟨rfl, rfl⟩) | (go_at_call 47; refine (within_any _ _ _ _).mono ?_; rintro e w' ⟨rfl, rfl⟩))
  go_ret
  exact ⟨rfl, rfl⟩

def clsR (s : ByteArray) : Int := if vrS s then cls ((ptN s 0).1 : Int) else 0

theorem rclass_any (s : ByteArray) (w : World) (hs : s.size ≤ 9223372036854775800) :
    Calls Tryd.prog 25 #[.string s] w fun e w' => e = .returned (.int .i64 (clsR s)) ∧ w = w' := by
  have hp := fun w => point_any s 0 w hs
  have hv := fun w => rvalid_any s w hs
  have hcl := cls_eq ((ptN s 0).1 : Int)
  unfold clsR
  generalize (ptN s 0).1 = p at *
  generalize ((ptN s 0).2 : Int) = n at *
  generalize vrS s = V at *
  cases V
  · exact rc_bad s w p n hp hv
  rw [if_pos rfl]
  by_cases g0 : 97 ≤ (p : Int) ∧ (p : Int) ≤ 122
  · rw [if_pos (by omega)] at hcl
    rw [hcl]
    exact rc_0 s w p n hp hv  (inR_yes g0)
  by_cases g1 : (p : Int) = 181
  · rw [if_pos (by omega)] at hcl
    rw [hcl]
    exact rc_1 s w p n hp hv (inR_no g0) (by simpa using g1)
  by_cases g2 : 223 ≤ (p : Int) ∧ (p : Int) ≤ 246
  · rw [if_pos (by omega)] at hcl
    rw [hcl]
    exact rc_2 s w p n hp hv (inR_no g0) (by simpa using g1) (inR_yes g2)
  by_cases g3 : 248 ≤ (p : Int) ∧ (p : Int) ≤ 255
  · rw [if_pos (by omega)] at hcl
    rw [hcl]
    exact rc_3 s w p n hp hv (inR_no g0) (by simpa using g1) (inR_no g2) (inR_yes g3)
  by_cases g4 : 65 ≤ (p : Int) ∧ (p : Int) ≤ 90
  · rw [if_neg (by omega), if_pos (by omega)] at hcl
    rw [hcl]
    exact rc_4 s w p n hp hv (inR_no g0) (by simpa using g1) (inR_no g2) (inR_no g3) (inR_yes g4)
  by_cases g5 : 192 ≤ (p : Int) ∧ (p : Int) ≤ 214
  · rw [if_neg (by omega), if_pos (by omega)] at hcl
    rw [hcl]
    exact rc_5 s w p n hp hv (inR_no g0) (by simpa using g1) (inR_no g2) (inR_no g3) (inR_no g4) (inR_yes g5)
  by_cases g6 : 216 ≤ (p : Int) ∧ (p : Int) ≤ 222
  · rw [if_neg (by omega), if_pos (by omega)] at hcl
    rw [hcl]
    exact rc_6 s w p n hp hv (inR_no g0) (by simpa using g1) (inR_no g2) (inR_no g3) (inR_no g4) (inR_no g5) (inR_yes g6)
  by_cases g7 : 48 ≤ (p : Int) ∧ (p : Int) ≤ 57
  · rw [if_neg (by omega), if_neg (by omega), if_pos (by omega)] at hcl
    rw [hcl]
    exact rc_7 s w p n hp hv (inR_no g0) (by simpa using g1) (inR_no g2) (inR_no g3) (inR_no g4) (inR_no g5) (inR_no g6) (inR_yes g7)
  by_cases g8 : 9 ≤ (p : Int) ∧ (p : Int) ≤ 13
  · rw [if_neg (by omega), if_neg (by omega), if_neg (by omega), if_pos (by omega)] at hcl
    rw [hcl]
    exact rc_8 s w p n hp hv (inR_no g0) (by simpa using g1) (inR_no g2) (inR_no g3) (inR_no g4) (inR_no g5) (inR_no g6) (inR_no g7) (inR_yes g8)
  by_cases g9 : (p : Int) = 32
  · rw [if_neg (by omega), if_neg (by omega), if_neg (by omega), if_pos (by omega)] at hcl
    rw [hcl]
    exact rc_9 s w p n hp hv (inR_no g0) (by simpa using g1) (inR_no g2) (inR_no g3) (inR_no g4) (inR_no g5) (inR_no g6) (inR_no g7) (inR_no g8) (by simpa using g9)
  by_cases g10 : (p : Int) = 160
  · rw [if_neg (by omega), if_neg (by omega), if_neg (by omega), if_pos (by omega)] at hcl
    rw [hcl]
    exact rc_10 s w p n hp hv (inR_no g0) (by simpa using g1) (inR_no g2) (inR_no g3) (inR_no g4) (inR_no g5) (inR_no g6) (inR_no g7) (inR_no g8) (by simpa using g9) (by simpa using g10)
  by_cases g11 : 33 ≤ (p : Int) ∧ (p : Int) ≤ 126
  · rw [if_neg (by omega), if_neg (by omega), if_neg (by omega), if_neg (by omega), if_pos (by omega)] at hcl
    rw [hcl]
    exact rc_11 s w p n hp hv (inR_no g0) (by simpa using g1) (inR_no g2) (inR_no g3) (inR_no g4) (inR_no g5) (inR_no g6) (inR_no g7) (inR_no g8) (by simpa using g9) (by simpa using g10) (inR_yes g11)
  rw [if_neg (by omega), if_neg (by omega), if_neg (by omega), if_neg (by omega), if_neg (by omega)] at hcl
  rw [hcl]
  exact rc_12 s w p n hp hv (inR_no g0) (by simpa using g1) (inR_no g2) (inR_no g3) (inR_no g4) (inR_no g5) (inR_no g6) (inR_no g7) (inR_no g8) (by simpa using g9) (by simpa using g10) (inR_no g11)
end Go.Proofs.YtpockcolelfecaaDoor
