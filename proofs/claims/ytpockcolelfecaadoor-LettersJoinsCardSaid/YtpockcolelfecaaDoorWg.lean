/- The reference's Valid, Control, within, digit, latin; the program's isControl; the law's digit. -/
import Derived.Test.YtpockcolelfecaaDoorWf
set_option linter.unusedVariables false
set_option linter.unusedSimpArgs false
namespace Go.Proofs.YtpockcolelfecaaDoor
open Go.RowKit

def vrS (s : ByteArray) : Bool := decide (0 < (ptN s 0).2 ∧ (ptN s 0).2 = s.size)

set_option maxHeartbeats 400000 in
theorem rvalid_any (s : ByteArray) (w : World) (hs : s.size ≤ 9223372036854775800) :
    Calls Tryd.prog 21 #[.string s] w fun e w' => e = .returned (.bool (vrS s)) ∧ w = w' := by
  have hc := fun w => point_any s 0 w hs
  obtain ⟨V, hV⟩ : ∃ V, vrS s = V := ⟨_, rfl⟩
  have hV2 := hV
  unfold vrS at hV2
  have HV := Lib.hid hV; have HV2 := Lib.hid hV2; clear hV hV2
  generalize (ptN s 0).1 = p at *
  generalize (ptN s 0).2 = n at *
  by_cases h1 : 0 < n
  · have f1 : decide ((0 : Int) < (n : Int)) = true := by simp; omega
    by_cases h2 : n = s.size
    · have f2 : ((n : Int) == (s.size : Int)) = true := by simp; omega
      have H1 := Lib.hid h1; have H2 := Lib.hid h2; clear h1 h2
      go_enter Tryd.func21, Tryd.ntmps21
      go_wp2_with (go_at_call 46; refine (hc _).mono ?_; rintro e w' ⟨rfl, rfl⟩)
      go_ret
      exact ⟨ret_bool (by rw [HV.out, ← HV2.out]; simp [H1.out, H2.out.symm]), rfl⟩
    · have f2 : ((n : Int) == (s.size : Int)) = false := by simp; omega
      have H1 := Lib.hid h1; have H2 := Lib.hid h2; clear h1 h2
      go_enter Tryd.func21, Tryd.ntmps21
      go_wp2_with (go_at_call 46; refine (hc _).mono ?_; rintro e w' ⟨rfl, rfl⟩)
      go_ret
      exact ⟨ret_bool (by rw [HV.out, ← HV2.out]; simp [H1.out, H2.out]), rfl⟩
  · have f1 : decide ((0 : Int) < (n : Int)) = false := by simp; omega
    have H1 := Lib.hid h1; clear h1
    go_enter Tryd.func21, Tryd.ntmps21
    go_wp2_with (go_at_call 46; refine (hc _).mono ?_; rintro e w' ⟨rfl, rfl⟩)
    go_ret
    exact ⟨ret_bool (by rw [HV.out, ← HV2.out]; simp [H1.out]), rfl⟩

def ctlS (s : ByteArray) : Bool := decide (0 < (ptN s 0).2 ∧ ((ptN s 0).1 < 32 ∨ (ptN s 0).1 = 127))

set_option maxHeartbeats 400000 in
theorem control_any (s : ByteArray) (w : World) (hs : s.size ≤ 9223372036854775800) :
    Calls Tryd.prog 63 #[.string s] w fun e w' => e = .returned (.bool (ctlS s)) ∧ w = w' := by
  have hc := fun w => point_any s 0 w hs
  obtain ⟨V, hV⟩ : ∃ V, ctlS s = V := ⟨_, rfl⟩
  have hV2 := hV
  unfold ctlS at hV2
  have HV := Lib.hid hV; have HV2 := Lib.hid hV2; clear hV hV2
  generalize (ptN s 0).1 = p at *
  generalize (ptN s 0).2 = n at *
  by_cases h1 : 0 < n
  · have f1 : decide ((0 : Int) < (n : Int)) = true := by simp; omega
    by_cases h2 : p < 32
    · have f2 : decide ((p : Int) < 32) = true := by simp; omega
      have H1 := Lib.hid h1; have H2 := Lib.hid h2; clear h1 h2
      go_enter Tryd.func63, Tryd.ntmps63
      go_wp2_with (go_at_call 46; refine (hc _).mono ?_; rintro e w' ⟨rfl, rfl⟩)
      go_ret
      exact ⟨ret_bool (by rw [HV.out, ← HV2.out]; simp [H1.out, H2.out]), rfl⟩
    · have f2 : decide ((p : Int) < 32) = false := by simp; omega
      obtain ⟨B, hB⟩ : ∃ B, ((p : Int) == 127) = B := ⟨_, rfl⟩
      have hB2 : decide (p = 127) = B := by rw [← hB, Bool.eq_iff_iff]; simp; omega
      have H1 := Lib.hid h1; have H2 := Lib.hid h2; have H3 := Lib.hid hB2; clear h1 h2 hB2
      cases B
      all_goals
        go_enter Tryd.func63, Tryd.ntmps63
        go_wp2_with (go_at_call 46; refine (hc _).mono ?_; rintro e w' ⟨rfl, rfl⟩)
        go_ret
        exact ⟨ret_bool (by rw [HV.out, ← HV2.out]; simp [H1.out, H2.out]; simpa using H3.out), rfl⟩
  · have f1 : decide ((0 : Int) < (n : Int)) = false := by simp; omega
    have H1 := Lib.hid h1; clear h1
    go_enter Tryd.func63, Tryd.ntmps63
    go_wp2_with (go_at_call 46; refine (hc _).mono ?_; rintro e w' ⟨rfl, rfl⟩)
    go_ret
    exact ⟨ret_bool (by rw [HV.out, ← HV2.out]; simp [H1.out]), rfl⟩

set_option maxHeartbeats 400000 in
theorem isControl_any (r : Int) (w : World) :
    Calls Tryd.prog 37 #[.int .i32 r] w fun e w' => e = .returned (.bool (decide (r < 32 ∨ r = 127))) ∧ w = w' := by
  by_cases h : r < 32
  · have f1 : decide (r < 32) = true := by simpa using h
    go_enter Tryd.func37, Tryd.ntmps37
    go_wp2
    go_ret
    exact ⟨ret_bool (by simp [h]), rfl⟩
  · have f1 : decide (r < 32) = false := by simpa using h
    obtain ⟨B, hB⟩ : ∃ B, (r == 127) = B := ⟨_, rfl⟩
    have hB2 : decide (r < 32 ∨ r = 127) = B := by rw [← hB, Bool.eq_iff_iff]; simp; omega
    rw [hB2]
    clear hB2
    cases B
    all_goals
      go_enter Tryd.func37, Tryd.ntmps37
      go_wp2
      go_ret
      exact ⟨rfl, rfl⟩

def inR (n lo hi : Int) : Bool := decide (lo ≤ n ∧ n ≤ hi)
theorem inR_yes {n lo hi : Int} (h : lo ≤ n ∧ n ≤ hi) : inR n lo hi = true := by unfold inR; simpa using h
theorem inR_no {n lo hi : Int} (h : ¬ (lo ≤ n ∧ n ≤ hi)) : inR n lo hi = false := by unfold inR; simpa using h
set_option maxHeartbeats 400000 in
theorem within_any (n lo hi : Int) (w : World) :
    Calls Tryd.prog 47 #[.int .i64 n, .int .i64 lo, .int .i64 hi] w fun e w' => e = .returned (.bool (inR n lo hi)) ∧ w = w' := by
  by_cases h : lo ≤ n
  · have f1 : decide (lo ≤ n) = true := by simpa using h
    obtain ⟨B, hB⟩ : ∃ B, decide (n ≤ hi) = B := ⟨_, rfl⟩
    have hB2 : inR n lo hi = B := by unfold inR; rw [← hB, Bool.eq_iff_iff]; simp; omega
    rw [hB2]
    clear hB2
    cases B
    all_goals
      go_enter Tryd.func47, Tryd.ntmps47
      go_wp2
      go_ret
      exact ⟨rfl, rfl⟩
  · have f1 : decide (lo ≤ n) = false := by simpa using h
    have hB2 : inR n lo hi = false := by unfold inR; simp; omega
    rw [hB2]
    clear hB2
    go_enter Tryd.func47, Tryd.ntmps47
    go_wp2
    go_ret
    exact ⟨rfl, rfl⟩

/-- The value of a hexadecimal digit, or -1. -/
def digN (c : Int) : Int := if 48 ≤ c ∧ c ≤ 57 then c - 48 else if 97 ≤ c ∧ c ≤ 102 then c - 87 else -1

set_option maxHeartbeats 400000 in
theorem rdigit_any (c : Int) (w : World) (h0 : 0 ≤ c) (h255 : c ≤ 255) :
    Calls Tryd.prog 53 #[.int .u8 c] w fun e w' => e = .returned (.int .i64 (digN c)) ∧ w = w' := by
  by_cases h1 : 48 ≤ c ∧ c ≤ 57
  · have e : digN c = c - 48 := by unfold digN; rw [if_pos h1]
    rw [e]; clear e
    have f1 : decide (48 ≤ c) = true := by simp; omega
    have f2 : decide (c ≤ 57) = true := by simp; omega
    obtain ⟨h1, h2⟩ := h1
    go_enter Tryd.func53, Tryd.ntmps53
    go_wp2
    go_ret
    exact ⟨ret_int (by first | rfl | omega), rfl⟩
  · by_cases h2 : 97 ≤ c ∧ c ≤ 102
    · have e : digN c = c - 87 := by unfold digN; rw [if_neg h1, if_pos h2]
      rw [e]; clear e h1
      obtain ⟨h1, h2⟩ := h2
      have f1 : decide (48 ≤ c) = true := by simp; omega
      have f2 : decide (c ≤ 57) = false := by simp; omega
      have f3 : decide (97 ≤ c) = true := by simp; omega
      have f4 : decide (c ≤ 102) = true := by simp; omega
      go_enter Tryd.func53, Tryd.ntmps53
      go_wp2
      go_ret
      exact ⟨ret_int (by first | rfl | omega), rfl⟩
    · have e : digN c = -1 := by unfold digN; rw [if_neg h1, if_neg h2]
      rw [e]; clear e
      by_cases a1 : 48 ≤ c
      · by_cases a3 : 97 ≤ c
        · have f1 : decide (48 ≤ c) = true := by simp; omega
          have f2 : decide (c ≤ 57) = false := by simp; omega
          have f3 : decide (97 ≤ c) = true := by simp; omega
          have f4 : decide (c ≤ 102) = false := by simp; omega
          clear h1 h2
          go_enter Tryd.func53, Tryd.ntmps53
          go_wp2
          go_ret
          exact ⟨rfl, rfl⟩
        · have f1 : decide (48 ≤ c) = true := by simp; omega
          have f2 : decide (c ≤ 57) = false := by simp; omega
          have f3 : decide (97 ≤ c) = false := by simp; omega
          clear h1 h2
          go_enter Tryd.func53, Tryd.ntmps53
          go_wp2
          go_ret
          exact ⟨rfl, rfl⟩
      · have f1 : decide (48 ≤ c) = false := by simp; omega
        have f3 : decide (97 ≤ c) = false := by simp; omega
        clear h1 h2
        go_enter Tryd.func53, Tryd.ntmps53
        go_wp2
        go_ret
        exact ⟨rfl, rfl⟩
end Go.Proofs.YtpockcolelfecaaDoor
