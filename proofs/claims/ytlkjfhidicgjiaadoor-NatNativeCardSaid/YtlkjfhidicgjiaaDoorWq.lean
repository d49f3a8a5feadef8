/- The chapter's examples; long. -/
import Derived.Test.YtlkjfhidicgjiaaDoorWo
set_option linter.unusedVariables false
set_option linter.unusedSimpArgs false
namespace Go.Proofs.YtlkjfhidicgjiaaDoor
open Go.RowKit
open Go.Lib (nDigits)

theorem dec_lit (s : ByteArray) (n : Nat) (h : numB s = true) (hv : nv s = n) : decS n = s := by rw [← hv]; exact (num_is s h).1.symm
theorem addV_lit (a b c : ByteArray) (ha : numB a = true) (hb : numB b = true) (hc : numB c = true) (h : nv c = nv a + nv b) : addV a b = .tuple #[.string c, .int .i64 0] := by
  unfold addV limV
  rw [ha, hb, ← h]
  simp only [Bool.and_self, if_true]
  rw [if_pos (num_is c hc).2, ← (num_is c hc).1]
theorem mulV_lit (a b c : ByteArray) (ha : numB a = true) (hb : numB b = true) (hc : numB c = true) (h : nv c = nv a * nv b) : mulV a b = .tuple #[.string c, .int .i64 0] := by
  unfold mulV limV
  rw [ha, hb, ← h]
  simp only [Bool.and_self, if_true]
  rw [if_pos (num_is c hc).2, ← (num_is c hc).1]
theorem divV_lit (a b q r : ByteArray) (ha : numB a = true) (hb : numB b = true) (hq : numB q = true) (hr : numB r = true) (h0 : nv b ≠ 0) (h1 : nv q = nv a / nv b) (h2 : nv r = nv a % nv b) : divV a b = .tuple #[.string q, .string r, .int .i64 0] := by
  unfold divV
  rw [ha, hb, ← h1, ← h2]
  simp only [Bool.and_self, if_true]
  rw [if_neg h0, ← (num_is q hq).1, ← (num_is r hr).1]
theorem gcdV_lit (a b c : ByteArray) (ha : numB a = true) (hb : numB b = true) (hc : numB c = true) (h : nv c = Nat.gcd (nv a) (nv b)) : gcdV a b = .tuple #[.string c, .int .i64 0] := by
  unfold gcdV
  rw [ha, hb, ← h]
  simp only [Bool.and_self, if_true]
  rw [← (num_is c hc).1]
theorem subV_lt (a b : ByteArray) (ha : numB a = true) (hb : numB b = true) (h : nv a < nv b) : subV a b = .tuple #[.string ⟨#[]⟩, .int .i64 4] := by
  unfold subV
  rw [ha, hb]
  simp only [Bool.and_self, if_true]
  rw [if_pos h]
theorem lit_eq (l : List UInt8) : ((ByteArray.mk l.toArray).toList == l) = true := by
  rw [Lib.toList_data]; simp

theorem ex_add (w : World) : ∃ S : ByteArray, (S.toList == [49, 48, 48, 48]) = true ∧ ∀ w, Calls Tryd.prog 20 #[.string ⟨#[57, 57, 57]⟩, .string ⟨#[49]⟩] w (ValPost (.tuple #[.string S, .int .i64 0]) w) := by
  refine ⟨⟨#[49, 48, 48, 48]⟩, lit_eq [49, 48, 48, 48], fun w => ?_⟩
  have h := add_any ⟨#[57, 57, 57]⟩ ⟨#[49]⟩ w (by decide) (by decide)
  rw [addV_lit _ _ ⟨#[49, 48, 48, 48]⟩ (by decide +kernel) (by decide +kernel) (by decide +kernel) (by decide +kernel)] at h
  exact h
theorem ex_mul (w : World) : ∃ S : ByteArray, (S.toList == [49, 50, 49, 57, 51, 50, 54, 51, 49, 49, 51, 55, 48, 50, 49, 55, 57, 53, 50, 50, 51, 55, 52, 54, 51, 56, 48, 49, 49, 49, 49, 50, 54, 51, 53, 50, 54, 57, 48, 48]) = true ∧
    ∀ w, Calls Tryd.prog 24 #[.string ⟨#[49, 50, 51, 52, 53, 54, 55, 56, 57, 48, 49, 50, 51, 52, 53, 54, 55, 56, 57, 48]⟩, .string ⟨#[57, 56, 55, 54, 53, 52, 51, 50, 49, 48, 57, 56, 55, 54, 53, 52, 51, 50, 49, 48]⟩] w (ValPost (.tuple #[.string S, .int .i64 0]) w) := by
  refine ⟨⟨#[49, 50, 49, 57, 51, 50, 54, 51, 49, 49, 51, 55, 48, 50, 49, 55, 57, 53, 50, 50, 51, 55, 52, 54, 51, 56, 48, 49, 49, 49, 49, 50, 54, 51, 53, 50, 54, 57, 48, 48]⟩, lit_eq [49, 50, 49, 57, 51, 50, 54, 51, 49, 49, 51, 55, 48, 50, 49, 55, 57, 53, 50, 50, 51, 55, 52, 54, 51, 56, 48, 49, 49, 49, 49, 50, 54, 51, 53, 50, 54, 57, 48, 48], fun w => ?_⟩
  have h := mul_any ⟨#[49, 50, 51, 52, 53, 54, 55, 56, 57, 48, 49, 50, 51, 52, 53, 54, 55, 56, 57, 48]⟩ ⟨#[57, 56, 55, 54, 53, 52, 51, 50, 49, 48, 57, 56, 55, 54, 53, 52, 51, 50, 49, 48]⟩ w (by decide) (by decide)
  rw [mulV_lit _ _ ⟨#[49, 50, 49, 57, 51, 50, 54, 51, 49, 49, 51, 55, 48, 50, 49, 55, 57, 53, 50, 50, 51, 55, 52, 54, 51, 56, 48, 49, 49, 49, 49, 50, 54, 51, 53, 50, 54, 57, 48, 48]⟩ (by decide +kernel) (by decide +kernel) (by decide +kernel) (by decide +kernel)] at h
  exact h
theorem ex_div (w : World) : ∃ Q R : ByteArray, (Q.toList == [49, 52, 50, 56, 53, 55, 49, 52, 50, 56, 53, 55, 49, 52, 50, 56, 53, 55, 49, 52, 50]) = true ∧ (R.toList == [54]) = true ∧
    ∀ w, Calls Tryd.prog 26 #[.string ⟨#[49, 48, 48, 48, 48, 48, 48, 48, 48, 48, 48, 48, 48, 48, 48, 48, 48, 48, 48, 48, 48, 48]⟩, .string ⟨#[55]⟩] w (ValPost (.tuple #[.string Q, .string R, .int .i64 0]) w) := by
  refine ⟨⟨#[49, 52, 50, 56, 53, 55, 49, 52, 50, 56, 53, 55, 49, 52, 50, 56, 53, 55, 49, 52, 50]⟩, ⟨#[54]⟩, lit_eq [49, 52, 50, 56, 53, 55, 49, 52, 50, 56, 53, 55, 49, 52, 50, 56, 53, 55, 49, 52, 50], lit_eq [54], fun w => ?_⟩
  have h := div_any ⟨#[49, 48, 48, 48, 48, 48, 48, 48, 48, 48, 48, 48, 48, 48, 48, 48, 48, 48, 48, 48, 48, 48]⟩ ⟨#[55]⟩ w (by decide) (by decide)
  rw [divV_lit _ _ ⟨#[49, 52, 50, 56, 53, 55, 49, 52, 50, 56, 53, 55, 49, 52, 50, 56, 53, 55, 49, 52, 50]⟩ ⟨#[54]⟩ (by decide +kernel) (by decide +kernel) (by decide +kernel) (by decide +kernel) (by decide +kernel) (by decide +kernel) (by decide +kernel)] at h
  exact h
theorem ex_gcd (w : World) : ∃ S : ByteArray, (S.toList == [50, 49]) = true ∧ ∀ w, Calls Tryd.prog 28 #[.string ⟨#[49, 48, 55, 49]⟩, .string ⟨#[52, 54, 50]⟩] w (ValPost (.tuple #[.string S, .int .i64 0]) w) := by
  refine ⟨⟨#[50, 49]⟩, lit_eq [50, 49], fun w => ?_⟩
  have h := gcd_any ⟨#[49, 48, 55, 49]⟩ ⟨#[52, 54, 50]⟩ w (by decide) (by decide)
  rw [gcdV_lit _ _ ⟨#[50, 49]⟩ (by decide +kernel) (by decide +kernel) (by decide +kernel) (by decide +kernel)] at h
  exact h
theorem ex_sub (w : World) : Calls Tryd.prog 22 #[.string ⟨#[49]⟩, .string ⟨#[50]⟩] w (ValPost (.tuple #[.string ⟨#[]⟩, .int .i64 4]) w) := by
  have h := sub_any ⟨#[49]⟩ ⟨#[50]⟩ w (by decide) (by decide)
  rw [subV_lt _ _ (by decide +kernel) (by decide +kernel) (by decide +kernel)] at h
  exact h
theorem ex_valid1 (w : World) : Calls Tryd.prog 12 #[.string ⟨#[49, 48]⟩] w fun e w' => e = .returned (.bool true) ∧ w = w' := by
  have h := valid_any ⟨#[49, 48]⟩ w (by decide)
  rw [show numB ⟨#[49, 48]⟩ = true by decide +kernel] at h
  exact h
theorem ex_valid2 (w : World) : Calls Tryd.prog 12 #[.string ⟨#[48, 48, 55]⟩] w fun e w' => e = .returned (.bool false) ∧ w = w' := by
  have h := valid_any ⟨#[48, 48, 55]⟩ w (by decide)
  rw [show numB ⟨#[48, 48, 55]⟩ = false by decide +kernel] at h
  exact h
theorem ex_cmp (w : World) : Calls Tryd.prog 16 #[.string ⟨#[57]⟩, .string ⟨#[49, 48]⟩] w fun e w' => e = .returned (.int .i64 (-1)) ∧ w.grownBy w' none := by
  have h := cmp_any ⟨#[57]⟩ ⟨#[49, 48]⟩ w (by decide) (by decide)
  rw [show cmpV ⟨#[57]⟩ ⟨#[49, 48]⟩ = -1 by decide +kernel] at h
  exact h

set_option maxRecDepth 100000 in
set_option maxHeartbeats 2000000 in
theorem example_any (w : World) : Calls Tryd.prog 18 #[] w fun e w' => e = .returned (.bool true) ∧ w.grownBy w' none := by
  obtain ⟨S1, f1, c1⟩ := ex_add w
  obtain ⟨S2, f2, c2⟩ := ex_mul w
  obtain ⟨Q, R, f3, f4, c3⟩ := ex_div w
  obtain ⟨S3, f5, c4⟩ := ex_gcd w
  have C1 := Lib.hid c1; have C2 := Lib.hid c2; have C3 := Lib.hid c3; have C4 := Lib.hid c4
  clear c1 c2 c3 c4
  go_enter Tryd.func18, Tryd.ntmps18
  go_wp2_with fail
  refine (C1.out _).mono ?_
  rintro e w1 ⟨rfl, hg1⟩
  have HG1 := Lib.hid hg1
  clear hg1
  go_wp2_with fail
  refine (C2.out _).mono ?_
  rintro e w2 ⟨rfl, hg2⟩
  have HG2 := Lib.hid (grown_trans HG1.out (grown_none hg2 (r := none)))
  clear hg2 HG1
  go_wp2_with fail
  refine (C3.out _).mono ?_
  rintro e w3 ⟨rfl, hg3⟩
  have HG3 := Lib.hid (grown_trans HG2.out (grown_none hg3 (r := none)))
  clear hg3 HG2
  go_wp2_with fail
  refine (C4.out _).mono ?_
  rintro e w4 ⟨rfl, hg4⟩
  have HG4 := Lib.hid (grown_trans HG3.out (grown_none hg4 (r := none)))
  clear hg4 HG3
  go_wp2_with fail
  refine (ex_sub _).mono ?_
  rintro e w5 ⟨rfl, hg5⟩
  have HG5 := Lib.hid (grown_trans HG4.out (grown_none hg5 (r := none)))
  clear hg5 HG4
  go_wp2_with fail
  refine (ex_valid1 _).mono ?_
  rintro e w' ⟨rfl, rfl⟩
  go_wp2_with fail
  refine (ex_valid2 _).mono ?_
  rintro e w' ⟨rfl, rfl⟩
  go_wp2_with fail
  refine (ex_cmp _).mono ?_
  rintro e w6 ⟨rfl, hg6⟩
  have HG6 := Lib.hid (grown_trans HG5.out (grown_none hg6 (r := none)))
  clear hg6 HG5
  go_wp2
  go_ret
  exact ⟨rfl, HG6.out⟩

theorem long_any (s : ByteArray) (w : World) (hs : s.size ≤ maxLen) : Calls Tryd.prog 19 #[.string s] w fun e w' => e = .returned (.bool (decide (1100 < s.size))) ∧ w = w' := by
  unfold maxLen at hs
  by_cases h : 1100 < s.size
  · have h' : (1100 : Int) < (s.size : Int) := by omega
    go_enter Tryd.func19, Tryd.ntmps19
    go_wp2
    go_ret
    exact ⟨by simp [h], rfl⟩
  · have h' : ¬ (1100 : Int) < (s.size : Int) := by omega
    go_enter Tryd.func19, Tryd.ntmps19
    go_wp2
    go_ret
    exact ⟨by simp [h], rfl⟩
end Go.Proofs.YtlkjfhidicgjiaaDoor
