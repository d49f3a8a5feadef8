/- The walk of NatLimits. -/
import Derived.Test.YtlkjfhidicgjiaaDoorLd
set_option linter.unusedVariables false
set_option linter.unusedSimpArgs false
namespace Go.Proofs.YtlkjfhidicgjiaaDoor
open Go.RowKit
open Go.Lib (nDigits)

def nines (k : Nat) : ByteArray := ⟨(List.replicate k (57 : UInt8)).toArray⟩
def tens (k : Nat) : ByteArray := ⟨((49 : UInt8) :: List.replicate k (48 : UInt8)).toArray⟩
theorem nines_step (k : Nat) : nines k ++ ⟨#[57]⟩ = nines (k + 1) := by
  unfold nines
  apply ByteArray.ext
  simp [Array.replicate_succ]
theorem tens_step (k : Nat) : tens k ++ ⟨#[48]⟩ = tens (k + 1) := by
  unfold tens
  rw [List.replicate_succ', ← List.cons_append]
  apply ByteArray.ext
  rw [ByteArray.data_append]
  show ((49 : UInt8) :: List.replicate k (48 : UInt8)).toArray ++ [48].toArray = _
  rw [List.append_toArray]
theorem nines_size (k : Nat) : (nines k).size = k := by unfold nines; simp [ByteArray.size]
theorem tens_size (k : Nat) : (tens k).size = k + 1 := by unfold tens; simp [ByteArray.size]
theorem nines_num : numB (nines 1000) = true := by decide +kernel
theorem nines_num' : numB (nines 1001) = false := by decide +kernel
theorem tens_num5 : numB (tens 500) = true := by decide +kernel
theorem tens_num4 : numB (tens 499) = true := by decide +kernel
theorem tens_num9 : numB (tens 999) = true := by decide +kernel
def p10 (k : Nat) : Nat := 10 ^ k
theorem p10_add (i j : Nat) : p10 i * p10 j = p10 (i + j) := (Nat.pow_add _ _ _).symm
theorem nines_val : nv (nines 1000) + 1 = p10 1000 := by decide +kernel
theorem tens_val5 : nv (tens 500) = p10 500 := by decide +kernel
theorem tens_val4 : nv (tens 499) = p10 499 := by decide +kernel
theorem tens_val9 : nv (tens 999) = p10 999 := by decide +kernel
theorem p10_digits (k : Nat) : nDigits (p10 k) = k + 1 :=
  Lib.nDigits_unique k (p10 k) (Nat.le_refl _) (Nat.pow_lt_pow_right (by decide) (by omega))
theorem lim_over (k : Nat) (h : 1000 ≤ k) : limV (p10 k) = .tuple #[.string ⟨#[]⟩, .int .i64 2] := by
  rcases limV_cases (p10 k) with ⟨S, _, hS, hv, _⟩ | ⟨h, _⟩
  · exfalso
    have h1 := (num_is S hS).2
    rw [hv, p10_digits] at h1
    omega
  · exact h
theorem tens_cut : (tens 500).extract 0 500 = tens 499 := by
  unfold tens
  apply ByteArray.ext
  rw [ByteArray.data_extract]
  simp only [List.extract_toArray, List.extract_eq_take_drop, List.drop_zero]
  rw [show 500 - 0 = 499 + 1 from rfl, List.take_succ_cons, List.take_replicate]
  rfl
theorem mul_over (T : ByteArray) (e2 : numB T = true) (v2 : nv T = p10 500) : mulV T T = .tuple #[.string ⟨#[]⟩, .int .i64 2] := by
  unfold mulV
  rw [e2, v2, p10_add, lim_over _ (by decide)]
  simp only [Bool.and_self, if_true]
theorem add_over (S : ByteArray) (e1 : numB S = true) (v1 : nv S + 1 = p10 1000) : addV S ⟨#[49]⟩ = .tuple #[.string ⟨#[]⟩, .int .i64 2] := by
  unfold addV
  rw [e1, one_num, show nv ⟨#[49]⟩ = 1 by decide +kernel, v1, lim_over _ (by decide)]
  simp only [Bool.and_self, if_true]
theorem mul_just (T U R : ByteArray) (e2 : numB T = true) (e4 : numB U = true) (e9 : numB R = true) (v2 : nv T = p10 500) (v4 : nv U = p10 499) (v9 : nv R = p10 999) : mulV T U = .tuple #[.string R, .int .i64 0] :=
  mulV_lit T U R e2 e4 e9 (by rw [v9, v2, v4, p10_add])

set_option maxRecDepth 100000 in
set_option maxHeartbeats 4000000 in
theorem limits_walk (w : World) : Calls Tryd.prog 11 #[] w (LawPost w) := by
  have X := Lib.hid exOk
  go_enter Tryd.func11, Tryd.ntmps11
  go_wp2
  go_loop [1, 3] (fun s i => ∃ (k : Nat) (S : ByteArray), i = .int .i64 k ∧ k ≤ 1000 ∧ s = .string S ∧ S = nines k) (fun _ i => 1000 - (intOf i).toNat)
  case atStart => exact ⟨0, _, rfl, by omega, rfl, rfl⟩
  case round =>
    obtain ⟨k, S, rfl, hk, rfl, hS⟩ := hrel
    have HN := Lib.hid (show S ++ ⟨#[57]⟩ = nines (k + 1) by rw [hS, nines_step])
    have hz : S.size + 1 ≤ 9223372036854775807 := by rw [hS, nines_size]; omega
    have HS := Lib.hid hS
    clear hS
    by_cases hlt : k < 1000
    · have hlt' : (k : Int) < 1000 := by omega
      go_wp2
      go_round
      case rel => exact ⟨k + 1, _, by go_num, by omega, rfl, HN.out⟩
      case measure => simp [intOf]; omega
    · have hlt' : ¬ (k : Int) < 1000 := by omega
      obtain rfl : k = 1000 := by omega
      clear hlt hlt' hk HN
      go_wp2
      go_loop [2, 4] (fun s i => ∃ (k : Nat) (S : ByteArray), i = .int .i64 k ∧ k ≤ 500 ∧ s = .string S ∧ S = tens k) (fun _ i => 500 - (intOf i).toNat)
      case atStart => exact ⟨0, _, rfl, by omega, rfl, rfl⟩
      case round =>
        obtain ⟨k, T, rfl, hk, rfl, hT⟩ := hrel
        have HN := Lib.hid (show T ++ ⟨#[48]⟩ = tens (k + 1) by rw [hT, tens_step])
        have hz : T.size + 1 ≤ 9223372036854775807 := by rw [hT, tens_size]; omega
        have HT := Lib.hid hT
        clear hT
        by_cases hlt : k < 500
        · have hlt' : (k : Int) < 500 := by omega
          go_wp2
          go_round
          case rel => exact ⟨k + 1, _, by go_num, by omega, rfl, HN.out⟩
          case measure => simp [intOf]; omega
        · have hlt' : ¬ (k : Int) < 500 := by omega
          obtain rfl : k = 500 := by omega
          clear hlt hlt' hk HN
          have e1 : numB S = true := by rw [HS.out]; exact nines_num
          have v1 : nv S + 1 = p10 1000 := by rw [HS.out]; exact nines_val
          have e2 : numB T = true := by rw [HT.out]; exact tens_num5
          have v2 : nv T = p10 500 := by rw [HT.out]; exact tens_val5
          have c1 := fun w => add_any S ⟨#[49]⟩ w (maxLen_ok e1) (by decide)
          rw [add_over S e1 v1] at c1
          have c2 := fun w => add_any S ⟨#[48]⟩ w (maxLen_ok e1) (by decide)
          rw [addV_lit S ⟨#[48]⟩ S e1 zero_num e1 (by rw [zero_val, Nat.add_zero])] at c2
          have c3 := fun w => mul_any T T w (maxLen_ok e2) (maxLen_ok e2)
          rw [mul_over T e2 v2] at c3
          obtain ⟨U, hU⟩ : ∃ U, T.extract 0 500 = U := ⟨_, rfl⟩
          have eU : U = tens 499 := by rw [← hU, HT.out]; exact tens_cut
          have e4 : numB U = true := by rw [eU]; exact tens_num4
          have v4 : nv U = p10 499 := by rw [eU]; exact tens_val4
          obtain ⟨R, hR⟩ : ∃ R, tens 999 = R := ⟨_, rfl⟩
          have zR : R.size = 1000 := by rw [← hR, tens_size]
          have e9 : numB R = true := by rw [← hR]; exact tens_num9
          have v9 : nv R = p10 999 := by rw [← hR]; exact tens_val9
          have c4 := fun w => mul_any T U w (maxLen_ok e2) (maxLen_ok e4)
          rw [mul_just T U R e2 e4 e9 v2 v4 v9] at c4
          have c5 := valOk S (maxLen_ok e1)
          rw [e1] at c5
          obtain ⟨W, hW⟩ : ∃ W, S ++ (⟨#[57]⟩ : ByteArray) = W := ⟨_, rfl⟩
          have eW : W = nines 1001 := by rw [← hW, HS.out, nines_step]
          have c6 := valOk W (by rw [eW, nines_size]; decide)
          rw [eW, nines_num', ← eW] at c6
          have zT : T.size = 501 := by rw [HT.out, tens_size]
          have zR' : (R.size : Int) = 1000 := by omega
          have C1 := Lib.hid c1; have C2 := Lib.hid c2; have C3 := Lib.hid c3; have C4 := Lib.hid c4; have C5 := Lib.hid c5; have C6 := Lib.hid c6
          clear c1 c2 c3 c4 c5 c6 e1 v1 e2 v2 e4 v4 eU e9 v9 hR eW
          go_wp2_with fail
          refine (C1.out _).mono ?_
          rintro e w1 ⟨rfl, hg⟩
          have G1 := Lib.hid hg
          clear hg
          go_wp2_with fail
          refine (C2.out _).mono ?_
          rintro e w2 ⟨rfl, hg⟩
          have G2 := Lib.hid (grown_trans G1.out (grown_none hg (r := none)))
          clear hg G1
          go_wp2_with fail
          refine (C3.out _).mono ?_
          rintro e w3 ⟨rfl, hg⟩
          have G3 := Lib.hid (grown_trans G2.out (grown_none hg (r := none)))
          clear hg G2
          go_wp2_with fail
          refine (C4.out _).mono ?_
          rintro e w4 ⟨rfl, hg⟩
          have G4 := Lib.hid (grown_trans G3.out (grown_none hg (r := none)))
          clear hg G3
          go_wp2_with fail
          refine (C5.out _).mono ?_
          rintro e w' ⟨rfl, rfl⟩
          go_wp2_with fail
          refine (C6.out _).mono ?_
          rintro e w' ⟨rfl, rfl⟩
          go_wp2_with fail
          refine (X.out _).mono ?_
          rintro e w5 ⟨rfl, hg⟩
          have G5 := Lib.hid (grown_trans G4.out (grown_none hg (r := none)))
          clear hg G4
          go_wp2
          go_ret
          exact ⟨rfl, G5.out⟩
end Go.Proofs.YtlkjfhidicgjiaaDoor
