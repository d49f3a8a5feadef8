/- The reference's stands, longest, Tokens, by contract. -/
import Derived.Test.YtegbgkljpdlpnaaUc
set_option linter.unusedVariables false
set_option linter.unusedSimpArgs false
namespace Go.Proofs.Ytegbgkljpdlpnaa
open Go.RowKit

def stB (t : ByteArray) (i : Nat) (x : ByteArray) : Bool := decide (i + x.size ≤ t.size) && decide (t.extract i (i + x.size) = x)
theorem stB_iff {t : ByteArray} {i : Nat} (hi : i ≤ t.size) {x : ByteArray} : stB t i x = true ↔ St (t.extract i t.size) x := by
  rw [St.at hi]; unfold stB; simp

set_option maxHeartbeats 1000000 in
theorem stands_any (t : ByteArray) (i : Nat) (x : ByteArray) (w : World) (ht : t.size ≤ 16384) (hi : i ≤ t.size) (hx : x.size ≤ 40) :
    Calls Try.prog 46 #[.string t, .int .i64 i, .string x] w fun e w' => e = .returned (.bool (stB t i x)) ∧ w = w' := by
  have n1 : IntKind.i64.wrap ((i : Int) + (x.size : Int)) = ((i + x.size : Nat) : Int) := by rw [IntKind.wrap_i64]; omega
  by_cases h : i + x.size ≤ t.size
  · have f1 : decide (((i + x.size : Nat) : Int) ≤ (t.size : Int)) = true := by simp; omega
    have hq := str_test (t.extract i (i + x.size)) x
    have hB : stB t i x = decide (t.extract i (i + x.size) = x) := by unfold stB; simp [h]
    rw [hB]
    obtain ⟨B, hBB⟩ : ∃ B, decide (t.extract i (i + x.size) = x) = B := ⟨_, rfl⟩
    rw [hBB] at hq ⊢
    have h2 : i ≤ i + x.size := by omega
    obtain ⟨m, hm⟩ : ∃ m, i + x.size = m := ⟨_, rfl⟩
    rw [hm] at n1 f1 hq h h2
    clear hB hBB hm
    cases B
    all_goals
      go_enter Try.func46, Try.ntmps46
      go_wp2
      go_ret
      exact ⟨by rw [← hq]; rfl, rfl⟩
  · have f1 : decide (((i + x.size : Nat) : Int) ≤ (t.size : Int)) = false := by simp; omega
    have hB : stB t i x = false := by unfold stB; simp [h]
    rw [hB]
    clear hB
    obtain ⟨m, hm⟩ : ∃ m, i + x.size = m := ⟨_, rfl⟩
    rw [hm] at n1 f1 h
    clear hm
    go_enter Try.func46, Try.ntmps46
    go_wp2
    go_ret
    exact ⟨rfl, rfl⟩

set_option maxHeartbeats 4000000 in
theorem longest_any {w : World} {v : Value} {L : List ByteArray} (hv : StrSl w v L) (hl : L.length ≤ 500) (hgood : goodB L = true) (t : ByteArray) (i : Nat) (ht : t.size ≤ 16384) (hi : i ≤ t.size) :
    Calls Try.prog 40 #[v, .string t, .int .i64 i] w fun e w' => e = .returned (.int .i64 ((bst L (t.extract i t.size)).1 : Int)) ∧ w = w' := by
  obtain ⟨A, ca, rfl, hr⟩ := hv
  have hst := fun (x : ByteArray) (w : World) (hx : x.size ≤ 40) => stands_any t i x w ht hi hx
  have HST := Lib.hid hst; have HG := Lib.hid hgood
  clear hst hgood
  go_enter Try.func40, Try.ntmps40
  go_wp2
  go_loop [7, 8, 9] (fun a b c => ∃ s n k : Nat, a = .int .i64 s ∧ b = .int .i64 n ∧ c = .int .i64 k ∧ k ≤ L.length ∧ Best (L.take k) (t.extract i t.size) (s, n)) (fun _ _ c => L.length - (intOf c).toNat)
  case atStart => exact ⟨0, 0, 0, rfl, rfl, rfl, by omega, Best.nil _⟩
  case round =>
    obtain ⟨s, n, k, rfl, rfl, rfl, hk, hb⟩ := hrel
    have HB := Lib.hid hb
    clear hb
    by_cases hlt : k < L.length
    · obtain ⟨ad, x, rfl, hadb, hx, hc⟩ := row_str hr hlt
      have n1 : (k : Int) < (L.length : Int) := by omega
      have n2 : IntKind.i64.wrap ((k : Int) + 1) = (k : Int) + 1 := by rw [IntKind.wrap_i64]; omega
      have hxs := nameB_size ((goodB_iff.1 HG.out).1 x (List.mem_of_getElem? hx))
      have hst := fun w => HST.out x w hxs.2
      have hts := take_snoc hx
      have HTS := Lib.hid hts
      clear hts hx
      by_cases h1 : n < x.size
      · have f1 : decide ((n : Int) < (x.size : Int)) = true := by simp; omega
        cases hS : stB t i x
        · rw [hS] at hst
          have hbb := HB.out.snoc_old hxs.1 (x := x) (fun h => by rw [(stB_iff hi).2 h.2] at hS; cases hS)
          rw [← HTS.out] at hbb
          have HBB := Lib.hid hbb
          clear hbb hS
          go_wp2_with fail
          refine (hst _).mono ?_
          rintro e w1 ⟨rfl, rfl⟩
          go_wp2
          go_round
          case rel => exact ⟨s, n, k + 1, rfl, rfl, by go_num, by omega, HBB.out⟩
          case measure => simp [intOf]; omega
        · rw [hS] at hst
          have hbb := HB.out.snoc_new (x := x) ((stB_iff hi).1 hS) h1
          rw [← HTS.out, List.length_take, Nat.min_eq_left hk] at hbb
          have HBB := Lib.hid hbb
          clear hbb hS
          go_wp2_with fail
          refine (hst _).mono ?_
          rintro e w1 ⟨rfl, rfl⟩
          go_wp2
          go_round
          case rel => exact ⟨k + 1, x.size, k + 1, by go_num, rfl, by go_num, by omega, HBB.out⟩
          case measure => simp [intOf]; omega
      · have f1 : decide ((n : Int) < (x.size : Int)) = false := by simp; omega
        have hbb := HB.out.snoc_old hxs.1 (x := x) (fun h => h1 h.1)
        rw [← HTS.out] at hbb
        have HBB := Lib.hid hbb
        clear hbb
        go_wp2
        go_round
        case rel => exact ⟨s, n, k + 1, rfl, rfl, by go_num, by omega, HBB.out⟩
        case measure => simp [intOf]; omega
    · have n1 : ¬ (k : Int) < (L.length : Int) := by omega
      have hbb := HB.out
      rw [List.take_of_length_le (by omega)] at hbb
      have he := bst_eq HG.out hbb
      have HE := Lib.hid he
      clear he hbb
      go_wp2
      go_ret
      exact ⟨by rw [HE.out]; rfl, rfl⟩
end Go.Proofs.Ytegbgkljpdlpnaa
