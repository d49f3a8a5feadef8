/- Names, by contract: the program's isName, the reference's Named. -/
import Derived.Test.YtegbgkljpdlpnaaWu
import Derived.Test.YtegbgkljpdlpnaaTa
set_option linter.unusedVariables false
set_option linter.unusedSimpArgs false
namespace Go.Proofs.Ytegbgkljpdlpnaa
open Go.RowKit

def ValPost (v : Value) (w : World) (e : Ending) (w' : World) : Prop := e = .returned v ∧ Below w.heap.size w w'
theorem below_chain {a b c : World} (h : Below a.heap.size a b) (k : Below b.heap.size b c) : Below a.heap.size a c := h.trans (k.mono h.size)
theorem empty_test (s : ByteArray) : (s.toList == []) = decide (s.size = 0) := by
  rw [Lib.toList_data, Bool.eq_iff_iff, beq_iff_eq, decide_eq_true_eq, ← len_list, List.length_eq_zero_iff]

set_option maxHeartbeats 1000000 in
theorem isName_any (s : ByteArray) (w : World) : Calls Try.prog 36 #[.string s] w (ValPost (.bool (nameB s)) w) := by
  have f0 := empty_test s
  by_cases h0 : s.size = 0
  · have hN : nameB s = false := by unfold nameB; simp [h0]
    rw [hN]
    rw [show decide (s.size = 0) = true by simp [h0]] at f0
    clear hN h0
    go_enter Try.func36, Try.ntmps36
    go_wp2
    go_ret
    exact ⟨rfl, Below.refl _ _⟩
  rw [show decide (s.size = 0) = false by simp [h0]] at f0
  by_cases h1 : 40 < s.size
  · have hN : nameB s = false := by unfold nameB; simp; omega
    rw [hN]
    have f1 : decide ((40 : Int) < (s.size : Int)) = true := by simp; omega
    clear hN h0 h1
    go_enter Try.func36, Try.ntmps36
    go_wp2
    go_ret
    exact ⟨rfl, Below.refl _ _⟩
  · have f1 : decide ((40 : Int) < (s.size : Int)) = false := by simp; omega
    have hs := split_any s w (by omega)
    unfold SplitPost at hs
    have hN : nameB s = decide ((splitL s).2.2 = 0) := by unfold nameB; simp; omega
    obtain ⟨B, hB⟩ : ∃ B, decide ((splitL s).2.2 = 0) = B := ⟨_, rfl⟩
    have f2 : (((splitL s).2.2 : Int) == 0) = B := by rw [← hB, Bool.eq_iff_iff]; simp
    rw [hN, hB]
    clear hN hB h0 h1
    generalize (splitL s).2.2 = n at *
    generalize ((splitL s).2.1 : Int) = m at *
    generalize (splitL s).1 = l at *
    go_enter Try.func36, Try.ntmps36
    go_wp2_with fail
    refine hs.mono ?_
    rintro e w1 ⟨v, rfl, _, hb⟩
    go_wp2
    go_ret
    exact ⟨rfl, hb⟩

set_option maxHeartbeats 1000000 in
/-- The reference's Split at any text. -/
theorem rsplit_all (s : ByteArray) (w : World) : Calls Try.prog 45 #[.string s] w (SplitPost s w) := by
  by_cases h : s.size ≤ 1099511627776
  · exact rsplit_any s w h
  · have hL : splitL s = ([], 0, 2) := by unfold splitL; rw [if_pos (by omega)]
    have hlen : 16384 < s.size := by omega
    have HL := Lib.hid hL; clear hL h
    go_enter Try.func45, Try.ntmps45
    go_wp2
    go_ret3
    exact ⟨.slice none 0 0, by rw [HL.out]; rfl, by rw [HL.out]; exact StrSl.nil _, Below.refl _ _⟩

set_option maxHeartbeats 1000000 in
theorem named_any (s : ByteArray) (w : World) : Calls Try.prog 39 #[.string s] w (ValPost (.bool (nameB s)) w) := by
  have hs := rsplit_all s w
  unfold SplitPost at hs
  obtain ⟨A, hA⟩ : ∃ A, decide (1 ≤ s.size) = A := ⟨_, rfl⟩
  obtain ⟨C, hC⟩ : ∃ C, decide (s.size ≤ 40) = C := ⟨_, rfl⟩
  obtain ⟨B, hB⟩ : ∃ B, decide ((splitL s).2.2 = 0) = B := ⟨_, rfl⟩
  have f0 : decide ((1 : Int) ≤ (s.size : Int)) = A := by rw [← hA, Bool.eq_iff_iff]; simp; omega
  have f1 : decide ((s.size : Int) ≤ 40) = C := by rw [← hC, Bool.eq_iff_iff]; simp; omega
  have f2 : (((splitL s).2.2 : Int) == 0) = B := by rw [← hB, Bool.eq_iff_iff]; simp
  have hN : nameB s = (A && C && B) := by unfold nameB; rw [hA, hB, hC]
  rw [hN]
  clear hN hA hB hC
  generalize (splitL s).2.2 = n at *
  generalize ((splitL s).2.1 : Int) = m at *
  generalize (splitL s).1 = l at *
  cases A <;> cases C <;> cases B
  all_goals
    go_enter Try.func39, Try.ntmps39
    go_wp2_with fail
    refine hs.mono ?_
    rintro e w1 ⟨v, rfl, _, hb⟩
    go_wp2
    go_ret
    exact ⟨rfl, hb⟩
end Go.Proofs.Ytegbgkljpdlpnaa
