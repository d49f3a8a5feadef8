/- The walk of LettersOrder. -/
import Derived.Test.YtpchdggppkenkaaDoorWs
import Derived.Test.YtpchdggppkenkaaDoorWt
import Derived.Test.YtpchdggppkenkaaDoorPj
set_option linter.unusedVariables false
set_option linter.unusedSimpArgs false
namespace Go.Proofs.YtpchdggppkenkaaDoor
open Go.RowKit

set_option maxHeartbeats 2000000 in
theorem order_big (a b c : ByteArray) (w : World) (h : 2000 < a.size ∨ (a.size ≤ 2000 ∧ 2000 < b.size) ∨ (a.size ≤ 2000 ∧ b.size ≤ 2000 ∧ 2000 < c.size)) (hT : Tabs w) :
    Calls Tryd.prog 11 #[.string a, .string b, .string c] w fun e w' => e = .returned (.bool true) ∧ Below w.heap.size w w' := by
  have hk := awake_any w hT
  clear hT
  rcases h with h | ⟨h0, h⟩ | ⟨h0, h1, h⟩
  · have f1 : decide ((2000 : Int) < (a.size : Int)) = true := by simp; omega
    clear h
    go_enter Tryd.func11, Tryd.ntmps11
    go_wp2_with fail
    refine hk.mono ?_
    rintro e w1 ⟨rfl, hb⟩
    go_wp2
    go_ret
    exact ⟨rfl, hb⟩
  · have f1 : decide ((2000 : Int) < (a.size : Int)) = false := by simp; omega
    have f2 : decide ((2000 : Int) < (b.size : Int)) = true := by simp; omega
    clear h h0
    go_enter Tryd.func11, Tryd.ntmps11
    go_wp2_with fail
    refine hk.mono ?_
    rintro e w1 ⟨rfl, hb⟩
    go_wp2
    go_ret
    exact ⟨rfl, hb⟩
  · have f1 : decide ((2000 : Int) < (a.size : Int)) = false := by simp; omega
    have f2 : decide ((2000 : Int) < (b.size : Int)) = false := by simp; omega
    have f3 : decide ((2000 : Int) < (c.size : Int)) = true := by simp; omega
    clear h h0 h1
    go_enter Tryd.func11, Tryd.ntmps11
    go_wp2_with fail
    refine hk.mono ?_
    rintro e w1 ⟨rfl, hb⟩
    go_wp2
    go_ret
    exact ⟨rfl, hb⟩

set_option maxHeartbeats 8000000 in
theorem order_small (a b c : ByteArray) (w : World) (h0 : a.size ≤ 2000) (h1 : b.size ≤ 2000) (h2 : c.size ≤ 2000) (hT : Tabs w) :
    Calls Tryd.prog 11 #[.string a, .string b, .string c] w fun e w' => e = .returned (.bool true) ∧ Below w.heap.size w w' := by
  have k1 := fun w => compare_any a b w
  have k2 := fun w => compare_any b c w
  have k3 := fun w => compare_any a c w
  have k4 := fun w => compare_any b a w
  have k5 := fun w => rcompare_any a b w (by omega) (by omega)
  unfold CmpPost at k5
  rw [cmp_anti a.data.toList b.data.toList] at k4
  have f1 : decide ((2000 : Int) < (a.size : Int)) = false := by simp; omega
  have f2 : decide ((2000 : Int) < (b.size : Int)) = false := by simp; omega
  have f3 : decide ((2000 : Int) < (c.size : Int)) = false := by simp; omega
  have hz := cmp_zero a.data.toList b.data.toList
  have ht := cmp_trans a.data.toList b.data.toList c.data.toList
  have r1 := cmp_range a.data.toList b.data.toList
  have r2 := cmp_range b.data.toList c.data.toList
  have r3 := cmp_range a.data.toList c.data.toList
  have hab : (a.toList == b.toList) = decide (a.data.toList = b.data.toList) := by rw [Lib.toList_data, Lib.toList_data, Bool.eq_iff_iff]; simp
  have HT := Lib.hid hT
  clear h0 h1 h2 hT
  generalize Lib.compareBytes a.data.toList b.data.toList = x at *
  generalize Lib.compareBytes b.data.toList c.data.toList = y at *
  generalize Lib.compareBytes a.data.toList c.data.toList = z at *
  have hab2 : (a.toList == b.toList) = decide (x = 0) := by rw [hab, Bool.eq_iff_iff]; simp [hz]
  clear hab hz
  rcases r1 with rfl | rfl | rfl <;> rcases r2 with rfl | rfl | rfl <;> rcases r3 with rfl | rfl | rfl <;>
    first
      | (exfalso; omega)
      | skip
  all_goals
    clear ht
    simp only [show decide ((-1 : Int) = 0) = false by decide, show decide ((0 : Int) = 0) = true by decide, show decide ((1 : Int) = 0) = false by decide] at hab2
    try simp only [Int.neg_neg, Int.neg_zero] at k4
    go_enter Tryd.func11, Tryd.ntmps11
    go_wp2_with fail
    refine (k1 _).mono ?_
    rintro e w1 ⟨rfl, rfl⟩
    go_wp2_with fail
    refine (k2 _).mono ?_
    rintro e w1 ⟨rfl, rfl⟩
    go_wp2_with fail
    refine (k3 _).mono ?_
    rintro e w1 ⟨rfl, rfl⟩
    go_wp2_with fail
    refine (k5 _).mono ?_
    rintro e w1 ⟨rfl, n, rfl⟩
    go_wp2_with fail
    refine (k4 _).mono ?_
    rintro e w1 ⟨rfl, rfl⟩
    go_wp2_with fail
    have hbn := below_drewN (Below.refl w.heap.size w) n
    have hk := awake_any _ (HT.out.below hbn)
    refine hk.mono ?_
    rintro e w1 ⟨rfl, hb⟩
    have hb2 := hbn.trans (hb.mono hbn.size)
    clear hk hb hbn
    go_wp2
    go_ret
    exact ⟨rfl, hb2⟩

theorem order_walk (a b c : ByteArray) (w : World) (_h0 : a.size ≤ maxLen) (_h1 : b.size ≤ maxLen) (_h2 : c.size ≤ maxLen) (hT : Tabs w) :
    Calls Tryd.prog 11 #[.string a, .string b, .string c] w fun e w' => e = .returned (.bool true) ∧ Below w.heap.size w w' := by
  by_cases h : a.size ≤ 2000 ∧ b.size ≤ 2000 ∧ c.size ≤ 2000
  · exact order_small a b c w h.1 h.2.1 h.2.2 hT
  · exact order_big a b c w (by omega) hT
end Go.Proofs.YtpchdggppkenkaaDoor
