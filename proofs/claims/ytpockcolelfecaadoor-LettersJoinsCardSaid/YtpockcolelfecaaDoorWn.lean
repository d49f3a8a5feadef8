/- The functions that Lower and Upper hand to change. -/
import Derived.Test.YtpockcolelfecaaDoorWh
import Derived.Test.YtpockcolelfecaaDoorPe
set_option linter.unusedVariables false
set_option linter.unusedSimpArgs false
namespace Go.Proofs.YtpockcolelfecaaDoor
open Go.RowKit

set_option maxHeartbeats 400000 in
theorem low_fn (r : Int) (w : World) (h0 : 0 ≤ r) (h1 : r ≤ 2147483647) (hT : Tabs w) :
    Calls Tryd.prog 49 #[.int .i32 r] w fun e w' => e = .returned (.int .i32 (lowR r)) ∧ Below w.heap.size w w' := by
  have hc := classOf_any r w hT.spans (by have := hT.pos; omega)
  clear hT
  by_cases h : cls r = 2
  · have e : lowR r = r + 32 := by unfold lowR; rw [if_pos h]
    have hr := cls_two h
    have f1 : (cls r == 2) = true := by simpa using h
    rw [e]
    clear e h
    generalize cls r = c at *
    go_enter Tryd.func49, Tryd.ntmps49
    go_wp2_with fail
    refine hc.mono ?_
    rintro e w1 ⟨rfl, hb⟩
    go_wp2
    go_ret
    exact ⟨rfl, hb⟩
  · have e : lowR r = r := by unfold lowR; rw [if_neg h]
    have f1 : (cls r == 2) = false := by simpa using h
    rw [e]
    clear e h
    generalize cls r = c at *
    go_enter Tryd.func49, Tryd.ntmps49
    go_wp2_with fail
    refine hc.mono ?_
    rintro e w1 ⟨rfl, hb⟩
    go_wp2
    go_ret
    exact ⟨rfl, hb⟩

set_option maxHeartbeats 400000 in
theorem up_fn (r : Int) (w : World) (h0 : 0 ≤ r) (h1 : r ≤ 2147483647) (hT : Tabs w) :
    Calls Tryd.prog 51 #[.int .i32 r] w fun e w' => e = .returned (.int .i32 (upR r)) ∧ Below w.heap.size w w' := by
  have hc := classOf_any (r - 32) w hT.spans (by have := hT.pos; omega)
  clear hT
  by_cases h : cls (r - 32) = 2
  · have e : upR r = r - 32 := by unfold upR; rw [if_pos h]
    have hr := cls_two h
    have f1 : (cls (r - 32) == 2) = true := by simpa using h
    rw [e]
    clear e h
    generalize cls (r - 32) = c at *
    go_enter Tryd.func51, Tryd.ntmps51
    go_wp2_with fail
    refine hc.mono ?_
    rintro e w1 ⟨rfl, hb⟩
    go_wp2
    go_ret
    exact ⟨rfl, hb⟩
  · have e : upR r = r := by unfold upR; rw [if_neg h]
    have f1 : (cls (r - 32) == 2) = false := by simpa using h
    rw [e]
    clear e h
    generalize cls (r - 32) = c at *
    go_enter Tryd.func51, Tryd.ntmps51
    go_wp2_with fail
    refine hc.mono ?_
    rintro e w1 ⟨rfl, hb⟩
    go_wp2
    go_ret
    exact ⟨rfl, hb⟩

end Go.Proofs.YtpockcolelfecaaDoor
