/- The two closures that combine calls. -/
import Derived.Test.YtlkjfhidicgjiaaDoorRa
set_option linter.unusedVariables false
set_option linter.unusedSimpArgs false
namespace Go.Proofs.YtlkjfhidicgjiaaDoor
open Go.RowKit

def One (w : World) (g n : Nat) : Prop := w.heap[g]? = some (.cells #[.int .u64 (n : Int)] 22 (0, 0))
def StepPost (q : Nat × Nat) (gc : Nat) (w : World) (e : Ending) (w' : World) : Prop := e = .returned (.int .u64 (q.2 : Nat)) ∧ One w' gc q.1 ∧ w.grownBy w' (some gc)

theorem ret_u64 {a b : Int} (h : a = b) : Ending.returned (.int .u64 a) = .returned (.int .u64 b) := by rw [h]
theorem cast_one {w : World} {g : Nat} {x : Int} {n : Nat} (h : w.heap[g]? = some (.cells #[.int .u64 x] 22 (0, 0))) (e : x = (n : Int)) : One w g n := by rw [e] at h; exact h

set_option maxHeartbeats 400000 in
theorem addStep (f c a b gc gf : Nat) (w : World) (hf : f ≤ 1000000000) (hc : c ≤ 1000000000) (ha : a < 1000000000) (hb : b < 1000000000) (hne : gf ≠ gc) (hgc : One w gc c) (hgf : One w gf f) :
    Calls Tryd.prog 64 #[.int .u64 a, .int .u64 b, .pointer (some ⟨gc, 0, none⟩), .pointer (some ⟨gf, 0, none⟩)] w (StepPost (addT f c a b) gc w) := by
  have hp := fb_le f b hf hb
  obtain ⟨p, hpe⟩ : ∃ p, f * b = p := ⟨_, rfl⟩
  have hpi : (f : Int) * (b : Int) = (p : Int) := by rw [← hpe]; push_cast; rfl
  rw [hpe] at hp
  have c1 := cell_of_one hgc
  have c2 := cell_of_one hgf
  have c3 := free_of_one hgc
  have HC := Lib.hid hgc
  clear hgc hgf
  go_enter Tryd.func64, Tryd.ntmps64
  go_wp2
  go_ret
  have e1 : (addT f c a b).2 = (c + (a + p)) % 1000000000 := by unfold addT; rw [hpe]
  have e2 : (addT f c a b).1 = (c + (a + p)) / 1000000000 := by unfold addT; rw [hpe]
  refine ⟨?_, ?_, ?_⟩
  · rw [e1]; exact ret_u64 (by omega)
  · rw [e2]; exact cast_one (one_setCell (one_setCell HC.out)) (by omega)
  · exact grown_trans (grown_setCell _ _ _) (grown_setCell _ _ _)

set_option maxHeartbeats 400000 in
theorem subStep (f c a b gc gf : Nat) (w : World) (hf : f ≤ 1000000000) (hc : c ≤ 1000000000) (ha : a < 1000000000) (hb : b < 1000000000) (hne : gf ≠ gc) (hgc : One w gc c) (hgf : One w gf f) :
    Calls Tryd.prog 54 #[.int .u64 a, .int .u64 b, .pointer (some ⟨gc, 0, none⟩), .pointer (some ⟨gf, 0, none⟩)] w (StepPost (subT f c a b) gc w) := by
  have hp := fb_le f b hf hb
  obtain ⟨p, hpe⟩ : ∃ p, f * b = p := ⟨_, rfl⟩
  have hpi : (f : Int) * (b : Int) = (p : Int) := by rw [← hpe]; push_cast; rfl
  rw [hpe] at hp
  have c1 := cell_of_one hgc
  have c2 := cell_of_one hgf
  have c3 := free_of_one hgc
  have HC := Lib.hid hgc
  have HE := Lib.hid hpe
  clear hgc hgf hpe
  by_cases hlt : a < (c + p) % 1000000000
  · have hlt' : (a : Int) < ((c : Int) + (p : Int)) % 1000000000 := by omega
    go_enter Tryd.func54, Tryd.ntmps54
    go_wp2
    go_ret
    have e1 : (subT f c a b).2 = a + 1000000000 - (c + p) % 1000000000 := by unfold subT; rw [HE.out, if_pos hlt]
    have e2 : (subT f c a b).1 = (c + p) / 1000000000 + 1 := by unfold subT; rw [HE.out, if_pos hlt]
    refine ⟨?_, ?_, ?_⟩
    · rw [e1]; exact ret_u64 (by omega)
    · rw [e2]; exact cast_one (one_setCell (one_setCell (one_setCell HC.out))) (by omega)
    · exact grown_trans (grown_trans (grown_setCell _ _ _) (grown_setCell _ _ _)) (grown_setCell _ _ _)
  · have hlt' : ¬ (a : Int) < ((c : Int) + (p : Int)) % 1000000000 := by omega
    go_enter Tryd.func54, Tryd.ntmps54
    go_wp2
    go_ret
    have e1 : (subT f c a b).2 = a - (c + p) % 1000000000 := by unfold subT; rw [HE.out, if_neg hlt]
    have e2 : (subT f c a b).1 = (c + p) / 1000000000 := by unfold subT; rw [HE.out, if_neg hlt]
    refine ⟨?_, ?_, ?_⟩
    · rw [e1]; exact ret_u64 (by omega)
    · rw [e2]; exact cast_one (one_setCell (one_setCell HC.out)) (by omega)
    · exact grown_trans (grown_setCell _ _ _) (grown_setCell _ _ _)
end Go.Proofs.YtlkjfhidicgjiaaDoor
