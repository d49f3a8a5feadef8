/- Valid machines fit; what Trim and Canon yield of them. -/
import Derived.Test.YtbmonhnojkiapaaGreatDoorV34
set_option linter.unusedVariables false
set_option linter.unusedSimpArgs false
namespace Go.Proofs.YtbmonhnojkiapaaGreatDoor
open Go.RowKit

theorem rat_size6 {a : ByteArray} {x : Rat} (h : IsRat a x) : a.size ≤ 802 := by
  have h1 := h.short
  unfold Short at h1
  rw [h.eq]
  show (ratL x).toArray.size ≤ 802
  unfold ratL
  rw [List.size_toArray]
  have e1 : (if x.num < 0 then [45] else [] : List UInt8).length ≤ 1 := by split <;> simp
  have e2 := Lib.decDigits_length x.num.natAbs
  have e3 : (if x.den = 1 then [] else 47 :: Lib.decDigits x.den : List UInt8).length ≤ 401 := by
    split
    · simp
    · rw [List.length_cons, Lib.decDigits_length]; omega
  rw [List.length_append, List.length_append, e2]
  omega
theorem wgt_size {k : Int} {a : ByteArray} (h : wgtB k a = true) : a.size ≤ 802 := by
  obtain ⟨v, hv⟩ := wgtB_val h
  match v, hv with
  | .inl b, hv => exact absurd hv.has (by simp [wgtE])
  | .inr x, hv => exact rat_size6 hv.e
theorem valid_fits {m : Mach} (h : validB m = true) : Fits m := by
  have hp := head_parts (valid_head h)
  have hM : (802 : Nat) ≤ maxLen := by unfold maxLen; omega
  refine ⟨by omega, Nat.le_trans (wgt_size hp.2.2.2.2.2) hM, fun s hs => ?_, fun s hs => by have := valid_row h hs; omega, fun s hs a ha => ?_⟩
  · have := (valid_state h hs).1
    unfold finB at this
    rw [Bool.or_eq_true] at this
    rcases this with e | e
    · rw [decide_eq_true_iff] at e; omega
    · exact Nat.le_trans (wgt_size e) hM
  · exact Nat.le_trans (wgt_size (arc_parts ((valid_state h hs).2 a ha)).2.2.2.2.2.2) hM
theorem trimV_of {m : Mach} (h : validB m = true) : trimV m = (trimM m, 0) := by unfold trimV; rw [if_pos h]
theorem canonV_of {m : Mach} (h : validB m = true) : canonV m = (canonM m, 0) := by unfold canonV; rw [if_pos h]
end Go.Proofs.YtbmonhnojkiapaaGreatDoor
