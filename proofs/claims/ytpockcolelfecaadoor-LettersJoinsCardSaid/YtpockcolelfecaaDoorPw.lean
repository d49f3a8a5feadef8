/- Plain Lean: letters joined. -/
import Derived.Test.YtpockcolelfecaaDoorPs
set_option linter.unusedVariables false
set_option linter.unusedSimpArgs false
namespace Go.Proofs.YtpockcolelfecaaDoor

theorem vr_pos (x : ByteArray) (h : vrD x = true) : 0 < x.size ∧ x.size ≤ 4 ∧ stray x 0 = false ∧ pw x 0 = x.size := by
  have h2 := h
  rw [vrD_eq] at h
  simp only [Bool.and_eq_true, decide_eq_true_eq, Bool.not_eq_true'] at h
  obtain ⟨⟨h0, h1⟩, hs⟩ := h
  have := pw_le x 0 h0
  have hd := pw_dec x 0 h0
  exact ⟨h0, by omega, hs, by omega⟩
theorem vr_letter (x : ByteArray) (h : vrD x = true) : IsLetter x := by
  obtain ⟨h0, _, hs, hp⟩ := vr_pos x h
  refine ⟨x, 0, h0, hs, ?_⟩
  have hd := drop_piece x 0 h0
  rw [hp, List.drop_zero, List.drop_of_length_le (by rw [len_list]; omega), List.append_nil] at hd
  apply ByteArray.ext; apply Array.ext'
  exact hd
theorem flat_len (L : List ByteArray) (h : ∀ x ∈ L, vrD x = true) : (flat L).length ≤ 4 * L.length := by
  induction L with
  | nil => simp [flat]
  | cons x r ih =>
    have := (vr_pos x (h x (by simp))).2.1
    have := ih (fun y hy => h y (by simp [hy]))
    show (x.data.toList ++ flat r).length ≤ _
    rw [List.length_append, len_list, List.length_cons]; omega
theorem flat_take (L : List ByteArray) (k : Nat) (x : ByteArray) (h : L[k]? = some x) : flat (L.take (k + 1)) = flat (L.take k) ++ x.data.toList := by
  rw [List.take_add_one, h, flat_append]
  congr 1
  show x.data.toList ++ [] = _
  simp
theorem all_take (L : List ByteArray) (k : Nat) (x : ByteArray) (h : L[k]? = some x) (hx : vrD x = true) (ha : ∀ y ∈ L.take k, vrD y = true) : ∀ y ∈ L.take (k + 1), vrD y = true := by
  intro y hy
  rw [List.take_add_one, h, List.mem_append] at hy
  rcases hy with hy | hy
  · exact ha y hy
  · simp at hy; subst hy; exact hx
/-- What Join returns. -/
def joinB (L : List ByteArray) : Bool := L.all vrD
theorem join_no (L : List ByteArray) (k : Nat) (x : ByteArray) (h : L[k]? = some x) (hx : vrD x = false) : joinB L = false := by
  unfold joinB
  rw [List.all_eq_false]
  exact ⟨x, List.mem_of_getElem? h, by rw [hx]; simp⟩
theorem join_yes (L : List ByteArray) (ha : ∀ y ∈ L, vrD y = true) : joinB L = true := by
  unfold joinB
  rw [List.all_eq_true]; exact ha
theorem split_join (L : List ByteArray) (h : joinB L = true) (hl : L.length ≤ 300) : splitL ⟨(flat L).toArray⟩ = (L, 0, 0) := by
  unfold joinB at h
  rw [List.all_eq_true] at h
  have := flat_len L h
  exact split_flat L (fun p hp => vr_letter p (h p hp)) (by omega)
end Go.Proofs.YtpockcolelfecaaDoor
