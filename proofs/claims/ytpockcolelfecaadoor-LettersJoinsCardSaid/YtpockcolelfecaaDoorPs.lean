/- Plain Lean: what the units of a quoted name are. -/
import Derived.Test.YtpockcolelfecaaDoorPr
set_option linter.unusedVariables false
set_option linter.unusedSimpArgs false
namespace Go.Proofs.YtpockcolelfecaaDoor

theorem drop_get {α : Type} (L : List α) (k j : Nat) (a r : List α) (h : L.drop k = a ++ r) (x : α) (hx : a[j]? = some x) : L[k + j]? = some x ∧ k + j < L.length := by
  have hj : j < a.length := by
    rcases Nat.lt_or_ge j a.length with h1 | h1
    · exact h1
    · rw [List.getElem?_eq_none h1] at hx; cases hx
  have : L[k + j]? = some x := by
    rw [← List.getElem?_drop, h, List.getElem?_append_left hj, hx]
  refine ⟨this, ?_⟩
  rcases Nat.lt_or_ge (k + j) L.length with h1 | h1
  · exact h1
  · rw [List.getElem?_eq_none h1] at this; cases this
theorem drop_more {α : Type} (L : List α) (k : Nat) (a r : List α) (h : L.drop k = a ++ r) : L.drop (k + a.length) = r := by
  rw [← List.drop_drop, h, List.drop_left]

theorem is_lit (p : ByteArray) (b : UInt8) (h : p.data.toList = [b]) : p = ⟨[b].toArray⟩ := by
  rw [← bytes_back p, h]
theorem cls_pct : clsD ⟨[37].toArray⟩ = 5 := by decide +kernel
theorem cls_x : clsD ⟨[120].toArray⟩ = 1 := by decide +kernel
theorem cls_zero : clsD ⟨[48].toArray⟩ = 3 := by decide +kernel

theorem low_byte (s : ByteArray) (i : Nat) (h : i < s.size) (hs : stray s i = false) (hc : ctlR ((Utf8.decode s i).1 : Int) = false) : 32 ≤ gb (piece s i) 0 ∧ gb (piece s i) 0 ≠ 127 := by
  unfold ctlR at hc
  simp only [decide_eq_false_iff_not, not_or] at hc
  have hp := pw_pos s i
  have hz := piece_size s i h
  rcases piece_bytes s i h hs with ⟨e, e1, e2, _⟩ | ⟨e, e1, e2⟩
  · have := piece_gb s i 0 h hp
    rw [Nat.add_zero] at this
    rw [this, ← e2]; omega
  · have hl : 0 < (piece s i).data.toList.length := by rw [len_list]; omega
    have := e _ (List.getElem_mem hl)
    rw [gb_list, List.getD_eq_getElem?_getD, List.getElem?_eq_getElem hl]
    simp only [Option.getD_some]
    omega

theorem uP_ways (s : ByteArray) (i : Nat) (h : i < s.size) :
    (∃ m n, m < 16 ∧ n < 16 ∧ uP s i = [⟨[37].toArray⟩, ⟨[120].toArray⟩, ⟨[hexD m].toArray⟩, ⟨[hexD n].toArray⟩]) ∨
    (uP s i = [⟨[37].toArray⟩, piece s i] ∧ (clsD (piece s i) = 4 ∨ clsD (piece s i) = 5) ∧ 32 ≤ gb (piece s i) 0) ∨
    (uP s i = [piece s i] ∧ clsD (piece s i) ≠ 4 ∧ clsD (piece s i) ≠ 5 ∧ 32 ≤ gb (piece s i) 0 ∧ gb (piece s i) 0 ≠ 127) := by
  have l0 := gb_lt s i
  unfold uP
  split
  · exact Or.inl ⟨_, _, by omega, by omega, rfl⟩
  · rename_i hx
    simp only [Bool.or_eq_true, not_or, Bool.not_eq_true] at hx
    have hlb := low_byte s i h hx.1 hx.2
    rw [clsD_letter s i h hx.1]
    split
    · rename_i hm
      exact Or.inr (Or.inl ⟨rfl, hm, hlb.1⟩)
    · rename_i hm
      exact Or.inr (Or.inr ⟨rfl, fun g => hm (Or.inl g), fun g => hm (Or.inr g), hlb⟩)
theorem not_pct (p : ByteArray) (h : clsD p ≠ 5) : p.data.toList ≠ [37] := by
  intro e; rw [is_lit p 37 e, cls_pct] at h; exact h rfl
theorem not_x (p : ByteArray) (h : clsD p = 4 ∨ clsD p = 5) : p.data.toList ≠ [120] := by
  intro e; rw [is_lit p 120 e, cls_x] at h; omega
theorem not_zero (p : ByteArray) (h : clsD p = 4 ∨ clsD p = 5) : p.data.toList ≠ [48] := by
  intro e; rw [is_lit p 48 e, cls_zero] at h; omega

/-- The letters of a quoted name that is not empty are not the two of the empty one. -/
theorem uL_not_empty (s : ByteArray) (h : 0 < s.size) (a b : ByteArray) (e : uFrom s s.size 0 = [a, b]) : ¬ (a.data.toList = [37] ∧ b.data.toList = [48]) := by
  rintro ⟨ha, hb⟩
  obtain ⟨n, hn⟩ : ∃ n, s.size = n + 1 := ⟨s.size - 1, by omega⟩
  rw [hn, uFrom_step s n 0 h] at e
  rcases uP_ways s 0 h with ⟨m, n', _, _, hu⟩ | ⟨hu, hc, _⟩ | ⟨hu, hc4, hc5, _⟩
  · rw [hu] at e; simp at e
  · rw [hu] at e
    simp at e
    obtain ⟨_, e2, _⟩ := e
    exact not_zero _ hc (by rw [e2]; exact hb)
  · rw [hu] at e
    simp at e
    exact not_pct _ hc5 (by rw [e.1]; exact ha)
theorem uFrom_ne (s : ByteArray) (h : 0 < s.size) : uFrom s s.size 0 ≠ [] := by
  obtain ⟨n, hn⟩ : ∃ n, s.size = n + 1 := ⟨s.size - 1, by omega⟩
  rw [hn, uFrom_step s n 0 h]
  rcases uP_ways s 0 h with ⟨m, n', _, _, hu⟩ | ⟨hu, hc, _⟩ | ⟨hu, hc4, hc5, _⟩ <;> rw [hu] <;> simp
end Go.Proofs.YtpockcolelfecaaDoor
