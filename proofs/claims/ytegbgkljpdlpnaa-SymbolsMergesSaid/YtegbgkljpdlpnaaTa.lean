/- Names, tables, the symbols of names: plain. -/
import Derived.Test.YtegbgkljpdlpnaaPd
set_option linter.unusedVariables false
set_option linter.unusedSimpArgs false
namespace Go.Proofs.Ytegbgkljpdlpnaa

instance : LawfulBEq ByteArray where
  eq_of_beq {a b} h := ByteArray.ext (eq_of_beq (α := Array UInt8) h)
  rfl {a} := beq_self_eq_true (α := Array UInt8) a.data

/-- A name: 1 to 40 bytes, letters. -/
def nameB (s : ByteArray) : Bool := decide (1 ≤ s.size) && decide (s.size ≤ 40) && decide ((splitL s).2.2 = 0)
theorem nameB_size {s : ByteArray} (h : nameB s = true) : 1 ≤ s.size ∧ s.size ≤ 40 := by
  unfold nameB at h
  simp only [Bool.and_eq_true, decide_eq_true_eq] at h
  exact h.1
/-- All are names, no two alike. -/
def goodB (L : List ByteArray) : Bool := L.all nameB && decide L.Nodup
def tableB (L : List ByteArray) : Bool := decide (L.length ≤ 500) && goodB L
theorem goodB_iff {L : List ByteArray} : goodB L = true ↔ (∀ s ∈ L, nameB s = true) ∧ L.Nodup := by
  unfold goodB; simp
theorem goodB_nil : goodB [] = true := by rw [goodB_iff]; simp
theorem goodB_snoc {L : List ByteArray} {s : ByteArray} : goodB (L ++ [s]) = true ↔ goodB L = true ∧ nameB s = true ∧ s ∉ L := by
  rw [goodB_iff, goodB_iff, List.nodup_append]
  simp only [List.mem_append, List.mem_singleton]
  constructor
  · rintro ⟨h1, h2, h3, h4⟩
    exact ⟨⟨fun x hx => h1 x (.inl hx), h2⟩, h1 s (.inr rfl), fun hs => h4 s hs s rfl rfl⟩
  · rintro ⟨⟨h1, h2⟩, h3, h4⟩
    refine ⟨fun x hx => ?_, h2, by simp, fun a ha b hb e => ?_⟩
    · rcases hx with hx | rfl
      · exact h1 x hx
      · exact h3
    · subst hb; subst e; exact h4 ha
theorem goodB_of_prefix {L M : List ByteArray} (h : goodB (L ++ M) = true) : goodB L = true := by
  rw [goodB_iff] at *
  exact ⟨fun s hs => h.1 s (List.mem_append_left _ hs), (List.nodup_append.1 h.2).1⟩
theorem goodB_take {L : List ByteArray} (h : goodB L = true) (k : Nat) : goodB (L.take k) = true := by
  have : goodB (L.take k ++ L.drop k) = true := by rw [List.take_append_drop]; exact h
  exact goodB_of_prefix this
theorem take_snoc {α : Type} {L : List α} {k : Nat} {x : α} (h : L[k]? = some x) : L.take (k + 1) = L.take k ++ [x] := by
  rw [List.take_add_one, h]; rfl
theorem tableB_iff {L : List ByteArray} : tableB L = true ↔ L.length ≤ 500 ∧ goodB L = true := by unfold tableB; simp

/-- The symbol of a name; 0: it has none. -/
def pos (L : List ByteArray) (s : ByteArray) : Nat := if s ∈ L then L.idxOf s + 1 else 0
theorem pos_mem {L : List ByteArray} {s : ByteArray} (h : s ∈ L) : pos L s = L.idxOf s + 1 := by unfold pos; rw [if_pos h]
theorem pos_not {L : List ByteArray} {s : ByteArray} (h : s ∉ L) : pos L s = 0 := by unfold pos; rw [if_neg h]
theorem pos_zero {L : List ByteArray} {s : ByteArray} : pos L s = 0 ↔ s ∉ L := by
  unfold pos; split <;> simp_all
theorem pos_le (L : List ByteArray) (s : ByteArray) : pos L s ≤ L.length := by
  unfold pos; split
  · rename_i h; have := List.idxOf_lt_length_of_mem h; omega
  · omega
theorem pos_nil (s : ByteArray) : pos [] s = 0 := rfl
theorem pos_snoc_same {L : List ByteArray} {s : ByteArray} (h : s ∉ L) : pos (L ++ [s]) s = L.length + 1 := by
  rw [pos_mem (by simp), List.idxOf_append, if_neg h]; simp
theorem pos_snoc_other {L : List ByteArray} {s t : ByteArray} (h : t ≠ s) : pos (L ++ [s]) t = pos L t := by
  unfold pos
  by_cases ht : t ∈ L
  · rw [if_pos ht, if_pos (by simp [ht]), List.idxOf_append, if_pos ht]
  · rw [if_neg ht, if_neg (by simp [ht, h])]
/-- What stands at an index, is found there, if no two are alike. -/
theorem pos_at {L : List ByteArray} (hn : L.Nodup) {k : Nat} {s : ByteArray} (h : L[k]? = some s) : pos L s = k + 1 := by
  obtain ⟨hk, rfl⟩ := List.getElem?_eq_some_iff.1 h
  rw [pos_mem (List.getElem_mem hk), List.Nodup.idxOf_getElem hn]
theorem at_pos {L : List ByteArray} {s : ByteArray} (h : s ∈ L) : L[pos L s - 1]? = some s := by
  rw [pos_mem h, Nat.add_sub_cancel, List.getElem?_eq_getElem (List.idxOf_lt_length_of_mem h), List.getElem_idxOf]
/-- The bytes of the longest name. -/
def wide (L : List ByteArray) : Nat := L.foldl (fun m s => max m s.size) 0
theorem wide_snoc (L : List ByteArray) (s : ByteArray) : wide (L ++ [s]) = max (wide L) s.size := by unfold wide; rw [List.foldl_append]; rfl
theorem wide_ge {L : List ByteArray} : ∀ {s}, s ∈ L → s.size ≤ wide L := by
  have h : ∀ (L : List ByteArray) (m : Nat), m ≤ L.foldl (fun m s => max m s.size) m ∧ ∀ s ∈ L, s.size ≤ L.foldl (fun m s => max m s.size) m := by
    intro L
    induction L with
    | nil => intro m; simp
    | cons x r ih =>
      intro m
      obtain ⟨h1, h2⟩ := ih (max m x.size)
      refine ⟨by simp only [List.foldl_cons]; omega, fun s hs => ?_⟩
      rcases List.mem_cons.1 hs with rfl | hs
      · simp only [List.foldl_cons]; omega
      · exact h2 s hs
  intro s hs
  exact (h L 0).2 s hs
theorem wide_le {L : List ByteArray} {n : Nat} (h : ∀ s ∈ L, s.size ≤ n) : wide L ≤ n := by
  have h1 : ∀ (L : List ByteArray) (m : Nat), m ≤ n → (∀ s ∈ L, s.size ≤ n) → L.foldl (fun m s => max m s.size) m ≤ n := by
    intro L
    induction L with
    | nil => intro m hm _; exact hm
    | cons x r ih => intro m hm hs; exact ih _ (by have := hs x (by simp); show max m x.size ≤ n; omega) (fun s h => hs s (by simp [h]))
  exact h1 L 0 (by omega) h
end Go.Proofs.Ytegbgkljpdlpnaa
