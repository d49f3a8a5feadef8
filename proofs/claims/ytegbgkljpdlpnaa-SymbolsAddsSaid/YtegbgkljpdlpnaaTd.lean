/- The longest name at a place, and the division of a text: plain. -/
import Derived.Test.YtegbgkljpdlpnaaTa
set_option linter.unusedVariables false
set_option linter.unusedSimpArgs false
namespace Go.Proofs.Ytegbgkljpdlpnaa

/-- x stands at the beginning of r. -/
def St (r x : ByteArray) : Prop := x.size ≤ r.size ∧ r.extract 0 x.size = x
theorem St.size {r x : ByteArray} (h : St r x) : x.size ≤ r.size := h.1
theorem St.eq {r x y : ByteArray} (h : St r x) (k : St r y) (e : x.size = y.size) : x = y := by rw [← h.2, ← k.2, e]
theorem St.at {t : ByteArray} {i : Nat} (hi : i ≤ t.size) (x : ByteArray) : St (t.extract i t.size) x ↔ i + x.size ≤ t.size ∧ t.extract i (i + x.size) = x := by
  unfold St
  rw [ByteArray.size_extract, ByteArray.extract_extract, Nat.min_self, Nat.add_zero]
  constructor
  · rintro ⟨h1, h2⟩
    refine ⟨by omega, ?_⟩
    rw [Nat.min_eq_left (by omega)] at h2
    exact h2
  · rintro ⟨h1, h2⟩
    refine ⟨by omega, ?_⟩
    rw [Nat.min_eq_left (by omega)]
    exact h2
/-- p: the symbol of the longest name of L that stands at the beginning of r, and its bytes; zeros: none stands. -/
def Best (L : List ByteArray) (r : ByteArray) (p : Nat × Nat) : Prop :=
  (p = (0, 0) ∧ ∀ x ∈ L, ¬ St r x) ∨ ∃ x, 1 ≤ p.1 ∧ L[p.1 - 1]? = some x ∧ p.2 = x.size ∧ St r x ∧ ∀ y ∈ L, St r y → y.size ≤ x.size
theorem idx_nodup {L : List ByteArray} (hn : L.Nodup) {i j : Nat} {x : ByteArray} (hi : L[i]? = some x) (hj : L[j]? = some x) : i = j := by
  have h1 := pos_at hn hi
  have h2 := pos_at hn hj
  omega
theorem Best.unique {L : List ByteArray} (hn : L.Nodup) {r : ByteArray} {p q : Nat × Nat} (h : Best L r p) (k : Best L r q) : p = q := by
  rcases h with ⟨rfl, h⟩ | ⟨x, h1, h2, h3, h4, h5⟩
  · rcases k with ⟨rfl, k⟩ | ⟨y, k1, k2, k3, k4, k5⟩
    · rfl
    · exact absurd k4 (h y (List.mem_of_getElem? k2))
  · rcases k with ⟨rfl, k⟩ | ⟨y, k1, k2, k3, k4, k5⟩
    · exact absurd h4 (k x (List.mem_of_getElem? h2))
    · have e1 := h5 y (List.mem_of_getElem? k2) k4
      have e2 := k5 x (List.mem_of_getElem? h2) h4
      have e : x = y := h4.eq k4 (by omega)
      subst e
      have := idx_nodup hn h2 k2
      obtain ⟨p1, p2⟩ := p; obtain ⟨q1, q2⟩ := q
      simp only at *
      rw [h3, k3, show p1 = q1 by omega]
/-- The search from the longest size down. -/
def scan (L : List ByteArray) (r : ByteArray) : Nat → Nat × Nat
  | 0 => (0, 0)
  | n + 1 => if r.extract 0 (n + 1) ∈ L then (pos L (r.extract 0 (n + 1)), n + 1) else scan L r n
def bst (L : List ByteArray) (r : ByteArray) : Nat × Nat := scan L r (min (wide L) r.size)
theorem scan_best {L : List ByteArray} (hz : ∀ x ∈ L, 1 ≤ x.size) (r : ByteArray) : ∀ n, n ≤ r.size → (∀ y ∈ L, St r y → y.size ≤ n) → Best L r (scan L r n)
  | 0, _, h => .inl ⟨rfl, fun x hx hs => by have := h x hx hs; have := hz x hx; omega⟩
  | n + 1, hn, h => by
    unfold scan
    split
    · rename_i hm
      have hsz : (r.extract 0 (n + 1)).size = n + 1 := by rw [ByteArray.size_extract]; omega
      have := pos_mem hm
      exact .inr ⟨_, by simp only; omega, at_pos hm, by simp only; omega, ⟨by omega, by rw [hsz]⟩, fun y hy hs => by rw [hsz]; exact h y hy hs⟩
    · rename_i hm
      refine scan_best hz r n (by omega) (fun y hy hs => ?_)
      have := h y hy hs
      rcases Nat.lt_or_ge n y.size with h1 | h1
      · exfalso; apply hm
        have e : y.size = n + 1 := by omega
        have := hs.2
        rw [e] at this
        rw [this]; exact hy
      · exact h1
theorem bst_best {L : List ByteArray} (hz : ∀ x ∈ L, 1 ≤ x.size) (r : ByteArray) : Best L r (bst L r) :=
  scan_best hz r _ (Nat.min_le_right _ _) (fun y hy hs => by have := wide_ge hy; have := hs.size; omega)
theorem good_pos {L : List ByteArray} (h : goodB L = true) : ∀ x ∈ L, 1 ≤ x.size := fun x hx => (nameB_size ((goodB_iff.1 h).1 x hx)).1
theorem bst_eq {L : List ByteArray} (h : goodB L = true) {r : ByteArray} {p : Nat × Nat} (k : Best L r p) : bst L r = p :=
  (bst_best (good_pos h) r).unique (goodB_iff.1 h).2 k
/-- Names gone through from the first to the last. -/
theorem Best.nil (r : ByteArray) : Best [] r (0, 0) := .inl ⟨rfl, fun x hx => by cases hx⟩
theorem Best.snoc_new {M : List ByteArray} {x r : ByteArray} {p : Nat × Nat} (h : Best M r p) (hs : St r x) (hl : p.2 < x.size) : Best (M ++ [x]) r (M.length + 1, x.size) := by
  refine .inr ⟨x, by simp, by simp, rfl, hs, fun y hy hy2 => ?_⟩
  rcases List.mem_append.1 hy with hy | hy
  · rcases h with ⟨rfl, h⟩ | ⟨z, h1, h2, h3, h4, h5⟩
    · exact absurd hy2 (h y hy)
    · have := h5 y hy hy2; omega
  · have : y = x := by simpa using hy
    subst this; omega
theorem Best.snoc_old {M : List ByteArray} {x r : ByteArray} {p : Nat × Nat} (h : Best M r p) (hx : 1 ≤ x.size) (hs : ¬ (p.2 < x.size ∧ St r x)) : Best (M ++ [x]) r p := by
  rcases h with ⟨rfl, h⟩ | ⟨z, h1, h2, h3, h4, h5⟩
  · refine .inl ⟨rfl, fun y hy hy2 => ?_⟩
    rcases List.mem_append.1 hy with hy | hy
    · exact h y hy hy2
    · have : y = x := by simpa using hy
      subst this; exact hs ⟨by simp only; omega, hy2⟩
  · have hlt : p.1 - 1 < M.length := (List.getElem?_eq_some_iff.1 h2).1
    refine .inr ⟨z, h1, by rw [List.getElem?_append_left hlt]; exact h2, h3, h4, fun y hy hy2 => ?_⟩
    rcases List.mem_append.1 hy with hy | hy
    · exact h5 y hy hy2
    · have : y = x := by simpa using hy
      subst this
      rcases Nat.lt_or_ge p.2 y.size with h | h
      · exact absurd ⟨h, hy2⟩ hs
      · omega
/-- What is found is a symbol, and its name stands there. -/
theorem bst_cases {L : List ByteArray} (h : goodB L = true) (r : ByteArray) : (bst L r = (0, 0)) ∨ ∃ x, 1 ≤ (bst L r).1 ∧ (bst L r).1 ≤ L.length ∧ L[(bst L r).1 - 1]? = some x ∧ (bst L r).2 = x.size ∧ St r x ∧ 1 ≤ x.size := by
  rcases bst_best (good_pos h) r with ⟨h1, _⟩ | ⟨x, h1, h2, h3, h4, _⟩
  · exact .inl h1
  · have := (List.getElem?_eq_some_iff.1 h2).1
    exact .inr ⟨x, h1, by omega, h2, h3, h4, good_pos h x (List.mem_of_getElem? h2)⟩

/-- The division. -/
def divF (L : List ByteArray) (t : ByteArray) : Nat → Nat → List Nat × Nat
  | 0, at_ => ([], at_)
  | f + 1, at_ => if at_ < t.size then (if (bst L (t.extract at_ t.size)).1 = 0 then ([], at_) else ((bst L (t.extract at_ t.size)).1 :: (divF L t f (at_ + (bst L (t.extract at_ t.size)).2)).1, (divF L t f (at_ + (bst L (t.extract at_ t.size)).2)).2)) else ([], at_)
def divL (L : List ByteArray) (t : ByteArray) : List Nat × Nat := divF L t t.size 0
theorem divF_end {L : List ByteArray} {t : ByteArray} {f i : Nat} (h : ¬ i < t.size) : divF L t f i = ([], i) := by cases f <;> simp [divF, h]
theorem divF_stop {L : List ByteArray} {t : ByteArray} {f i : Nat} (h : i < t.size) (h0 : (bst L (t.extract i t.size)).1 = 0) : divF L t (f + 1) i = ([], i) := by simp [divF, h, h0]
theorem divF_step {L : List ByteArray} {t : ByteArray} {f i s n : Nat} (h : i < t.size) (hb : bst L (t.extract i t.size) = (s, n)) (h0 : s ≠ 0) :
    divF L t (f + 1) i = (s :: (divF L t f (i + n)).1, (divF L t f (i + n)).2) := by simp [divF, h, hb, h0]
/-- What Tokens answers. -/
def tokL (L : List ByteArray) (t : ByteArray) : List Nat × Nat × Nat :=
  if tableB L = true then (if 16384 < t.size then ([], 0, 2) else if (divL L t).2 < t.size then ([], (divL L t).2, 3) else if 200 < (divL L t).1.length then ([], 0, 2) else ((divL L t).1, 0, 0)) else ([], 0, 1)
/-- The names of a word, one after the other. -/
def namesOf (L : List ByteArray) : List Nat → ByteArray
  | [] => ⟨#[]⟩
  | s :: r => L.getD (s - 1) ⟨#[]⟩ ++ namesOf L r
end Go.Proofs.Ytegbgkljpdlpnaa
