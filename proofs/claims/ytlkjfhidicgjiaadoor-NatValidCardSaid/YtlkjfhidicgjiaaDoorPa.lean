/- Plain: numbers in blocks, the lowest block first; sums, differences, quotients block by block. -/
import Derived.Lib.ItoaNum
namespace Go.Proofs.YtlkjfhidicgjiaaDoor

def vl (B : Nat) : List Nat → Nat
  | [] => 0
  | x :: r => x + B * vl B r

theorem vl_append (B : Nat) : ∀ (xs ys : List Nat), vl B (xs ++ ys) = vl B xs + B ^ xs.length * vl B ys
  | [], ys => by simp [vl]
  | x :: xs, ys => by
    simp only [List.cons_append, vl, vl_append B xs ys, List.length_cons, Nat.pow_succ, Nat.mul_add]
    rw [Nat.add_assoc, Nat.mul_comm (B ^ xs.length) B, Nat.mul_assoc]
theorem vl_one (B x : Nat) : vl B [x] = x := by simp [vl]
theorem vl_snoc (B : Nat) (xs : List Nat) (x : Nat) : vl B (xs ++ [x]) = vl B xs + B ^ xs.length * x := by rw [vl_append, vl_one]

theorem vl_lt (B : Nat) : ∀ (xs : List Nat), (∀ x ∈ xs, x < B) → vl B xs < B ^ xs.length
  | [], _ => by simp [vl]
  | x :: xs, h => by
    have h1 := vl_lt B xs (fun y hy => h y (List.mem_cons_of_mem _ hy))
    have h2 := h x (List.mem_cons_self ..)
    simp only [vl, List.length_cons, Nat.pow_succ]
    have h3 : B * (vl B xs + 1) ≤ B * B ^ xs.length := Nat.mul_le_mul_left _ h1
    rw [Nat.mul_add, Nat.mul_one, Nat.mul_comm B (B ^ xs.length)] at h3
    omega

theorem vl_split (B : Nat) (xs : List Nat) (k : Nat) (h : k ≤ xs.length) : vl B xs = vl B (xs.take k) + B ^ k * vl B (xs.drop k) := by
  have := vl_append B (xs.take k) (xs.drop k)
  rw [List.take_append_drop, List.length_take, Nat.min_eq_left h] at this
  exact this

theorem take_succ_getD (l : List Nat) (k : Nat) (h : k < l.length) : l.take (k + 1) = l.take k ++ [l.getD k 0] := by
  rw [List.take_succ_eq_append_getElem h, List.getD_eq_getElem?_getD, List.getElem?_eq_getElem h]; rfl
theorem drop_getD (l : List Nat) (k : Nat) (h : k < l.length) : l.drop k = l.getD k 0 :: l.drop (k + 1) := by
  rw [List.drop_eq_getElem_cons h, List.getD_eq_getElem?_getD, List.getElem?_eq_getElem h]; rfl
theorem getD_out (l : List Nat) (k : Nat) (h : ¬ k < l.length) : l.getD k 0 = 0 := by
  rw [List.getD_eq_getElem?_getD, List.getElem?_eq_none (by omega)]; rfl
theorem getD_mem_lt (B : Nat) (hB : 0 < B) (l : List Nat) (h : ∀ x ∈ l, x < B) (k : Nat) : l.getD k 0 < B := by
  by_cases hk : k < l.length
  · rw [List.getD_eq_getElem?_getD, List.getElem?_eq_getElem hk]
    exact h _ (List.getElem_mem hk)
  · rw [getD_out l k hk]; exact hB

theorem vl_take_succ (B : Nat) (l : List Nat) (k : Nat) : vl B (l.take (k + 1)) = vl B (l.take k) + B ^ k * l.getD k 0 := by
  by_cases hk : k < l.length
  · rw [take_succ_getD l k hk, vl_snoc, List.length_take, Nat.min_eq_left (by omega)]
  · rw [getD_out l k hk, List.take_of_length_le (by omega), List.take_of_length_le (by omega), Nat.mul_zero, Nat.add_zero]

theorem vl_zeros (B : Nat) : ∀ n, vl B (List.replicate n 0) = 0
  | 0 => rfl
  | n + 1 => by simp [List.replicate_succ, vl, vl_zeros B n]

/-- The highest block is not 0. -/
def topOk (xs : List Nat) : Prop := ∀ h : xs ≠ [], xs.getLast h ≠ 0
theorem topOk_nil : topOk [] := fun h => absurd rfl h

theorem vl_top (B : Nat) (xs : List Nat) (h0 : xs ≠ []) (ht : topOk xs) : B ^ (xs.length - 1) ≤ vl B xs := by
  have e := List.dropLast_concat_getLast h0
  have := ht h0
  have hp : B ^ xs.dropLast.length * 1 ≤ B ^ xs.dropLast.length * xs.getLast h0 := Nat.mul_le_mul_left _ (by omega)
  rw [Nat.mul_one, List.length_dropLast] at hp
  rw [← e, vl_snoc, e, List.length_dropLast]
  omega
theorem vl_eq_zero (B : Nat) (hB : 0 < B) (xs : List Nat) (ht : topOk xs) : vl B xs = 0 ↔ xs = [] := by
  constructor
  · intro h
    by_cases h0 : xs = []
    · exact h0
    · have := vl_top B xs h0 ht
      have hp : 0 < B ^ (xs.length - 1) := Nat.pow_pos hB
      omega
  · rintro rfl; rfl

theorem vl_dropLast (B : Nat) (xs : List Nat) (h : xs.getD (xs.length - 1) 0 = 0) : vl B (xs.take (xs.length - 1)) = vl B xs := by
  by_cases h0 : xs.length = 0
  · have : xs = [] := List.eq_nil_of_length_eq_zero h0
    subst this; rfl
  · have := vl_take_succ B xs (xs.length - 1)
    rw [h, show xs.length - 1 + 1 = xs.length by omega, List.take_of_length_le (Nat.le_refl _)] at this
    omega
theorem topOk_of_getD (xs : List Nat) (h : xs.getD (xs.length - 1) 0 ≠ 0) : topOk xs := by
  intro h0
  rw [List.getLast_eq_getElem]
  have : xs.length - 1 < xs.length := by have := List.length_pos_iff.2 h0; omega
  rw [List.getD_eq_getElem?_getD, List.getElem?_eq_getElem this] at h
  exact h

/-! ### Block by block, from the left -/

def comb (T : Nat → Nat → Nat → Nat × Nat) (xs ys : List Nat) (c0 : Nat) : Nat → List Nat × Nat
  | 0 => ([], c0)
  | k + 1 => ((comb T xs ys c0 k).1 ++ [(T (comb T xs ys c0 k).2 (xs.getD k 0) (ys.getD k 0)).2], (T (comb T xs ys c0 k).2 (xs.getD k 0) (ys.getD k 0)).1)
theorem comb_length (T : Nat → Nat → Nat → Nat × Nat) (xs ys : List Nat) (c0 : Nat) : ∀ k, (comb T xs ys c0 k).1.length = k
  | 0 => rfl
  | k + 1 => by rw [comb, List.length_append, comb_length T xs ys c0 k]; rfl

def addT (f c a b : Nat) : Nat × Nat := ((c + (a + f * b)) / 1000000000, (c + (a + f * b)) % 1000000000)
def subT (f c a b : Nat) : Nat × Nat :=
  if a < (c + f * b) % 1000000000 then ((c + f * b) / 1000000000 + 1, a + 1000000000 - (c + f * b) % 1000000000) else ((c + f * b) / 1000000000, a - (c + f * b) % 1000000000)

theorem fb_le (f b : Nat) (hf : f ≤ 1000000000) (hb : b < 1000000000) : f * b ≤ 999999999000000000 := by
  have h1 : f * b ≤ 1000000000 * 999999999 := Nat.mul_le_mul hf (by omega)
  omega

theorem addT_eq (f c a b : Nat) : (addT f c a b).2 + 1000000000 * (addT f c a b).1 = c + a + f * b := by
  unfold addT; simp only; have := Nat.div_add_mod (c + (a + f * b)) 1000000000; omega
theorem addT_lt (f c a b : Nat) : (addT f c a b).2 < 1000000000 := Nat.mod_lt _ (by decide)
theorem addT_le (f c a b : Nat) (hf : f ≤ 1000000000) (hc : c ≤ 1000000000) (ha : a < 1000000000) (hb : b < 1000000000) : (addT f c a b).1 ≤ 1000000000 := by
  have := fb_le f b hf hb; unfold addT; simp only; omega
theorem subT_eq (f c a b : Nat) : (subT f c a b).2 + c + f * b = a + 1000000000 * (subT f c a b).1 := by
  unfold subT
  have := Nat.div_add_mod (c + f * b) 1000000000
  have := Nat.mod_lt (c + f * b) (show 1000000000 > 0 by decide)
  split <;> simp only <;> omega
theorem subT_lt (f c a b : Nat) (ha : a < 1000000000) : (subT f c a b).2 < 1000000000 := by
  unfold subT
  have := Nat.mod_lt (c + f * b) (show 1000000000 > 0 by decide)
  split <;> simp only <;> omega
theorem subT_le (f c a b : Nat) (hf : f ≤ 1000000000) (hc : c ≤ 1000000000) (hb : b < 1000000000) : (subT f c a b).1 ≤ 1000000000 := by
  have := fb_le f b hf hb
  unfold subT
  split <;> simp only <;> omega

theorem comb_add (f : Nat) (xs ys : List Nat) (hf : f ≤ 1000000000) (hx : ∀ x ∈ xs, x < 1000000000) (hy : ∀ y ∈ ys, y < 1000000000) (c0 : Nat) (hc : c0 ≤ 1000000000) :
    ∀ k, (∀ z ∈ (comb (addT f) xs ys c0 k).1, z < 1000000000) ∧ (comb (addT f) xs ys c0 k).2 ≤ 1000000000 ∧
      vl 1000000000 (comb (addT f) xs ys c0 k).1 + 1000000000 ^ k * (comb (addT f) xs ys c0 k).2 = vl 1000000000 (xs.take k) + f * vl 1000000000 (ys.take k) + c0
  | 0 => by simp [comb, vl, hc]
  | k + 1 => by
    obtain ⟨h1, h2, h3⟩ := comb_add f xs ys hf hx hy c0 hc k
    have ha := getD_mem_lt 1000000000 (by decide) xs hx k
    have hb := getD_mem_lt 1000000000 (by decide) ys hy k
    refine ⟨?_, ?_, ?_⟩
    · intro z hz
      rw [comb, List.mem_append] at hz
      rcases hz with hz | hz
      · exact h1 z hz
      · rw [List.mem_singleton] at hz; subst hz; exact addT_lt _ _ _ _
    · exact addT_le _ _ _ _ hf h2 ha hb
    · rw [comb]
      simp only
      rw [vl_snoc, comb_length, vl_take_succ, vl_take_succ, Nat.pow_succ, Nat.mul_assoc, Nat.add_assoc (vl _ _), ← Nat.mul_add, addT_eq, Nat.mul_add, Nat.mul_add, Nat.mul_add]
      have e : f * (1000000000 ^ k * ys.getD k 0) = 1000000000 ^ k * (f * ys.getD k 0) := by rw [← Nat.mul_assoc, Nat.mul_comm f, Nat.mul_assoc]
      rw [e]
      omega

theorem comb_sub (f : Nat) (xs ys : List Nat) (hf : f ≤ 1000000000) (hx : ∀ x ∈ xs, x < 1000000000) (hy : ∀ y ∈ ys, y < 1000000000) (c0 : Nat) (hc : c0 ≤ 1000000000) :
    ∀ k, (∀ z ∈ (comb (subT f) xs ys c0 k).1, z < 1000000000) ∧ (comb (subT f) xs ys c0 k).2 ≤ 1000000000 ∧
      vl 1000000000 (comb (subT f) xs ys c0 k).1 + c0 + f * vl 1000000000 (ys.take k) = vl 1000000000 (xs.take k) + 1000000000 ^ k * (comb (subT f) xs ys c0 k).2
  | 0 => by simp [comb, vl, hc]
  | k + 1 => by
    obtain ⟨h1, h2, h3⟩ := comb_sub f xs ys hf hx hy c0 hc k
    have ha := getD_mem_lt 1000000000 (by decide) xs hx k
    have hb := getD_mem_lt 1000000000 (by decide) ys hy k
    refine ⟨?_, ?_, ?_⟩
    · intro z hz
      rw [comb, List.mem_append] at hz
      rcases hz with hz | hz
      · exact h1 z hz
      · rw [List.mem_singleton] at hz; subst hz; exact subT_lt _ _ _ _ ha
    · exact subT_le _ _ _ _ hf h2 hb
    · rw [comb]
      simp only
      rw [vl_snoc, comb_length, vl_take_succ, vl_take_succ, Nat.pow_succ, Nat.mul_assoc]
      have e : f * (1000000000 ^ k * ys.getD k 0) = 1000000000 ^ k * (f * ys.getD k 0) := by rw [← Nat.mul_assoc, Nat.mul_comm f, Nat.mul_assoc]
      rw [Nat.mul_add f, e]
      have q := congrArg (fun t => 1000000000 ^ k * t) (subT_eq f (comb (subT f) xs ys c0 k).2 (xs.getD k 0) (ys.getD k 0))
      simp only [Nat.mul_add] at q
      omega
end Go.Proofs.YtlkjfhidicgjiaaDoor
