/- Plain Lean, no program in it: what a step over a string of bytes meets (the model decoder, byte by byte), and the code point at a place. -/
import Derived.Laws.RangeAny
set_option linter.unusedVariables false
set_option linter.unusedSimpArgs false
namespace Go.Proofs.Ytegbgkljpdlpnaa
open Go

/-- The byte at a place; 0 beyond the end. -/
def gb (s : ByteArray) (i : Nat) : Nat := (s.get! i).toNat
theorem gb_lt (s : ByteArray) (i : Nat) : gb s i < 256 := (s.get! i).toNat_lt
theorem gb_out (s : ByteArray) (i : Nat) (h : ¬ i < s.size) : gb s i = 0 := by
  unfold gb ByteArray.get!
  have h2 : s.data[i]? = none := Array.getElem?_eq_none (by have : ¬ i < s.data.size := h; omega)
  simp [getElem!_def, h2]; rfl

def ptN (s : ByteArray) (i : Nat) : Nat × Nat :=
  if ¬ i < s.size then (0, 0)
  else if gb s i < 128 then (gb s i, 1)
  else if 192 ≤ gb s i ∧ gb s i < 224 ∧ (128 ≤ gb s (i+1) ∧ gb s (i+1) < 192) ∧ 128 ≤ (gb s i - 192) * 64 + gb s (i+1) - 128 then
    ((gb s i - 192) * 64 + gb s (i+1) - 128, 2)
  else if 224 ≤ gb s i ∧ gb s i < 240 ∧ (128 ≤ gb s (i+1) ∧ gb s (i+1) < 192) ∧ (128 ≤ gb s (i+2) ∧ gb s (i+2) < 192) ∧
      2048 ≤ (gb s i - 224) * 4096 + (gb s (i+1) - 128) * 64 + gb s (i+2) - 128 ∧
      ((gb s i - 224) * 4096 + (gb s (i+1) - 128) * 64 + gb s (i+2) - 128 < 55296 ∨ 57343 < (gb s i - 224) * 4096 + (gb s (i+1) - 128) * 64 + gb s (i+2) - 128) then
    ((gb s i - 224) * 4096 + (gb s (i+1) - 128) * 64 + gb s (i+2) - 128, 3)
  else if 240 ≤ gb s i ∧ gb s i < 248 ∧ (128 ≤ gb s (i+1) ∧ gb s (i+1) < 192) ∧ (128 ≤ gb s (i+2) ∧ gb s (i+2) < 192) ∧ (128 ≤ gb s (i+3) ∧ gb s (i+3) < 192) ∧
      65536 ≤ (gb s i - 240) * 262144 + (gb s (i+1) - 128) * 4096 + (gb s (i+2) - 128) * 64 + gb s (i+3) - 128 ∧
      (gb s i - 240) * 262144 + (gb s (i+1) - 128) * 4096 + (gb s (i+2) - 128) * 64 + gb s (i+3) - 128 ≤ 1114111 then
    ((gb s i - 240) * 262144 + (gb s (i+1) - 128) * 4096 + (gb s (i+2) - 128) * 64 + gb s (i+3) - 128, 4)
  else (0, 0)

theorem ptN_in (s : ByteArray) (i : Nat) (h : i < s.size) : ptN s i =
  if gb s i < 128 then (gb s i, 1)
  else if 192 ≤ gb s i ∧ gb s i < 224 ∧ (128 ≤ gb s (i+1) ∧ gb s (i+1) < 192) ∧ 128 ≤ (gb s i - 192) * 64 + gb s (i+1) - 128 then
    ((gb s i - 192) * 64 + gb s (i+1) - 128, 2)
  else if 224 ≤ gb s i ∧ gb s i < 240 ∧ (128 ≤ gb s (i+1) ∧ gb s (i+1) < 192) ∧ (128 ≤ gb s (i+2) ∧ gb s (i+2) < 192) ∧
      2048 ≤ (gb s i - 224) * 4096 + (gb s (i+1) - 128) * 64 + gb s (i+2) - 128 ∧
      ((gb s i - 224) * 4096 + (gb s (i+1) - 128) * 64 + gb s (i+2) - 128 < 55296 ∨ 57343 < (gb s i - 224) * 4096 + (gb s (i+1) - 128) * 64 + gb s (i+2) - 128) then
    ((gb s i - 224) * 4096 + (gb s (i+1) - 128) * 64 + gb s (i+2) - 128, 3)
  else if 240 ≤ gb s i ∧ gb s i < 248 ∧ (128 ≤ gb s (i+1) ∧ gb s (i+1) < 192) ∧ (128 ≤ gb s (i+2) ∧ gb s (i+2) < 192) ∧ (128 ≤ gb s (i+3) ∧ gb s (i+3) < 192) ∧
      65536 ≤ (gb s i - 240) * 262144 + (gb s (i+1) - 128) * 4096 + (gb s (i+2) - 128) * 64 + gb s (i+3) - 128 ∧
      (gb s i - 240) * 262144 + (gb s (i+1) - 128) * 4096 + (gb s (i+2) - 128) * 64 + gb s (i+3) - 128 ≤ 1114111 then
    ((gb s i - 240) * 262144 + (gb s (i+1) - 128) * 4096 + (gb s (i+2) - 128) * 64 + gb s (i+3) - 128, 4)
  else (0, 0) := by
  unfold ptN; rw [if_neg (by omega)]

theorem cont_iff (s : ByteArray) (i k : Nat) : (decide (i + k < s.size) && (s.get! (i + k)).toNat / 64 == 2) = decide (128 ≤ gb s (i+k) ∧ gb s (i+k) < 192) := by
  by_cases h : i + k < s.size
  · have := gb_lt s (i+k)
    simp only [h, decide_true, Bool.true_and]
    show ((gb s (i+k)) / 64 == 2) = _
    rw [Bool.eq_iff_iff]; simp; omega
  · have := gb_out s (i+k) h
    simp [h, this]

def stray (s : ByteArray) (i : Nat) : Bool := Utf8.decode s i == (65533, 1)

set_option maxRecDepth 100000 in
theorem decode_eq (s : ByteArray) (i : Nat) : Utf8.decode s i =
  if gb s i < 128 then (gb s i, 1)
  else if 192 ≤ gb s i ∧ gb s i < 224 ∧ (128 ≤ gb s (i+1) ∧ gb s (i+1) < 192) ∧ 128 ≤ (gb s i - 192) * 64 + gb s (i+1) - 128 then
    ((gb s i - 192) * 64 + gb s (i+1) - 128, 2)
  else if 224 ≤ gb s i ∧ gb s i < 240 ∧ (128 ≤ gb s (i+1) ∧ gb s (i+1) < 192) ∧ (128 ≤ gb s (i+2) ∧ gb s (i+2) < 192) ∧
      2048 ≤ (gb s i - 224) * 4096 + (gb s (i+1) - 128) * 64 + gb s (i+2) - 128 ∧
      ((gb s i - 224) * 4096 + (gb s (i+1) - 128) * 64 + gb s (i+2) - 128 < 55296 ∨ 57343 < (gb s i - 224) * 4096 + (gb s (i+1) - 128) * 64 + gb s (i+2) - 128) then
    ((gb s i - 224) * 4096 + (gb s (i+1) - 128) * 64 + gb s (i+2) - 128, 3)
  else if 240 ≤ gb s i ∧ gb s i < 248 ∧ (128 ≤ gb s (i+1) ∧ gb s (i+1) < 192) ∧ (128 ≤ gb s (i+2) ∧ gb s (i+2) < 192) ∧ (128 ≤ gb s (i+3) ∧ gb s (i+3) < 192) ∧
      65536 ≤ (gb s i - 240) * 262144 + (gb s (i+1) - 128) * 4096 + (gb s (i+2) - 128) * 64 + gb s (i+3) - 128 ∧
      (gb s i - 240) * 262144 + (gb s (i+1) - 128) * 4096 + (gb s (i+2) - 128) * 64 + gb s (i+3) - 128 ≤ 1114111 then
    ((gb s i - 240) * 262144 + (gb s (i+1) - 128) * 4096 + (gb s (i+2) - 128) * 64 + gb s (i+3) - 128, 4)
  else (65533, 1) := by
  have c1 := cont_iff s i 1
  have c2 := cont_iff s i 2
  have c3 := cont_iff s i 3
  have h0 := gb_lt s i; have h1 := gb_lt s (i+1); have h2 := gb_lt s (i+2); have h3 := gb_lt s (i+3)
  unfold Utf8.decode
  simp only [c1, c2, c3, Nat.add_zero]
  show (if gb s i < 128 then (gb s i, 1) else if (gb s i / 32 == 6 && _) = true then (if ((gb s i % 32) * 64 + gb s (i+1) % 64) ≥ 128 then ((gb s i % 32) * 64 + gb s (i+1) % 64, 2) else (65533, 1)) else if (gb s i / 16 == 14 && _ && _) = true then (if ((gb s i % 16) * 4096 + gb s (i+1) % 64 * 64 + gb s (i+2) % 64 ≥ 2048 && Utf8.valid ((gb s i % 16) * 4096 + gb s (i+1) % 64 * 64 + gb s (i+2) % 64 : Nat)) = true then ((gb s i % 16) * 4096 + gb s (i+1) % 64 * 64 + gb s (i+2) % 64, 3) else (65533, 1)) else if (gb s i / 8 == 30 && _ && _ && _) = true then (if ((gb s i % 8) * 262144 + gb s (i+1) % 64 * 4096 + gb s (i+2) % 64 * 64 + gb s (i+3) % 64 ≥ 65536 && Utf8.valid ((gb s i % 8) * 262144 + gb s (i+1) % 64 * 4096 + gb s (i+2) % 64 * 64 + gb s (i+3) % 64 : Nat)) = true then ((gb s i % 8) * 262144 + gb s (i+1) % 64 * 4096 + gb s (i+2) % 64 * 64 + gb s (i+3) % 64, 4) else (65533, 1)) else (65533, 1)) = _
  generalize gb s i = a at *
  generalize gb s (i+1) = b at *
  generalize gb s (i+2) = c at *
  generalize gb s (i+3) = d at *
  have hv : ∀ n : Nat, Utf8.valid (n : Int) = decide (n < 55296 ∨ (57344 ≤ n ∧ n ≤ 1114111)) := by
    intro n; unfold Utf8.valid; rw [Bool.eq_iff_iff]; simp; omega
  rw [hv, hv]
  clear hv c1 c2 c3
  have e6 : ((a / 32 == 6) = true) = (192 ≤ a ∧ a < 224) := by simp only [beq_iff_eq, eq_iff_iff]; omega
  have e14 : ((a / 16 == 14) = true) = (224 ≤ a ∧ a < 240) := by simp only [beq_iff_eq, eq_iff_iff]; omega
  have e30 : ((a / 8 == 30) = true) = (240 ≤ a ∧ a < 248) := by simp only [beq_iff_eq, eq_iff_iff]; omega
  simp only [Bool.and_eq_true, decide_eq_true_eq, e6, e14, e30, ge_iff_le]
  clear e6 e14 e30
  by_cases g1 : a < 128
  · simp only [g1, if_true]
  simp only [g1, if_false]
  by_cases g2 : 192 ≤ a ∧ a < 224
  · have n3 : ¬ (224 ≤ a) := by omega
    have n4 : ¬ (240 ≤ a) := by omega
    simp only [g2, n3, n4, true_and, false_and, if_false]
    by_cases g3 : 128 ≤ b ∧ b < 192
    · simp only [g3, true_and, and_self, if_true]
      have e1 : a % 32 * 64 + b % 64 = (a - 192) * 64 + b - 128 := by omega
      simp only [e1]
    · simp only [g3, false_and, if_false]
  have n2 : ∀ p : Prop, (192 ≤ a ∧ a < 224 ∧ p) = False := fun p => by simp only [eq_iff_iff, iff_false]; omega
  simp only [n2, g2, false_and, if_false]
  by_cases g4 : 224 ≤ a ∧ a < 240
  · have n4 : ¬ (240 ≤ a) := by omega
    simp only [g4, n4, true_and, false_and, if_false]
    by_cases g3 : 128 ≤ b ∧ b < 192
    · by_cases g5 : 128 ≤ c ∧ c < 192
      · simp only [g3, g5, true_and, and_self, if_true]
        have e1 : a % 16 * 4096 + b % 64 * 64 + c % 64 = (a - 224) * 4096 + (b - 128) * 64 + c - 128 := by omega
        have e2 : ((a - 224) * 4096 + (b - 128) * 64 + c - 128 < 55296 ∨ 57344 ≤ (a - 224) * 4096 + (b - 128) * 64 + c - 128 ∧ (a - 224) * 4096 + (b - 128) * 64 + c - 128 ≤ 1114111) = ((a - 224) * 4096 + (b - 128) * 64 + c - 128 < 55296 ∨ 57343 < (a - 224) * 4096 + (b - 128) * 64 + c - 128) := by rw [eq_iff_iff]; omega
        simp only [e1, e2]
      · simp only [g5, false_and, and_false, if_false]
    · simp only [g3, false_and, if_false]
  have n4 : ∀ p : Prop, (224 ≤ a ∧ a < 240 ∧ p) = False := fun p => by simp only [eq_iff_iff, iff_false]; omega
  simp only [n4, g4, false_and, if_false]
  by_cases g6 : 240 ≤ a ∧ a < 248
  · simp only [g6, true_and]
    by_cases g3 : 128 ≤ b ∧ b < 192
    · by_cases g5 : 128 ≤ c ∧ c < 192
      · by_cases g7 : 128 ≤ d ∧ d < 192
        · simp only [g3, g5, g7, true_and, and_self, if_true]
          have e1 : a % 8 * 262144 + b % 64 * 4096 + c % 64 * 64 + d % 64 = (a - 240) * 262144 + (b - 128) * 4096 + (c - 128) * 64 + d - 128 := by omega
          simp only [e1]
          have e2 : (65536 ≤ (a - 240) * 262144 + (b - 128) * 4096 + (c - 128) * 64 + d - 128 ∧ ((a - 240) * 262144 + (b - 128) * 4096 + (c - 128) * 64 + d - 128 < 55296 ∨ 57344 ≤ (a - 240) * 262144 + (b - 128) * 4096 + (c - 128) * 64 + d - 128 ∧ (a - 240) * 262144 + (b - 128) * 4096 + (c - 128) * 64 + d - 128 ≤ 1114111)) = (65536 ≤ (a - 240) * 262144 + (b - 128) * 4096 + (c - 128) * 64 + d - 128 ∧ (a - 240) * 262144 + (b - 128) * 4096 + (c - 128) * 64 + d - 128 ≤ 1114111) := by rw [eq_iff_iff]; omega
          simp only [e2]
        · simp only [g7, false_and, and_false, if_false]
      · simp only [g5, false_and, and_false, if_false]
    · simp only [g3, false_and, if_false]
  have n6 : ∀ p : Prop, (240 ≤ a ∧ a < 248 ∧ p) = False := fun p => by simp only [eq_iff_iff, iff_false]; omega
  simp only [n6, g6, false_and, if_false]

theorem get!_pos (s : ByteArray) (i : Nat) (h : i < s.size) : s.get! i = s[i]'h := by
  have h2 : i < s.data.size := h
  show s.data[i]! = s.data[i]
  exact getElem!_pos s.data i h2
theorem gb_pos (s : ByteArray) (i : Nat) (h : i < s.size) : gb s i = (s[i]'h).toNat := by unfold gb; rw [get!_pos s i h]
theorem gb_extract (s : ByteArray) (i j k : Nat) (hj : j ≤ s.size) : gb (s.extract i j) k = if i + k < j then gb s (i + k) else 0 := by
  by_cases h : i + k < j
  · rw [if_pos h]
    unfold gb
    have h1 : k < (s.extract i j).size := by rw [ByteArray.size_extract]; omega
    have h2 : i + k < s.size := by omega
    rw [get!_pos _ _ h1, get!_pos _ _ h2, ByteArray.getElem_extract]
  · rw [if_neg h]
    exact gb_out _ _ (by rw [ByteArray.size_extract]; omega)

/-- What a step over a string meets, in numbers. -/
theorem dec_cases (s : ByteArray) (i : Nat) :
    (gb s i < 128 ∧ Utf8.decode s i = (gb s i, 1)) ∨
    (192 ≤ gb s i ∧ gb s i < 224 ∧ (128 ≤ gb s (i+1) ∧ gb s (i+1) < 192) ∧ 128 ≤ (gb s i - 192) * 64 + gb s (i+1) - 128 ∧ Utf8.decode s i = ((gb s i - 192) * 64 + gb s (i+1) - 128, 2)) ∨
    (224 ≤ gb s i ∧ gb s i < 240 ∧ (128 ≤ gb s (i+1) ∧ gb s (i+1) < 192) ∧ (128 ≤ gb s (i+2) ∧ gb s (i+2) < 192) ∧
      2048 ≤ (gb s i - 224) * 4096 + (gb s (i+1) - 128) * 64 + gb s (i+2) - 128 ∧
      ((gb s i - 224) * 4096 + (gb s (i+1) - 128) * 64 + gb s (i+2) - 128 < 55296 ∨ 57343 < (gb s i - 224) * 4096 + (gb s (i+1) - 128) * 64 + gb s (i+2) - 128) ∧ Utf8.decode s i = ((gb s i - 224) * 4096 + (gb s (i+1) - 128) * 64 + gb s (i+2) - 128, 3)) ∨
    (240 ≤ gb s i ∧ gb s i < 248 ∧ (128 ≤ gb s (i+1) ∧ gb s (i+1) < 192) ∧ (128 ≤ gb s (i+2) ∧ gb s (i+2) < 192) ∧ (128 ≤ gb s (i+3) ∧ gb s (i+3) < 192) ∧
      65536 ≤ (gb s i - 240) * 262144 + (gb s (i+1) - 128) * 4096 + (gb s (i+2) - 128) * 64 + gb s (i+3) - 128 ∧
      (gb s i - 240) * 262144 + (gb s (i+1) - 128) * 4096 + (gb s (i+2) - 128) * 64 + gb s (i+3) - 128 ≤ 1114111 ∧ Utf8.decode s i = ((gb s i - 240) * 262144 + (gb s (i+1) - 128) * 4096 + (gb s (i+2) - 128) * 64 + gb s (i+3) - 128, 4)) ∨
    (128 ≤ gb s i ∧ Utf8.decode s i = (65533, 1)) := by
  have hd := decode_eq s i
  by_cases g1 : gb s i < 128
  · rw [if_pos g1] at hd; exact Or.inl ⟨g1, hd⟩
  rw [if_neg g1] at hd
  refine Or.inr ?_
  split at hd
  · rename_i h; exact Or.inl ⟨h.1, h.2.1, h.2.2.1, h.2.2.2, hd⟩
  refine Or.inr ?_
  split at hd
  · rename_i h; exact Or.inl ⟨h.1, h.2.1, h.2.2.1, h.2.2.2.1, h.2.2.2.2.1, h.2.2.2.2.2, hd⟩
  refine Or.inr ?_
  split at hd
  · rename_i h; exact Or.inl ⟨h.1, h.2.1, h.2.2.1, h.2.2.2.1, h.2.2.2.2.1, h.2.2.2.2.2.1, h.2.2.2.2.2.2, hd⟩
  · exact Or.inr ⟨by omega, hd⟩

theorem in_of_gb (s : ByteArray) (i : Nat) (h : 128 ≤ gb s i) : i < s.size := by
  apply Decidable.byContradiction; intro h2; rw [gb_out s i h2] at h; omega

/-- A step stays within the string. -/
theorem dec_within (s : ByteArray) (i : Nat) (h : i < s.size) : 1 ≤ (Utf8.decode s i).2 ∧ i + (Utf8.decode s i).2 ≤ s.size ∧ (Utf8.decode s i).2 ≤ 4 := by
  rcases dec_cases s i with ⟨_, e⟩ | ⟨_, _, c1, _, e⟩ | ⟨_, _, c1, c2, _, _, e⟩ | ⟨_, _, c1, c2, c3, _, _, e⟩ | ⟨_, e⟩ <;> rw [e]
  · exact ⟨by simp, by simp; omega, by simp⟩
  · have := in_of_gb s _ c1.1; exact ⟨by simp, by simp; omega, by simp⟩
  · have := in_of_gb s _ c2.1; exact ⟨by simp, by simp; omega, by simp⟩
  · have := in_of_gb s _ c3.1; exact ⟨by simp, by simp; omega, by simp⟩
  · exact ⟨by simp, by simp; omega, by simp⟩

set_option maxRecDepth 100000 in
theorem ptN_dec (s : ByteArray) (i : Nat) (h : i < s.size) : ptN s i = if stray s i then (0, 0) else Utf8.decode s i := by
  unfold stray
  have hd := decode_eq s i
  unfold ptN
  rw [if_neg (by omega : ¬ ¬ i < s.size)]
  by_cases g1 : gb s i < 128
  · rw [if_pos g1] at hd ⊢; rw [hd]
    have : ((gb s i, 1) == ((65533, 1) : Nat × Nat)) = false := by simp; omega
    rw [this]; rfl
  rw [if_neg g1] at hd ⊢
  split at hd
  · rename_i h; rw [if_pos h, hd, if_neg (by simp)]
  rename_i h; rw [if_neg h]
  split at hd
  · rename_i h; rw [if_pos h, hd, if_neg (by simp)]
  rename_i h; rw [if_neg h]
  split at hd
  · rename_i h; rw [if_pos h, hd, if_neg (by simp)]
  rename_i h; rw [if_neg h, hd, if_pos (by simp)]

/-! ### The pieces, as bytes -/
theorem ext_gb {a b : ByteArray} (hn : a.size = b.size) (h : ∀ k, k < a.size → gb a k = gb b k) : a = b := by
  apply ByteArray.ext_getElem hn
  intro k h1 h2
  have := h k h1
  rw [gb_pos a k h1, gb_pos b k h2] at this
  exact UInt8.toNat_inj.1 this

theorem gb_one (x : UInt8) : gb ⟨#[x]⟩ 0 = x.toNat := rfl
theorem gb_lit (l : List UInt8) (k : Nat) : gb ⟨l.toArray⟩ k = (l.getD k 0).toNat := by
  by_cases h : k < l.length
  · rw [gb_pos _ _ (by simpa [ByteArray.size] using h), List.getD_eq_getElem?_getD, List.getElem?_eq_getElem h]; rfl
  · rw [gb_out _ _ (by simpa [ByteArray.size] using h), List.getD_eq_getElem?_getD, List.getElem?_eq_none (by omega)]; rfl

theorem extract_lit (s : ByteArray) (i : Nat) (l : List UInt8) (hi : i + l.length ≤ s.size) (h : ∀ k, k < l.length → gb s (i + k) = (l.getD k 0).toNat) :
    s.extract i (i + l.length) = ⟨l.toArray⟩ := by
  have hsz : (s.extract i (i + l.length)).size = l.length := by rw [ByteArray.size_extract]; omega
  apply ext_gb
  · rw [hsz]; simp [ByteArray.size]
  · intro k hk
    rw [hsz] at hk
    have e1 := gb_extract s i (i + l.length) k hi
    rw [if_pos (by omega), h k hk] at e1
    rw [e1, gb_lit]

theorem u8_of (n : Nat) (h : n < 256) : (UInt8.ofNat n).toNat = n := by simp [Nat.mod_eq_of_lt h]

theorem validN (n : Nat) : Utf8.valid (n : Int) = decide (n < 55296 ∨ (57344 ≤ n ∧ n ≤ 1114111)) := by
  unfold Utf8.valid; rw [Bool.eq_iff_iff]; simp; omega
theorem encode_of (c : Nat) (h : c < 55296 ∨ (57344 ≤ c ∧ c ≤ 1114111)) : Utf8.encode (c : Int) =
    if c < 0x80 then ⟨#[UInt8.ofNat c]⟩
    else if c < 0x800 then ⟨#[UInt8.ofNat (0xC0 + c / 64), UInt8.ofNat (0x80 + c % 64)]⟩
    else if c < 0x10000 then ⟨#[UInt8.ofNat (0xE0 + c / 4096), UInt8.ofNat (0x80 + c / 64 % 64), UInt8.ofNat (0x80 + c % 64)]⟩
    else ⟨#[UInt8.ofNat (0xF0 + c / 262144), UInt8.ofNat (0x80 + c / 4096 % 64), UInt8.ofNat (0x80 + c / 64 % 64), UInt8.ofNat (0x80 + c % 64)]⟩ := by
  unfold Utf8.encode
  simp only [validN, Int.toNat_natCast, decide_eq_true h, if_true]

set_option maxRecDepth 100000 in
theorem enc_dec (s : ByteArray) (i : Nat) (h : i < s.size) (hs : stray s i = false) :
    Utf8.encode ((Utf8.decode s i).1 : Int) = s.extract i (i + (Utf8.decode s i).2) := by
  have hw := dec_within s i h
  have l0 := gb_lt s i
  unfold stray at hs
  rcases dec_cases s i with ⟨h0, e⟩ | ⟨a0, a1, c1, q, e⟩ | ⟨a0, a1, c1, c2, q, q2, e⟩ | ⟨a0, a1, c1, c2, c3, q, q2, e⟩ | ⟨_, e⟩
  · rw [e] at hw ⊢
    rw [encode_of _ (by omega), if_pos (by omega)]
    exact (extract_lit s i [UInt8.ofNat (gb s i)] (by simp at hw ⊢; omega) (fun k hk => by
      have : k = 0 := by simpa using hk
      subst this; simp only [List.getD_cons_zero]; rw [u8_of _ l0]; simp)).symm
  · rw [e] at hw ⊢
    have l1 := gb_lt s (i+1)
    rw [encode_of _ (by omega), if_neg (by omega), if_pos (by omega)]
    refine (extract_lit s i [UInt8.ofNat _, UInt8.ofNat _] (by simp at hw ⊢; omega) (fun k hk => ?_)).symm
    have : k = 0 ∨ k = 1 := by simp at hk; omega
    rcases this with rfl | rfl
    · simp only [List.getD_cons_zero]; rw [u8_of _ (by omega)]; simp; omega
    · simp only [List.getD_cons_succ, List.getD_cons_zero]; rw [u8_of _ (by omega)]; omega
  · rw [e] at hw ⊢
    have l1 := gb_lt s (i+1); have l2 := gb_lt s (i+2)
    rw [encode_of _ (by omega), if_neg (by omega), if_neg (by omega), if_pos (by omega)]
    refine (extract_lit s i [UInt8.ofNat _, UInt8.ofNat _, UInt8.ofNat _] (by simp at hw ⊢; omega) (fun k hk => ?_)).symm
    have : k = 0 ∨ k = 1 ∨ k = 2 := by simp at hk; omega
    rcases this with rfl | rfl | rfl
    · simp only [List.getD_cons_zero]; rw [u8_of _ (by omega)]; simp; omega
    · simp only [List.getD_cons_succ, List.getD_cons_zero]; rw [u8_of _ (by omega)]; omega
    · simp only [List.getD_cons_succ, List.getD_cons_zero]; rw [u8_of _ (by omega)]; omega
  · rw [e] at hw ⊢
    have l1 := gb_lt s (i+1); have l2 := gb_lt s (i+2); have l3 := gb_lt s (i+3)
    rw [encode_of _ (by omega), if_neg (by omega), if_neg (by omega), if_neg (by omega)]
    refine (extract_lit s i [UInt8.ofNat _, UInt8.ofNat _, UInt8.ofNat _, UInt8.ofNat _] (by simp at hw ⊢; omega) (fun k hk => ?_)).symm
    have : k = 0 ∨ k = 1 ∨ k = 2 ∨ k = 3 := by simp at hk; omega
    rcases this with rfl | rfl | rfl | rfl
    · simp only [List.getD_cons_zero]; rw [u8_of _ (by omega)]; simp; omega
    · simp only [List.getD_cons_succ, List.getD_cons_zero]; rw [u8_of _ (by omega)]; omega
    · simp only [List.getD_cons_succ, List.getD_cons_zero]; rw [u8_of _ (by omega)]; omega
    · simp only [List.getD_cons_succ, List.getD_cons_zero]; rw [u8_of _ (by omega)]; omega
  · rw [e] at hs; simp at hs
end Go.Proofs.Ytegbgkljpdlpnaa
