/- Plain: decimal strings: which are numbers, their value, how they are read into blocks and written out of them. -/
import Derived.Test.YtlkjfhidicgjiaaDoorPa
namespace Go.Proofs.YtlkjfhidicgjiaaDoor
open Go.Lib

def dval (l : List UInt8) : Nat := l.foldl (fun n c => n * 10 + (c.toNat - 48)) 0
theorem dval_snoc (l : List UInt8) (c : UInt8) : dval (l ++ [c]) = dval l * 10 + (c.toNat - 48) := by unfold dval; rw [List.foldl_append]; rfl

theorem dval_dec (n : Nat) : dval (decDigits n) = n := by
  induction n using Nat.strongRecOn with
  | _ n ih =>
    by_cases h : n < 10
    · rw [decDigits_one h]
      simp only [dval, List.foldl_cons, List.foldl_nil, UInt8.toNat_ofNat']
      omega
    · rw [decDigits, dif_neg h, dval_snoc, ih (n / 10) (by omega)]
      simp only [UInt8.toNat_ofNat']
      omega

def isDg (c : UInt8) : Bool := 48 ≤ c.toNat && c.toNat ≤ 57
def numL (l : List UInt8) : Bool := decide (1 ≤ l.length) && decide (l.length ≤ 1000) && l.all isDg && (decide (l.length = 1) || !(l.headD 0 == 48))
def numB (s : ByteArray) : Bool := numL s.data.toList
def decS (n : Nat) : ByteArray := ⟨(decDigits n).toArray⟩
def nv (s : ByteArray) : Nat := dval s.data.toList

theorem u8_back (c : UInt8) (h : isDg c = true) : UInt8.ofNat (48 + (c.toNat - 48) % 10) = c := by
  unfold isDg at h
  simp at h
  apply UInt8.toNat_inj.1
  rw [UInt8.toNat_ofNat']
  omega

theorem dec_dval : ∀ (l : List UInt8), l ≠ [] → l.all isDg = true → (l.length = 1 ∨ l.headD 0 ≠ 48) → decDigits (dval l) = l := by
  intro l
  induction h : l.length using Nat.strongRecOn generalizing l with
  | _ n ih =>
    intro h0 ha hh
    obtain ⟨l', c, rfl⟩ : ∃ l' c, l = l' ++ [c] := ⟨l.dropLast, l.getLast h0, (List.dropLast_concat_getLast h0).symm⟩
    rw [List.all_append, Bool.and_eq_true] at ha
    have hc : isDg c = true := by simpa using ha.2
    have hcb := u8_back c hc
    by_cases hl : l' = []
    · subst hl
      have h10 : c.toNat - 48 < 10 := by unfold isDg at hc; simp at hc; omega
      simp only [List.nil_append, dval, List.foldl_cons, List.foldl_nil, Nat.zero_mul, Nat.zero_add]
      rw [decDigits_one h10]
      rw [Nat.mod_eq_of_lt h10] at hcb
      rw [hcb]
    · have hlen : l'.length ≠ 0 := fun e => hl (List.eq_nil_of_length_eq_zero e)
      have hhd : l'.headD 0 ≠ 48 := by
        rcases hh with hh | hh
        · rw [List.length_append] at h; simp at h; omega
        · intro e; apply hh
          cases l' with
          | nil => exact absurd rfl hl
          | cons a b => simpa using e
      have hi := ih l'.length (by rw [List.length_append] at h; simp at h; omega) l' rfl hl ha.1 (Or.inr hhd)
      have hz : dval l' ≠ 0 := by
        intro e
        rw [e, decDigits_one (by decide)] at hi
        rw [← hi] at hhd
        exact hhd rfl
      have h10 : c.toNat - 48 < 10 := by unfold isDg at hc; simp at hc; omega
      rw [dval_snoc, decDigits, dif_neg (by omega), show (dval l' * 10 + (c.toNat - 48)) / 10 = dval l' by omega, hi,
        show (dval l' * 10 + (c.toNat - 48)) % 10 = (c.toNat - 48) % 10 by omega, hcb]

theorem dec_all (n : Nat) : (decDigits n).all isDg = true := by
  rw [decDigits_eq, List.all_eq_true]
  intro c hc
  rw [List.mem_map] at hc
  obtain ⟨t, _, rfl⟩ := hc
  unfold dg isDg
  rw [UInt8.toNat_ofNat']
  have : n / 10 ^ (nDigits n - 1 - t) % 10 < 10 := Nat.mod_lt _ (by decide)
  simp
  omega
theorem dec_head (n : Nat) (h : n ≠ 0) : (decDigits n).headD 0 ≠ 48 := by
  induction n using Nat.strongRecOn with
  | _ n ih =>
    by_cases h10 : n < 10
    · rw [decDigits_one h10]
      simp only [List.headD_cons]
      intro e
      have := congrArg UInt8.toNat e
      rw [UInt8.toNat_ofNat'] at this
      simp at this
      omega
    · rw [decDigits, dif_neg h10]
      have := ih (n / 10) (by omega) (by omega)
      have hl : (decDigits (n / 10)).length ≠ 0 := by rw [decDigits_length]; have := nDigits_pos (n / 10); omega
      cases hd : decDigits (n / 10) with
      | nil => rw [hd] at hl; exact absurd rfl hl
      | cons a b => rw [hd] at this; simpa using this
theorem decS_size (n : Nat) : (decS n).size = nDigits n := by
  show (decDigits n).toArray.size = _
  rw [List.size_toArray, decDigits_length]
theorem num_dec (n : Nat) : numB (decS n) = decide (nDigits n ≤ 1000) := by
  unfold numB numL decS
  simp only [decDigits_length]
  have h1 := nDigits_pos n
  rw [dec_all]
  by_cases h0 : n = 0
  · subst h0
    rw [nDigits_small (by decide)]; rfl
  · have := dec_head n h0
    have e : (!(decDigits n).headD 0 == 48) = true := by simpa using this
    rw [e]
    simp
    omega
theorem nv_dec (n : Nat) : nv (decS n) = n := dval_dec n
theorem num_is (s : ByteArray) (h : numB s = true) : s = decS (nv s) ∧ nDigits (nv s) ≤ 1000 := by
  have h' := h
  unfold numB numL at h
  simp only [Bool.and_eq_true, Bool.or_eq_true, decide_eq_true_eq, Bool.not_eq_true', beq_eq_false_iff_ne] at h
  obtain ⟨⟨⟨h1, h2⟩, h3⟩, h4⟩ := h
  have e := dec_dval s.data.toList (by intro e; rw [e] at h1; simp at h1) h3 h4
  have e2 : s = decS (nv s) := by
    unfold decS nv
    rw [e]
  refine ⟨e2, ?_⟩
  rw [← decS_size, ← e2]
  exact h2
theorem dec_inj {m n : Nat} (h : decS m = decS n) : m = n := by rw [← nv_dec m, h, nv_dec]
theorem num_ex (s : ByteArray) (h : numB s = true) : ∃ n, nDigits n ≤ 1000 ∧ s = decS n := ⟨nv s, (num_is s h).2, (num_is s h).1⟩
theorem nDigits_mono {m n : Nat} (h : m ≤ n) : nDigits m ≤ nDigits n := by
  induction n using Nat.strongRecOn generalizing m with
  | _ n ih =>
    by_cases hn : n < 10
    · rw [nDigits_small hn, nDigits_small (by omega)]; exact Nat.le_refl _
    · rw [nDigits_big hn]
      by_cases hm : m < 10
      · rw [nDigits_small hm]; omega
      · rw [nDigits_big hm]
        have := ih (n / 10) (by omega) (show m / 10 ≤ n / 10 by omega)
        omega

/-! ### Reading -/

theorem vl_drop_succ (B : Nat) (l : List Nat) (q : Nat) : vl B (l.drop q) = l.getD q 0 + B * vl B (l.drop (q + 1)) := by
  by_cases h : q < l.length
  · rw [drop_getD l q h, vl]
  · rw [getD_out l q h, List.drop_eq_nil_of_le (by omega), List.drop_eq_nil_of_le (by omega)]; simp [vl]

structure RdInv (len i v : Nat) (xs : List Nat) : Prop where
  length : xs.length = (len + 8) / 9
  lt : ∀ x ∈ xs, x < 1000000000
  zero : ∀ j, j < (len - i) / 9 → xs.getD j 0 = 0
  top : xs.getD ((len - i) / 9) 0 < 10 ^ (9 - (len - i) % 9)
  val : v = xs.getD ((len - i) / 9) 0 + 10 ^ (9 - (len - i) % 9) * vl 1000000000 (xs.drop ((len - i) / 9 + 1))

theorem getD_replicate (n k : Nat) : (List.replicate n 0).getD k 0 = 0 := by
  rw [List.getD_eq_getElem?_getD, List.getElem?_replicate]; split <;> rfl
theorem getD_set (l : List Nat) (i j x : Nat) (h : i < l.length) : (l.set i x).getD j 0 = if i = j then x else l.getD j 0 := by
  rw [List.getD_eq_getElem?_getD, List.getElem?_set]
  split
  · rfl
  · rfl

theorem RdInv.start (len : Nat) : RdInv len 0 0 (List.replicate ((len + 8) / 9) 0) := by
  refine ⟨by simp, ?_, fun j _ => getD_replicate _ _, ?_, ?_⟩
  · intro x hx; rw [List.mem_replicate] at hx; rw [hx.2]; decide
  · rw [getD_replicate]; exact Nat.pow_pos (by decide)
  · rw [getD_replicate, List.drop_replicate, vl_zeros]; simp

theorem RdInv.bound {len i v : Nat} {xs : List Nat} (h : RdInv len i v xs) (hi : i < len) : xs.getD ((len - 1 - i) / 9) 0 ≤ 99999999 := by
  by_cases hr : (len - i) % 9 = 0
  · rw [h.zero _ (by omega)]; omega
  · have ht := h.top
    rw [show (len - 1 - i) / 9 = (len - i) / 9 by omega]
    have : 10 ^ (9 - (len - i) % 9) ≤ 10 ^ 8 := Nat.pow_le_pow_right (by decide) (by omega)
    omega

theorem RdInv.step {len i v : Nat} {xs : List Nat} (h : RdInv len i v xs) (hi : i < len) (d : Nat) (hd : d < 10) :
    RdInv len (i + 1) (v * 10 + d) (xs.set ((len - 1 - i) / 9) (xs.getD ((len - 1 - i) / 9) 0 * 10 + d)) := by
  have hb := h.bound hi
  have hl : (len - 1 - i) / 9 < xs.length := by rw [h.length]; omega
  have hlt : ∀ x ∈ xs.set ((len - 1 - i) / 9) (xs.getD ((len - 1 - i) / 9) 0 * 10 + d), x < 1000000000 := by
    intro x hx
    rcases List.mem_or_eq_of_mem_set hx with hx | rfl
    · exact h.lt x hx
    · omega
  by_cases hr : (len - i) % 9 = 0
  · have e1 : (len - (i + 1)) / 9 = (len - 1 - i) / 9 := by omega
    have e2 : (len - (i + 1)) % 9 = 8 := by omega
    have e3 : (len - 1 - i) / 9 + 1 = (len - i) / 9 := by omega
    have hz : xs.getD ((len - 1 - i) / 9) 0 = 0 := h.zero _ (by omega)
    refine ⟨by rw [List.length_set]; exact h.length, hlt, fun j hj => ?_, ?_, ?_⟩
    · rw [getD_set _ _ _ _ hl, if_neg (by omega)]; exact h.zero j (by omega)
    · rw [e1, e2, getD_set _ _ _ _ hl, if_pos rfl, hz]; simp; omega
    · rw [e1, e2, getD_set _ _ _ _ hl, if_pos rfl, hz, e3, List.drop_set_of_lt (by omega), vl_drop_succ, h.val, hr]
      simp only [Nat.sub_zero]
      rw [show (10 : Nat) ^ 9 = 1000000000 by decide, show 9 - 8 = 1 by decide, Nat.pow_one]
      omega
  · have e1 : (len - (i + 1)) / 9 = (len - i) / 9 := by omega
    have e0 : (len - 1 - i) / 9 = (len - i) / 9 := by omega
    have e2 : 9 - (len - (i + 1)) % 9 = 9 - (len - i) % 9 + 1 := by omega
    rw [e0] at hl hb hlt ⊢
    have ht := h.top
    refine ⟨by rw [List.length_set]; exact h.length, hlt, fun j hj => ?_, ?_, ?_⟩
    · rw [getD_set _ _ _ _ hl, if_neg (by omega)]; exact h.zero j (by omega)
    · rw [e1, e2, getD_set _ _ _ _ hl, if_pos rfl, Nat.pow_succ]
      omega
    · rw [e1, e2, getD_set _ _ _ _ hl, if_pos rfl, List.drop_set_of_lt (by omega), h.val, Nat.pow_succ]
      rw [Nat.add_mul, Nat.mul_right_comm _ 10]
      omega

theorem RdInv.fin {len v : Nat} {xs : List Nat} (h : RdInv len len v xs) : v = vl 1000000000 xs := by
  have := h.val
  rw [Nat.sub_self] at this
  have e := vl_drop_succ 1000000000 xs 0
  rw [List.drop_zero] at e
  rw [this, e]

/-! ### Writing -/

def pad (k v : Nat) : List UInt8 := (List.range k).map fun t => dg v (k - 1 - t)
theorem pad_length (k v : Nat) : (pad k v).length = k := by simp [pad]
theorem dec_pad (v : Nat) : decDigits v = pad (nDigits v) v := decDigits_eq v
theorem pad_succ (k v : Nat) : pad (k + 1) v = dg v k :: pad k v := by
  unfold pad
  rw [List.range_succ_eq_map, List.map_cons, List.map_map]
  congr 1
  apply List.map_congr_left
  intro t ht
  simp only [Function.comp]
  congr 1
  omega
theorem dg_zero (v k : Nat) (h : v < 10 ^ k) : dg v k = 48 := by
  unfold dg
  rw [Nat.div_eq_of_lt h]; rfl
theorem pad_strip (k v : Nat) (h : v < 10 ^ k) : (pad k v).dropWhile (· == 48) = if v = 0 then [] else decDigits v := by
  induction k with
  | zero =>
    have : v = 0 := by simpa using h
    subst this
    rfl
  | succ k ih =>
    rw [pad_succ]
    by_cases hk : v < 10 ^ k
    · rw [dg_zero v k hk, List.dropWhile_cons]
      simp only [beq_self_eq_true, if_true]
      exact ih hk
    · have hp : 0 < 10 ^ k := Nat.pow_pos (by decide)
      have hn : nDigits v = k + 1 := nDigits_unique k v (by omega) h
      rw [if_neg (by omega), dec_pad, hn, pad_succ, List.dropWhile_cons]
      rw [if_neg]
      have := dec_head v (by omega)
      rw [dec_pad, hn, pad_succ, List.headD_cons] at this
      simpa using this

/-- The digit at place 9 i + j from the right of a number in blocks. -/
theorem vl_digit (xs : List Nat) (i j : Nat) (hx : ∀ x ∈ xs, x < 1000000000) (hj : j < 9) : dg (vl 1000000000 xs) (9 * i + j) = UInt8.ofNat (48 + xs.getD i 0 / 10 ^ j % 10) := by
  unfold dg
  congr 2
  by_cases hi : i < xs.length
  · have h1 := vl_split 1000000000 xs i (by omega)
    have h2 := vl_lt 1000000000 (xs.take i) (fun x h => hx x (List.mem_of_mem_take h))
    rw [List.length_take, Nat.min_eq_left (by omega)] at h2
    rw [vl_drop_succ] at h1
    have hp : (10 : Nat) ^ (9 * i + j) = 1000000000 ^ i * 10 ^ j := by rw [Nat.pow_add, Nat.pow_mul]
    rw [hp, ← Nat.div_div_eq_div_mul, h1, Nat.add_mul_div_left _ _ (Nat.pow_pos (by decide)), Nat.div_eq_of_lt h2, Nat.zero_add]
    have e : (1000000000 : Nat) = 10 ^ j * 10 ^ (9 - j) := by rw [← Nat.pow_add, show j + (9 - j) = 9 by omega]
    generalize vl 1000000000 (xs.drop (i + 1)) = R
    generalize xs.getD i 0 = x
    rw [e, Nat.mul_assoc, Nat.add_mul_div_left _ _ (Nat.pow_pos (by decide))]
    obtain ⟨r, hr⟩ : ∃ r, 9 - j = r + 1 := ⟨8 - j, by omega⟩
    rw [hr, Nat.pow_succ, Nat.mul_comm (10 ^ r) 10, Nat.mul_assoc]
    omega
  · rw [getD_out xs i hi, Nat.zero_div, Nat.zero_mod]
    have h2 := vl_lt 1000000000 xs hx
    have h3 : 1000000000 ^ xs.length ≤ 1000000000 ^ i := Nat.pow_le_pow_right (by decide) (by omega)
    have h4 : (1000000000 : Nat) ^ i ≤ 10 ^ (9 * i + j) := by
      rw [Nat.pow_add, Nat.pow_mul]
      exact Nat.le_mul_of_pos_right _ (Nat.pow_pos (by decide))
    rw [Nat.div_eq_of_lt (by omega)]
theorem vl_ten (xs : List Nat) (hx : ∀ x ∈ xs, x < 1000000000) : vl 1000000000 xs < 10 ^ (9 * xs.length) := by
  have := vl_lt 1000000000 xs hx
  rw [Nat.pow_mul]
  exact this
end Go.Proofs.YtlkjfhidicgjiaaDoor
