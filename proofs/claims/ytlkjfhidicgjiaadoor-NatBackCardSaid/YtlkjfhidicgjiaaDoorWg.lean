/- cmp.Or of two numbers; the program's Cmp. -/
import Derived.Test.YtlkjfhidicgjiaaDoorWf
set_option linter.unusedVariables false
set_option linter.unusedSimpArgs false
namespace Go.Proofs.YtlkjfhidicgjiaaDoor
open Go.RowKit
open Go.Lib (dg decDigits nDigits)

def cmpN (m n : Nat) : Int := if m < n then -1 else if n < m then 1 else 0
theorem cmpN_range (m n : Nat) : cmpN m n = -1 ∨ cmpN m n = 0 ∨ cmpN m n = 1 := by
  unfold cmpN
  split
  · exact .inl rfl
  · split
    · exact .inr (.inr rfl)
    · exact .inr (.inl rfl)
theorem cmpN_eq (m n : Nat) : cmpN m n = 0 ↔ m = n := by unfold cmpN; split <;> (try split) <;> omega
theorem cmpN_lt (m n : Nat) : cmpN m n < 0 ↔ m < n := by unfold cmpN; split <;> (try split) <;> omega

theorem dg_lt (v k : Nat) : (dg v k < dg v k) = False := by simp
theorem dg_cmp (m n k : Nat) : (dg m k < dg n k ↔ m / 10 ^ k % 10 < n / 10 ^ k % 10) ∧ (dg m k = dg n k ↔ m / 10 ^ k % 10 = n / 10 ^ k % 10) := by
  unfold dg
  have h1 : m / 10 ^ k % 10 < 10 := Nat.mod_lt _ (by decide)
  have h2 : n / 10 ^ k % 10 < 10 := Nat.mod_lt _ (by decide)
  constructor
  · rw [UInt8.lt_iff_toNat_lt, UInt8.toNat_ofNat', UInt8.toNat_ofNat']; omega
  · rw [← UInt8.toNat_inj, UInt8.toNat_ofNat', UInt8.toNat_ofNat']; omega

/-- The order of two padded numerals of one length is that of the numbers, as far as the last k digits go. -/
theorem pad_cmp (m n : Nat) : ∀ k, Lib.compareBytes (pad k m) (pad k n) = cmpN (m % 10 ^ k) (n % 10 ^ k)
  | 0 => by simp [pad, Lib.compareBytes, cmpN, Nat.mod_one]
  | k + 1 => by
    rw [pad_succ, pad_succ, Lib.compareBytes, pad_cmp m n k]
    obtain ⟨h1, h2⟩ := dg_cmp m n k
    obtain ⟨h3, h4⟩ := dg_cmp n m k
    have em : m % 10 ^ (k + 1) = m % 10 ^ k + 10 ^ k * (m / 10 ^ k % 10) := by rw [Nat.pow_succ, Nat.mod_mul]
    have en : n % 10 ^ (k + 1) = n % 10 ^ k + 10 ^ k * (n / 10 ^ k % 10) := by rw [Nat.pow_succ, Nat.mod_mul]
    have hm : m % 10 ^ k < 10 ^ k := Nat.mod_lt _ (Nat.pow_pos (by decide))
    have hn : n % 10 ^ k < 10 ^ k := Nat.mod_lt _ (Nat.pow_pos (by decide))
    rw [em, en]
    generalize m / 10 ^ k % 10 = a at *
    generalize n / 10 ^ k % 10 = b at *
    generalize m % 10 ^ k = x at *
    generalize n % 10 ^ k = y at *
    generalize 10 ^ k = P at *
    by_cases hab : a < b
    · rw [if_pos (h1.2 hab)]
      have : P * (a + 1) ≤ P * b := Nat.mul_le_mul_left _ hab
      rw [Nat.mul_add, Nat.mul_one] at this
      unfold cmpN
      rw [if_pos (by omega)]
    · rw [if_neg (fun h => hab (h1.1 h))]
      by_cases hba : b < a
      · rw [if_pos (h3.2 hba)]
        have : P * (b + 1) ≤ P * a := Nat.mul_le_mul_left _ hba
        rw [Nat.mul_add, Nat.mul_one] at this
        unfold cmpN
        rw [if_neg (by omega), if_pos (by omega)]
      · rw [if_neg (fun h => hba (h3.1 h))]
        have e : a = b := by omega
        subst e
        unfold cmpN
        simp only [Nat.add_lt_add_iff_right]
theorem dec_cmp (m n : Nat) (h : nDigits m = nDigits n) : Lib.compareBytes (decDigits m) (decDigits n) = cmpN m n := by
  rw [dec_pad, dec_pad, h, pad_cmp, Nat.mod_eq_of_lt (Lib.lt_pow_nDigits n), Nat.mod_eq_of_lt]
  rw [← h]; exact Lib.lt_pow_nDigits m
theorem nDigits_lt {m n : Nat} (h : nDigits m < nDigits n) : m < n := by
  rcases Nat.lt_or_ge m n with h' | h'
  · exact h'
  · have := nDigits_mono h'; omega
theorem dec_compare (m n : Nat) : (if Lib.compareInt (nDigits m : Int) (nDigits n : Int) ≠ 0 then Lib.compareInt (nDigits m : Int) (nDigits n : Int) else Lib.compareBytes (decDigits m) (decDigits n)) = cmpN m n := by
  by_cases h1 : nDigits m < nDigits n
  · have e : Lib.compareInt (nDigits m : Int) (nDigits n : Int) = -1 := by unfold Lib.compareInt; rw [if_pos (by omega)]
    have := nDigits_lt h1
    rw [e, if_pos (by decide)]
    unfold cmpN; rw [if_pos this]
  · by_cases h2 : nDigits n < nDigits m
    · have e : Lib.compareInt (nDigits m : Int) (nDigits n : Int) = 1 := by unfold Lib.compareInt; rw [if_neg (by omega), if_pos (by omega)]
      have := nDigits_lt h2
      rw [e, if_pos (by decide)]
      unfold cmpN; rw [if_neg (by omega), if_pos this]
    · have e : Lib.compareInt (nDigits m : Int) (nDigits n : Int) = 0 := by unfold Lib.compareInt; rw [if_neg (by omega), if_neg (by omega)]
      rw [e, if_neg (by decide)]
      exact dec_cmp m n (by omega)

set_option maxHeartbeats 1000000 in
theorem or_any (x y : Int) (g : Nat) (w : World) (h0 : w.cell? ⟨g, 0, none⟩ = some (.int .i64 x)) (h1 : w.cell? ⟨g, 1, none⟩ = some (.int .i64 y)) :
    Calls Tryd.prog 32 #[.slice (some ⟨g, 0, none⟩) 2 2] w fun e w' => e = .returned (.int .i64 (if x ≠ 0 then x else y)) ∧ w = w' := by
  by_cases hx : x = 0
  · subst hx
    by_cases hy : y = 0
    · subst hy
      go_enter Tryd.func32, Tryd.ntmps32
      go_wp2
      go_loop [8] (fun i => ∃ k : Nat, i = .int .i64 k ∧ k ≤ 2) (fun i => 2 - (intOf i).toNat)
      case atStart => exact ⟨0, rfl, by omega⟩
      case round =>
        obtain ⟨k, rfl, hk⟩ := hrel
        rcases (show k = 0 ∨ k = 1 ∨ k = 2 by omega) with rfl | rfl | rfl
        · go_wp2
          go_round
          case rel => exact ⟨1, by go_num, by omega⟩
          case measure => simp [intOf]
        · go_wp2
          go_round
          case rel => exact ⟨2, by go_num, by omega⟩
          case measure => simp [intOf]
        · go_wp2
          go_ret
          exact ⟨by simp, rfl⟩
    · have f1 : (y != 0) = true := by simpa using hy
      go_enter Tryd.func32, Tryd.ntmps32
      go_wp2
      go_loop [8] (fun i => ∃ k : Nat, i = .int .i64 k ∧ k ≤ 1) (fun i => 2 - (intOf i).toNat)
      case atStart => exact ⟨0, rfl, by omega⟩
      case round =>
        obtain ⟨k, rfl, hk⟩ := hrel
        rcases (show k = 0 ∨ k = 1 by omega) with rfl | rfl
        · go_wp2
          go_round
          case rel => exact ⟨1, by go_num, by omega⟩
          case measure => simp [intOf]
        · go_wp2
          go_ret
          exact ⟨by simp, rfl⟩
  · have f1 : (x != 0) = true := by simpa using hx
    rw [if_pos hx]
    go_enter Tryd.func32, Tryd.ntmps32
    go_wp2
    go_loop [8] (fun i => ∃ k : Nat, i = .int .i64 k ∧ k = 0) (fun i => 2 - (intOf i).toNat)
    case atStart => exact ⟨0, rfl, rfl⟩
    case round =>
      obtain ⟨k, rfl, rfl⟩ := hrel
      go_wp2
      go_ret
      exact ⟨rfl, rfl⟩

def cmpV (a b : ByteArray) : Int := if numB a && numB b then cmpN (nv a) (nv b) else 0
theorem toList_dec (n : Nat) : (decS n).data.toList = decDigits n := by unfold decS; simp

set_option maxHeartbeats 1000000 in
theorem cmp_any (a b : ByteArray) (w : World) (ha : a.size ≤ maxLen) (hb : b.size ≤ maxLen) :
    Calls Tryd.prog 16 #[.string a, .string b] w fun e w' => e = .returned (.int .i64 (cmpV a b)) ∧ w.grownBy w' none := by
  have va := fun w => valid_any a w ha
  have vb := fun w => valid_any b w hb
  unfold maxLen at ha hb
  cases hna : numB a
  · have e : cmpV a b = 0 := by unfold cmpV; rw [hna]; rfl
    rw [e]
    simp only [hna] at va
    clear vb hna e
    go_enter Tryd.func16, Tryd.ntmps16
    go_wp2_with (go_at_call 12; refine (va _).mono ?_; rintro e w' ⟨rfl, rfl⟩)
    go_ret
    exact ⟨rfl, grown_refl _ _⟩
  cases hnb : numB b
  · have e : cmpV a b = 0 := by unfold cmpV; rw [hnb, Bool.and_false]; rfl
    rw [e]
    simp only [hna] at va
    simp only [hnb] at vb
    clear hna hnb e
    go_enter Tryd.func16, Tryd.ntmps16
    go_wp2_with fail
    refine (va _).mono ?_
    rintro e w' ⟨rfl, rfl⟩
    go_wp2_with fail
    refine (vb _).mono ?_
    rintro e w' ⟨rfl, rfl⟩
    go_wp2
    go_ret
    exact ⟨rfl, grown_refl _ _⟩
  have e : cmpV a b = cmpN (nv a) (nv b) := by unfold cmpV; rw [hna, hnb]; rfl
  have hc := dec_compare (nv a) (nv b)
  rw [← toList_dec, ← toList_dec, ← decS_size, ← decS_size, ← (num_is a hna).1, ← (num_is b hnb).1, ← e] at hc
  simp only [hna] at va
  simp only [hnb] at vb
  have h1 := fun w => Tryd.cmp_Compare_int (a.size : Int) (b.size : Int) w
  have h2 := fun w => Tryd.strings_Compare a b w
  generalize Lib.compareInt (a.size : Int) (b.size : Int) = x at *
  generalize Lib.compareBytes a.data.toList b.data.toList = y at *
  have h3 := or_any x y w.heap.size (w.alloc (.cells #[.int .i64 x, .int .i64 y] 3)) (World.cell?_alloc_at _ _ _ _ rfl) (World.cell?_alloc_at _ _ _ _ rfl)
  rw [hc] at h3
  have H3 := Lib.hid h3
  clear hna hnb e hc h3
  go_enter Tryd.func16, Tryd.ntmps16
  go_wp2_with fail
  refine (va _).mono ?_
  rintro e w' ⟨rfl, rfl⟩
  go_wp2_with fail
  refine (vb _).mono ?_
  rintro e w' ⟨rfl, rfl⟩
  go_wp2_with (first
    | (go_at_call 33; refine (h1 _).mono ?_; rintro e w' ⟨rfl, rfl⟩)
    | (go_at_call 34; refine (h2 _).mono ?_; rintro e w' ⟨rfl, rfl⟩)
    | (go_at_call 32; refine H3.out.mono ?_; rintro e w' ⟨rfl, rfl⟩))
  go_ret
  exact ⟨rfl, World.grownBy_alloc _ _ _⟩
end Go.Proofs.YtlkjfhidicgjiaaDoor
