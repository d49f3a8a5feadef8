/- The reference's Make, Valid, times, sum, Cmp, Neg, Add, Sub, Mul, Div. · The reference's functions on rational numbers, by contract. -/
import Derived.Test.YtkekljjjomnalaaGreatDoorZc
set_option linter.unusedVariables false
set_option linter.unusedSimpArgs false
namespace Go.Proofs.YtkekljjjomnalaaGreatDoor
open Go.RowKit
open Go.Lib (nDigits decDigits)

def RVal (s : ByteArray) (b : Bool) : Prop := ∀ w, Calls Tryz.prog 83 #[.string s] w fun e w' => e = .returned (.bool b) ∧ w = w'
def RDiv (a g Q R : ByteArray) : Prop := ∀ w, Calls Tryz.prog 84 #[.string a, .string g] w (ValPost (.tuple #[.string Q, .string R, .int .i64 0]) w)
set_option maxRecDepth 100000 in
set_option maxHeartbeats 1000000 in
theorem rmake_bad1 (neg : Bool) (num den : ByteArray) (w : World) (V : Hid (RVal num false)) :
    Calls Tryz.prog 63 #[.bool neg, .string num, .string den] w (ValPost (.tuple #[.string ⟨#[]⟩, .int .i64 1]) w) := by
  go_enter Tryz.func63, Tryz.ntmps63
  go_wp2_with fail
  refine (V.out _).mono ?_
  rintro e w' ⟨rfl, rfl⟩
  go_wp2
  go_ret2
  exact ⟨rfl, grown_refl _ _⟩
set_option maxRecDepth 100000 in
set_option maxHeartbeats 1000000 in
theorem rmake_bad2 (neg : Bool) (num den : ByteArray) (w : World) (V : Hid (RVal num true)) (U : Hid (RVal den false)) :
    Calls Tryz.prog 63 #[.bool neg, .string num, .string den] w (ValPost (.tuple #[.string ⟨#[]⟩, .int .i64 1]) w) := by
  go_enter Tryz.func63, Tryz.ntmps63
  go_wp2_with fail
  refine (V.out _).mono ?_
  rintro e w' ⟨rfl, rfl⟩
  go_wp2_with fail
  refine (U.out _).mono ?_
  rintro e w' ⟨rfl, rfl⟩
  go_wp2
  go_ret2
  exact ⟨rfl, grown_refl _ _⟩
set_option maxRecDepth 100000 in
set_option maxHeartbeats 1000000 in
theorem rmake_bad3 (neg : Bool) (num den : ByteArray) (w : World) (V : Hid (RVal num true)) (U : Hid (RVal den true)) (f : (den.toList == [48]) = true) :
    Calls Tryz.prog 63 #[.bool neg, .string num, .string den] w (ValPost (.tuple #[.string ⟨#[]⟩, .int .i64 1]) w) := by
  go_enter Tryz.func63, Tryz.ntmps63
  go_wp2_with fail
  refine (V.out _).mono ?_
  rintro e w' ⟨rfl, rfl⟩
  go_wp2_with fail
  refine (U.out _).mono ?_
  rintro e w' ⟨rfl, rfl⟩
  go_wp2
  go_ret2
  exact ⟨rfl, grown_refl _ _⟩
set_option maxRecDepth 100000 in
set_option maxHeartbeats 1000000 in
theorem rmake_long1 (neg : Bool) (num den G A B R1 R2 : ByteArray) (w : World) (V : Hid (RVal num true)) (U : Hid (RVal den true)) (f : (den.toList == [48]) = false) (GC : Hid (GcOk num den G)) (D1 : Hid (RDiv num G A R1)) (D2 : Hid (RDiv den G B R2)) (h : (400 : Int) < (A.size : Int)) :
    Calls Tryz.prog 63 #[.bool neg, .string num, .string den] w (ValPost (.tuple #[.string ⟨#[]⟩, .int .i64 2]) w) := by
  go_enter Tryz.func63, Tryz.ntmps63
  go_wp2_with fail
  refine (V.out _).mono ?_
  rintro e w' ⟨rfl, rfl⟩
  go_wp2_with fail
  refine (U.out _).mono ?_
  rintro e w' ⟨rfl, rfl⟩
  go_wp2_with fail
  refine (GC.out _).mono ?_
  rintro e w1 ⟨rfl, hg⟩
  have G1 := Lib.hid hg
  clear hg
  go_wp2_with fail
  refine (D1.out _).mono ?_
  rintro e w2 ⟨rfl, hg⟩
  have G2 := Lib.hid (grown_trans G1.out hg)
  clear hg G1
  go_wp2_with fail
  refine (D2.out _).mono ?_
  rintro e w3 ⟨rfl, hg⟩
  have G3 := Lib.hid (grown_trans G2.out hg)
  clear hg G2
  go_wp2
  go_ret2
  exact ⟨rfl, G3.out⟩
set_option maxRecDepth 100000 in
set_option maxHeartbeats 1000000 in
theorem rmake_long2 (neg : Bool) (num den G A B R1 R2 : ByteArray) (w : World) (V : Hid (RVal num true)) (U : Hid (RVal den true)) (f : (den.toList == [48]) = false) (GC : Hid (GcOk num den G)) (D1 : Hid (RDiv num G A R1)) (D2 : Hid (RDiv den G B R2)) (h : ¬ (400 : Int) < (A.size : Int)) (h2 : (400 : Int) < (B.size : Int)) :
    Calls Tryz.prog 63 #[.bool neg, .string num, .string den] w (ValPost (.tuple #[.string ⟨#[]⟩, .int .i64 2]) w) := by
  go_enter Tryz.func63, Tryz.ntmps63
  go_wp2_with fail
  refine (V.out _).mono ?_
  rintro e w' ⟨rfl, rfl⟩
  go_wp2_with fail
  refine (U.out _).mono ?_
  rintro e w' ⟨rfl, rfl⟩
  go_wp2_with fail
  refine (GC.out _).mono ?_
  rintro e w1 ⟨rfl, hg⟩
  have G1 := Lib.hid hg
  clear hg
  go_wp2_with fail
  refine (D1.out _).mono ?_
  rintro e w2 ⟨rfl, hg⟩
  have G2 := Lib.hid (grown_trans G1.out hg)
  clear hg G1
  go_wp2_with fail
  refine (D2.out _).mono ?_
  rintro e w3 ⟨rfl, hg⟩
  have G3 := Lib.hid (grown_trans G2.out hg)
  clear hg G2
  go_wp2
  go_ret2
  exact ⟨rfl, G3.out⟩
set_option maxRecDepth 100000 in
set_option maxHeartbeats 1000000 in
theorem rmake_int (neg c : Bool) (num den G A B R1 R2 : ByteArray) (w : World) (V : Hid (RVal num true)) (U : Hid (RVal den true)) (f : (den.toList == [48]) = false) (GC : Hid (GcOk num den G)) (D1 : Hid (RDiv num G A R1)) (D2 : Hid (RDiv den G B R2)) (h : ¬ (400 : Int) < (A.size : Int)) (h2 : ¬ (400 : Int) < (B.size : Int)) (z1 : (A.toList == [48]) = !c) (z2 : (A.toList != [48]) = c) (o1 : (B.toList == [49]) = true) :
    Calls Tryz.prog 63 #[.bool neg, .string num, .string den] w (ValPost (.tuple #[.string (if neg && c then ⟨#[45]⟩ ++ A else A), .int .i64 0]) w) := by
  cases neg <;> cases c <;> simp only [Bool.not_true, Bool.not_false] at z1
  all_goals
    go_enter Tryz.func63, Tryz.ntmps63
    go_wp2_with fail
    refine (V.out _).mono ?_
    rintro e w' ⟨rfl, rfl⟩
    go_wp2_with fail
    refine (U.out _).mono ?_
    rintro e w' ⟨rfl, rfl⟩
    go_wp2_with fail
    refine (GC.out _).mono ?_
    rintro e w1 ⟨rfl, hg⟩
    have G1 := Lib.hid hg
    clear hg
    go_wp2_with fail
    refine (D1.out _).mono ?_
    rintro e w2 ⟨rfl, hg⟩
    have G2 := Lib.hid (grown_trans G1.out hg)
    clear hg G1
    go_wp2_with fail
    refine (D2.out _).mono ?_
    rintro e w3 ⟨rfl, hg⟩
    have G3 := Lib.hid (grown_trans G2.out hg)
    clear hg G2
    go_wp2
    go_ret2
    exact ⟨rfl, G3.out⟩
set_option maxRecDepth 100000 in
set_option maxHeartbeats 1000000 in
theorem rmake_frac (neg c : Bool) (num den G A B R1 R2 : ByteArray) (w : World) (V : Hid (RVal num true)) (U : Hid (RVal den true)) (f : (den.toList == [48]) = false) (GC : Hid (GcOk num den G)) (D1 : Hid (RDiv num G A R1)) (D2 : Hid (RDiv den G B R2)) (h : ¬ (400 : Int) < (A.size : Int)) (h2 : ¬ (400 : Int) < (B.size : Int)) (z1 : (A.toList == [48]) = !c) (z2 : (A.toList != [48]) = c) (o1 : (B.toList == [49]) = false) :
    Calls Tryz.prog 63 #[.bool neg, .string num, .string den] w (ValPost (.tuple #[.string ((if neg && c then ⟨#[45]⟩ ++ A else A) ++ ⟨#[47]⟩ ++ B), .int .i64 0]) w) := by
  cases neg <;> cases c <;> simp only [Bool.not_true, Bool.not_false] at z1
  all_goals
    go_enter Tryz.func63, Tryz.ntmps63
    go_wp2_with fail
    refine (V.out _).mono ?_
    rintro e w' ⟨rfl, rfl⟩
    go_wp2_with fail
    refine (U.out _).mono ?_
    rintro e w' ⟨rfl, rfl⟩
    go_wp2_with fail
    refine (GC.out _).mono ?_
    rintro e w1 ⟨rfl, hg⟩
    have G1 := Lib.hid hg
    clear hg
    go_wp2_with fail
    refine (D1.out _).mono ?_
    rintro e w2 ⟨rfl, hg⟩
    have G2 := Lib.hid (grown_trans G1.out hg)
    clear hg G1
    go_wp2_with fail
    refine (D2.out _).mono ?_
    rintro e w3 ⟨rfl, hg⟩
    have G3 := Lib.hid (grown_trans G2.out hg)
    clear hg G2
    go_wp2
    go_ret2
    exact ⟨rfl, G3.out⟩
theorem rVal (s : ByteArray) (hs : s.size ≤ maxLen) : RVal s (numB s) := fun w => rvalid_any s w hs
theorem rDiv (m n : Nat) (hm : nDigits m ≤ 1000) (hn : nDigits n ≤ 1000) (h : n ≠ 0) : RDiv (decS m) (decS n) (decS (m / n)) (decS (m % n)) := fun w => by
  have := rdiv_any (decS m) (decS n) w (big_len m hm) (big_len n hn)
  rw [divV_dec m n hm hn h] at this
  exact this
theorem finV_text (x : Rat) (h : Short x) : finV x = .tuple #[.string ((if decide (x.num < 0) then ⟨#[45]⟩ ++ decS x.num.natAbs else decS x.num.natAbs) ++ (if x.den = 1 then ⟨#[]⟩ else (⟨#[47]⟩ ++ decS x.den))), .int .i64 0] := by
  rw [finV_ok h, ratS_text]
theorem rmake_any (neg : Bool) (num den : ByteArray) (w : World) (hn : num.size ≤ maxLen) (hd : den.size ≤ maxLen) :
    Calls Tryz.prog 63 #[.bool neg, .string num, .string den] w (ValPost (makeV neg num den) w) := by
  have va := rVal num hn
  have vb := rVal den hd
  unfold makeV
  cases ha : numB num
  · rw [ha] at va
    exact rmake_bad1 neg num den w (Lib.hid va)
  cases hb : numB den
  · rw [ha] at va
    rw [hb] at vb
    exact rmake_bad2 neg num den w (Lib.hid va) (Lib.hid vb)
  rw [ha] at va
  rw [hb] at vb
  have hz := (str_facts den hb).1
  by_cases h0 : nv den = 0
  · rw [h0] at hz ⊢
    exact rmake_bad3 neg num den w (Lib.hid va) (Lib.hid vb) (by simpa using hz)
  · simp only [h0, Bool.and_self, Bool.true_and, decide_false, Bool.not_false, if_true]
    obtain ⟨en, ln⟩ := num_is num ha
    obtain ⟨ed, ld⟩ := num_is den hb
    have hg0 : Nat.gcd (nv num) (nv den) ≠ 0 := by have := Nat.gcd_pos_of_pos_right (nv num) (Nat.pos_of_ne_zero h0); omega
    have hgl : Nat.gcd (nv num) (nv den) ≤ nv den := Nat.le_of_dvd (Nat.pos_of_ne_zero h0) (Nat.gcd_dvd_right _ _)
    have hgd : nDigits (Nat.gcd (nv num) (nv den)) ≤ 1000 := Nat.le_trans (nDigits_mono hgl) ld
    have GC := gcOk num den ha hb
    have D1 := rDiv (nv num) (Nat.gcd (nv num) (nv den)) ln hgd hg0
    have D2 := rDiv (nv den) (Nat.gcd (nv num) (nv den)) ld hgd hg0
    rw [← en] at D1
    rw [← ed] at D2
    have f : (den.toList == [48]) = false := by rw [hz]; simpa using h0
    have e1 := mk_num neg (nv num) (nv den) h0
    have e2 := mk_den neg (nv num) (nv den) h0
    have e3 := mk_neg neg (nv num) (nv den) h0
    have s1 := decS_size (nv num / Nat.gcd (nv num) (nv den))
    have s2 := decS_size (nv den / Nat.gcd (nv num) (nv den))
    by_cases l1 : nDigits (nv num / Nat.gcd (nv num) (nv den)) ≤ 400
    · by_cases l2 : nDigits (nv den / Nat.gcd (nv num) (nv den)) ≤ 400
      · have hs : Short (mkRat (sg neg (nv num)) (nv den)) := ⟨by rw [e1]; exact l1, by rw [e2]; exact l2⟩
        have hq : (nv num / Nat.gcd (nv num) (nv den) = 0) ↔ nv num = 0 := by
          constructor
          · intro h
            have := Nat.div_mul_cancel (Nat.gcd_dvd_left (nv num) (nv den))
            rw [h] at this
            omega
          · intro h; rw [h]; simp
        have zz := zero_str' (nv num / Nat.gcd (nv num) (nv den))
        have zc : (neg && !decide (nv num / Nat.gcd (nv num) (nv den) = 0)) = decide ((mkRat (sg neg (nv num)) (nv den)).num < 0) := by
          rw [Bool.eq_iff_iff, decide_eq_true_eq, e3]
          simp [hq]
        rw [finV_text _ hs, e1, e2, ← zc]
        have oo := (one_str (nv den / Nat.gcd (nv num) (nv den))).1
        by_cases o1 : nv den / Nat.gcd (nv num) (nv den) = 1
        · have := rmake_int neg (!decide (nv num / Nat.gcd (nv num) (nv den) = 0)) num den _ _ _ _ _ w (Lib.hid va) (Lib.hid vb) f (Lib.hid GC) (Lib.hid D1) (Lib.hid D2) (by omega) (by omega) (by rw [zz.1, Bool.not_not]) zz.2 (by rw [oo]; simpa using o1)
          rw [if_pos o1]
          rw [show ∀ a : ByteArray, a ++ ⟨#[]⟩ = a from fun a => by apply ByteArray.ext; apply Array.ext'; rw [cat_list]; simp]
          exact this
        · have := rmake_frac neg (!decide (nv num / Nat.gcd (nv num) (nv den) = 0)) num den _ _ _ _ _ w (Lib.hid va) (Lib.hid vb) f (Lib.hid GC) (Lib.hid D1) (Lib.hid D2) (by omega) (by omega) (by rw [zz.1, Bool.not_not]) zz.2 (by rw [oo]; simpa using o1)
          rw [if_neg o1, ← ByteArray.append_assoc]
          exact this
      · have hs : ¬ Short (mkRat (sg neg (nv num)) (nv den)) := fun h => l2 (by have := h.2; rw [e2] at this; exact this)
        rw [finV_long hs]
        exact rmake_long2 neg num den _ _ _ _ _ w (Lib.hid va) (Lib.hid vb) f (Lib.hid GC) (Lib.hid D1) (Lib.hid D2) (by omega) (by omega)
    · have hs : ¬ Short (mkRat (sg neg (nv num)) (nv den)) := fun h => l1 (by have := h.1; rw [e1] at this; exact this)
      rw [finV_long hs]
      exact rmake_long1 neg num den _ _ _ _ _ w (Lib.hid va) (Lib.hid vb) f (Lib.hid GC) (Lib.hid D1) (Lib.hid D2) (by omega)

/-! ### times, sum -/
theorem rtimes_any (m n : Nat) (w : World) (hm : nDigits m ≤ 400) (hn : nDigits n ≤ 400) :
    Calls Tryz.prog 62 #[.string (decS m), .string (decS n)] w (ValPost (.string (decS (m * n))) w) := by
  have d := dig_mul hm hn
  refine rtimes_walk _ _ _ w (Lib.hid fun w => ?_)
  have := rmul_any (decS m) (decS n) w (big_len m (by omega)) (big_len n (by omega))
  rw [mulV_dec m n (by omega) (by omega) (by omega)] at this
  exact this
set_option maxRecDepth 100000 in
set_option maxHeartbeats 1000000 in
theorem rsum_same (p q : Bool) (A B C : ByteArray) (w : World) (h : (p == q) = true) (AD : Hid (∀ w, Calls Tryz.prog 79 #[.string A, .string B] w (ValPost (.tuple #[.string C, .int .i64 0]) w))) :
    Calls Tryz.prog 61 #[.bool p, .string A, .bool q, .string B] w (ValPost (.tuple #[.bool p, .string C]) w) := by
  go_enter Tryz.func61, Tryz.ntmps61
  go_wp2_with fail
  refine (AD.out _).mono ?_
  rintro e w1 ⟨rfl, hg⟩
  have G1 := Lib.hid hg
  clear hg
  go_wp2
  go_ret2
  exact ⟨rfl, G1.out⟩
set_option maxRecDepth 100000 in
set_option maxHeartbeats 1000000 in
theorem rsum_more (p q : Bool) (A B C : ByteArray) (c : Int) (w : World) (h : (p == q) = false) (hc : 0 ≤ c) (CM : Hid (∀ w, Calls Tryz.prog 80 #[.string A, .string B] w (CmpPost c w))) (SU : Hid (∀ w, Calls Tryz.prog 81 #[.string A, .string B] w (ValPost (.tuple #[.string C, .int .i64 0]) w))) :
    Calls Tryz.prog 61 #[.bool p, .string A, .bool q, .string B] w (ValPost (.tuple #[.bool p, .string C]) w) := by
  go_enter Tryz.func61, Tryz.ntmps61
  go_wp2_with fail
  refine (CM.out _).mono ?_
  rintro e w1 ⟨rfl, hg⟩
  have G1 := Lib.hid hg
  clear hg
  go_wp2_with fail
  refine (SU.out _).mono ?_
  rintro e w2 ⟨rfl, hg⟩
  have G2 := Lib.hid (grown_trans G1.out hg)
  clear hg G1
  go_wp2
  go_ret2
  exact ⟨rfl, G2.out⟩
set_option maxRecDepth 100000 in
set_option maxHeartbeats 1000000 in
theorem rsum_less (p q : Bool) (A B C : ByteArray) (c : Int) (w : World) (h : (p == q) = false) (hc : ¬ 0 ≤ c) (CM : Hid (∀ w, Calls Tryz.prog 80 #[.string A, .string B] w (CmpPost c w))) (SU : Hid (∀ w, Calls Tryz.prog 81 #[.string B, .string A] w (ValPost (.tuple #[.string C, .int .i64 0]) w))) :
    Calls Tryz.prog 61 #[.bool p, .string A, .bool q, .string B] w (ValPost (.tuple #[.bool q, .string C]) w) := by
  go_enter Tryz.func61, Tryz.ntmps61
  go_wp2_with fail
  refine (CM.out _).mono ?_
  rintro e w1 ⟨rfl, hg⟩
  have G1 := Lib.hid hg
  clear hg
  go_wp2_with fail
  refine (SU.out _).mono ?_
  rintro e w2 ⟨rfl, hg⟩
  have G2 := Lib.hid (grown_trans G1.out hg)
  clear hg G1
  go_wp2
  go_ret2
  exact ⟨rfl, G2.out⟩
def sumR (p : Bool) (m : Nat) (q : Bool) (n : Nat) : Bool × Nat := if p == q then (p, m + n) else if m < n then (q, n - m) else (p, m - n)
theorem sumR_sg (p : Bool) (m : Nat) (q : Bool) (n : Nat) : sg (sumR p m q n).1 (sumR p m q n).2 = sg p m + sg q n := by
  unfold sumR
  by_cases h : p = q
  · subst h; simp only [BEq.rfl, if_true]; exact sg_same p m n
  · rw [if_neg (by simpa using h)]
    split
    · rename_i hl; exact sg_less p q m n h hl
    · rename_i hl; exact sg_more p q m n h hl
theorem sumR_digits (p : Bool) (m : Nat) (q : Bool) (n : Nat) (hm : nDigits m ≤ 800) (hn : nDigits n ≤ 800) : nDigits (sumR p m q n).2 ≤ 801 := by
  unfold sumR
  split
  · exact nDigits_add m n 800 hm hn
  · split
    · have := nDigits_mono (Nat.sub_le n m); exact Nat.le_trans this (by omega)
    · have := nDigits_mono (Nat.sub_le m n); exact Nat.le_trans this (by omega)
theorem rsum_any (p : Bool) (m : Nat) (q : Bool) (n : Nat) (w : World) (hm : nDigits m ≤ 800) (hn : nDigits n ≤ 800) :
    Calls Tryz.prog 61 #[.bool p, .string (decS m), .bool q, .string (decS n)] w (ValPost (.tuple #[.bool (sumR p m q n).1, .string (decS (sumR p m q n).2)]) w) := by
  unfold sumR
  cases h : (p == q)
  · simp only [Bool.false_eq_true, if_false]
    have cm := fun w => rcmp_any (decS m) (decS n) w (big_len m (by omega)) (big_len n (by omega))
    rw [cmp_dec m n (by omega) (by omega)] at cm
    by_cases hl : m < n
    · rw [if_pos hl]
      have su := fun w => rsub_any (decS n) (decS m) w (big_len n (by omega)) (big_len m (by omega))
      rw [sub_dec n m (by omega) (by omega) (by omega)] at su
      exact rsum_less p q _ _ _ _ w h (by have := (cmpN_lt m n).2 hl; omega) (Lib.hid cm) (Lib.hid su)
    · rw [if_neg hl]
      have su := fun w => rsub_any (decS m) (decS n) w (big_len m (by omega)) (big_len n (by omega))
      rw [sub_dec m n (by omega) (by omega) (by omega)] at su
      exact rsum_more p q _ _ _ _ w h (by have := (cmpN_lt m n); omega) (Lib.hid cm) (Lib.hid su)
  · simp only [if_true]
    have d := nDigits_add m n 800 hm hn
    have ad := fun w => radd_any (decS m) (decS n) w (big_len m (by omega)) (big_len n (by omega))
    rw [addV_lit _ _ (decS (m + n)) (num_short _ (by omega)) (num_short _ (by omega)) (num_short _ (by omega)) (by rw [nv_dec, nv_dec, nv_dec])] at ad
    exact rsum_same p q _ _ _ w h (Lib.hid ad)

/-! ### The exported functions -/
def PartsTo (a : ByteArray) (p : Bool) (A B : ByteArray) (k : Bool) : Prop := ∀ w, Calls Tryz.prog 60 #[.string a] w (ValPost (.tuple #[.bool p, .string A, .string B, .bool k]) w)
set_option maxRecDepth 100000 in
set_option maxHeartbeats 1000000 in
theorem rratvalid (a : ByteArray) (p : Bool) (A B : ByteArray) (k : Bool) (w : World) (R : Hid (PartsTo a p A B k)) :
    Calls Tryz.prog 36 #[.string a] w (ValPost (.bool k) w) := by
  go_enter Tryz.func36, Tryz.ntmps36
  go_wp2_with fail
  refine (R.out _).mono ?_
  rintro e w1 ⟨rfl, hg⟩
  have G1 := Lib.hid hg
  clear hg
  go_wp2
  go_ret
  exact ⟨rfl, G1.out⟩
set_option maxRecDepth 100000 in
set_option maxHeartbeats 1000000 in
theorem rcmp_no (a b : ByteArray) (p q k1 k2 : Bool) (A B C D : ByteArray) (w : World) (hk : (k1 && k2) = false) (R1 : Hid (PartsTo a p A B k1)) (R2 : Hid (PartsTo b q C D k2)) :
    Calls Tryz.prog 37 #[.string a, .string b] w (ValPost (.int .i64 0) w) := by
  cases k1 <;> cases k2 <;> simp only [Bool.and_self, Bool.and_true, Bool.true_and, Bool.true_eq_false] at hk
  all_goals
    go_enter Tryz.func37, Tryz.ntmps37
    go_wp2_with fail
    refine (R1.out _).mono ?_
    rintro e w1 ⟨rfl, hg⟩
    have G1 := Lib.hid hg
    clear hg
    go_wp2_with fail
    refine (R2.out _).mono ?_
    rintro e w2 ⟨rfl, hg⟩
    have G2 := Lib.hid (grown_trans G1.out hg)
    clear hg G1
    go_wp2
    go_ret
    exact ⟨rfl, G2.out⟩
set_option maxRecDepth 100000 in
set_option maxHeartbeats 1000000 in
theorem radd_no (a b : ByteArray) (p q k1 k2 : Bool) (A B C D : ByteArray) (w : World) (hk : (k1 && k2) = false) (R1 : Hid (PartsTo a p A B k1)) (R2 : Hid (PartsTo b q C D k2)) :
    Calls Tryz.prog 38 #[.string a, .string b] w (ValPost (.tuple #[.string ⟨#[]⟩, .int .i64 1]) w) := by
  cases k1 <;> cases k2 <;> simp only [Bool.and_self, Bool.and_true, Bool.true_and, Bool.true_eq_false] at hk
  all_goals
    go_enter Tryz.func38, Tryz.ntmps38
    go_wp2_with fail
    refine (R1.out _).mono ?_
    rintro e w1 ⟨rfl, hg⟩
    have G1 := Lib.hid hg
    clear hg
    go_wp2_with fail
    refine (R2.out _).mono ?_
    rintro e w2 ⟨rfl, hg⟩
    have G2 := Lib.hid (grown_trans G1.out hg)
    clear hg G1
    go_wp2
    go_ret2
    exact ⟨rfl, G2.out⟩
set_option maxRecDepth 100000 in
set_option maxHeartbeats 1000000 in
theorem rmul_no (a b : ByteArray) (p q k1 k2 : Bool) (A B C D : ByteArray) (w : World) (hk : (k1 && k2) = false) (R1 : Hid (PartsTo a p A B k1)) (R2 : Hid (PartsTo b q C D k2)) :
    Calls Tryz.prog 39 #[.string a, .string b] w (ValPost (.tuple #[.string ⟨#[]⟩, .int .i64 1]) w) := by
  cases k1 <;> cases k2 <;> simp only [Bool.and_self, Bool.and_true, Bool.true_and, Bool.true_eq_false] at hk
  all_goals
    go_enter Tryz.func39, Tryz.ntmps39
    go_wp2_with fail
    refine (R1.out _).mono ?_
    rintro e w1 ⟨rfl, hg⟩
    have G1 := Lib.hid hg
    clear hg
    go_wp2_with fail
    refine (R2.out _).mono ?_
    rintro e w2 ⟨rfl, hg⟩
    have G2 := Lib.hid (grown_trans G1.out hg)
    clear hg G1
    go_wp2
    go_ret2
    exact ⟨rfl, G2.out⟩
set_option maxRecDepth 100000 in
set_option maxHeartbeats 1000000 in
theorem rdiv_no (a b : ByteArray) (p q k1 k2 : Bool) (A B C D : ByteArray) (w : World) (hk : (k1 && k2) = false) (R1 : Hid (PartsTo a p A B k1)) (R2 : Hid (PartsTo b q C D k2)) :
    Calls Tryz.prog 42 #[.string a, .string b] w (ValPost (.tuple #[.string ⟨#[]⟩, .int .i64 1]) w) := by
  cases k1 <;> cases k2 <;> simp only [Bool.and_self, Bool.and_true, Bool.true_and, Bool.true_eq_false] at hk
  all_goals
    go_enter Tryz.func42, Tryz.ntmps42
    go_wp2_with fail
    refine (R1.out _).mono ?_
    rintro e w1 ⟨rfl, hg⟩
    have G1 := Lib.hid hg
    clear hg
    go_wp2_with fail
    refine (R2.out _).mono ?_
    rintro e w2 ⟨rfl, hg⟩
    have G2 := Lib.hid (grown_trans G1.out hg)
    clear hg G1
    go_wp2
    go_ret2
    exact ⟨rfl, G2.out⟩
set_option maxRecDepth 100000 in
set_option maxHeartbeats 1000000 in
theorem rcmp_zero (a b : ByteArray) (p q : Bool) (A B C D : ByteArray) (X Y c : ByteArray) (ng : Bool) (w : World) (R1 : Hid (PartsTo a p A B true)) (R2 : Hid (PartsTo b q C D true)) (T1 : Hid (∀ w, Calls Tryz.prog 62 #[.string A, .string D] w (ValPost (.string X) w))) (T2 : Hid (∀ w, Calls Tryz.prog 62 #[.string C, .string B] w (ValPost (.string Y) w))) (SM : Hid (∀ w, Calls Tryz.prog 61 #[.bool p, .string X, .bool (!q), .string Y] w (ValPost (.tuple #[.bool ng, .string c]) w))) (f : (c.toList == [48]) = true) :
    Calls Tryz.prog 37 #[.string a, .string b] w (ValPost (.int .i64 0) w) := by
  go_enter Tryz.func37, Tryz.ntmps37
  go_wp2_with fail
  refine (R1.out _).mono ?_
  rintro e w1 ⟨rfl, hg⟩
  have G1 := Lib.hid hg
  clear hg
  go_wp2_with fail
  refine (R2.out _).mono ?_
  rintro e w2 ⟨rfl, hg⟩
  have G2 := Lib.hid (grown_trans G1.out hg)
  clear hg G1
  go_wp2_with fail
  refine (T1.out _).mono ?_
  rintro e w3 ⟨rfl, hg⟩
  have G3 := Lib.hid (grown_trans G2.out hg)
  clear hg G2
  go_wp2_with fail
  refine (T2.out _).mono ?_
  rintro e w4 ⟨rfl, hg⟩
  have G4 := Lib.hid (grown_trans G3.out hg)
  clear hg G3
  go_wp2_with fail
  refine (SM.out _).mono ?_
  rintro e w5 ⟨rfl, hg⟩
  have G5 := Lib.hid (grown_trans G4.out hg)
  clear hg G4
  go_wp2
  go_ret
  exact ⟨rfl, G5.out⟩
set_option maxRecDepth 100000 in
set_option maxHeartbeats 1000000 in
theorem rcmp_part (a b : ByteArray) (p q : Bool) (A B C D : ByteArray) (X Y c : ByteArray) (ng : Bool) (w : World) (R1 : Hid (PartsTo a p A B true)) (R2 : Hid (PartsTo b q C D true)) (T1 : Hid (∀ w, Calls Tryz.prog 62 #[.string A, .string D] w (ValPost (.string X) w))) (T2 : Hid (∀ w, Calls Tryz.prog 62 #[.string C, .string B] w (ValPost (.string Y) w))) (SM : Hid (∀ w, Calls Tryz.prog 61 #[.bool p, .string X, .bool (!q), .string Y] w (ValPost (.tuple #[.bool ng, .string c]) w))) (f : (c.toList == [48]) = false) :
    Calls Tryz.prog 37 #[.string a, .string b] w (ValPost (.int .i64 (if ng then -1 else 1)) w) := by
  cases ng
  all_goals
    go_enter Tryz.func37, Tryz.ntmps37
    go_wp2_with fail
    refine (R1.out _).mono ?_
    rintro e w1 ⟨rfl, hg⟩
    have G1 := Lib.hid hg
    clear hg
    go_wp2_with fail
    refine (R2.out _).mono ?_
    rintro e w2 ⟨rfl, hg⟩
    have G2 := Lib.hid (grown_trans G1.out hg)
    clear hg G1
    go_wp2_with fail
    refine (T1.out _).mono ?_
    rintro e w3 ⟨rfl, hg⟩
    have G3 := Lib.hid (grown_trans G2.out hg)
    clear hg G2
    go_wp2_with fail
    refine (T2.out _).mono ?_
    rintro e w4 ⟨rfl, hg⟩
    have G4 := Lib.hid (grown_trans G3.out hg)
    clear hg G3
    go_wp2_with fail
    refine (SM.out _).mono ?_
    rintro e w5 ⟨rfl, hg⟩
    have G5 := Lib.hid (grown_trans G4.out hg)
    clear hg G4
    go_wp2
    go_ret
    exact ⟨rfl, G5.out⟩
set_option maxRecDepth 100000 in
set_option maxHeartbeats 1000000 in
theorem radd_yes (a b : ByteArray) (p q : Bool) (A B C D : ByteArray) (X Y Z c S : ByteArray) (ng : Bool) (E : Int) (w : World) (R1 : Hid (PartsTo a p A B true)) (R2 : Hid (PartsTo b q C D true)) (T1 : Hid (∀ w, Calls Tryz.prog 62 #[.string A, .string D] w (ValPost (.string X) w))) (T2 : Hid (∀ w, Calls Tryz.prog 62 #[.string C, .string B] w (ValPost (.string Y) w))) (SM : Hid (∀ w, Calls Tryz.prog 61 #[.bool p, .string X, .bool q, .string Y] w (ValPost (.tuple #[.bool ng, .string c]) w))) (T3 : Hid (∀ w, Calls Tryz.prog 62 #[.string B, .string D] w (ValPost (.string Z) w))) (MK : Hid (∀ w, Calls Tryz.prog 63 #[.bool ng, .string c, .string Z] w (ValPost (.tuple #[.string S, .int .i64 E]) w))) :
    Calls Tryz.prog 38 #[.string a, .string b] w (ValPost (.tuple #[.string S, .int .i64 E]) w) := by
  go_enter Tryz.func38, Tryz.ntmps38
  go_wp2_with fail
  refine (R1.out _).mono ?_
  rintro e w1 ⟨rfl, hg⟩
  have G1 := Lib.hid hg
  clear hg
  go_wp2_with fail
  refine (R2.out _).mono ?_
  rintro e w2 ⟨rfl, hg⟩
  have G2 := Lib.hid (grown_trans G1.out hg)
  clear hg G1
  go_wp2_with fail
  refine (T1.out _).mono ?_
  rintro e w3 ⟨rfl, hg⟩
  have G3 := Lib.hid (grown_trans G2.out hg)
  clear hg G2
  go_wp2_with fail
  refine (T2.out _).mono ?_
  rintro e w4 ⟨rfl, hg⟩
  have G4 := Lib.hid (grown_trans G3.out hg)
  clear hg G3
  go_wp2_with fail
  refine (SM.out _).mono ?_
  rintro e w5 ⟨rfl, hg⟩
  have G5 := Lib.hid (grown_trans G4.out hg)
  clear hg G4
  go_wp2_with fail
  refine (T3.out _).mono ?_
  rintro e w6 ⟨rfl, hg⟩
  have G6 := Lib.hid (grown_trans G5.out hg)
  clear hg G5
  go_wp2_with fail
  refine (MK.out _).mono ?_
  rintro e w7 ⟨rfl, hg⟩
  have G7 := Lib.hid (grown_trans G6.out hg)
  clear hg G6
  go_wp2
  go_ret2
  exact ⟨rfl, G7.out⟩
set_option maxRecDepth 100000 in
set_option maxHeartbeats 1000000 in
theorem rmul_yes (a b : ByteArray) (p q : Bool) (A B C D : ByteArray) (X Y S : ByteArray) (E : Int) (w : World) (R1 : Hid (PartsTo a p A B true)) (R2 : Hid (PartsTo b q C D true)) (T1 : Hid (∀ w, Calls Tryz.prog 62 #[.string A, .string C] w (ValPost (.string X) w))) (T2 : Hid (∀ w, Calls Tryz.prog 62 #[.string B, .string D] w (ValPost (.string Y) w))) (MK : Hid (∀ w, Calls Tryz.prog 63 #[.bool (p != q), .string X, .string Y] w (ValPost (.tuple #[.string S, .int .i64 E]) w))) :
    Calls Tryz.prog 39 #[.string a, .string b] w (ValPost (.tuple #[.string S, .int .i64 E]) w) := by
  go_enter Tryz.func39, Tryz.ntmps39
  go_wp2_with fail
  refine (R1.out _).mono ?_
  rintro e w1 ⟨rfl, hg⟩
  have G1 := Lib.hid hg
  clear hg
  go_wp2_with fail
  refine (R2.out _).mono ?_
  rintro e w2 ⟨rfl, hg⟩
  have G2 := Lib.hid (grown_trans G1.out hg)
  clear hg G1
  go_wp2_with fail
  refine (T1.out _).mono ?_
  rintro e w3 ⟨rfl, hg⟩
  have G3 := Lib.hid (grown_trans G2.out hg)
  clear hg G2
  go_wp2_with fail
  refine (T2.out _).mono ?_
  rintro e w4 ⟨rfl, hg⟩
  have G4 := Lib.hid (grown_trans G3.out hg)
  clear hg G3
  go_wp2_with fail
  refine (MK.out _).mono ?_
  rintro e w5 ⟨rfl, hg⟩
  have G5 := Lib.hid (grown_trans G4.out hg)
  clear hg G4
  go_wp2
  go_ret2
  exact ⟨rfl, G5.out⟩
set_option maxRecDepth 100000 in
set_option maxHeartbeats 1000000 in
theorem rratdiv_zero (a b : ByteArray) (p q : Bool) (A B C D : ByteArray) (w : World) (R1 : Hid (PartsTo a p A B true)) (R2 : Hid (PartsTo b q C D true)) (f : (C.toList == [48]) = true) :
    Calls Tryz.prog 42 #[.string a, .string b] w (ValPost (.tuple #[.string ⟨#[]⟩, .int .i64 4]) w) := by
  go_enter Tryz.func42, Tryz.ntmps42
  go_wp2_with fail
  refine (R1.out _).mono ?_
  rintro e w1 ⟨rfl, hg⟩
  have G1 := Lib.hid hg
  clear hg
  go_wp2_with fail
  refine (R2.out _).mono ?_
  rintro e w2 ⟨rfl, hg⟩
  have G2 := Lib.hid (grown_trans G1.out hg)
  clear hg G1
  go_wp2
  go_ret2
  exact ⟨rfl, G2.out⟩
set_option maxRecDepth 100000 in
set_option maxHeartbeats 1000000 in
theorem rdiv_yes (a b : ByteArray) (p q : Bool) (A B C D : ByteArray) (X Y S : ByteArray) (E : Int) (w : World) (R1 : Hid (PartsTo a p A B true)) (R2 : Hid (PartsTo b q C D true)) (f : (C.toList == [48]) = false) (T1 : Hid (∀ w, Calls Tryz.prog 62 #[.string A, .string D] w (ValPost (.string X) w))) (T2 : Hid (∀ w, Calls Tryz.prog 62 #[.string B, .string C] w (ValPost (.string Y) w))) (MK : Hid (∀ w, Calls Tryz.prog 63 #[.bool (p != q), .string X, .string Y] w (ValPost (.tuple #[.string S, .int .i64 E]) w))) :
    Calls Tryz.prog 42 #[.string a, .string b] w (ValPost (.tuple #[.string S, .int .i64 E]) w) := by
  go_enter Tryz.func42, Tryz.ntmps42
  go_wp2_with fail
  refine (R1.out _).mono ?_
  rintro e w1 ⟨rfl, hg⟩
  have G1 := Lib.hid hg
  clear hg
  go_wp2_with fail
  refine (R2.out _).mono ?_
  rintro e w2 ⟨rfl, hg⟩
  have G2 := Lib.hid (grown_trans G1.out hg)
  clear hg G1
  go_wp2_with fail
  refine (T1.out _).mono ?_
  rintro e w3 ⟨rfl, hg⟩
  have G3 := Lib.hid (grown_trans G2.out hg)
  clear hg G2
  go_wp2_with fail
  refine (T2.out _).mono ?_
  rintro e w4 ⟨rfl, hg⟩
  have G4 := Lib.hid (grown_trans G3.out hg)
  clear hg G3
  go_wp2_with fail
  refine (MK.out _).mono ?_
  rintro e w5 ⟨rfl, hg⟩
  have G5 := Lib.hid (grown_trans G4.out hg)
  clear hg G4
  go_wp2
  go_ret2
  exact ⟨rfl, G5.out⟩
set_option maxRecDepth 100000 in
set_option maxHeartbeats 1000000 in
theorem rneg_no (a : ByteArray) (p : Bool) (A B : ByteArray) (w : World) (R1 : Hid (PartsTo a p A B false)) :
    Calls Tryz.prog 64 #[.string a] w (ValPost (.tuple #[.string ⟨#[]⟩, .int .i64 1]) w) := by
  go_enter Tryz.func64, Tryz.ntmps64
  go_wp2_with fail
  refine (R1.out _).mono ?_
  rintro e w1 ⟨rfl, hg⟩
  have G1 := Lib.hid hg
  clear hg
  go_wp2
  go_ret2
  exact ⟨rfl, G1.out⟩
set_option maxRecDepth 100000 in
set_option maxHeartbeats 1000000 in
theorem rneg_yes (a : ByteArray) (p : Bool) (A B S : ByteArray) (E : Int) (w : World) (R1 : Hid (PartsTo a p A B true)) (MK : Hid (∀ w, Calls Tryz.prog 63 #[.bool (!p), .string A, .string B] w (ValPost (.tuple #[.string S, .int .i64 E]) w))) :
    Calls Tryz.prog 64 #[.string a] w (ValPost (.tuple #[.string S, .int .i64 E]) w) := by
  go_enter Tryz.func64, Tryz.ntmps64
  go_wp2_with fail
  refine (R1.out _).mono ?_
  rintro e w1 ⟨rfl, hg⟩
  have G1 := Lib.hid hg
  clear hg
  go_wp2_with fail
  refine (MK.out _).mono ?_
  rintro e w2 ⟨rfl, hg⟩
  have G2 := Lib.hid (grown_trans G1.out hg)
  clear hg G1
  go_wp2
  go_ret2
  exact ⟨rfl, G2.out⟩
set_option maxRecDepth 100000 in
set_option maxHeartbeats 1000000 in
theorem rsub_no1 (a b c : ByteArray) (E : Int) (w : World) (f1 : (E == 0) = false) (f2 : (E != 0) = true) (NG : Hid (∀ w, Calls Tryz.prog 64 #[.string b] w (ValPost (.tuple #[.string c, .int .i64 E]) w))) :
    Calls Tryz.prog 41 #[.string a, .string b] w (ValPost (.tuple #[.string ⟨#[]⟩, .int .i64 1]) w) := by
  go_enter Tryz.func41, Tryz.ntmps41
  go_wp2_with fail
  refine (NG.out _).mono ?_
  rintro e w1 ⟨rfl, hg⟩
  have G1 := Lib.hid hg
  clear hg
  go_wp2
  go_ret2
  exact ⟨rfl, G1.out⟩
set_option maxRecDepth 100000 in
set_option maxHeartbeats 1000000 in
theorem rsub_no2 (a b c : ByteArray) (w : World) (NG : Hid (∀ w, Calls Tryz.prog 64 #[.string b] w (ValPost (.tuple #[.string c, .int .i64 0]) w))) (VA : Hid (∀ w, Calls Tryz.prog 36 #[.string a] w (ValPost (.bool false) w))) :
    Calls Tryz.prog 41 #[.string a, .string b] w (ValPost (.tuple #[.string ⟨#[]⟩, .int .i64 1]) w) := by
  go_enter Tryz.func41, Tryz.ntmps41
  go_wp2_with fail
  refine (NG.out _).mono ?_
  rintro e w1 ⟨rfl, hg⟩
  have G1 := Lib.hid hg
  clear hg
  go_wp2_with fail
  refine (VA.out _).mono ?_
  rintro e w2 ⟨rfl, hg⟩
  have G2 := Lib.hid (grown_trans G1.out hg)
  clear hg G1
  go_wp2
  go_ret2
  exact ⟨rfl, G2.out⟩
set_option maxRecDepth 100000 in
set_option maxHeartbeats 1000000 in
theorem rsub_yes (a b c S : ByteArray) (E : Int) (w : World) (NG : Hid (∀ w, Calls Tryz.prog 64 #[.string b] w (ValPost (.tuple #[.string c, .int .i64 0]) w))) (VA : Hid (∀ w, Calls Tryz.prog 36 #[.string a] w (ValPost (.bool true) w))) (AD : Hid (∀ w, Calls Tryz.prog 38 #[.string a, .string c] w (ValPost (.tuple #[.string S, .int .i64 E]) w))) :
    Calls Tryz.prog 41 #[.string a, .string b] w (ValPost (.tuple #[.string S, .int .i64 E]) w) := by
  go_enter Tryz.func41, Tryz.ntmps41
  go_wp2_with fail
  refine (NG.out _).mono ?_
  rintro e w1 ⟨rfl, hg⟩
  have G1 := Lib.hid hg
  clear hg
  go_wp2_with fail
  refine (VA.out _).mono ?_
  rintro e w2 ⟨rfl, hg⟩
  have G2 := Lib.hid (grown_trans G1.out hg)
  clear hg G1
  go_wp2_with fail
  refine (AD.out _).mono ?_
  rintro e w3 ⟨rfl, hg⟩
  have G3 := Lib.hid (grown_trans G2.out hg)
  clear hg G2
  go_wp2
  go_ret2
  exact ⟨rfl, G3.out⟩
end Go.Proofs.YtkekljjjomnalaaGreatDoor
set_option linter.unusedVariables false
set_option linter.unusedSimpArgs false
namespace Go.Proofs.YtkekljjjomnalaaGreatDoor
open Go.RowKit
open Go.Lib (nDigits decDigits)

theorem partsTo_yes {a : ByteArray} {x : Rat} (h : IsRat a x) : PartsTo a (sgn x) (decS x.num.natAbs) (decS x.den) true := fun w => rparts_yes h w
theorem partsTo_no {a : ByteArray} (h : notRat a) (ha : a.size ≤ maxLen) : PartsTo a false ⟨#[]⟩ ⟨#[]⟩ false := fun w => rparts_no h ha w
theorem partsTo_cases (a : ByteArray) (ha : a.size ≤ maxLen) : ∃ b A B k, PartsTo a b A B k ∧ (notRat a → k = false) := by
  rcases rat_or a with ⟨x, h⟩ | h
  · exact ⟨_, _, _, true, partsTo_yes h, fun n => absurd h (n x)⟩
  · exact ⟨_, _, _, false, partsTo_no h ha, fun _ => rfl⟩
theorem both_no {a b : ByteArray} (ha : a.size ≤ maxLen) (hb : b.size ≤ maxLen) (h : notRat a ∨ notRat b) : ∃ p q k1 k2 A B C D, (k1 && k2) = false ∧ PartsTo a p A B k1 ∧ PartsTo b q C D k2 := by
  obtain ⟨b1, A, B, k1, r1, n1⟩ := partsTo_cases a ha
  obtain ⟨b2, C, D, k2, r2, n2⟩ := partsTo_cases b hb
  refine ⟨b1, b2, k1, k2, A, B, C, D, ?_, r1, r2⟩
  rcases h with h | h
  · rw [n1 h]; rfl
  · rw [n2 h, Bool.and_false]
theorem rvalid_yes {a : ByteArray} {x : Rat} (h : IsRat a x) (w : World) : Calls Tryz.prog 36 #[.string a] w (ValPost (.bool true) w) := rratvalid a _ _ _ _ w (Lib.hid (partsTo_yes h))
theorem rvalid_no {a : ByteArray} (h : notRat a) (ha : a.size ≤ maxLen) (w : World) : Calls Tryz.prog 36 #[.string a] w (ValPost (.bool false) w) := rratvalid a _ _ _ _ w (Lib.hid (partsTo_no h ha))
theorem rcmp_not {a b : ByteArray} (ha : a.size ≤ maxLen) (hb : b.size ≤ maxLen) (h : notRat a ∨ notRat b) (w : World) : Calls Tryz.prog 37 #[.string a, .string b] w (ValPost (.int .i64 0) w) := by
  obtain ⟨p, q, k1, k2, A, B, C, D, hk, r1, r2⟩ := both_no ha hb h
  exact rcmp_no a b p q k1 k2 A B C D w hk (Lib.hid r1) (Lib.hid r2)
theorem radd_not {a b : ByteArray} (ha : a.size ≤ maxLen) (hb : b.size ≤ maxLen) (h : notRat a ∨ notRat b) (w : World) : Calls Tryz.prog 38 #[.string a, .string b] w (ValPost (errV 1) w) := by
  obtain ⟨p, q, k1, k2, A, B, C, D, hk, r1, r2⟩ := both_no ha hb h
  exact radd_no a b p q k1 k2 A B C D w hk (Lib.hid r1) (Lib.hid r2)
theorem rmul_not {a b : ByteArray} (ha : a.size ≤ maxLen) (hb : b.size ≤ maxLen) (h : notRat a ∨ notRat b) (w : World) : Calls Tryz.prog 39 #[.string a, .string b] w (ValPost (errV 1) w) := by
  obtain ⟨p, q, k1, k2, A, B, C, D, hk, r1, r2⟩ := both_no ha hb h
  exact rmul_no a b p q k1 k2 A B C D w hk (Lib.hid r1) (Lib.hid r2)
theorem rdiv_not {a b : ByteArray} (ha : a.size ≤ maxLen) (hb : b.size ≤ maxLen) (h : notRat a ∨ notRat b) (w : World) : Calls Tryz.prog 42 #[.string a, .string b] w (ValPost (errV 1) w) := by
  obtain ⟨p, q, k1, k2, A, B, C, D, hk, r1, r2⟩ := both_no ha hb h
  exact rdiv_no a b p q k1 k2 A B C D w hk (Lib.hid r1) (Lib.hid r2)

theorem rtm (m n : Nat) (hm : nDigits m ≤ 400) (hn : nDigits n ≤ 400) : Hid (∀ w, Calls Tryz.prog 62 #[.string (decS m), .string (decS n)] w (ValPost (.string (decS (m * n))) w)) := Lib.hid fun w => rtimes_any m n w hm hn
theorem rmk (neg : Bool) (n d : Nat) (hn : nDigits n ≤ 1000) (hd : nDigits d ≤ 1000) (h0 : d ≠ 0) {z : Rat} (hz : mkRat (sg neg n) d = z) {S : ByteArray} {E : Int} (e : finV z = .tuple #[.string S, .int .i64 E]) :
    Hid (∀ w, Calls Tryz.prog 63 #[.bool neg, .string (decS n), .string (decS d)] w (ValPost (.tuple #[.string S, .int .i64 E]) w)) := Lib.hid fun w => by
  have := rmake_any neg (decS n) (decS d) w (big_len _ hn) (big_len _ hd)
  unfold makeV at this
  rw [num_short n hn, num_short d hd, nv_dec, nv_dec] at this
  simp only [Bool.and_self, Bool.true_and, h0, decide_false, Bool.not_false, if_true, hz, e] at this
  exact this
theorem sg_zero_iff (neg : Bool) (n : Nat) : sg neg n = 0 ↔ n = 0 := by unfold sg; split <;> omega
theorem parts_sum (x y : Rat) : sg (sumR (sgn x) (x.num.natAbs * y.den) (sgn y) (y.num.natAbs * x.den)).1 (sumR (sgn x) (x.num.natAbs * y.den) (sgn y) (y.num.natAbs * x.den)).2 = sg (sgn x) (x.num.natAbs * y.den) + sg (sgn y) (y.num.natAbs * x.den) := sumR_sg _ _ _ _
theorem sg_not (q : Bool) (n : Nat) : sg (!q) n = - sg q n := by cases q <;> simp [sg]
theorem cmp_by (x y : Rat) : cmpQ x y = if (sumR (sgn x) (x.num.natAbs * y.den) (!sgn y) (y.num.natAbs * x.den)).2 = 0 then 0 else if (sumR (sgn x) (x.num.natAbs * y.den) (!sgn y) (y.num.natAbs * x.den)).1 then -1 else 1 := by
  have h := sumR_sg (sgn x) (x.num.natAbs * y.den) (!sgn y) (y.num.natAbs * x.den)
  rw [sg_not, sg_mulN, sg_mulN, ← sgn_num, ← sgn_num] at h
  generalize sumR (sgn x) (x.num.natAbs * y.den) (!sgn y) (y.num.natAbs * x.den) = r at *
  obtain ⟨ng, c⟩ := r
  simp only at h ⊢
  unfold cmpQ
  simp only [Rat.lt_iff]
  generalize x.num * (y.den : Int) = u at *
  generalize y.num * (x.den : Int) = v at *
  unfold sg at h
  cases ng <;> simp only [Bool.false_eq_true, if_false, if_true] at h ⊢
  all_goals
    split <;> (try split) <;> (try split) <;> omega
theorem rcmp_rat {a b : ByteArray} {x y : Rat} (ha : IsRat a x) (hb : IsRat b y) (w : World) : Calls Tryz.prog 37 #[.string a, .string b] w (ValPost (.int .i64 (cmpQ x y)) w) := by
  have hx := ha.short; have hy := hb.short
  have d1 := dig_mul hx.1 hy.2
  have d2 := dig_mul hy.1 hx.2
  have SM := Lib.hid fun w => rsum_any (sgn x) (x.num.natAbs * y.den) (!sgn y) (y.num.natAbs * x.den) w d1 d2
  have e := cmp_by x y
  have f := (zero_str' (sumR (sgn x) (x.num.natAbs * y.den) (!sgn y) (y.num.natAbs * x.den)).2).1
  by_cases h0 : (sumR (sgn x) (x.num.natAbs * y.den) (!sgn y) (y.num.natAbs * x.den)).2 = 0
  · rw [if_pos h0] at e
    rw [e]
    exact rcmp_zero a b _ _ _ _ _ _ _ _ _ _ w (Lib.hid (partsTo_yes ha)) (Lib.hid (partsTo_yes hb)) (rtm _ _ hx.1 hy.2) (rtm _ _ hy.1 hx.2) SM (by rw [f]; simpa using h0)
  · rw [if_neg h0] at e
    rw [e]
    exact rcmp_part a b _ _ _ _ _ _ _ _ _ _ w (Lib.hid (partsTo_yes ha)) (Lib.hid (partsTo_yes hb)) (rtm _ _ hx.1 hy.2) (rtm _ _ hy.1 hx.2) SM (by rw [f]; simpa using h0)
theorem radd_rat {a b : ByteArray} {x y : Rat} (ha : IsRat a x) (hb : IsRat b y) (w : World) : Calls Tryz.prog 38 #[.string a, .string b] w (ValPost (finV (x + y)) w) := by
  have hx := ha.short; have hy := hb.short
  have d1 := dig_mul hx.1 hy.2
  have d2 := dig_mul hy.1 hx.2
  have d3 := dig_mul hx.2 hy.2
  have d4 := sumR_digits (sgn x) (x.num.natAbs * y.den) (sgn y) (y.num.natAbs * x.den) d1 d2
  have SM := Lib.hid fun w => rsum_any (sgn x) (x.num.natAbs * y.den) (sgn y) (y.num.natAbs * x.den) w d1 d2
  obtain ⟨S, E, e⟩ := finV_form (x + y)
  have MK := rmk (sumR (sgn x) (x.num.natAbs * y.den) (sgn y) (y.num.natAbs * x.den)).1 (sumR (sgn x) (x.num.natAbs * y.den) (sgn y) (y.num.natAbs * x.den)).2 (x.den * y.den) (by omega) (by omega) (den_mul_ne x y) (add_parts x y _ (parts_sum x y)) e
  rw [e]
  exact radd_yes a b _ _ _ _ _ _ _ _ _ _ _ _ _ w (Lib.hid (partsTo_yes ha)) (Lib.hid (partsTo_yes hb)) (rtm _ _ hx.1 hy.2) (rtm _ _ hy.1 hx.2) SM (rtm _ _ hx.2 hy.2) MK
theorem rmul_rat {a b : ByteArray} {x y : Rat} (ha : IsRat a x) (hb : IsRat b y) (w : World) : Calls Tryz.prog 39 #[.string a, .string b] w (ValPost (finV (x * y)) w) := by
  have hx := ha.short; have hy := hb.short
  have d1 := dig_mul hx.1 hy.1
  have d2 := dig_mul hx.2 hy.2
  obtain ⟨S, E, e⟩ := finV_form (x * y)
  have MK := rmk (sgn x != sgn y) (x.num.natAbs * y.num.natAbs) (x.den * y.den) (by omega) (by omega) (den_mul_ne x y) (mul_parts x y) e
  rw [e]
  exact rmul_yes a b _ _ _ _ _ _ _ _ _ _ w (Lib.hid (partsTo_yes ha)) (Lib.hid (partsTo_yes hb)) (rtm _ _ hx.1 hy.1) (rtm _ _ hx.2 hy.2) MK
theorem rdiv_rat {a b : ByteArray} {x y : Rat} (ha : IsRat a x) (hb : IsRat b y) (h : y.num ≠ 0) (w : World) : Calls Tryz.prog 42 #[.string a, .string b] w (ValPost (finV (x / y)) w) := by
  have hx := ha.short; have hy := hb.short
  have d1 := dig_mul hx.1 hy.2
  have d2 := dig_mul hx.2 hy.1
  obtain ⟨S, E, e⟩ := finV_form (x / y)
  have MK := rmk (sgn x != sgn y) (x.num.natAbs * y.den) (x.den * y.num.natAbs) (by omega) (by omega) (Nat.mul_ne_zero x.den_nz (by omega)) (div_parts x y h) e
  rw [e]
  exact rdiv_yes a b _ _ _ _ _ _ _ _ _ _ w (Lib.hid (partsTo_yes ha)) (Lib.hid (partsTo_yes hb)) (by rw [(zero_str' _).1]; simpa using h) (rtm _ _ hx.1 hy.2) (rtm _ _ hx.2 hy.1) MK
theorem rdiv_none {a b : ByteArray} {x y : Rat} (ha : IsRat a x) (hb : IsRat b y) (h : y.num = 0) (w : World) : Calls Tryz.prog 42 #[.string a, .string b] w (ValPost (errV 4) w) :=
  rratdiv_zero a b _ _ _ _ _ _ w (Lib.hid (partsTo_yes ha)) (Lib.hid (partsTo_yes hb)) (by rw [(zero_str' _).1]; simpa using h)
theorem rneg_rat {a : ByteArray} {x : Rat} (ha : IsRat a x) (w : World) : Calls Tryz.prog 64 #[.string a] w (ValPost (.tuple #[.string (ratS (-x)), .int .i64 0]) w) := by
  have hx := ha.short
  have s1 := hx.1; have s2 := hx.2
  have ez : mkRat (sg (!sgn x) x.num.natAbs) x.den = -x := by rw [sg_not, ← sgn_num, ← Rat.neg_mkRat, Rat.mkRat_self]
  exact rneg_yes a _ _ _ _ _ w (Lib.hid (partsTo_yes ha)) (rmk (!sgn x) x.num.natAbs x.den (by omega) (by omega) x.den_nz ez (finV_ok (neg_short hx)))
theorem rneg_not {a : ByteArray} (h : notRat a) (ha : a.size ≤ maxLen) (w : World) : Calls Tryz.prog 64 #[.string a] w (ValPost (errV 1) w) := rneg_no a _ _ _ w (Lib.hid (partsTo_no h ha))
theorem is_neg {a : ByteArray} {x : Rat} (ha : IsRat a x) : IsRat (ratS (-x)) (-x) := ⟨neg_short ha.short, rfl⟩
theorem rsub_rat {a b : ByteArray} {x y : Rat} (ha : IsRat a x) (hb : IsRat b y) (w : World) : Calls Tryz.prog 41 #[.string a, .string b] w (ValPost (finV (x - y)) w) := by
  rw [Rat.sub_eq_add_neg]
  obtain ⟨S, E, e⟩ := finV_form (x + -y)
  have AD := fun w => radd_rat ha (is_neg hb) w
  rw [e] at AD ⊢
  exact rsub_yes a b _ _ _ w (Lib.hid fun w => rneg_rat hb w) (Lib.hid fun w => rvalid_yes ha w) (Lib.hid AD)
theorem rsub_not {a b : ByteArray} (ha : a.size ≤ maxLen) (hb : b.size ≤ maxLen) (h : notRat a ∨ notRat b) (w : World) : Calls Tryz.prog 41 #[.string a, .string b] w (ValPost (errV 1) w) := by
  rcases rat_or b with ⟨y, hy⟩ | hn
  · have na : notRat a := by
      rcases h with h | h
      · exact h
      · exact absurd hy (h y)
    exact rsub_no2 a b _ w (Lib.hid fun w => rneg_rat hy w) (Lib.hid fun w => rvalid_no na ha w)
  · exact rsub_no1 a b _ _ w (by decide) (by decide) (Lib.hid fun w => rneg_not hn hb w)
end Go.Proofs.YtkekljjjomnalaaGreatDoor
