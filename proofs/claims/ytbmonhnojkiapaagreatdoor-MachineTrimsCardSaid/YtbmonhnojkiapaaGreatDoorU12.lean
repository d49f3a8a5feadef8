/- The reference's Make, Valid, times, sum, Cmp, Neg, Add, Sub, Mul, Div. · The reference's functions on rational numbers, by contract. -/
import Derived.Test.YtbmonhnojkiapaaGreatDoorU11
set_option linter.unusedVariables false
set_option linter.unusedSimpArgs false
namespace Go.Proofs.YtbmonhnojkiapaaGreatDoor
open Go.RowKit
open Go.Lib (nDigits decDigits)

/-! ### times, sum -/
theorem rtimes_any (m n : Nat) (w : World) (hm : nDigits m ≤ 400) (hn : nDigits n ≤ 400) :
    Calls Tryz.prog 120 #[.string (decS m), .string (decS n)] w (ValPost (.string (decS (m * n))) w) := by
  have d := dig_mul hm hn
  refine rtimes_walk _ _ _ w (Lib.hid fun w => ?_)
  have := rmul_any (decS m) (decS n) w (big_len m (by omega)) (big_len n (by omega))
  rw [mulV_dec m n (by omega) (by omega) (by omega)] at this
  exact this
set_option maxRecDepth 100000 in
set_option maxHeartbeats 1000000 in
theorem rsum_same (p q : Bool) (A B C : ByteArray) (w : World) (h : (p == q) = true) (AD : Hid (∀ w, Calls Tryz.prog 147 #[.string A, .string B] w (ValPost (.tuple #[.string C, .int .i64 0]) w))) :
    Calls Tryz.prog 119 #[.bool p, .string A, .bool q, .string B] w (ValPost (.tuple #[.bool p, .string C]) w) := by
  go_enter Tryz.func119, Tryz.ntmps119
  go_wp2_with fail
  refine (AD.out _).mono ?_
  rintro e w1 ⟨rfl, hg⟩
  have G1 := Lib.hid hg
  clear hg
  go_wp2
  go_ret2
  exact ⟨rfl, G1.out⟩
set_option maxRecDepth 100000 in
set_option maxHeartbeats 1000000 in
theorem rsum_more (p q : Bool) (A B C : ByteArray) (c : Int) (w : World) (h : (p == q) = false) (hc : 0 ≤ c) (CM : Hid (∀ w, Calls Tryz.prog 148 #[.string A, .string B] w (CmpPost c w))) (SU : Hid (∀ w, Calls Tryz.prog 149 #[.string A, .string B] w (ValPost (.tuple #[.string C, .int .i64 0]) w))) :
    Calls Tryz.prog 119 #[.bool p, .string A, .bool q, .string B] w (ValPost (.tuple #[.bool p, .string C]) w) := by
  go_enter Tryz.func119, Tryz.ntmps119
  go_wp2_with fail
  refine (CM.out _).mono ?_
  rintro e w1 ⟨rfl, hg⟩
  have G1 := Lib.hid hg
  clear hg
  go_wp2_with fail
  refine (SU.out _).mono ?_
  rintro e w2 ⟨rfl, hg⟩
  have G2 := Lib.hid (grown_trans G1.out hg)
  clear hg G1
  go_wp2
  go_ret2
  exact ⟨rfl, G2.out⟩
set_option maxRecDepth 100000 in
set_option maxHeartbeats 1000000 in
theorem rsum_less (p q : Bool) (A B C : ByteArray) (c : Int) (w : World) (h : (p == q) = false) (hc : ¬ 0 ≤ c) (CM : Hid (∀ w, Calls Tryz.prog 148 #[.string A, .string B] w (CmpPost c w))) (SU : Hid (∀ w, Calls Tryz.prog 149 #[.string B, .string A] w (ValPost (.tuple #[.string C, .int .i64 0]) w))) :
    Calls Tryz.prog 119 #[.bool p, .string A, .bool q, .string B] w (ValPost (.tuple #[.bool q, .string C]) w) := by
  go_enter Tryz.func119, Tryz.ntmps119
  go_wp2_with fail
  refine (CM.out _).mono ?_
  rintro e w1 ⟨rfl, hg⟩
  have G1 := Lib.hid hg
  clear hg
  go_wp2_with fail
  refine (SU.out _).mono ?_
  rintro e w2 ⟨rfl, hg⟩
  have G2 := Lib.hid (grown_trans G1.out hg)
  clear hg G1
  go_wp2
  go_ret2
  exact ⟨rfl, G2.out⟩
def sumR (p : Bool) (m : Nat) (q : Bool) (n : Nat) : Bool × Nat := if p == q then (p, m + n) else if m < n then (q, n - m) else (p, m - n)
theorem sumR_sg (p : Bool) (m : Nat) (q : Bool) (n : Nat) : sg (sumR p m q n).1 (sumR p m q n).2 = sg p m + sg q n := by
  unfold sumR
  by_cases h : p = q
  · subst h; simp only [BEq.rfl, if_true]; exact sg_same p m n
  · rw [if_neg (by simpa using h)]
    split
    · rename_i hl; exact sg_less p q m n h hl
    · rename_i hl; exact sg_more p q m n h hl
theorem rsum_any (p : Bool) (m : Nat) (q : Bool) (n : Nat) (w : World) (hm : nDigits m ≤ 800) (hn : nDigits n ≤ 800) :
    Calls Tryz.prog 119 #[.bool p, .string (decS m), .bool q, .string (decS n)] w (ValPost (.tuple #[.bool (sumR p m q n).1, .string (decS (sumR p m q n).2)]) w) := by
  unfold sumR
  cases h : (p == q)
  · simp only [Bool.false_eq_true, if_false]
    have cm := fun w => rcmp_any (decS m) (decS n) w (big_len m (by omega)) (big_len n (by omega))
    rw [cmp_dec m n (by omega) (by omega)] at cm
    by_cases hl : m < n
    · rw [if_pos hl]
      have su := fun w => rsub_any (decS n) (decS m) w (big_len n (by omega)) (big_len m (by omega))
      rw [sub_dec n m (by omega) (by omega) (by omega)] at su
      exact rsum_less p q _ _ _ _ w h (by have := (cmpN_lt m n).2 hl; omega) (Lib.hid cm) (Lib.hid su)
    · rw [if_neg hl]
      have su := fun w => rsub_any (decS m) (decS n) w (big_len m (by omega)) (big_len n (by omega))
      rw [sub_dec m n (by omega) (by omega) (by omega)] at su
      exact rsum_more p q _ _ _ _ w h (by have := (cmpN_lt m n); omega) (Lib.hid cm) (Lib.hid su)
  · simp only [if_true]
    have d := nDigits_add m n 800 hm hn
    have ad := fun w => radd_any (decS m) (decS n) w (big_len m (by omega)) (big_len n (by omega))
    rw [addV_lit _ _ (decS (m + n)) (num_short _ (by omega)) (num_short _ (by omega)) (num_short _ (by omega)) (by rw [nv_dec, nv_dec, nv_dec])] at ad
    exact rsum_same p q _ _ _ w h (Lib.hid ad)

/-! ### The exported functions -/
def PartsTo (a : ByteArray) (p : Bool) (A B : ByteArray) (k : Bool) : Prop := ∀ w, Calls Tryz.prog 118 #[.string a] w (ValPost (.tuple #[.bool p, .string A, .string B, .bool k]) w)
set_option maxRecDepth 100000 in
set_option maxHeartbeats 1000000 in
theorem rratvalid (a : ByteArray) (p : Bool) (A B : ByteArray) (k : Bool) (w : World) (R : Hid (PartsTo a p A B k)) :
    Calls Tryz.prog 85 #[.string a] w (ValPost (.bool k) w) := by
  go_enter Tryz.func85, Tryz.ntmps85
  go_wp2_with fail
  refine (R.out _).mono ?_
  rintro e w1 ⟨rfl, hg⟩
  have G1 := Lib.hid hg
  clear hg
  go_wp2
  go_ret
  exact ⟨rfl, G1.out⟩
set_option maxRecDepth 100000 in
set_option maxHeartbeats 1000000 in
theorem rcmp_zero (a b : ByteArray) (p q : Bool) (A B C D : ByteArray) (X Y c : ByteArray) (ng : Bool) (w : World) (R1 : Hid (PartsTo a p A B true)) (R2 : Hid (PartsTo b q C D true)) (T1 : Hid (∀ w, Calls Tryz.prog 120 #[.string A, .string D] w (ValPost (.string X) w))) (T2 : Hid (∀ w, Calls Tryz.prog 120 #[.string C, .string B] w (ValPost (.string Y) w))) (SM : Hid (∀ w, Calls Tryz.prog 119 #[.bool p, .string X, .bool (!q), .string Y] w (ValPost (.tuple #[.bool ng, .string c]) w))) (f : (c.toList == [48]) = true) :
    Calls Tryz.prog 86 #[.string a, .string b] w (ValPost (.int .i64 0) w) := by
  go_enter Tryz.func86, Tryz.ntmps86
  go_wp2_with fail
  refine (R1.out _).mono ?_
  rintro e w1 ⟨rfl, hg⟩
  have G1 := Lib.hid hg
  clear hg
  go_wp2_with fail
  refine (R2.out _).mono ?_
  rintro e w2 ⟨rfl, hg⟩
  have G2 := Lib.hid (grown_trans G1.out hg)
  clear hg G1
  go_wp2_with fail
  refine (T1.out _).mono ?_
  rintro e w3 ⟨rfl, hg⟩
  have G3 := Lib.hid (grown_trans G2.out hg)
  clear hg G2
  go_wp2_with fail
  refine (T2.out _).mono ?_
  rintro e w4 ⟨rfl, hg⟩
  have G4 := Lib.hid (grown_trans G3.out hg)
  clear hg G3
  go_wp2_with fail
  refine (SM.out _).mono ?_
  rintro e w5 ⟨rfl, hg⟩
  have G5 := Lib.hid (grown_trans G4.out hg)
  clear hg G4
  go_wp2
  go_ret
  exact ⟨rfl, G5.out⟩
set_option maxRecDepth 100000 in
set_option maxHeartbeats 1000000 in
theorem rcmp_part (a b : ByteArray) (p q : Bool) (A B C D : ByteArray) (X Y c : ByteArray) (ng : Bool) (w : World) (R1 : Hid (PartsTo a p A B true)) (R2 : Hid (PartsTo b q C D true)) (T1 : Hid (∀ w, Calls Tryz.prog 120 #[.string A, .string D] w (ValPost (.string X) w))) (T2 : Hid (∀ w, Calls Tryz.prog 120 #[.string C, .string B] w (ValPost (.string Y) w))) (SM : Hid (∀ w, Calls Tryz.prog 119 #[.bool p, .string X, .bool (!q), .string Y] w (ValPost (.tuple #[.bool ng, .string c]) w))) (f : (c.toList == [48]) = false) :
    Calls Tryz.prog 86 #[.string a, .string b] w (ValPost (.int .i64 (if ng then -1 else 1)) w) := by
  cases ng
  all_goals
    go_enter Tryz.func86, Tryz.ntmps86
    go_wp2_with fail
    refine (R1.out _).mono ?_
    rintro e w1 ⟨rfl, hg⟩
    have G1 := Lib.hid hg
    clear hg
    go_wp2_with fail
    refine (R2.out _).mono ?_
    rintro e w2 ⟨rfl, hg⟩
    have G2 := Lib.hid (grown_trans G1.out hg)
    clear hg G1
    go_wp2_with fail
    refine (T1.out _).mono ?_
    rintro e w3 ⟨rfl, hg⟩
    have G3 := Lib.hid (grown_trans G2.out hg)
    clear hg G2
    go_wp2_with fail
    refine (T2.out _).mono ?_
    rintro e w4 ⟨rfl, hg⟩
    have G4 := Lib.hid (grown_trans G3.out hg)
    clear hg G3
    go_wp2_with fail
    refine (SM.out _).mono ?_
    rintro e w5 ⟨rfl, hg⟩
    have G5 := Lib.hid (grown_trans G4.out hg)
    clear hg G4
    go_wp2
    go_ret
    exact ⟨rfl, G5.out⟩
end Go.Proofs.YtbmonhnojkiapaaGreatDoor
set_option linter.unusedVariables false
set_option linter.unusedSimpArgs false
namespace Go.Proofs.YtbmonhnojkiapaaGreatDoor
open Go.RowKit
open Go.Lib (nDigits decDigits)

theorem partsTo_yes {a : ByteArray} {x : Rat} (h : IsRat a x) : PartsTo a (sgn x) (decS x.num.natAbs) (decS x.den) true := fun w => rparts_yes h w
theorem partsTo_no {a : ByteArray} (h : notRat a) (ha : a.size ≤ maxLen) : PartsTo a false ⟨#[]⟩ ⟨#[]⟩ false := fun w => rparts_no h ha w
theorem rvalid_yes {a : ByteArray} {x : Rat} (h : IsRat a x) (w : World) : Calls Tryz.prog 85 #[.string a] w (ValPost (.bool true) w) := rratvalid a _ _ _ _ w (Lib.hid (partsTo_yes h))
theorem rvalid_no {a : ByteArray} (h : notRat a) (ha : a.size ≤ maxLen) (w : World) : Calls Tryz.prog 85 #[.string a] w (ValPost (.bool false) w) := rratvalid a _ _ _ _ w (Lib.hid (partsTo_no h ha))
theorem rtm (m n : Nat) (hm : nDigits m ≤ 400) (hn : nDigits n ≤ 400) : Hid (∀ w, Calls Tryz.prog 120 #[.string (decS m), .string (decS n)] w (ValPost (.string (decS (m * n))) w)) := Lib.hid fun w => rtimes_any m n w hm hn
theorem sg_not (q : Bool) (n : Nat) : sg (!q) n = - sg q n := by cases q <;> simp [sg]
theorem cmp_by (x y : Rat) : cmpQ x y = if (sumR (sgn x) (x.num.natAbs * y.den) (!sgn y) (y.num.natAbs * x.den)).2 = 0 then 0 else if (sumR (sgn x) (x.num.natAbs * y.den) (!sgn y) (y.num.natAbs * x.den)).1 then -1 else 1 := by
  have h := sumR_sg (sgn x) (x.num.natAbs * y.den) (!sgn y) (y.num.natAbs * x.den)
  rw [sg_not, sg_mulN, sg_mulN, ← sgn_num, ← sgn_num] at h
  generalize sumR (sgn x) (x.num.natAbs * y.den) (!sgn y) (y.num.natAbs * x.den) = r at *
  obtain ⟨ng, c⟩ := r
  simp only at h ⊢
  unfold cmpQ
  simp only [Rat.lt_iff]
  generalize x.num * (y.den : Int) = u at *
  generalize y.num * (x.den : Int) = v at *
  unfold sg at h
  cases ng <;> simp only [Bool.false_eq_true, if_false, if_true] at h ⊢
  all_goals
    split <;> (try split) <;> (try split) <;> omega
theorem rcmp_rat {a b : ByteArray} {x y : Rat} (ha : IsRat a x) (hb : IsRat b y) (w : World) : Calls Tryz.prog 86 #[.string a, .string b] w (ValPost (.int .i64 (cmpQ x y)) w) := by
  have hx := ha.short; have hy := hb.short
  have d1 := dig_mul hx.1 hy.2
  have d2 := dig_mul hy.1 hx.2
  have SM := Lib.hid fun w => rsum_any (sgn x) (x.num.natAbs * y.den) (!sgn y) (y.num.natAbs * x.den) w d1 d2
  have e := cmp_by x y
  have f := (zero_str' (sumR (sgn x) (x.num.natAbs * y.den) (!sgn y) (y.num.natAbs * x.den)).2).1
  by_cases h0 : (sumR (sgn x) (x.num.natAbs * y.den) (!sgn y) (y.num.natAbs * x.den)).2 = 0
  · rw [if_pos h0] at e
    rw [e]
    exact rcmp_zero a b _ _ _ _ _ _ _ _ _ _ w (Lib.hid (partsTo_yes ha)) (Lib.hid (partsTo_yes hb)) (rtm _ _ hx.1 hy.2) (rtm _ _ hy.1 hx.2) SM (by rw [f]; simpa using h0)
  · rw [if_neg h0] at e
    rw [e]
    exact rcmp_part a b _ _ _ _ _ _ _ _ _ _ w (Lib.hid (partsTo_yes ha)) (Lib.hid (partsTo_yes hb)) (rtm _ _ hx.1 hy.2) (rtm _ _ hy.1 hx.2) SM (by rw [f]; simpa using h0)
end Go.Proofs.YtbmonhnojkiapaaGreatDoor
