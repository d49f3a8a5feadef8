/- What the operations of the kinds return. -/
import Derived.Test.YtkekljjjomnalaaGreatDoorSp
set_option linter.unusedVariables false
set_option linter.unusedSimpArgs false
namespace Go.Proofs.YtkekljjjomnalaaGreatDoor
open Go.RowKit
open Go.Lib (nDigits decDigits)

def OpIs (F : Nat) (a b : ByteArray) (V : Value) : Prop := ∀ w, Calls Tryz.prog F #[.string a, .string b] w (ValPost V w)
def Op1Is (F : Nat) (a : ByteArray) (V : Value) : Prop := ∀ w, Calls Tryz.prog F #[.string a] w (ValPost V w)
def okV (a : ByteArray) : Value := .tuple #[.string a, .int .i64 0]
set_option maxRecDepth 100000 in
theorem lesser_walk (a b : ByteArray) (c : Int) (k : Bool) (w : World) (C : Hid (CompareIs b a c)) (hk : decide (c < 0) = k) :
    Calls Tryz.prog 46 #[.string a, .string b] w (ValPost (okV (if k then b else a)) w) := by
  cases k
  all_goals
    have hk2 := hk
    simp only [decide_eq_true_eq, decide_eq_false_iff_not] at hk2
    go_enter Tryz.func46, Tryz.ntmps46
    go_wp2_with fail
    refine (C.out _).mono ?_
    rintro e w1 ⟨rfl, hg⟩
    have G1 := Lib.hid hg
    clear hg
    go_wp2
    go_ret2
    exact ⟨rfl, G1.out⟩
set_option maxRecDepth 100000 in
theorem greater_walk (a b : ByteArray) (c : Int) (k : Bool) (w : World) (C : Hid (CompareIs b a c)) (hk : decide (0 < c) = k) :
    Calls Tryz.prog 58 #[.string a, .string b] w (ValPost (okV (if k then b else a)) w) := by
  cases k
  all_goals
    have hk2 := hk
    simp only [decide_eq_true_eq, decide_eq_false_iff_not] at hk2
    go_enter Tryz.func58, Tryz.ntmps58
    go_wp2_with fail
    refine (C.out _).mono ?_
    rintro e w1 ⟨rfl, hg⟩
    have G1 := Lib.hid hg
    clear hg
    go_wp2
    go_ret2
    exact ⟨rfl, G1.out⟩
theorem lesser_val {a b : ByteArray} {u v : Ext} (ha : IsE a u) (hb : IsE b v) : OpIs 46 a b (extV (lessE u v)) := fun w => by
  have k := lesser_walk a b _ _ w (Lib.hid (compare_val hb ha)) rfl
  unfold lessE
  by_cases h : cmpE v u < 0
  · rw [if_pos h, extV_is hb]
    rw [decide_eq_true h] at k
    exact k
  · rw [if_neg h, extV_is ha]
    rw [decide_eq_false h] at k
    exact k
theorem greater_val {a b : ByteArray} {u v : Ext} (ha : IsE a u) (hb : IsE b v) : OpIs 58 a b (extV (moreE u v)) := fun w => by
  have k := greater_walk a b _ _ w (Lib.hid (compare_val hb ha)) rfl
  unfold moreE
  by_cases h : 0 < cmpE v u
  · rw [if_pos h, extV_is hb]
    rw [decide_eq_true h] at k
    exact k
  · rw [if_neg h, extV_is ha]
    rw [decide_eq_false h] at k
    exact k
theorem costs_inf (a b : ByteArray) (i j : Bool) (w : World) (p0 : (a.toList == [105, 110, 102]) = i) (q0 : (b.toList == [105, 110, 102]) = j) (h : (i || j) = true) :
    Calls Tryz.prog 47 #[.string a, .string b] w (ValPost (okV infS) w) := by
  cases i <;> cases j <;> simp only [Bool.or_self, Bool.or_true, Bool.true_or, Bool.false_eq_true] at h
  all_goals
    go_enter Tryz.func47, Tryz.ntmps47
    go_wp2
    go_ret2
    exact ⟨rfl, grown_refl _ _⟩
theorem costs_low (a b : ByteArray) (i j : Bool) (w : World) (p0 : (a.toList == [105, 110, 102]) = false) (q0 : (b.toList == [105, 110, 102]) = false) (p1 : (a.toList == [45, 105, 110, 102]) = i) (q1 : (b.toList == [45, 105, 110, 102]) = j) (h : (i || j) = true) :
    Calls Tryz.prog 47 #[.string a, .string b] w (ValPost (okV lowS) w) := by
  cases i <;> cases j <;> simp only [Bool.or_self, Bool.or_true, Bool.true_or, Bool.false_eq_true] at h
  all_goals
    go_enter Tryz.func47, Tryz.ntmps47
    go_wp2
    go_ret2
    exact ⟨rfl, grown_refl _ _⟩
set_option maxRecDepth 100000 in
theorem costs_add (a b S : ByteArray) (E : Int) (w : World) (p0 : (a.toList == [105, 110, 102]) = false) (q0 : (b.toList == [105, 110, 102]) = false) (p1 : (a.toList == [45, 105, 110, 102]) = false) (q1 : (b.toList == [45, 105, 110, 102]) = false) (C : Hid (OpIs 67 a b (.tuple #[.string S, .int .i64 E]))) :
    Calls Tryz.prog 47 #[.string a, .string b] w (ValPost (.tuple #[.string S, .int .i64 E]) w) := by
  go_enter Tryz.func47, Tryz.ntmps47
  go_wp2_with fail
  refine (C.out _).mono ?_
  rintro e w1 ⟨rfl, hg⟩
  have G1 := Lib.hid hg
  clear hg
  go_wp2
  go_ret2
  exact ⟨rfl, G1.out⟩
theorem sum_inf (a b : ByteArray) (i j : Bool) (w : World) (p0 : (a.toList == [105, 110, 102]) = i) (q0 : (b.toList == [105, 110, 102]) = j) (h : (i || j) = true) :
    Calls Tryz.prog 53 #[.string a, .string b] w (ValPost (okV infS) w) := by
  cases i <;> cases j <;> simp only [Bool.or_self, Bool.or_true, Bool.true_or, Bool.false_eq_true] at h
  all_goals
    go_enter Tryz.func53, Tryz.ntmps53
    go_wp2
    go_ret2
    exact ⟨rfl, grown_refl _ _⟩
set_option maxRecDepth 100000 in
theorem sum_add (a b S : ByteArray) (E : Int) (w : World) (p0 : (a.toList == [105, 110, 102]) = false) (q0 : (b.toList == [105, 110, 102]) = false) (C : Hid (OpIs 67 a b (.tuple #[.string S, .int .i64 E]))) :
    Calls Tryz.prog 53 #[.string a, .string b] w (ValPost (.tuple #[.string S, .int .i64 E]) w) := by
  go_enter Tryz.func53, Tryz.ntmps53
  go_wp2_with fail
  refine (C.out _).mono ?_
  rintro e w1 ⟨rfl, hg⟩
  have G1 := Lib.hid hg
  clear hg
  go_wp2
  go_ret2
  exact ⟨rfl, G1.out⟩
theorem prod_zero (a b : ByteArray) (i j : Bool) (w : World) (p0 : (a.toList == [48]) = i) (q0 : (b.toList == [48]) = j) (h : (i || j) = true) :
    Calls Tryz.prog 54 #[.string a, .string b] w (ValPost (okV zeroS) w) := by
  cases i <;> cases j <;> simp only [Bool.or_self, Bool.or_true, Bool.true_or, Bool.false_eq_true] at h
  all_goals
    go_enter Tryz.func54, Tryz.ntmps54
    go_wp2
    go_ret2
    exact ⟨rfl, grown_refl _ _⟩
theorem prod_inf (a b : ByteArray) (i j : Bool) (w : World) (p0 : (a.toList == [48]) = false) (q0 : (b.toList == [48]) = false) (p1 : (a.toList == [105, 110, 102]) = i) (q1 : (b.toList == [105, 110, 102]) = j) (h : (i || j) = true) :
    Calls Tryz.prog 54 #[.string a, .string b] w (ValPost (okV infS) w) := by
  cases i <;> cases j <;> simp only [Bool.or_self, Bool.or_true, Bool.true_or, Bool.false_eq_true] at h
  all_goals
    go_enter Tryz.func54, Tryz.ntmps54
    go_wp2
    go_ret2
    exact ⟨rfl, grown_refl _ _⟩
set_option maxRecDepth 100000 in
theorem prod_mul (a b S : ByteArray) (E : Int) (w : World) (p0 : (a.toList == [48]) = false) (q0 : (b.toList == [48]) = false) (p1 : (a.toList == [105, 110, 102]) = false) (q1 : (b.toList == [105, 110, 102]) = false) (C : Hid (OpIs 72 a b (.tuple #[.string S, .int .i64 E]))) :
    Calls Tryz.prog 54 #[.string a, .string b] w (ValPost (.tuple #[.string S, .int .i64 E]) w) := by
  go_enter Tryz.func54, Tryz.ntmps54
  go_wp2_with fail
  refine (C.out _).mono ?_
  rintro e w1 ⟨rfl, hg⟩
  have G1 := Lib.hid hg
  clear hg
  go_wp2
  go_ret2
  exact ⟨rfl, G1.out⟩
theorem diff_inf (a b : ByteArray) (w : World) (p0 : (a.toList == [105, 110, 102]) = true) :
    Calls Tryz.prog 49 #[.string a, .string b] w (ValPost (okV infS) w) := by
  go_enter Tryz.func49, Tryz.ntmps49
  go_wp2
  go_ret2
  exact ⟨rfl, grown_refl _ _⟩
set_option maxRecDepth 100000 in
theorem diff_sub (a b S : ByteArray) (E : Int) (w : World) (p0 : (a.toList == [105, 110, 102]) = false) (C : Hid (OpIs 68 a b (.tuple #[.string S, .int .i64 E]))) :
    Calls Tryz.prog 49 #[.string a, .string b] w (ValPost (.tuple #[.string S, .int .i64 E]) w) := by
  go_enter Tryz.func49, Tryz.ntmps49
  go_wp2_with fail
  refine (C.out _).mono ?_
  rintro e w1 ⟨rfl, hg⟩
  have G1 := Lib.hid hg
  clear hg
  go_wp2
  go_ret2
  exact ⟨rfl, G1.out⟩
set_option maxRecDepth 100000 in
theorem starOfCost_walk (a : ByteArray) (c : Int) (k : Bool) (w : World) (C : Hid (CompareIs a ⟨#[48]⟩ c)) (hk : decide (c < 0) = k) :
    Calls Tryz.prog 48 #[.string a] w (ValPost (okV (if k then lowS else zeroS)) w) := by
  cases k
  all_goals
    have hk2 := hk
    simp only [decide_eq_true_eq, decide_eq_false_iff_not] at hk2
    go_enter Tryz.func48, Tryz.ntmps48
    go_wp2_with fail
    refine (C.out _).mono ?_
    rintro e w1 ⟨rfl, hg⟩
    have G1 := Lib.hid hg
    clear hg
    go_wp2
    go_ret2
    exact ⟨rfl, G1.out⟩
set_option maxRecDepth 100000 in
theorem starOfScore_walk (a : ByteArray) (c : Int) (k : Bool) (w : World) (C : Hid (CompareIs a ⟨#[49]⟩ c)) (hk : decide (0 < c) = k) :
    Calls Tryz.prog 59 #[.string a] w (ValPost (okV (if k then infS else oneS)) w) := by
  cases k
  all_goals
    have hk2 := hk
    simp only [decide_eq_true_eq, decide_eq_false_iff_not] at hk2
    go_enter Tryz.func59, Tryz.ntmps59
    go_wp2_with fail
    refine (C.out _).mono ?_
    rintro e w1 ⟨rfl, hg⟩
    have G1 := Lib.hid hg
    clear hg
    go_wp2
    go_ret2
    exact ⟨rfl, G1.out⟩
set_option maxRecDepth 100000 in
theorem starProb_inf (a : ByteArray) (c : Int) (w : World) (C : Hid (CompareIs a ⟨#[49]⟩ c)) (hk : 0 ≤ c) :
    Calls Tryz.prog 55 #[.string a] w (ValPost (okV infS) w) := by
  go_enter Tryz.func55, Tryz.ntmps55
  go_wp2_with fail
  refine (C.out _).mono ?_
  rintro e w1 ⟨rfl, hg⟩
  have G1 := Lib.hid hg
  clear hg
  go_wp2
  go_ret2
  exact ⟨rfl, G1.out⟩
set_option maxRecDepth 100000 in
theorem starProb_div (a R S : ByteArray) (c K E : Int) (w : World) (C : Hid (CompareIs a ⟨#[49]⟩ c)) (hk : ¬ 0 ≤ c) (D : Hid (OpIs 68 ⟨#[49]⟩ a (.tuple #[.string R, .int .i64 K])))
    (V : Hid (OpIs 56 ⟨#[49]⟩ R (.tuple #[.string S, .int .i64 E]))) :
    Calls Tryz.prog 55 #[.string a] w (ValPost (.tuple #[.string S, .int .i64 E]) w) := by
  go_enter Tryz.func55, Tryz.ntmps55
  go_wp2_with fail
  refine (C.out _).mono ?_
  rintro e w1 ⟨rfl, hg⟩
  have G1 := Lib.hid hg
  clear hg
  go_wp2_with fail
  refine (D.out _).mono ?_
  rintro e w2 ⟨rfl, hg⟩
  have G2 := Lib.hid (grown_trans G1.out hg)
  clear hg G1
  go_wp2_with fail
  refine (V.out _).mono ?_
  rintro e w3 ⟨rfl, hg⟩
  have G3 := Lib.hid (grown_trans G2.out hg)
  clear hg G2
  go_wp2
  go_ret2
  exact ⟨rfl, G3.out⟩
end Go.Proofs.YtkekljjjomnalaaGreatDoor
