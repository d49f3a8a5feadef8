/- What the kinds' functions return: size, compare, compareDown; extended, notNegative, positive, none. -/
import Derived.Test.YtkekljjjomnalaaGreatDoorQj
import Derived.Test.YtkekljjjomnalaaGreatDoorPs
set_option linter.unusedVariables false
set_option linter.unusedSimpArgs false
namespace Go.Proofs.YtkekljjjomnalaaGreatDoor
open Go.RowKit
open Go.Lib (nDigits decDigits)

/-! ### Tests of texts -/
def isLow : Ext → Bool
  | .inl false => true
  | _ => false
def isTop : Ext → Bool
  | .inl true => true
  | _ => false
def isNil : Ext → Bool
  | .inr x => decide (x = 0)
  | _ => false
theorem txt_is {a c : ByteArray} {u v : Ext} (h : IsE a u) (k : IsE c v) : decide (a = c) = decide (u = v) := by
  apply decide_eq_decide.2
  exact ⟨fun e => by subst e; exact h.uniq k, fun e => by subst e; exact h.same k⟩
theorem low_list : lowS.toList = [45, 105, 110, 102] := by decide +kernel
theorem inf_list : infS.toList = [105, 110, 102] := by decide +kernel
theorem zero_list : zeroS.toList = [48] := by decide +kernel
theorem txt_low {a : ByteArray} {v : Ext} (h : IsE a v) : (a.toList == [45, 105, 110, 102]) = isLow v := by
  rw [← low_list, bytes_ne, txt_is h lowE]
  rcases v with (_ | _) | x
  · rfl
  · exact decide_eq_false (fun e => by cases e)
  · exact decide_eq_false (fun e => by cases e)
theorem txt_top {a : ByteArray} {v : Ext} (h : IsE a v) : (a.toList == [105, 110, 102]) = isTop v := by
  rw [← inf_list, bytes_ne, txt_is h topE]
  rcases v with (_ | _) | x
  · exact decide_eq_false (fun e => by cases e)
  · rfl
  · exact decide_eq_false (fun e => by cases e)
theorem txt_zero {a : ByteArray} {v : Ext} (h : IsE a v) : (a.toList == [48]) = isNil v := by
  rw [← zero_list, bytes_ne, txt_is h zeroE]
  rcases v with (_ | _) | x
  · exact decide_eq_false (fun e => by cases e)
  · exact decide_eq_false (fun e => by cases e)
  · exact decide_eq_decide.2 ⟨fun e => Sum.inr.inj e, fun e => by rw [e]⟩

/-! ### size -/
theorem size_walk (a : ByteArray) (b1 b2 : Bool) (f1 : (a.toList == [45, 105, 110, 102]) = b1) (f2 : (a.toList == [105, 110, 102]) = b2) (w : World) :
    Calls Tryz.prog 65 #[.string a] w fun e w' => e = .returned (.int .i64 (if b1 then -1 else if b2 then 1 else 0)) ∧ w = w' := by
  cases b1 <;> cases b2
  all_goals
    go_enter Tryz.func65, Tryz.ntmps65
    go_wp2
    go_ret
    exact ⟨rfl, rfl⟩
def SizeIs (a : ByteArray) (s : Int) : Prop := ∀ w, Calls Tryz.prog 65 #[.string a] w fun e w' => e = .returned (.int .i64 s) ∧ w = w'
theorem size_val {a : ByteArray} {v : Ext} (h : IsE a v) : SizeIs a (sizeE v) := fun w => by
  have k := size_walk a _ _ (txt_low h) (txt_top h) w
  rcases v with (_ | _) | x <;> exact k
/-- The size of any text: that of a number, where it is not inf and not -inf. -/
theorem size_no {a : ByteArray} (h1 : a ≠ lowS) (h2 : a ≠ infS) : SizeIs a 0 := fun w => by
  have k := size_walk a false false (by rw [← low_list, bytes_ne]; exact decide_eq_false h1) (by rw [← inf_list, bytes_ne]; exact decide_eq_false h2) w
  exact k

/-! ### compare -/
def CmpCall (a b : ByteArray) (c : Int) : Prop := ∀ w, Calls Tryz.prog 70 #[.string a, .string b] w (ValPost (.int .i64 c) w)
set_option maxRecDepth 100000 in
theorem compare_size (a b : ByteArray) (s t c : Int) (w : World) (SA : Hid (SizeIs a s)) (SB : Hid (SizeIs b t)) (hc : Hid (Lib.compareInt s t = c)) (f1 : (c == 0) = false) (f2 : (c != 0) = true) :
    Calls Tryz.prog 50 #[.string a, .string b] w (ValPost (.int .i64 c) w) := by
  go_enter Tryz.func50, Tryz.ntmps50
  go_wp2_with fail
  refine (SA.out _).mono ?_
  rintro e w' ⟨rfl, rfl⟩
  go_wp2_with fail
  refine (SB.out _).mono ?_
  rintro e w' ⟨rfl, rfl⟩
  go_wp2_with fail
  refine (Tryz.cmp_Compare_int s t _).mono ?_
  rintro e w' ⟨rfl, rfl⟩
  rw [hc.out]
  go_wp2
  go_ret
  exact ⟨rfl, grown_refl _ _⟩
set_option maxRecDepth 100000 in
theorem compare_cmp (a b : ByteArray) (s t c : Int) (w : World) (SA : Hid (SizeIs a s)) (SB : Hid (SizeIs b t)) (hc : Hid (Lib.compareInt s t = 0)) (C : Hid (CmpCall a b c)) :
    Calls Tryz.prog 50 #[.string a, .string b] w (ValPost (.int .i64 c) w) := by
  go_enter Tryz.func50, Tryz.ntmps50
  go_wp2_with fail
  refine (SA.out _).mono ?_
  rintro e w' ⟨rfl, rfl⟩
  go_wp2_with fail
  refine (SB.out _).mono ?_
  rintro e w' ⟨rfl, rfl⟩
  go_wp2_with fail
  refine (Tryz.cmp_Compare_int s t _).mono ?_
  rintro e w' ⟨rfl, rfl⟩
  rw [hc.out]
  go_wp2_with fail
  refine (C.out _).mono ?_
  rintro e w1 ⟨rfl, hg⟩
  have G1 := Lib.hid hg
  clear hg
  go_wp2
  go_ret
  exact ⟨rfl, G1.out⟩
def CompareIs (a b : ByteArray) (c : Int) : Prop := ∀ w, Calls Tryz.prog 50 #[.string a, .string b] w (ValPost (.int .i64 c) w)
theorem notrat_inf : notRat infS := not_inf
theorem notrat_low : notRat lowS := not_low
theorem inf_len : infS.size ≤ maxLen := by decide
theorem low_len : lowS.size ≤ maxLen := by decide
theorem compare_val {a b : ByteArray} {u v : Ext} (ha : IsE a u) (hb : IsE b v) : CompareIs a b (cmpE u v) := fun w => by
  have sa := Lib.hid (size_val ha); have sb := Lib.hid (size_val hb)
  rcases u with (_ | _) | x <;> rcases v with (_ | _) | y
  · cases ha; cases hb
    exact compare_cmp _ _ _ _ _ w sa sb (Lib.hid (show Lib.compareInt (-1) (-1) = 0 by decide +kernel)) (Lib.hid fun w => ratcmp_no low_len low_len (.inl notrat_low) w)
  · exact compare_size _ _ _ _ _ w sa sb (Lib.hid (show Lib.compareInt (-1) (1) = -1 by decide +kernel)) rfl rfl
  · exact compare_size _ _ _ _ _ w sa sb (Lib.hid (show Lib.compareInt (-1) (0) = -1 by decide +kernel)) rfl rfl
  · exact compare_size _ _ _ _ _ w sa sb (Lib.hid (show Lib.compareInt (1) (-1) = 1 by decide +kernel)) rfl rfl
  · cases ha; cases hb
    exact compare_cmp _ _ _ _ _ w sa sb (Lib.hid (show Lib.compareInt (1) (1) = 0 by decide +kernel)) (Lib.hid fun w => ratcmp_no inf_len inf_len (.inl notrat_inf) w)
  · exact compare_size _ _ _ _ _ w sa sb (Lib.hid (show Lib.compareInt (1) (0) = 1 by decide +kernel)) rfl rfl
  · exact compare_size _ _ _ _ _ w sa sb (Lib.hid (show Lib.compareInt (0) (-1) = 1 by decide +kernel)) rfl rfl
  · exact compare_size _ _ _ _ _ w sa sb (Lib.hid (show Lib.compareInt (0) (1) = -1 by decide +kernel)) rfl rfl
  · exact compare_cmp _ _ _ _ _ w sa sb (Lib.hid (show Lib.compareInt (0) (0) = 0 by decide +kernel)) (Lib.hid fun w => ratcmp_yes ha hb w)
set_option maxRecDepth 100000 in
theorem down_walk (a b : ByteArray) (c : Int) (w : World) (C : Hid (CompareIs b a c)) : Calls Tryz.prog 57 #[.string a, .string b] w (ValPost (.int .i64 c) w) := by
  go_enter Tryz.func57, Tryz.ntmps57
  go_wp2_with fail
  refine (C.out _).mono ?_
  rintro e w1 ⟨rfl, hg⟩
  have G1 := Lib.hid hg
  clear hg
  go_wp2
  go_ret
  exact ⟨rfl, G1.out⟩
theorem down_val {a b : ByteArray} {u v : Ext} (ha : IsE a u) (hb : IsE b v) (w : World) : Calls Tryz.prog 57 #[.string a, .string b] w (ValPost (.int .i64 (cmpE v u)) w) :=
  down_walk a b _ w (Lib.hid (compare_val hb ha))

/-! ### The values of a kind -/
theorem none_any (a : ByteArray) (w : World) : Calls Tryz.prog 43 #[.string a] w (ValPost (.bool false) w) := by
  go_enter Tryz.func43, Tryz.ntmps43
  go_wp2
  go_ret
  exact ⟨rfl, grown_refl _ _⟩
def RatVal (a : ByteArray) (k : Bool) : Prop := ∀ w, Calls Tryz.prog 45 #[.string a] w (ValPost (.bool k) w)
set_option maxRecDepth 100000 in
theorem extended_size (a : ByteArray) (s : Int) (w : World) (SA : Hid (SizeIs a s)) (f1 : (s == 0) = false) (f2 : (s != 0) = true) :
    Calls Tryz.prog 44 #[.string a] w (ValPost (.bool true) w) := by
  go_enter Tryz.func44, Tryz.ntmps44
  go_wp2_with fail
  refine (SA.out _).mono ?_
  rintro e w' ⟨rfl, rfl⟩
  go_wp2
  go_ret
  exact ⟨rfl, grown_refl _ _⟩
set_option maxRecDepth 100000 in
theorem extended_rat (a : ByteArray) (k : Bool) (w : World) (SA : Hid (SizeIs a 0)) (V : Hid (RatVal a k)) :
    Calls Tryz.prog 44 #[.string a] w (ValPost (.bool k) w) := by
  go_enter Tryz.func44, Tryz.ntmps44
  go_wp2_with fail
  refine (SA.out _).mono ?_
  rintro e w' ⟨rfl, rfl⟩
  go_wp2_with fail
  refine (V.out _).mono ?_
  rintro e w1 ⟨rfl, hg⟩
  have G1 := Lib.hid hg
  clear hg
  go_wp2
  go_ret
  exact ⟨rfl, G1.out⟩
def ValueIs (F : Nat) (a : ByteArray) (k : Bool) : Prop := ∀ w, Calls Tryz.prog F #[.string a] w (ValPost (.bool k) w)
theorem extended_yes {a : ByteArray} {v : Ext} (h : IsE a v) : ValueIs 44 a true := fun w => by
  have sa := Lib.hid (size_val h)
  rcases v with (_ | _) | x
  · exact extended_size a _ w sa rfl rfl
  · exact extended_size a _ w sa rfl rfl
  · exact extended_rat a true w sa (Lib.hid fun w => ratvalid_yes h w)
/-- No value at all. -/
def NoExt (a : ByteArray) : Prop := ∀ v, ¬ IsE a v
theorem NoExt.rat {a : ByteArray} (h : NoExt a) : notRat a := fun x k => h (.inr x) k
theorem NoExt.size {a : ByteArray} (h : NoExt a) : SizeIs a 0 := size_no (fun e => h (.inl false) e) (fun e => h (.inl true) e)
theorem ext_or (a : ByteArray) : (∃ v, IsE a v) ∨ NoExt a := by
  by_cases h : ∃ v, IsE a v
  · exact .inl h
  · exact .inr fun v k => h ⟨v, k⟩
theorem extended_no {a : ByteArray} (h : NoExt a) (ha : a.size ≤ maxLen) : ValueIs 44 a false := fun w =>
  extended_rat a false w (Lib.hid h.size) (Lib.hid fun w => ratvalid_no h.rat ha w)

def PartsIs (a : ByteArray) (b k : Bool) : Prop := ∃ A B, ∀ w, Calls Tryz.prog 71 #[.string a] w (ValPost (.tuple #[.bool b, .string A, .string B, .bool k]) w)
set_option maxRecDepth 100000 in
theorem notNeg_walk (a : ByteArray) (i b k : Bool) (w : World) (f1 : (a.toList == [105, 110, 102]) = i) (P : Hid (PartsIs a b k)) :
    Calls Tryz.prog 51 #[.string a] w (ValPost (.bool (i || (k && !b))) w) := by
  obtain ⟨A, B, p⟩ := P.out
  clear P
  have P := Lib.hid p
  clear p
  cases i <;> cases b <;> cases k
  all_goals
    go_enter Tryz.func51, Tryz.ntmps51
    go_wp2_with fail
    refine (P.out _).mono ?_
    rintro e w1 ⟨rfl, hg⟩
    have G1 := Lib.hid hg
    clear hg
    go_wp2
    go_ret
    exact ⟨rfl, G1.out⟩
theorem parts_num {a : ByteArray} {x : Rat} (h : IsRat a x) : PartsIs a (sgn x) true := ⟨_, _, fun w => parts_yes h w⟩
theorem parts_not {a : ByteArray} (h : notRat a) (ha : a.size ≤ maxLen) : PartsIs a false false := ⟨_, _, fun w => parts_no h ha w⟩
theorem sgn_nonneg (x : Rat) : (!sgn x) = decide (0 ≤ x) := by
  unfold sgn
  have h := Rat.num_nonneg (q := x)
  by_cases k : 0 ≤ x
  · have := h.2 k
    simp [k]
    try omega
  · have h2 : ¬ 0 ≤ x.num := fun z => k (h.1 z)
    simp [k]
    try omega
theorem notNeg_val {a : ByteArray} {v : Ext} (h : IsE a v) : ValueIs 51 a (hasE 2 v) := fun w => by
  rcases v with (_ | _) | x
  · have := notNeg_walk a _ _ _ w (txt_top h) (Lib.hid (parts_not (by cases h; exact notrat_low) (IsE.len (v := .inl false) h)))
    exact this
  · have := notNeg_walk a _ _ _ w (txt_top h) (Lib.hid (parts_not (by cases h; exact notrat_inf) (IsE.len (v := .inl true) h)))
    exact this
  · have := notNeg_walk a _ _ _ w (txt_top h) (Lib.hid (parts_num h))
    rw [Bool.true_and, sgn_nonneg] at this
    rw [show hasE 2 (.inr x) = decide (0 ≤ x) by simp [hasE]]
    exact this
theorem notNeg_no {a : ByteArray} (h : NoExt a) (ha : a.size ≤ maxLen) : ValueIs 51 a false := fun w => by
  have := notNeg_walk a false _ _ w (by rw [← inf_list, bytes_ne]; exact decide_eq_false (fun e => h (.inl true) e)) (Lib.hid (parts_not h.rat ha))
  exact this
set_option maxRecDepth 100000 in
theorem positive_walk (a : ByteArray) (c : Int) (k : Bool) (w : World) (C : Hid (CmpCall a ⟨#[48]⟩ c)) (hk : decide (0 < c) = k) :
    Calls Tryz.prog 52 #[.string a] w (ValPost (.bool k) w) := by
  go_enter Tryz.func52, Tryz.ntmps52
  go_wp2_with fail
  refine (C.out _).mono ?_
  rintro e w1 ⟨rfl, hg⟩
  have G1 := Lib.hid hg
  clear hg
  go_wp2
  go_ret
  exact ⟨by first | rfl | rw [← hk] | simp_all, G1.out⟩
theorem zero_len : zeroS.size ≤ maxLen := by decide
theorem positive_val {a : ByteArray} {v : Ext} (h : IsE a v) : ValueIs 52 a (wgtE 2 v) := fun w => by
  rcases v with (_ | _) | x
  · exact positive_walk a 0 false w (Lib.hid fun w => ratcmp_no (IsE.len (v := .inl false) h) zero_len (.inl (by cases h; exact notrat_low)) w) rfl
  · exact positive_walk a 0 false w (Lib.hid fun w => ratcmp_no (IsE.len (v := .inl true) h) zero_len (.inl (by cases h; exact notrat_inf)) w) rfl
  · refine positive_walk a _ _ w (Lib.hid fun w => ratcmp_yes h zero_rat w) ?_
    rw [show wgtE 2 (.inr x) = decide (0 < x) by simp [wgtE]]
    exact decide_eq_decide.2 (cmpQ_pos x 0)
theorem positive_no {a : ByteArray} (h : NoExt a) (ha : a.size ≤ maxLen) : ValueIs 52 a false := fun w =>
  positive_walk a 0 false w (Lib.hid fun w => ratcmp_no ha zero_len (.inl h.rat) w) rfl
theorem ratval_val {a : ByteArray} {v : Ext} (h : IsE a v) : ValueIs 45 a (wgtE 1 v) := fun w => by
  rcases v with (_ | _) | x
  · exact ratvalid_no (by cases h; exact notrat_low) (IsE.len (v := .inl false) h) w
  · exact ratvalid_no (by cases h; exact notrat_inf) (IsE.len (v := .inl true) h) w
  · exact ratvalid_yes h w
end Go.Proofs.YtkekljjjomnalaaGreatDoor
