/- RatValid: every input. · RatOrders: every input. · RatComputes: every input. -/
import Derived.Test.YthokjhlbbgfplaaGreatDoorZe
import Derived.Test.YthokjhlbbgfplaaGreatDoorZb
set_option linter.unusedVariables false
set_option linter.unusedSimpArgs false
namespace Go.Proofs.YthokjhlbbgfplaaGreatDoor
open Go.RowKit
open Go.Lib (nDigits decDigits)

def LargeIs1 (a : ByteArray) (k : Bool) : Prop := ∀ w : World,
  Calls Tryz.prog 9 #[.slice (some ⟨w.heap.size, 0, none⟩) 1 1] (w.alloc (.cells #[.string a] 9)) fun e w' => e = .returned (.bool k) ∧ w.alloc (.cells #[.string a] 9) = w'
theorem largeIs1 (a : ByteArray) (ha : a.size ≤ maxLen) : LargeIs1 a (largeB [a]) := fun w => by
  refine (large_any [a] w.heap.size _ (by simp) ?_ ?_).mono ?_
  · intro x hx
    simp at hx
    subst hx; assumption
  · intro k x hx
    rw [cell_of_row _ _ _ _ _ (0, 0) (new_block _ _)]
    rcases k with _ | k
    · cases hx; rfl
    · simp at hx
  · rintro e w' ⟨rfl, rfl⟩
    exact ⟨rfl, rfl⟩
set_option maxRecDepth 100000 in
set_option maxHeartbeats 2000000 in
theorem valid_large (a : ByteArray) (w : World) (LG : Hid (LargeIs1 a true))  :
    Calls Tryz.prog 3 #[.string a] w (LawPost w) := by
  go_enter Tryz.func3, Tryz.ntmps3
  go_wp2_with fail
  refine (LG.out _).mono ?_
  rintro e w0 ⟨rfl, hw0⟩
  have G0 := Lib.hid (show w.grownBy w0 none from hw0 ▸ World.grownBy_alloc _ _ none)
  clear hw0
  go_wp2_with fail
  refine (awake_any _).mono ?_
  rintro e w1 ⟨rfl, hg⟩
  have G1 := Lib.hid (grown_trans G0.out hg)
  clear hg G0
  go_wp2
  go_ret
  exact ⟨rfl, G1.out⟩
set_option maxRecDepth 100000 in
set_option maxHeartbeats 2000000 in
theorem valid_same (a A B : ByteArray) (p k : Bool) (w : World) (LG : Hid (LargeIs1 a false)) (P1 : Hid (∀ w, Calls Tryz.prog 11 #[.string a] w (ValPost (.tuple #[.bool p, .string A, .string B, .bool k]) w))) (P2 : Hid (PartsTo a p A B k)) (VA : Hid (ValidIs a k)) :
    Calls Tryz.prog 3 #[.string a] w (LawPost w) := by
  go_enter Tryz.func3, Tryz.ntmps3
  go_wp2_with fail
  refine (LG.out _).mono ?_
  rintro e w0 ⟨rfl, hw0⟩
  have G0 := Lib.hid (show w.grownBy w0 none from hw0 ▸ World.grownBy_alloc _ _ none)
  clear hw0
  go_wp2_with fail
  refine (P1.out _).mono ?_
  rintro e w1 ⟨rfl, hg⟩
  have G1 := Lib.hid (grown_trans G0.out hg)
  clear hg G0
  go_wp2_with fail
  refine (P2.out _).mono ?_
  rintro e w2 ⟨rfl, hg⟩
  have G2 := Lib.hid (grown_trans G1.out hg)
  clear hg G1
  go_wp2_with fail
  refine (VA.out _).mono ?_
  rintro e w3 ⟨rfl, hg⟩
  have G3 := Lib.hid (grown_trans G2.out hg)
  clear hg G2
  go_wp2_with fail
  refine (awake_any _).mono ?_
  rintro e w4 ⟨rfl, hg⟩
  have G4 := Lib.hid (grown_trans G3.out hg)
  clear hg G3
  go_wp2
  go_ret
  exact ⟨rfl, G4.out⟩
theorem ratvalid_any (a : ByteArray) (w : World) (ha : a.size ≤ maxLen) : Calls Tryz.prog 3 #[.string a] w (LawPost w) := by
  have LG := largeIs1 a ha
  cases hl : largeB [a]
  case true => rw [hl] at LG; exact valid_large a w (Lib.hid LG)
  rw [hl] at LG
  rcases rat_or a with ⟨x, h⟩ | h
  · exact valid_same a _ _ _ _ w (Lib.hid LG) (Lib.hid fun w => parts_yes h w) (Lib.hid (partsTo_yes h)) (Lib.hid fun w => ratvalid_yes h w)
  · exact valid_same a _ _ _ _ w (Lib.hid LG) (Lib.hid fun w => parts_no h ha w) (Lib.hid (partsTo_no h ha)) (Lib.hid fun w => ratvalid_no h ha w)
end Go.Proofs.YthokjhlbbgfplaaGreatDoor
set_option linter.unusedVariables false
set_option linter.unusedSimpArgs false
namespace Go.Proofs.YthokjhlbbgfplaaGreatDoor
open Go.RowKit
open Go.Lib (nDigits decDigits)

def LargeIs2 (a b : ByteArray) (k : Bool) : Prop := ∀ w : World,
  Calls Tryz.prog 9 #[.slice (some ⟨w.heap.size, 0, none⟩) 2 2] (w.alloc (.cells #[.string a, .string b] 9)) fun e w' => e = .returned (.bool k) ∧ w.alloc (.cells #[.string a, .string b] 9) = w'
theorem largeIs2 (a b : ByteArray) (ha : a.size ≤ maxLen) (hb : b.size ≤ maxLen) : LargeIs2 a b (largeB [a, b]) := fun w => by
  refine (large_any [a, b] w.heap.size _ (by simp) ?_ ?_).mono ?_
  · intro x hx
    simp at hx
    rcases hx with rfl | rfl <;> assumption
  · intro k x hx
    rw [cell_of_row _ _ _ _ _ (0, 0) (new_block _ _)]
    rcases k with _ | _ | k
    · cases hx; rfl
    · cases hx; rfl
    · simp at hx
  · rintro e w' ⟨rfl, rfl⟩
    exact ⟨rfl, rfl⟩
set_option maxRecDepth 100000 in
set_option maxHeartbeats 2000000 in
theorem orders_large (a b : ByteArray) (w : World) (LG : Hid (LargeIs2 a b true))  :
    Calls Tryz.prog 5 #[.string a, .string b] w (LawPost w) := by
  go_enter Tryz.func5, Tryz.ntmps5
  go_wp2_with fail
  refine (LG.out _).mono ?_
  rintro e w0 ⟨rfl, hw0⟩
  have G0 := Lib.hid (show w.grownBy w0 none from hw0 ▸ World.grownBy_alloc _ _ none)
  clear hw0
  go_wp2_with fail
  refine (awake_any _).mono ?_
  rintro e w1 ⟨rfl, hg⟩
  have G1 := Lib.hid (grown_trans G0.out hg)
  clear hg G0
  go_wp2
  go_ret
  exact ⟨rfl, G1.out⟩
set_option maxRecDepth 100000 in
set_option maxHeartbeats 2000000 in
theorem orders_same (a b S : ByteArray) (E c : Int) (w : World) (LG : Hid (LargeIs2 a b false)) (N1 : Hid (∀ w, Calls Tryz.prog 18 #[.string a] w (ValPost (.tuple #[.string S, .int .i64 E]) w))) (N2 : Hid (∀ w, Calls Tryz.prog 19 #[.string a] w (ValPost (.tuple #[.string S, .int .i64 E]) w))) (C1 : Hid (∀ w, Calls Tryz.prog 20 #[.string a, .string b] w (ValPost (.int .i64 c) w))) (C2 : Hid (∀ w, Calls Tryz.prog 21 #[.string a, .string b] w (ValPost (.int .i64 c) w))) :
    Calls Tryz.prog 5 #[.string a, .string b] w (LawPost w) := by
  go_enter Tryz.func5, Tryz.ntmps5
  go_wp2_with fail
  refine (LG.out _).mono ?_
  rintro e w0 ⟨rfl, hw0⟩
  have G0 := Lib.hid (show w.grownBy w0 none from hw0 ▸ World.grownBy_alloc _ _ none)
  clear hw0
  go_wp2_with fail
  refine (N1.out _).mono ?_
  rintro e w1 ⟨rfl, hg⟩
  have G1 := Lib.hid (grown_trans G0.out hg)
  clear hg G0
  go_wp2_with fail
  refine (N2.out _).mono ?_
  rintro e w2 ⟨rfl, hg⟩
  have G2 := Lib.hid (grown_trans G1.out hg)
  clear hg G1
  go_wp2_with fail
  refine (C1.out _).mono ?_
  rintro e w3 ⟨rfl, hg⟩
  have G3 := Lib.hid (grown_trans G2.out hg)
  clear hg G2
  go_wp2_with fail
  refine (C2.out _).mono ?_
  rintro e w4 ⟨rfl, hg⟩
  have G4 := Lib.hid (grown_trans G3.out hg)
  clear hg G3
  go_wp2_with fail
  refine (awake_any _).mono ?_
  rintro e w5 ⟨rfl, hg⟩
  have G5 := Lib.hid (grown_trans G4.out hg)
  clear hg G4
  go_wp2
  go_ret
  exact ⟨rfl, G5.out⟩
theorem neg_both (a : ByteArray) (ha : a.size ≤ maxLen) : ∃ S E, (∀ w, Calls Tryz.prog 18 #[.string a] w (ValPost (.tuple #[.string S, .int .i64 E]) w)) ∧ (∀ w, Calls Tryz.prog 19 #[.string a] w (ValPost (.tuple #[.string S, .int .i64 E]) w)) := by
  rcases rat_or a with ⟨x, h⟩ | h
  · exact ⟨_, _, fun w => ratneg_yes h w, fun w => rneg_rat h w⟩
  · exact ⟨_, _, fun w => ratneg_no h ha w, fun w => rneg_not h ha w⟩
theorem rat_both (a b : ByteArray) : (∃ x y, IsRat a x ∧ IsRat b y) ∨ (notRat a ∨ notRat b) := by
  rcases rat_or a with ⟨x, h⟩ | h
  · rcases rat_or b with ⟨y, k⟩ | k
    · exact .inl ⟨x, y, h, k⟩
    · exact .inr (.inr k)
  · exact .inr (.inl h)
theorem ratorders_any (a b : ByteArray) (w : World) (ha : a.size ≤ maxLen) (hb : b.size ≤ maxLen) : Calls Tryz.prog 5 #[.string a, .string b] w (LawPost w) := by
  have LG := largeIs2 a b ha hb
  cases hl : largeB [a, b]
  case true => rw [hl] at LG; exact orders_large a b w (Lib.hid LG)
  rw [hl] at LG
  obtain ⟨S, E, n1, n2⟩ := neg_both a ha
  rcases rat_both a b with ⟨x, y, hx, hy⟩ | h
  · exact orders_same a b S E _ w (Lib.hid LG) (Lib.hid n1) (Lib.hid n2) (Lib.hid fun w => ratcmp_yes hx hy w) (Lib.hid fun w => rcmp_rat hx hy w)
  · exact orders_same a b S E _ w (Lib.hid LG) (Lib.hid n1) (Lib.hid n2) (Lib.hid fun w => ratcmp_no ha hb h w) (Lib.hid fun w => rcmp_not ha hb h w)
end Go.Proofs.YthokjhlbbgfplaaGreatDoor
set_option linter.unusedVariables false
set_option linter.unusedSimpArgs false
namespace Go.Proofs.YthokjhlbbgfplaaGreatDoor
open Go.RowKit
open Go.Lib (nDigits decDigits)

set_option maxRecDepth 100000 in
set_option maxHeartbeats 2000000 in
theorem computes_large (a b : ByteArray) (w : World) (LG : Hid (LargeIs2 a b true))  :
    Calls Tryz.prog 6 #[.string a, .string b] w (LawPost w) := by
  go_enter Tryz.func6, Tryz.ntmps6
  go_wp2_with fail
  refine (LG.out _).mono ?_
  rintro e w0 ⟨rfl, hw0⟩
  have G0 := Lib.hid (show w.grownBy w0 none from hw0 ▸ World.grownBy_alloc _ _ none)
  clear hw0
  go_wp2_with fail
  refine (awake_any _).mono ?_
  rintro e w1 ⟨rfl, hg⟩
  have G1 := Lib.hid (grown_trans G0.out hg)
  clear hg G0
  go_wp2
  go_ret
  exact ⟨rfl, G1.out⟩
set_option maxRecDepth 100000 in
set_option maxHeartbeats 2000000 in
theorem computes_same (a b S1 S2 S3 S4 : ByteArray) (E1 E2 E3 E4 : Int) (w : World) (LG : Hid (LargeIs2 a b false)) (P1 : Hid (Op2 22 a b S1 E1)) (R1 : Hid (Op2 26 a b S1 E1)) (P2 : Hid (Op2 23 a b S2 E2)) (R2 : Hid (Op2 27 a b S2 E2)) (P3 : Hid (Op2 24 a b S3 E3)) (R3 : Hid (Op2 28 a b S3 E3)) (P4 : Hid (Op2 25 a b S4 E4)) (R4 : Hid (Op2 29 a b S4 E4))  :
    Calls Tryz.prog 6 #[.string a, .string b] w (LawPost w) := by
  go_enter Tryz.func6, Tryz.ntmps6
  go_wp2_with fail
  refine (LG.out _).mono ?_
  rintro e w0 ⟨rfl, hw0⟩
  have G0 := Lib.hid (show w.grownBy w0 none from hw0 ▸ World.grownBy_alloc _ _ none)
  clear hw0
  go_wp2_with fail
  refine (P1.out _).mono ?_
  rintro e w1 ⟨rfl, hg⟩
  have G1 := Lib.hid (grown_trans G0.out hg)
  clear hg G0
  go_wp2_with fail
  refine (P2.out _).mono ?_
  rintro e w2 ⟨rfl, hg⟩
  have G2 := Lib.hid (grown_trans G1.out hg)
  clear hg G1
  go_wp2_with fail
  refine (P3.out _).mono ?_
  rintro e w3 ⟨rfl, hg⟩
  have G3 := Lib.hid (grown_trans G2.out hg)
  clear hg G2
  go_wp2_with fail
  refine (P4.out _).mono ?_
  rintro e w4 ⟨rfl, hg⟩
  have G4 := Lib.hid (grown_trans G3.out hg)
  clear hg G3
  go_wp2_with fail
  refine (R1.out _).mono ?_
  rintro e w5 ⟨rfl, hg⟩
  have G5 := Lib.hid (grown_trans G4.out hg)
  clear hg G4
  go_wp2_with fail
  refine (R2.out _).mono ?_
  rintro e w6 ⟨rfl, hg⟩
  have G6 := Lib.hid (grown_trans G5.out hg)
  clear hg G5
  go_wp2_with fail
  refine (R3.out _).mono ?_
  rintro e w7 ⟨rfl, hg⟩
  have G7 := Lib.hid (grown_trans G6.out hg)
  clear hg G6
  go_wp2_with fail
  refine (R4.out _).mono ?_
  rintro e w8 ⟨rfl, hg⟩
  have G8 := Lib.hid (grown_trans G7.out hg)
  clear hg G7
  go_wp2_with fail
  refine (awake_any _).mono ?_
  rintro e w9 ⟨rfl, hg⟩
  have G9 := Lib.hid (grown_trans G8.out hg)
  clear hg G8
  go_wp2
  go_ret
  exact ⟨rfl, G9.out⟩
theorem both_of {F R : Nat} {a b : ByteArray} {v : Value} (hv : ∃ S E, v = .tuple #[.string S, .int .i64 E]) (h : ∀ w, Calls Tryz.prog F #[.string a, .string b] w (ValPost v w)) (k : ∀ w, Calls Tryz.prog R #[.string a, .string b] w (ValPost v w)) : ∃ S E, Op2 F a b S E ∧ Op2 R a b S E := by
  obtain ⟨S, E, e⟩ := hv
  exact ⟨S, E, op2_of h e, op2_of k e⟩
theorem ratcomputes_any (a b : ByteArray) (w : World) (ha : a.size ≤ maxLen) (hb : b.size ≤ maxLen) : Calls Tryz.prog 6 #[.string a, .string b] w (LawPost w) := by
  have LG := largeIs2 a b ha hb
  cases hl : largeB [a, b]
  case true => rw [hl] at LG; exact computes_large a b w (Lib.hid LG)
  rw [hl] at LG
  rcases rat_both a b with ⟨x, y, hx, hy⟩ | h
  · obtain ⟨S1, E1, p1, r1⟩ := both_of (finV_form (x + y)) (fun w => add_rat hx hy w) (fun w => radd_rat hx hy w)
    obtain ⟨S2, E2, p2, r2⟩ := both_of (finV_form (x - y)) (fun w => sub_rat hx hy w) (fun w => rsub_rat hx hy w)
    obtain ⟨S3, E3, p3, r3⟩ := both_of (finV_form (x * y)) (fun w => mul_rat hx hy w) (fun w => rmul_rat hx hy w)
    obtain ⟨S4, E4, p4, r4⟩ : ∃ S E, Op2 25 a b S E ∧ Op2 29 a b S E := by
      by_cases h0 : y.num = 0
      · exact both_of ⟨_, _, rfl⟩ (fun w => div_zero hx hy h0 w) (fun w => rdiv_none hx hy h0 w)
      · exact both_of (finV_form (x / y)) (fun w => div_rat hx hy h0 w) (fun w => rdiv_rat hx hy h0 w)
    exact computes_same a b S1 S2 S3 S4 E1 E2 E3 E4 w (Lib.hid LG) (Lib.hid p1) (Lib.hid r1) (Lib.hid p2) (Lib.hid r2) (Lib.hid p3) (Lib.hid r3) (Lib.hid p4) (Lib.hid r4)
  · obtain ⟨S1, E1, p1, r1⟩ := both_of ⟨_, _, rfl⟩ (fun w => add_not a b w ha hb h) (fun w => radd_not ha hb h w)
    obtain ⟨S2, E2, p2, r2⟩ := both_of ⟨_, _, rfl⟩ (fun w => sub_not a b w ha hb h) (fun w => rsub_not ha hb h w)
    obtain ⟨S3, E3, p3, r3⟩ := both_of ⟨_, _, rfl⟩ (fun w => mul_not a b w ha hb h) (fun w => rmul_not ha hb h w)
    obtain ⟨S4, E4, p4, r4⟩ := both_of ⟨_, _, rfl⟩ (fun w => div_not a b w ha hb h) (fun w => rdiv_not ha hb h w)
    exact computes_same a b S1 S2 S3 S4 E1 E2 E3 E4 w (Lib.hid LG) (Lib.hid p1) (Lib.hid r1) (Lib.hid p2) (Lib.hid r2) (Lib.hid p3) (Lib.hid r3) (Lib.hid p4) (Lib.hid r4)
end Go.Proofs.YthokjhlbbgfplaaGreatDoor
