/- What layer 4's laws share: is, awake; the closed examples. -/
import Derived.Test.YtkekljjjomnalaaGreatDoorSs
set_option linter.unusedVariables false
set_option linter.unusedSimpArgs false
namespace Go.Proofs.YtkekljjjomnalaaGreatDoor
open Go.RowKit
open Go.Lib (nDigits decDigits)

def LawPost (w : World) (e : Ending) (w' : World) : Prop := e = .returned (.bool true) ∧ w.grownBy w' none
theorem is_any (S T : ByteArray) (E : Int) (w : World) : Calls Tryz.prog 14 #[.string S, .int .i64 E, .string T] w fun e w' => e = .returned (.bool (decide (E = 0) && decide (S = T))) ∧ w = w' := by
  have f := (bytes_ne (a := T) (c := S))
  cases h1 : (E == 0)
  · have h2 : decide (E = 0) = false := by simpa using h1
    rw [h2]
    go_enter Tryz.func14, Tryz.ntmps14
    go_wp2
    go_ret
    exact ⟨rfl, rfl⟩
  · have h2 : decide (E = 0) = true := by simpa using h1
    rw [h2, Bool.true_and]
    generalize decide (S = T) = b at *
    go_enter Tryz.func14, Tryz.ntmps14
    go_wp2
    go_ret
    exact ⟨rfl, rfl⟩
theorem is_same (S : ByteArray) (w : World) : Calls Tryz.prog 14 #[.string S, .int .i64 0, .string S] w fun e w' => e = .returned (.bool true) ∧ w = w' := by
  have := is_any S S 0 w
  simpa using this

/-! ### The examples -/
theorem e_1_2 : IsE ⟨#[49, 47, 50]⟩ (.inr (mkRat (1) 2)) := show IsRat _ _ from ⟨by decide +kernel, by decide +kernel⟩
theorem e_3 : IsE ⟨#[51]⟩ (.inr (mkRat (3) 1)) := show IsRat _ _ from ⟨by decide +kernel, by decide +kernel⟩
theorem e_7_2 : IsE ⟨#[55, 47, 50]⟩ (.inr (mkRat (7) 2)) := show IsRat _ _ from ⟨by decide +kernel, by decide +kernel⟩
theorem e_3_2 : IsE ⟨#[51, 47, 50]⟩ (.inr (mkRat (3) 2)) := show IsRat _ _ from ⟨by decide +kernel, by decide +kernel⟩
theorem e_1_3 : IsE ⟨#[49, 47, 51]⟩ (.inr (mkRat (1) 3)) := show IsRat _ _ from ⟨by decide +kernel, by decide +kernel⟩
theorem e_2_3 : IsE ⟨#[50, 47, 51]⟩ (.inr (mkRat (2) 3)) := show IsRat _ _ from ⟨by decide +kernel, by decide +kernel⟩
theorem e_3_4 : IsE ⟨#[51, 47, 52]⟩ (.inr (mkRat (3) 4)) := show IsRat _ _ from ⟨by decide +kernel, by decide +kernel⟩
theorem e_1 : IsE ⟨#[49]⟩ (.inr (mkRat (1) 1)) := show IsRat _ _ from ⟨by decide +kernel, by decide +kernel⟩
theorem e_2 : IsE ⟨#[50]⟩ (.inr (mkRat (2) 1)) := show IsRat _ _ from ⟨by decide +kernel, by decide +kernel⟩
theorem e_0 : IsE ⟨#[48]⟩ (.inr (mkRat (0) 1)) := show IsRat _ _ from ⟨by decide +kernel, by decide +kernel⟩
theorem e_m1 : IsE ⟨#[45, 49]⟩ (.inr (mkRat (-1) 1)) := show IsRat _ _ from ⟨by decide +kernel, by decide +kernel⟩
theorem e_m2 : IsE ⟨#[45, 50]⟩ (.inr (mkRat (-2) 1)) := show IsRat _ _ from ⟨by decide +kernel, by decide +kernel⟩
theorem e_inf : IsE ⟨#[105, 110, 102]⟩ (.inl true) := rfl
theorem e_minf : IsE ⟨#[45, 105, 110, 102]⟩ (.inl false) := rfl
theorem val_of {k : Int} {a : ByteArray} {v : Ext} (h : IsE a v) (hk : hasE k v = true) : Val k a v := ⟨h, hk⟩
theorem wgt_of {k : Int} {a : ByteArray} {v : Ext} (h : IsE a v) (hk : wgtE k v = true) : Wgt k a v := ⟨h, hk⟩
theorem op_is {F : Nat} {k : Int} {a b c : ByteArray} {v r : Ext} (h : SOp F k a b (extV v)) (e : v = r) (hc : IsE c r) : SOp F k a b (.tuple #[.string c, .int .i64 0]) := by
  subst e; rw [extV_is hc] at h; exact h
theorem op1_is {F : Nat} {k : Int} {a c : ByteArray} {v r : Ext} (h : SOp1 F k a (extV v)) (e : v = r) (hc : IsE c r) : SOp1 F k a (.tuple #[.string c, .int .i64 0]) := by
  subst e; rw [extV_is hc] at h; exact h
theorem noval_two {a : ByteArray} {v : Ext} (h : IsE a v) {k : Int} (hk : hasE k v = false) : NoVal k a := fun u hu => by rw [hu.uniq h]; exact hk
theorem nowgt_two {a : ByteArray} {v : Ext} (h : IsE a v) {k : Int} (hk : wgtE k v = false) : NoWgt k a := fun u hu => by rw [hu.uniq h]; exact hk
theorem not_2_4 : NoExt ⟨#[50, 47, 52]⟩ := fun v h => by
  rcases v with (_ | _) | x
  · exact absurd (show (⟨#[50, 47, 52]⟩ : ByteArray) = lowS from h) (by decide +kernel)
  · exact absurd (show (⟨#[50, 47, 52]⟩ : ByteArray) = infS from h) (by decide +kernel)
  · have := (rat_parts h).g
    revert this
    decide +kernel
def Str1 (F : Nat) (k : Int) (S : ByteArray) : Prop := ∀ w, Calls Tryz.prog F #[.int .i64 k] w (ValPost (.string S) w)
/-- What the calls of Awakes return. -/
structure Awakes : Prop where
  c1 : SOp 13 1 ⟨#[49, 47, 50]⟩ ⟨#[51]⟩ (.tuple #[.string ⟨#[49, 47, 50]⟩, .int .i64 0])
  c2 : SOp 10 2 ⟨#[49, 47, 50]⟩ ⟨#[51]⟩ (.tuple #[.string ⟨#[51, 47, 50]⟩, .int .i64 0])
  c3 : SOp1 11 2 ⟨#[49, 47, 51]⟩ (.tuple #[.string ⟨#[51, 47, 50]⟩, .int .i64 0])
  c4 : SOp 12 3 ⟨#[49, 47, 50]⟩ ⟨#[50, 47, 51]⟩ (.tuple #[.string ⟨#[51, 47, 52]⟩, .int .i64 0])
  c5 : SOp 15 1 ⟨#[49]⟩ ⟨#[50]⟩ (.int .i64 (-1))
  c6 : Str1 17 1 ⟨#[105, 110, 102]⟩
  c7 : Str1 18 3 ⟨#[49]⟩
  c8 : VB 22 1 ⟨#[48]⟩ true
  c9 : VB 22 3 ⟨#[48]⟩ false
theorem awakes_ok : Awakes := by
  refine ⟨?_, ?_, ?_, ?_, ?_, ?_, ?_, ?_, ?_⟩
  · exact op_is (splus_val (val_of (k := 1) e_1_2 (by decide +kernel)) (val_of e_3 (by decide +kernel))) (show plusE 1 (.inr (mkRat (1) 2)) (.inr (mkRat (3) 1)) = .inr (mkRat (1) 2) by decide +kernel) e_1_2
  · exact op_is (stimes_val (val_of (k := 2) e_1_2 (by decide +kernel)) (val_of e_3 (by decide +kernel))) (show timesE 2 (.inr (mkRat (1) 2)) (.inr (mkRat (3) 1)) = .inr (mkRat (3) 2) by decide +kernel) e_3_2
  · exact op1_is (sstar_val (val_of (k := 2) e_1_3 (by decide +kernel))) (show starE 2 (.inr (mkRat (1) 3)) = .inr (mkRat (3) 2) by decide +kernel) e_3_2
  · exact op_is (sover_val (k := 3) e_1_2 (.inr (by decide +kernel)) (wgt_of e_2_3 (by decide +kernel))) (show overE 3 (.inr (mkRat (1) 2)) (.inr (mkRat (2) 3)) = .inr (mkRat (3) 4) by decide +kernel) e_3_4
  · exact (show betterE 1 (.inr (mkRat (1) 1)) (.inr (mkRat (2) 1)) = -1 by decide +kernel) ▸ sbetter_val (val_of (k := 1) e_1 (by decide +kernel)) (val_of e_2 (by decide +kernel))
  · exact fun w => szero_any 1 w
  · exact fun w => sone_any 3 w
  · exact sweight_yes (wgt_of (k := 1) e_0 (by decide +kernel))
  · exact sweight_no (nowgt_two e_0 (by decide +kernel)) (by decide)
set_option maxRecDepth 100000 in
set_option maxHeartbeats 4000000 in
theorem awake_any (w : World) : Calls Tryz.prog 19 #[] w (LawPost w) := by
  have X := Lib.hid awakes_ok
  go_enter Tryz.func19, Tryz.ntmps19
  go_wp2_with fail
  refine (X.out.c1 _).mono ?_
  rintro e w1 ⟨rfl, hg⟩
  have G1 := Lib.hid (hg)
  clear hg
  go_wp2_with fail
  refine (X.out.c2 _).mono ?_
  rintro e w2 ⟨rfl, hg⟩
  have G2 := Lib.hid (grown_trans G1.out (grown_none hg (r := none)))
  clear hg G1
  go_wp2_with fail
  refine (X.out.c3 _).mono ?_
  rintro e w3 ⟨rfl, hg⟩
  have G3 := Lib.hid (grown_trans G2.out (grown_none hg (r := none)))
  clear hg G2
  go_wp2_with fail
  refine (X.out.c4 _).mono ?_
  rintro e w4 ⟨rfl, hg⟩
  have G4 := Lib.hid (grown_trans G3.out (grown_none hg (r := none)))
  clear hg G3
  go_wp2_with fail
  refine (is_same _ _).mono ?_
  rintro e w' ⟨rfl, rfl⟩
  go_wp2_with fail
  refine (is_same _ _).mono ?_
  rintro e w' ⟨rfl, rfl⟩
  go_wp2_with fail
  refine (is_same _ _).mono ?_
  rintro e w' ⟨rfl, rfl⟩
  go_wp2_with fail
  refine (is_same _ _).mono ?_
  rintro e w' ⟨rfl, rfl⟩
  go_wp2_with fail
  refine (X.out.c5 _).mono ?_
  rintro e w5 ⟨rfl, hg⟩
  have G5 := Lib.hid (grown_trans G4.out (grown_none hg (r := none)))
  clear hg G4
  go_wp2_with fail
  refine (X.out.c6 _).mono ?_
  rintro e w6 ⟨rfl, hg⟩
  have G6 := Lib.hid (grown_trans G5.out (grown_none hg (r := none)))
  clear hg G5
  go_wp2_with fail
  refine (X.out.c7 _).mono ?_
  rintro e w7 ⟨rfl, hg⟩
  have G7 := Lib.hid (grown_trans G6.out (grown_none hg (r := none)))
  clear hg G6
  go_wp2_with fail
  refine (X.out.c8 _).mono ?_
  rintro e w8 ⟨rfl, hg⟩
  have G8 := Lib.hid (grown_trans G7.out (grown_none hg (r := none)))
  clear hg G7
  go_wp2_with fail
  refine (X.out.c9 _).mono ?_
  rintro e w9 ⟨rfl, hg⟩
  have G9 := Lib.hid (grown_trans G8.out (grown_none hg (r := none)))
  clear hg G8
  go_wp2
  go_ret
  exact ⟨rfl, G9.out⟩
end Go.Proofs.YtkekljjjomnalaaGreatDoor
