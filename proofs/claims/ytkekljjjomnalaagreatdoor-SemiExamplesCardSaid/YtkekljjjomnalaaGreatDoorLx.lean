/- The walk of SemiExamples. -/
import Derived.Test.YtkekljjjomnalaaGreatDoorLz
set_option linter.unusedVariables false
set_option linter.unusedSimpArgs false
namespace Go.Proofs.YtkekljjjomnalaaGreatDoor
open Go.RowKit
open Go.Lib (nDigits decDigits)

/-- What the calls of Shown return. -/
structure Shown : Prop where
  c1 : SOp 10 1 ⟨#[105, 110, 102]⟩ ⟨#[45, 105, 110, 102]⟩ (.tuple #[.string ⟨#[105, 110, 102]⟩, .int .i64 0])
  c2 : SOp 10 2 ⟨#[48]⟩ ⟨#[105, 110, 102]⟩ (.tuple #[.string ⟨#[48]⟩, .int .i64 0])
  c3 : SOp1 11 1 ⟨#[45, 49]⟩ (.tuple #[.string ⟨#[45, 105, 110, 102]⟩, .int .i64 0])
  c4 : SOp1 11 2 ⟨#[49]⟩ (.tuple #[.string ⟨#[105, 110, 102]⟩, .int .i64 0])
  c5 : SOp1 11 3 ⟨#[49]⟩ (.tuple #[.string ⟨#[49]⟩, .int .i64 0])
  c6 : SOp 12 1 ⟨#[49]⟩ ⟨#[51]⟩ (.tuple #[.string ⟨#[45, 50]⟩, .int .i64 0])
  c7 : SOp 12 3 ⟨#[49]⟩ ⟨#[48]⟩ (.tuple #[.string ⟨#[]⟩, .int .i64 1])
  c8 : SOp 13 4 ⟨#[48]⟩ ⟨#[48]⟩ (.tuple #[.string ⟨#[]⟩, .int .i64 1])
  c9 : SOp 15 3 ⟨#[49]⟩ ⟨#[50]⟩ (.int .i64 (1))
  c10 : SOp 15 1 ⟨#[45, 105, 110, 102]⟩ ⟨#[48]⟩ (.int .i64 (-1))
  c11 : VB 16 2 ⟨#[45, 49]⟩ false
  c12 : VB 16 1 ⟨#[50, 47, 52]⟩ false
  c13 : Str1 17 0 ⟨#[]⟩
  c14 : Str1 18 4 ⟨#[]⟩
theorem shown_ok : Shown := by
  refine ⟨?_, ?_, ?_, ?_, ?_, ?_, ?_, ?_, ?_, ?_, ?_, ?_, ?_, ?_⟩
  · exact op_is (stimes_val (val_of (k := 1) e_inf (by decide +kernel)) (val_of e_minf (by decide +kernel))) (show timesE 1 (.inl true) (.inl false) = .inl true by decide +kernel) e_inf
  · exact op_is (stimes_val (val_of (k := 2) e_0 (by decide +kernel)) (val_of e_inf (by decide +kernel))) (show timesE 2 (.inr (mkRat (0) 1)) (.inl true) = .inr (mkRat (0) 1) by decide +kernel) e_0
  · exact op1_is (sstar_val (val_of (k := 1) e_m1 (by decide +kernel))) (show starE 1 (.inr (mkRat (-1) 1)) = .inl false by decide +kernel) e_minf
  · exact op1_is (sstar_val (val_of (k := 2) e_1 (by decide +kernel))) (show starE 2 (.inr (mkRat (1) 1)) = .inl true by decide +kernel) e_inf
  · exact op1_is (sstar_val (val_of (k := 3) e_1 (by decide +kernel))) (show starE 3 (.inr (mkRat (1) 1)) = .inr (mkRat (1) 1) by decide +kernel) e_1
  · exact op_is (sover_val (k := 1) e_1 (.inr (by decide +kernel)) (wgt_of e_3 (by decide +kernel))) (show overE 1 (.inr (mkRat (1) 1)) (.inr (mkRat (3) 1)) = .inr (mkRat (-2) 1) by decide +kernel) e_m2
  · exact sover_bad (by decide) (by decide) (.inr (nowgt_two e_0 (by decide +kernel)))
  · exact splus_bad (by decide) (by decide) (.inl (noval_two e_0 (by decide +kernel)))
  · exact (show betterE 3 (.inr (mkRat (1) 1)) (.inr (mkRat (2) 1)) = 1 by decide +kernel) ▸ sbetter_val (val_of (k := 3) e_1 (by decide +kernel)) (val_of e_2 (by decide +kernel))
  · exact (show betterE 1 (.inl false) (.inr (mkRat (0) 1)) = -1 by decide +kernel) ▸ sbetter_val (val_of (k := 1) e_minf (by decide +kernel)) (val_of e_0 (by decide +kernel))
  · exact svalid_no (noval_two e_m1 (by decide +kernel)) (by decide)
  · exact svalid_no (fun v h => absurd h (not_2_4 v)) (by decide)
  · exact fun w => szero_any 0 w
  · exact fun w => sone_any 4 w
set_option maxRecDepth 100000 in
set_option maxHeartbeats 4000000 in
theorem examples_any (w : World) : Calls Tryz.prog 3 #[] w (LawPost w) := by
  have X := Lib.hid shown_ok
  go_enter Tryz.func3, Tryz.ntmps3
  go_wp2_with fail
  refine (X.out.c1 _).mono ?_
  rintro e w1 ⟨rfl, hg⟩
  have G1 := Lib.hid (hg)
  clear hg
  go_wp2_with fail
  refine (X.out.c2 _).mono ?_
  rintro e w2 ⟨rfl, hg⟩
  have G2 := Lib.hid (grown_trans G1.out (grown_none hg (r := none)))
  clear hg G1
  go_wp2_with fail
  refine (X.out.c3 _).mono ?_
  rintro e w3 ⟨rfl, hg⟩
  have G3 := Lib.hid (grown_trans G2.out (grown_none hg (r := none)))
  clear hg G2
  go_wp2_with fail
  refine (X.out.c4 _).mono ?_
  rintro e w4 ⟨rfl, hg⟩
  have G4 := Lib.hid (grown_trans G3.out (grown_none hg (r := none)))
  clear hg G3
  go_wp2_with fail
  refine (X.out.c5 _).mono ?_
  rintro e w5 ⟨rfl, hg⟩
  have G5 := Lib.hid (grown_trans G4.out (grown_none hg (r := none)))
  clear hg G4
  go_wp2_with fail
  refine (X.out.c6 _).mono ?_
  rintro e w6 ⟨rfl, hg⟩
  have G6 := Lib.hid (grown_trans G5.out (grown_none hg (r := none)))
  clear hg G5
  go_wp2_with fail
  refine (X.out.c7 _).mono ?_
  rintro e w7 ⟨rfl, hg⟩
  have G7 := Lib.hid (grown_trans G6.out (grown_none hg (r := none)))
  clear hg G6
  go_wp2_with fail
  refine (X.out.c8 _).mono ?_
  rintro e w8 ⟨rfl, hg⟩
  have G8 := Lib.hid (grown_trans G7.out (grown_none hg (r := none)))
  clear hg G7
  go_wp2_with fail
  refine (is_same _ _).mono ?_
  rintro e w' ⟨rfl, rfl⟩
  go_wp2_with fail
  refine (is_same _ _).mono ?_
  rintro e w' ⟨rfl, rfl⟩
  go_wp2_with fail
  refine (is_same _ _).mono ?_
  rintro e w' ⟨rfl, rfl⟩
  go_wp2_with fail
  refine (is_same _ _).mono ?_
  rintro e w' ⟨rfl, rfl⟩
  go_wp2_with fail
  refine (is_same _ _).mono ?_
  rintro e w' ⟨rfl, rfl⟩
  go_wp2_with fail
  refine (is_same _ _).mono ?_
  rintro e w' ⟨rfl, rfl⟩
  go_wp2_with fail
  refine (X.out.c9 _).mono ?_
  rintro e w9 ⟨rfl, hg⟩
  have G9 := Lib.hid (grown_trans G8.out (grown_none hg (r := none)))
  clear hg G8
  go_wp2_with fail
  refine (X.out.c10 _).mono ?_
  rintro e w10 ⟨rfl, hg⟩
  have G10 := Lib.hid (grown_trans G9.out (grown_none hg (r := none)))
  clear hg G9
  go_wp2_with fail
  refine (X.out.c11 _).mono ?_
  rintro e w11 ⟨rfl, hg⟩
  have G11 := Lib.hid (grown_trans G10.out (grown_none hg (r := none)))
  clear hg G10
  go_wp2_with fail
  refine (X.out.c12 _).mono ?_
  rintro e w12 ⟨rfl, hg⟩
  have G12 := Lib.hid (grown_trans G11.out (grown_none hg (r := none)))
  clear hg G11
  go_wp2_with fail
  refine (X.out.c13 _).mono ?_
  rintro e w13 ⟨rfl, hg⟩
  have G13 := Lib.hid (grown_trans G12.out (grown_none hg (r := none)))
  clear hg G12
  go_wp2_with fail
  refine (X.out.c14 _).mono ?_
  rintro e w14 ⟨rfl, hg⟩
  have G14 := Lib.hid (grown_trans G13.out (grown_none hg (r := none)))
  clear hg G13
  go_wp2_with fail
  refine (awake_any _).mono ?_
  rintro e w15 ⟨rfl, hg⟩
  have G15 := Lib.hid (grown_trans G14.out (grown_none hg (r := none)))
  clear hg G14
  go_wp2
  go_ret
  exact ⟨rfl, G15.out⟩
end Go.Proofs.YtkekljjjomnalaaGreatDoor
