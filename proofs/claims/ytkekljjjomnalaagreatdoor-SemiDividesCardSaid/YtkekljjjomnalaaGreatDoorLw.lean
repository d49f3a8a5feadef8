/- SemiDivides: every input. -/
import Derived.Test.YtkekljjjomnalaaGreatDoorLz
import Derived.Test.YtkekljjjomnalaaGreatDoorPl
set_option linter.unusedVariables false
set_option linter.unusedSimpArgs false
namespace Go.Proofs.YtkekljjjomnalaaGreatDoor
open Go.RowKit
open Go.Lib (nDigits decDigits)

set_option maxRecDepth 100000 in
set_option maxHeartbeats 4000000 in
theorem div_long1 (k : Int) (a b : ByteArray) (h1 : (100 : Int) < (a.size : Int)) (ha : a.size ≤ maxLen) (hb : b.size ≤ maxLen) (w : World) :
    Calls Tryz.prog 9 #[.int .i64 k, .string a, .string b] w (LawPost w) := by
  unfold maxLen at ha hb
  go_enter Tryz.func9, Tryz.ntmps9
  go_wp2_with fail
  refine (awake_any _).mono ?_
  rintro e w1 ⟨rfl, hg⟩
  have G1 := Lib.hid (hg)
  clear hg
  go_wp2
  go_ret
  exact ⟨rfl, G1.out⟩
set_option maxRecDepth 100000 in
set_option maxHeartbeats 4000000 in
theorem div_long2 (k : Int) (a b : ByteArray) (h1 : ¬ (100 : Int) < (a.size : Int)) (h2 : (100 : Int) < (b.size : Int)) (ha : a.size ≤ maxLen) (hb : b.size ≤ maxLen) (w : World) :
    Calls Tryz.prog 9 #[.int .i64 k, .string a, .string b] w (LawPost w) := by
  unfold maxLen at ha hb
  go_enter Tryz.func9, Tryz.ntmps9
  go_wp2_with fail
  refine (awake_any _).mono ?_
  rintro e w1 ⟨rfl, hg⟩
  have G1 := Lib.hid (hg)
  clear hg
  go_wp2
  go_ret
  exact ⟨rfl, G1.out⟩
set_option maxRecDepth 100000 in
set_option maxHeartbeats 4000000 in
theorem div_no (k : Int) (a b : ByteArray) (h1 : ¬ (100 : Int) < (a.size : Int)) (h2 : ¬ (100 : Int) < (b.size : Int)) (X : Hid (VB 22 k b false)) (w : World) :
    Calls Tryz.prog 9 #[.int .i64 k, .string a, .string b] w (LawPost w) := by
  go_enter Tryz.func9, Tryz.ntmps9
  go_wp2_with fail
  refine (X.out _).mono ?_
  rintro e w1 ⟨rfl, hg⟩
  have G1 := Lib.hid (hg)
  clear hg
  go_wp2_with fail
  refine (awake_any _).mono ?_
  rintro e w2 ⟨rfl, hg⟩
  have G2 := Lib.hid (grown_trans G1.out (grown_none hg (r := none)))
  clear hg G1
  go_wp2
  go_ret
  exact ⟨rfl, G2.out⟩
set_option maxRecDepth 100000 in
set_option maxHeartbeats 4000000 in
theorem div_no2 (k : Int) (a b Z : ByteArray) (h1 : ¬ (100 : Int) < (a.size : Int)) (h2 : ¬ (100 : Int) < (b.size : Int)) (X : Hid (VB 22 k b true)) (O : Hid (Str1 17 k Z)) (f1 : (a.toList == Z.toList) = false) (f2 : (a.toList != Z.toList) = true) (Y : Hid (VB 22 k a false)) (w : World) :
    Calls Tryz.prog 9 #[.int .i64 k, .string a, .string b] w (LawPost w) := by
  go_enter Tryz.func9, Tryz.ntmps9
  go_wp2_with fail
  refine (X.out _).mono ?_
  rintro e w1 ⟨rfl, hg⟩
  have G1 := Lib.hid (hg)
  clear hg
  go_wp2_with fail
  refine (O.out _).mono ?_
  rintro e w2 ⟨rfl, hg⟩
  have G2 := Lib.hid (grown_trans G1.out (grown_none hg (r := none)))
  clear hg G1
  go_wp2_with fail
  refine (Y.out _).mono ?_
  rintro e w3 ⟨rfl, hg⟩
  have G3 := Lib.hid (grown_trans G2.out (grown_none hg (r := none)))
  clear hg G2
  go_wp2_with fail
  refine (awake_any _).mono ?_
  rintro e w4 ⟨rfl, hg⟩
  have G4 := Lib.hid (grown_trans G3.out (grown_none hg (r := none)))
  clear hg G3
  go_wp2
  go_ret
  exact ⟨rfl, G4.out⟩
structure DivCalls (k : Int) (a b C M : ByteArray) : Prop where
  o : SOp 12 k a b (.tuple #[.string C, .int .i64 0])
  t : SOp 10 k b C (.tuple #[.string a, .int .i64 0])
  m : SOp 10 k b a (.tuple #[.string M, .int .i64 0])
  n : SOp 12 k M b (.tuple #[.string a, .int .i64 0])
set_option maxRecDepth 100000 in
set_option maxHeartbeats 4000000 in
theorem div_zero_ok (k : Int) (a b Z C M : ByteArray) (h1 : ¬ (100 : Int) < (a.size : Int)) (h2 : ¬ (100 : Int) < (b.size : Int)) (X : Hid (VB 22 k b true)) (O : Hid (Str1 17 k Z)) (f1 : (a.toList == Z.toList) = true) (f2 : (a.toList != Z.toList) = false) (D : Hid (DivCalls k a b C M)) (w : World) :
    Calls Tryz.prog 9 #[.int .i64 k, .string a, .string b] w (LawPost w) := by
  go_enter Tryz.func9, Tryz.ntmps9
  go_wp2_with fail
  refine (X.out _).mono ?_
  rintro e w1 ⟨rfl, hg⟩
  have G1 := Lib.hid (hg)
  clear hg
  go_wp2_with fail
  refine (O.out _).mono ?_
  rintro e w2 ⟨rfl, hg⟩
  have G2 := Lib.hid (grown_trans G1.out (grown_none hg (r := none)))
  clear hg G1
  go_wp2_with fail
  refine (D.out.o _).mono ?_
  rintro e w3 ⟨rfl, hg⟩
  have G3 := Lib.hid (grown_trans G2.out (grown_none hg (r := none)))
  clear hg G2
  go_wp2_with fail
  refine (D.out.t _).mono ?_
  rintro e w4 ⟨rfl, hg⟩
  have G4 := Lib.hid (grown_trans G3.out (grown_none hg (r := none)))
  clear hg G3
  go_wp2_with fail
  refine (D.out.m _).mono ?_
  rintro e w5 ⟨rfl, hg⟩
  have G5 := Lib.hid (grown_trans G4.out (grown_none hg (r := none)))
  clear hg G4
  go_wp2_with fail
  refine (D.out.n _).mono ?_
  rintro e w6 ⟨rfl, hg⟩
  have G6 := Lib.hid (grown_trans G5.out (grown_none hg (r := none)))
  clear hg G5
  go_wp2_with fail
  refine (awake_any _).mono ?_
  rintro e w7 ⟨rfl, hg⟩
  have G7 := Lib.hid (grown_trans G6.out (grown_none hg (r := none)))
  clear hg G6
  go_wp2
  go_ret
  exact ⟨rfl, G7.out⟩
set_option maxRecDepth 100000 in
set_option maxHeartbeats 4000000 in
theorem div_wgt_ok (k : Int) (a b Z C M : ByteArray) (h1 : ¬ (100 : Int) < (a.size : Int)) (h2 : ¬ (100 : Int) < (b.size : Int)) (X : Hid (VB 22 k b true)) (O : Hid (Str1 17 k Z)) (f1 : (a.toList == Z.toList) = false) (f2 : (a.toList != Z.toList) = true) (Y : Hid (VB 22 k a true)) (D : Hid (DivCalls k a b C M)) (w : World) :
    Calls Tryz.prog 9 #[.int .i64 k, .string a, .string b] w (LawPost w) := by
  go_enter Tryz.func9, Tryz.ntmps9
  go_wp2_with fail
  refine (X.out _).mono ?_
  rintro e w1 ⟨rfl, hg⟩
  have G1 := Lib.hid (hg)
  clear hg
  go_wp2_with fail
  refine (O.out _).mono ?_
  rintro e w2 ⟨rfl, hg⟩
  have G2 := Lib.hid (grown_trans G1.out (grown_none hg (r := none)))
  clear hg G1
  go_wp2_with fail
  refine (Y.out _).mono ?_
  rintro e w3 ⟨rfl, hg⟩
  have G3 := Lib.hid (grown_trans G2.out (grown_none hg (r := none)))
  clear hg G2
  go_wp2_with fail
  refine (D.out.o _).mono ?_
  rintro e w4 ⟨rfl, hg⟩
  have G4 := Lib.hid (grown_trans G3.out (grown_none hg (r := none)))
  clear hg G3
  go_wp2_with fail
  refine (D.out.t _).mono ?_
  rintro e w5 ⟨rfl, hg⟩
  have G5 := Lib.hid (grown_trans G4.out (grown_none hg (r := none)))
  clear hg G4
  go_wp2_with fail
  refine (D.out.m _).mono ?_
  rintro e w6 ⟨rfl, hg⟩
  have G6 := Lib.hid (grown_trans G5.out (grown_none hg (r := none)))
  clear hg G5
  go_wp2_with fail
  refine (D.out.n _).mono ?_
  rintro e w7 ⟨rfl, hg⟩
  have G7 := Lib.hid (grown_trans G6.out (grown_none hg (r := none)))
  clear hg G6
  go_wp2_with fail
  refine (awake_any _).mono ?_
  rintro e w8 ⟨rfl, hg⟩
  have G8 := Lib.hid (grown_trans G7.out (grown_none hg (r := none)))
  clear hg G7
  go_wp2
  go_ret
  exact ⟨rfl, G8.out⟩
theorem div_calls {k : Int} {a b : ByteArray} {u v : Ext} (ha : IsE a u) (hu : u = topOf k ∨ wgtE k u = true) (hb : Wgt k b v) (h1 : a.size ≤ 100) (h2 : b.size ≤ 100) :
    ∃ C M, DivCalls k a b C M := by
  have kk := hb.val.kind
  have w1 : WideE 100 u := wideE_text ha (by omega) (by omega)
  have w2 : WideE 100 v := wideE_text hb.e (by omega) (by omega)
  have hv0 : ∀ y, v = .inr y → k = 1 ∨ y.num ≠ 0 := fun y e => by
    obtain ⟨z, e2, hz⟩ := wgt_pos hb.has
    rw [e] at e2
    cases e2
    rcases hz with hz | hz
    · exact .inl hz
    · exact .inr (pos_num hz)
  have f3 := (wideE_over k hv0 w1 w2).fits (by omega)
  have f4 := (wideE_times k (by omega) w2 w1).fits (by omega)
  have hu2 : hasE k u = true := by
    rcases hu with h | h
    · rw [h]; exact has_topOf kk
    · exact wgt_has h
  have fa : Fits u := w1.fits (by omega)
  refine ⟨extT (overE k u v), extT (timesE k v u), ?_, ?_, ?_, ?_⟩
  · have := sover_val ha hu hb
    rw [extV_fits f3] at this
    exact this
  · have := stimes_val hb.val ⟨extT_is f3, has_over kk hu hb.has⟩
    rw [times_over kk hu hb.has, extV_is ha] at this
    exact this
  · have := stimes_val hb.val ⟨ha, hu2⟩
    rw [extV_fits f4] at this
    exact this
  · have := sover_val (extT_is f4) (over_ok kk hu hb.has) hb
    rw [over_times kk hu hb.has, extV_is ha] at this
    exact this
theorem divides_any (k : Int) (a b : ByteArray) (w : World) (ha : a.size ≤ maxLen) (hb : b.size ≤ maxLen) : Calls Tryz.prog 9 #[.int .i64 k, .string a, .string b] w (LawPost w) := by
  by_cases h1 : (100 : Int) < (a.size : Int)
  · exact div_long1 k a b h1 ha hb w
  by_cases h2 : (100 : Int) < (b.size : Int)
  · exact div_long2 k a b h1 h2 ha hb w
  rcases wgt_or k b with ⟨v, hv⟩ | hn
  case inr => exact div_no k a b h1 h2 (Lib.hid (sweight_no hn hb)) w
  have kk := hv.val.kind
  have O : Str1 17 k (zeroT k) := fun w => szero_any k w
  rcases zt_facts k a with ⟨f1, f2, f3⟩ | ⟨f1, f2, f3⟩
  · obtain ⟨C, M, D⟩ := div_calls (k := k) (a := a) (u := topOf k) (by rw [f3]; exact zeroT_is kk) (.inl rfl) hv (by omega) (by omega)
    exact div_zero_ok k a b _ C M h1 h2 (Lib.hid (sweight_yes hv)) (Lib.hid O) f1 f2 (Lib.hid D) w
  · rcases wgt_or k a with ⟨u, hu⟩ | hm
    · obtain ⟨C, M, D⟩ := div_calls hu.e (.inr hu.has) hv (by omega) (by omega)
      exact div_wgt_ok k a b _ C M h1 h2 (Lib.hid (sweight_yes hv)) (Lib.hid O) f1 f2 (Lib.hid (sweight_yes hu)) (Lib.hid D) w
    · exact div_no2 k a b _ h1 h2 (Lib.hid (sweight_yes hv)) (Lib.hid O) f1 f2 (Lib.hid (sweight_no hm ha)) w
end Go.Proofs.YtkekljjjomnalaaGreatDoor
