/- SemiStars: every input. -/
import Derived.Test.YtkekljjjomnalaaGreatDoorLz
import Derived.Test.YtkekljjjomnalaaGreatDoorPl
set_option linter.unusedVariables false
set_option linter.unusedSimpArgs false
namespace Go.Proofs.YtkekljjjomnalaaGreatDoor
open Go.RowKit
open Go.Lib (nDigits decDigits)

set_option maxRecDepth 100000 in
set_option maxHeartbeats 4000000 in
theorem stars_long (k : Int) (a : ByteArray) (h : (100 : Int) < (a.size : Int)) (hs : a.size ≤ maxLen) (w : World) :
    Calls Tryz.prog 7 #[.int .i64 k, .string a] w (LawPost w) := by
  unfold maxLen at hs
  go_enter Tryz.func7, Tryz.ntmps7
  go_wp2_with fail
  refine (awake_any _).mono ?_
  rintro e w1 ⟨rfl, hg⟩
  have G1 := Lib.hid (hg)
  clear hg
  go_wp2
  go_ret
  exact ⟨rfl, G1.out⟩
set_option maxRecDepth 100000 in
set_option maxHeartbeats 4000000 in
theorem stars_no (k : Int) (a : ByteArray) (h : ¬ (100 : Int) < (a.size : Int)) (V : Hid (VB 16 k a false)) (w : World) :
    Calls Tryz.prog 7 #[.int .i64 k, .string a] w (LawPost w) := by
  go_enter Tryz.func7, Tryz.ntmps7
  go_wp2_with fail
  refine (V.out _).mono ?_
  rintro e w1 ⟨rfl, hg⟩
  have G1 := Lib.hid (hg)
  clear hg
  go_wp2_with fail
  refine (awake_any _).mono ?_
  rintro e w2 ⟨rfl, hg⟩
  have G2 := Lib.hid (grown_trans G1.out (grown_none hg (r := none)))
  clear hg G1
  go_wp2
  go_ret
  exact ⟨rfl, G2.out⟩
structure StarCalls (k : Int) (a S T O : ByteArray) : Prop where
  v : VB 16 k a true
  s : SOp1 11 k a (.tuple #[.string S, .int .i64 0])
  t : SOp 10 k a S (.tuple #[.string T, .int .i64 0])
  o : Str1 18 k O
  p : SOp 13 k O T (.tuple #[.string S, .int .i64 0])
set_option maxRecDepth 100000 in
set_option maxHeartbeats 4000000 in
theorem stars_yes (k : Int) (a S T O : ByteArray) (h : ¬ (100 : Int) < (a.size : Int)) (C : Hid (StarCalls k a S T O)) (w : World) :
    Calls Tryz.prog 7 #[.int .i64 k, .string a] w (LawPost w) := by
  go_enter Tryz.func7, Tryz.ntmps7
  go_wp2_with fail
  refine (C.out.v _).mono ?_
  rintro e w1 ⟨rfl, hg⟩
  have G1 := Lib.hid (hg)
  clear hg
  go_wp2_with fail
  refine (C.out.s _).mono ?_
  rintro e w2 ⟨rfl, hg⟩
  have G2 := Lib.hid (grown_trans G1.out (grown_none hg (r := none)))
  clear hg G1
  go_wp2_with fail
  refine (C.out.t _).mono ?_
  rintro e w3 ⟨rfl, hg⟩
  have G3 := Lib.hid (grown_trans G2.out (grown_none hg (r := none)))
  clear hg G2
  go_wp2_with fail
  refine (C.out.o _).mono ?_
  rintro e w4 ⟨rfl, hg⟩
  have G4 := Lib.hid (grown_trans G3.out (grown_none hg (r := none)))
  clear hg G3
  go_wp2_with fail
  refine (C.out.p _).mono ?_
  rintro e w5 ⟨rfl, hg⟩
  have G5 := Lib.hid (grown_trans G4.out (grown_none hg (r := none)))
  clear hg G4
  go_wp2_with fail
  refine (awake_any _).mono ?_
  rintro e w6 ⟨rfl, hg⟩
  have G6 := Lib.hid (grown_trans G5.out (grown_none hg (r := none)))
  clear hg G5
  go_wp2
  go_ret
  exact ⟨rfl, G6.out⟩
theorem plus_fits {k : Int} {a b : ByteArray} {u v t : Ext} (ha : Val k a u) (hb : Val k b v) (e : plusE k u v = t) (f : Fits t) : SOp 13 k a b (.tuple #[.string (extT t), .int .i64 0]) := by
  have h := splus_val ha hb
  rw [e, extV_fits f] at h
  exact h
theorem times_fits {k : Int} {a b : ByteArray} {u v t : Ext} (ha : Val k a u) (hb : Val k b v) (e : timesE k u v = t) (f : Fits t) : SOp 10 k a b (.tuple #[.string (extT t), .int .i64 0]) := by
  have h := stimes_val ha hb
  rw [e, extV_fits f] at h
  exact h
theorem val_fits {k : Int} {v : Ext} (f : Fits v) (h : hasE k v = true) : Val k (extT v) v := ⟨extT_is f, h⟩
theorem stars_any (k : Int) (a : ByteArray) (w : World) (ha : a.size ≤ maxLen) : Calls Tryz.prog 7 #[.int .i64 k, .string a] w (LawPost w) := by
  by_cases h : (100 : Int) < (a.size : Int)
  · exact stars_long k a h ha w
  rcases val_or k a with ⟨v, hv⟩ | hn
  · have kk := hv.kind
    have w1 : WideE 100 v := wideE_text hv.e (by omega) (by omega)
    have w2 := wideE_star k (by omega) w1
    have w3 := wideE_times k (by omega) w1 w2
    have f2 := w2.fits (by omega)
    have f3 := w3.fits (by omega)
    have s2 := val_fits f2 (has_star kk v hv.has)
    have s3 := val_fits f3 (has_times kk hv.has (has_star kk v hv.has))
    refine stars_yes k a (extT (starE k v)) (extT (timesE k v (starE k v))) (oneT k) h (Lib.hid ⟨svalid_yes hv, ?_, times_fits hv s2 rfl f3, fun w => sone_any k w, ?_⟩) w
    · have := sstar_val hv
      rw [extV_fits f2] at this
      exact this
    · exact plus_fits ⟨oneT_is kk, has_unit kk⟩ s3 (star_law kk v hv.has) f2
  · exact stars_no k a h (Lib.hid (svalid_no hn ha)) w
end Go.Proofs.YtkekljjjomnalaaGreatDoor
