/- SemiLaws: every input. -/
import Derived.Test.YtkekljjjomnalaaGreatDoorLf
set_option linter.unusedVariables false
set_option linter.unusedSimpArgs false
namespace Go.Proofs.YtkekljjjomnalaaGreatDoor
open Go.RowKit
open Go.Lib (nDigits decDigits)

structure LawCalls (k : Int) (a b c AB BC L M O R D Y Z U : ByteArray) : Prop where
  c1 : HOp 32 k a b AB
  c2 : HOp 32 k b a AB
  c3 : HOp 32 k b c BC
  c4 : HOp 32 k AB c L
  c5 : HOp 32 k a BC L
  c6 : HOp 33 k a b M
  c7 : HOp 33 k b a M
  c8 : HOp 33 k b c O
  c9 : HOp 33 k M c R
  c10 : HOp 33 k a O R
  c11 : HOp 33 k a BC D
  c12 : HOp 33 k a c Y
  c13 : HOp 32 k M Y D
  c14 : Str1 17 k Z
  c15 : HOp 32 k a Z a
  c16 : Str1 18 k U
  c17 : HOp 33 k a U a
  c18 : HOp 33 k a Z Z
set_option maxRecDepth 100000 in
set_option maxHeartbeats 4000000 in
theorem laws_no (k : Int) (a b c : ByteArray) (F : Hid (FitIs k a b c false)) (w : World) : Calls Tryz.prog 6 #[.int .i64 k, .agg #[.string a, .string b, .string c]] w (LawPost w) := by
  go_enter Tryz.func6, Tryz.ntmps6
  go_wp2_with fail
  refine (F.out _).mono ?_
  rintro e w1 ⟨rfl, hg⟩
  have ht := three (alloc_old hg)
  have G1 := Lib.hid (grown_trans (World.grownBy_alloc _ _ none) hg)
  clear hg
  go_wp2_with fail
  refine (awake_any _).mono ?_
  rintro e w2 ⟨rfl, hg⟩
  have G2 := Lib.hid (grown_trans G1.out hg)
  clear hg
  go_wp2
  go_ret
  exact ⟨rfl, G2.out⟩
set_option maxRecDepth 100000 in
set_option maxHeartbeats 4000000 in
theorem laws_yes (k : Int) (a b c AB BC L M O R D Y Z U : ByteArray) (F : Hid (FitIs k a b c true)) (C : Hid (LawCalls k a b c AB BC L M O R D Y Z U)) (w : World) : Calls Tryz.prog 6 #[.int .i64 k, .agg #[.string a, .string b, .string c]] w (LawPost w) := by
  have hne : ∀ s : List UInt8, (s != s) = false := fun s => by simp
  go_enter Tryz.func6, Tryz.ntmps6
  go_wp2_with fail
  refine (F.out _).mono ?_
  rintro e w1 ⟨rfl, hg⟩
  have ht := three (alloc_old hg)
  have G1 := Lib.hid (grown_trans (World.grownBy_alloc _ _ none) hg)
  clear hg
  go_wp2_with fail
  go_quiet (fail)
  clear ht
  go_wp2_with fail
  refine (C.out.c1 _).mono ?_
  rintro e w2 ⟨rfl, hg⟩
  have G2 := Lib.hid (grown_trans G1.out (grown_trans (grown_drewN _ _ _) hg))
  clear hg G1
  go_wp2_with fail
  refine (C.out.c2 _).mono ?_
  rintro e w3 ⟨rfl, hg⟩
  have G3 := Lib.hid (grown_trans G2.out hg)
  clear hg G2
  go_wp2_with fail
  refine (C.out.c3 _).mono ?_
  rintro e w4 ⟨rfl, hg⟩
  have G4 := Lib.hid (grown_trans G3.out hg)
  clear hg G3
  go_wp2_with fail
  refine (C.out.c4 _).mono ?_
  rintro e w5 ⟨rfl, hg⟩
  have G5 := Lib.hid (grown_trans G4.out hg)
  clear hg G4
  go_wp2_with fail
  refine (C.out.c5 _).mono ?_
  rintro e w6 ⟨rfl, hg⟩
  have G6 := Lib.hid (grown_trans G5.out hg)
  clear hg G5
  go_wp2_with fail
  refine (C.out.c6 _).mono ?_
  rintro e w7 ⟨rfl, hg⟩
  have G7 := Lib.hid (grown_trans G6.out hg)
  clear hg G6
  go_wp2_with fail
  refine (C.out.c7 _).mono ?_
  rintro e w8 ⟨rfl, hg⟩
  have G8 := Lib.hid (grown_trans G7.out hg)
  clear hg G7
  go_wp2_with fail
  refine (C.out.c8 _).mono ?_
  rintro e w9 ⟨rfl, hg⟩
  have G9 := Lib.hid (grown_trans G8.out hg)
  clear hg G8
  go_wp2_with fail
  refine (C.out.c9 _).mono ?_
  rintro e w10 ⟨rfl, hg⟩
  have G10 := Lib.hid (grown_trans G9.out hg)
  clear hg G9
  go_wp2_with fail
  refine (C.out.c10 _).mono ?_
  rintro e w11 ⟨rfl, hg⟩
  have G11 := Lib.hid (grown_trans G10.out hg)
  clear hg G10
  go_wp2_with fail
  refine (C.out.c11 _).mono ?_
  rintro e w12 ⟨rfl, hg⟩
  have G12 := Lib.hid (grown_trans G11.out hg)
  clear hg G11
  go_wp2_with fail
  refine (C.out.c12 _).mono ?_
  rintro e w13 ⟨rfl, hg⟩
  have G13 := Lib.hid (grown_trans G12.out hg)
  clear hg G12
  go_wp2_with fail
  refine (C.out.c13 _).mono ?_
  rintro e w14 ⟨rfl, hg⟩
  have G14 := Lib.hid (grown_trans G13.out hg)
  clear hg G13
  go_wp2_with fail
  refine (C.out.c14 _).mono ?_
  rintro e w15 ⟨rfl, hg⟩
  have G15 := Lib.hid (grown_trans G14.out hg)
  clear hg G14
  go_wp2_with fail
  refine (C.out.c15 _).mono ?_
  rintro e w16 ⟨rfl, hg⟩
  have G16 := Lib.hid (grown_trans G15.out hg)
  clear hg G15
  go_wp2_with fail
  refine (C.out.c16 _).mono ?_
  rintro e w17 ⟨rfl, hg⟩
  have G17 := Lib.hid (grown_trans G16.out hg)
  clear hg G16
  go_wp2_with fail
  refine (C.out.c17 _).mono ?_
  rintro e w18 ⟨rfl, hg⟩
  have G18 := Lib.hid (grown_trans G17.out hg)
  clear hg G17
  go_wp2_with fail
  refine (C.out.c14 _).mono ?_
  rintro e w19 ⟨rfl, hg⟩
  have G19 := Lib.hid (grown_trans G18.out hg)
  clear hg G18
  go_wp2_with fail
  refine (C.out.c18 _).mono ?_
  rintro e w20 ⟨rfl, hg⟩
  have G20 := Lib.hid (grown_trans G19.out hg)
  clear hg G19
  go_wp2_with fail
  refine (C.out.c14 _).mono ?_
  rintro e w21 ⟨rfl, hg⟩
  have G21 := Lib.hid (grown_trans G20.out hg)
  clear hg G20
  go_wp2_with fail
  refine (awake_any _).mono ?_
  rintro e w22 ⟨rfl, hg⟩
  have G22 := Lib.hid (grown_trans G21.out hg)
  clear hg G21
  go_wp2
  go_ret
  exact ⟨rfl, G22.out⟩
theorem law_calls {k : Int} {a b c : ByteArray} {u v t : Ext} (h : Three k a b c u v t) : ∃ AB BC L M O R D Y Z U, LawCalls k a b c AB BC L M O R D Y Z U := by
  have kk := h.va.kind
  have wu : WideE 100 u := wideE_text h.va.e h.ka (by omega)
  have wv : WideE 100 v := wideE_text h.vb.e h.kb (by omega)
  have wt : WideE 100 t := wideE_text h.vc.e h.kc (by omega)
  have hu := h.va.has; have hv := h.vb.has; have ht := h.vc.has
  have w1 := wideE_plus k wu wv
  have w2 := wideE_plus k wv wt
  have w3 := wideE_plus k w1 wt
  have w4 := wideE_times k (by omega) wu wv
  have w5 := wideE_times k (by omega) wv wt
  have w6 := wideE_times k (by omega) w4 wt
  have w7 := wideE_times k (by omega) wu w2
  have w8 := wideE_times k (by omega) wu wt
  have h1 := has_plus kk hu hv
  have h2 := has_plus kk hv ht
  have h4 := has_times kk hu hv
  have h5 := has_times kk hv ht
  have h8 := has_times kk hu ht
  have f1 := val_fits' (w1.fits (by omega)) h1
  have f2 := val_fits' (w2.fits (by omega)) h2
  have f3 := extT_is (w3.fits (by omega))
  have f4 := val_fits' (w4.fits (by omega)) h4
  have f5 := val_fits' (w5.fits (by omega)) h5
  have f6 := extT_is (w6.fits (by omega))
  have f7 := extT_is (w7.fits (by omega))
  have f8 := val_fits' (w8.fits (by omega)) h8
  have vz : Val k (zeroT k) (topOf k) := ⟨zeroT_is kk, has_topOf kk⟩
  have vo : Val k (oneT k) (unitOf k) := ⟨oneT_is kk, has_unit kk⟩
  refine ⟨extT (plusE k u v), extT (plusE k v t), extT (plusE k (plusE k u v) t), extT (timesE k u v), extT (timesE k v t), extT (timesE k (timesE k u v) t), extT (timesE k u (plusE k v t)), extT (timesE k u t), zeroT k, oneT k, ?_⟩
  exact {
    c1 := law_plus k _ _ _ (Lib.hid (plus_fits' h.va h.vb rfl f1.e))
    c2 := law_plus k _ _ _ (Lib.hid (plus_fits' h.vb h.va (plus_comm kk hv hu) f1.e))
    c3 := law_plus k _ _ _ (Lib.hid (plus_fits' h.vb h.vc rfl f2.e))
    c4 := law_plus k _ _ _ (Lib.hid (plus_fits' f1 h.vc rfl f3))
    c5 := law_plus k _ _ _ (Lib.hid (plus_fits' h.va f2 (plus_assoc kk hu hv ht).symm f3))
    c6 := law_times k _ _ _ (Lib.hid (times_fits' h.va h.vb rfl f4.e))
    c7 := law_times k _ _ _ (Lib.hid (times_fits' h.vb h.va (times_comm kk hv hu) f4.e))
    c8 := law_times k _ _ _ (Lib.hid (times_fits' h.vb h.vc rfl f5.e))
    c9 := law_times k _ _ _ (Lib.hid (times_fits' f4 h.vc rfl f6))
    c10 := law_times k _ _ _ (Lib.hid (times_fits' h.va f5 (times_assoc kk hu hv ht).symm f6))
    c11 := law_times k _ _ _ (Lib.hid (times_fits' h.va f2 rfl f7))
    c12 := law_times k _ _ _ (Lib.hid (times_fits' h.va h.vc rfl f8.e))
    c13 := law_plus k _ _ _ (Lib.hid (plus_fits' f4 f8 (times_plus kk hu hv ht).symm f7))
    c14 := fun w => szero_any k w
    c15 := law_plus k _ _ _ (Lib.hid (plus_fits' h.va vz (plus_zero kk hu) h.va.e))
    c16 := fun w => sone_any k w
    c17 := law_times k _ _ _ (Lib.hid (times_fits' h.va vo (times_one kk hu) h.va.e))
    c18 := law_times k _ _ _ (Lib.hid (times_fits' h.va vz (times_zero kk u) vz.e)) }
theorem laws_any (k : Int) (a b c : ByteArray) (w : World) (ha : a.size ≤ maxLen) (hb : b.size ≤ maxLen) (hc : c.size ≤ maxLen) : Calls Tryz.prog 6 #[.int .i64 k, .agg #[.string a, .string b, .string c]] w (LawPost w) := by
  rcases fit_any k a b c ha hb hc with F | ⟨F, u, v, t, h⟩
  · exact laws_no k a b c (Lib.hid F) w
  · obtain ⟨AB, BC, L, M, O, R, D, Y, Z, U, C⟩ := law_calls h
    exact laws_yes k a b c AB BC L M O R D Y Z U (Lib.hid F) (Lib.hid C) w
end Go.Proofs.YtkekljjjomnalaaGreatDoor
