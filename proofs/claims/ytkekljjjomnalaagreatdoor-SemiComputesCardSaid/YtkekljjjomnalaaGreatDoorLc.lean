/- SemiComputes: every input. -/
import Derived.Test.YtkekljjjomnalaaGreatDoorLv
set_option linter.unusedVariables false
set_option linter.unusedSimpArgs false
namespace Go.Proofs.YtkekljjjomnalaaGreatDoor
open Go.RowKit
open Go.Lib (nDigits decDigits)

set_option maxRecDepth 100000 in
set_option maxHeartbeats 4000000 in
theorem computes_large (k : Int) (a b : ByteArray) (LG : Hid (LargeIs2 a b true)) (w : World) : Calls Tryz.prog 5 #[.int .i64 k, .string a, .string b] w (LawPost w) := by
  go_enter Tryz.func5, Tryz.ntmps5
  go_wp2_with fail
  refine (LG.out _).mono ?_
  rintro e w0 ⟨rfl, hw0⟩
  have G0 := Lib.hid (show w.grownBy w0 none from hw0 ▸ World.grownBy_alloc _ _ none)
  clear hw0
  go_wp2_with fail
  refine (awake_any _).mono ?_
  rintro e w1 ⟨rfl, hg⟩
  have G1 := Lib.hid (grown_trans G0.out hg)
  clear hg G0
  go_wp2
  go_ret
  exact ⟨rfl, G1.out⟩
structure ComputeCalls (k : Int) (a b P T S O : ByteArray) (E F G H B : Int) : Prop where
  p1 : SOp 13 k a b (.tuple #[.string P, .int .i64 E])
  p2 : SOp 26 k a b (.tuple #[.string P, .int .i64 E])
  t1 : SOp 10 k a b (.tuple #[.string T, .int .i64 F])
  t2 : SOp 27 k a b (.tuple #[.string T, .int .i64 F])
  s1 : SOp1 11 k a (.tuple #[.string S, .int .i64 G])
  s2 : SOp1 28 k a (.tuple #[.string S, .int .i64 G])
  o1 : SOp 12 k a b (.tuple #[.string O, .int .i64 H])
  o2 : SOp 29 k a b (.tuple #[.string O, .int .i64 H])
  b1 : SOp 15 k a b (.int .i64 B)
  b2 : SOp 30 k a b (.int .i64 B)
set_option maxRecDepth 100000 in
set_option maxHeartbeats 4000000 in
theorem computes_yes (k : Int) (a b P T S O : ByteArray) (E F G H B : Int) (LG : Hid (LargeIs2 a b false)) (C : Hid (ComputeCalls k a b P T S O E F G H B)) (w : World) : Calls Tryz.prog 5 #[.int .i64 k, .string a, .string b] w (LawPost w) := by
  go_enter Tryz.func5, Tryz.ntmps5
  go_wp2_with fail
  refine (LG.out _).mono ?_
  rintro e w0 ⟨rfl, hw0⟩
  have G0 := Lib.hid (show w.grownBy w0 none from hw0 ▸ World.grownBy_alloc _ _ none)
  clear hw0
  go_wp2_with fail
  refine (C.out.p1 _).mono ?_
  rintro e w1 ⟨rfl, hg⟩
  have G1 := Lib.hid (grown_trans G0.out hg)
  clear hg G0
  go_wp2_with fail
  refine (C.out.p2 _).mono ?_
  rintro e w2 ⟨rfl, hg⟩
  have G2 := Lib.hid (grown_trans G1.out hg)
  clear hg G1
  go_wp2_with fail
  refine (C.out.t1 _).mono ?_
  rintro e w3 ⟨rfl, hg⟩
  have G3 := Lib.hid (grown_trans G2.out hg)
  clear hg G2
  go_wp2_with fail
  refine (C.out.t2 _).mono ?_
  rintro e w4 ⟨rfl, hg⟩
  have G4 := Lib.hid (grown_trans G3.out hg)
  clear hg G3
  go_wp2_with fail
  refine (C.out.s1 _).mono ?_
  rintro e w5 ⟨rfl, hg⟩
  have G5 := Lib.hid (grown_trans G4.out hg)
  clear hg G4
  go_wp2_with fail
  refine (C.out.s2 _).mono ?_
  rintro e w6 ⟨rfl, hg⟩
  have G6 := Lib.hid (grown_trans G5.out hg)
  clear hg G5
  go_wp2_with fail
  refine (C.out.o1 _).mono ?_
  rintro e w7 ⟨rfl, hg⟩
  have G7 := Lib.hid (grown_trans G6.out hg)
  clear hg G6
  go_wp2_with fail
  refine (C.out.o2 _).mono ?_
  rintro e w8 ⟨rfl, hg⟩
  have G8 := Lib.hid (grown_trans G7.out hg)
  clear hg G7
  go_wp2_with fail
  refine (C.out.b1 _).mono ?_
  rintro e w9 ⟨rfl, hg⟩
  have G9 := Lib.hid (grown_trans G8.out hg)
  clear hg G8
  go_wp2_with fail
  refine (C.out.b2 _).mono ?_
  rintro e w10 ⟨rfl, hg⟩
  have G10 := Lib.hid (grown_trans G9.out hg)
  clear hg G9
  go_wp2_with fail
  refine (awake_any _).mono ?_
  rintro e w11 ⟨rfl, hg⟩
  have G11 := Lib.hid (grown_trans G10.out hg)
  clear hg G10
  go_wp2
  go_ret
  exact ⟨rfl, G11.out⟩
theorem plus_both (k : Int) (a b : ByteArray) (ha : a.size ≤ maxLen) (hb : b.size ≤ maxLen) : ∃ P E, SOp 13 k a b (.tuple #[.string P, .int .i64 E]) ∧ SOp 26 k a b (.tuple #[.string P, .int .i64 E]) := by
  rcases val_or k a with ⟨u, hu⟩ | hn
  case inr => exact ⟨_, _, splus_bad ha hb (.inl hn), rplus_bad ha hb (.inl hn)⟩
  rcases val_or k b with ⟨v, hv⟩ | hn
  case inr => exact ⟨_, _, splus_bad ha hb (.inr hn), rplus_bad ha hb (.inr hn)⟩
  obtain ⟨S, E, e⟩ := extV_form (plusE k u v)
  have h1 := splus_val hu hv
  have h2 := rplus_val hu hv
  rw [e] at h1 h2
  exact ⟨S, E, h1, h2⟩
theorem times_both (k : Int) (a b : ByteArray) (ha : a.size ≤ maxLen) (hb : b.size ≤ maxLen) : ∃ P E, SOp 10 k a b (.tuple #[.string P, .int .i64 E]) ∧ SOp 27 k a b (.tuple #[.string P, .int .i64 E]) := by
  rcases val_or k a with ⟨u, hu⟩ | hn
  case inr => exact ⟨_, _, stimes_bad ha hb (.inl hn), rtimes_bad ha hb (.inl hn)⟩
  rcases val_or k b with ⟨v, hv⟩ | hn
  case inr => exact ⟨_, _, stimes_bad ha hb (.inr hn), rtimes_bad ha hb (.inr hn)⟩
  obtain ⟨S, E, e⟩ := extV_form (timesE k u v)
  have h1 := stimes_val hu hv
  have h2 := rtimes_val hu hv
  rw [e] at h1 h2
  exact ⟨S, E, h1, h2⟩
theorem star_both (k : Int) (a : ByteArray) (ha : a.size ≤ maxLen) : ∃ P E, SOp1 11 k a (.tuple #[.string P, .int .i64 E]) ∧ SOp1 28 k a (.tuple #[.string P, .int .i64 E]) := by
  rcases val_or k a with ⟨u, hu⟩ | hn
  case inr => exact ⟨_, _, sstar_no ha hn, rstar_no ha hn⟩
  obtain ⟨S, E, e⟩ := extV_form (starE k u)
  have h1 := sstar_val hu
  have h2 := rstar_val hu
  rw [e] at h1 h2
  exact ⟨S, E, h1, h2⟩
theorem better_both (k : Int) (a b : ByteArray) (ha : a.size ≤ maxLen) (hb : b.size ≤ maxLen) : ∃ B, SOp 15 k a b (.int .i64 B) ∧ SOp 30 k a b (.int .i64 B) := by
  rcases val_or k a with ⟨u, hu⟩ | hn
  case inr => exact ⟨_, sbetter_bad ha hb (.inl hn), rb_bad ha hb (.inl hn)⟩
  rcases val_or k b with ⟨v, hv⟩ | hn
  case inr => exact ⟨_, sbetter_bad ha hb (.inr hn), rb_bad ha hb (.inr hn)⟩
  exact ⟨_, sbetter_val hu hv, rb_val hu hv⟩
theorem over_both (k : Int) (a b : ByteArray) (ha : a.size ≤ maxLen) (hb : b.size ≤ maxLen) : ∃ P E, SOp 12 k a b (.tuple #[.string P, .int .i64 E]) ∧ SOp 29 k a b (.tuple #[.string P, .int .i64 E]) := by
  rcases wgt_or k b with ⟨v, hv⟩ | hn
  case inr => exact ⟨_, _, sover_bad ha hb (.inr hn), rover_bad ha hb (.inr hn)⟩
  have kk := hv.val.kind
  have main : ∀ u, IsE a u → (u = topOf k ∨ wgtE k u = true) → ∃ P E, SOp 12 k a b (.tuple #[.string P, .int .i64 E]) ∧ SOp 29 k a b (.tuple #[.string P, .int .i64 E]) := fun u hu h => by
    obtain ⟨S, E, e⟩ := extV_form (overE k u v)
    have h1 := sover_val hu h hv
    have h2 := rover_val hu h hv
    rw [e] at h1 h2
    exact ⟨S, E, h1, h2⟩
  rcases wgt_or k a with ⟨u, hu⟩ | hm
  · exact main u hu.e (.inr hu.has)
  by_cases h0 : a = zeroT k
  · exact main (topOf k) (by rw [h0]; exact zeroT_is kk) (.inl rfl)
  · exact ⟨_, _, sover_bad ha hb (.inl ⟨h0, hm⟩), rover_bad ha hb (.inl ⟨h0, hm⟩)⟩
theorem computes_any (k : Int) (a b : ByteArray) (w : World) (ha : a.size ≤ maxLen) (hb : b.size ≤ maxLen) : Calls Tryz.prog 5 #[.int .i64 k, .string a, .string b] w (LawPost w) := by
  have LG := largeIs2 a b ha hb
  cases hl : largeB [a, b]
  case true => rw [hl] at LG; exact computes_large k a b (Lib.hid LG) w
  rw [hl] at LG
  obtain ⟨P, E, p1, p2⟩ := plus_both k a b ha hb
  obtain ⟨T, F, t1, t2⟩ := times_both k a b ha hb
  obtain ⟨S, G, s1, s2⟩ := star_both k a ha
  obtain ⟨O, H, o1, o2⟩ := over_both k a b ha hb
  obtain ⟨B, b1, b2⟩ := better_both k a b ha hb
  exact computes_yes k a b P T S O E F G H B (Lib.hid LG) (Lib.hid ⟨p1, p2, t1, t2, s1, s2, o1, o2, b1, b2⟩) w
end Go.Proofs.YtkekljjjomnalaaGreatDoor
