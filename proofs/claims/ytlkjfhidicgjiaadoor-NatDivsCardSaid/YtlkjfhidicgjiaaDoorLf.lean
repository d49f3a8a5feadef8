/- The walk of NatDivs. -/
import Derived.Test.YtlkjfhidicgjiaaDoorYj
import Derived.Test.YtlkjfhidicgjiaaDoorLa
set_option linter.unusedVariables false
set_option linter.unusedSimpArgs false
namespace Go.Proofs.YtlkjfhidicgjiaaDoor
open Go.RowKit
open Go.Lib (nDigits decDigits)

theorem divV_form (a b : ByteArray) : ∃ Q R E, divV a b = .tuple #[.string Q, .string R, .int .i64 E] := by
  unfold divV
  split
  · split
    · exact ⟨_, _, _, rfl⟩
    · exact ⟨_, _, _, rfl⟩
  · exact ⟨_, _, _, rfl⟩
theorem gcdV_form (a b : ByteArray) : ∃ S E, gcdV a b = .tuple #[.string S, .int .i64 E] := by
  unfold gcdV badV
  split
  · exact ⟨_, _, rfl⟩
  · exact ⟨_, _, rfl⟩

set_option maxRecDepth 100000 in
set_option maxHeartbeats 4000000 in
theorem divs_long_a (a b : ByteArray) (w : World) (X : Hid ExOk) (VA : Hid (LongIs a true)) :
    Calls Tryd.prog 6 #[.string a, .string b] w (LawPost w) := by
  go_enter Tryd.func6, Tryd.ntmps6
  go_wp2_with fail
  refine (VA.out _).mono ?_
  rintro e w' ⟨rfl, rfl⟩
  go_wp2_with fail
  refine (X.out _).mono ?_
  rintro e w1 ⟨rfl, hg⟩
  have G1 := Lib.hid hg
  clear hg
  go_wp2
  go_ret
  exact ⟨rfl, G1.out⟩

set_option maxRecDepth 100000 in
set_option maxHeartbeats 4000000 in
theorem divs_long_b (a b : ByteArray) (w : World) (X : Hid ExOk) (VA : Hid (LongIs a false)) (VB : Hid (LongIs b true)) :
    Calls Tryd.prog 6 #[.string a, .string b] w (LawPost w) := by
  go_enter Tryd.func6, Tryd.ntmps6
  go_wp2_with fail
  refine (VA.out _).mono ?_
  rintro e w' ⟨rfl, rfl⟩
  go_wp2_with fail
  refine (VB.out _).mono ?_
  rintro e w' ⟨rfl, rfl⟩
  go_wp2_with fail
  refine (X.out _).mono ?_
  rintro e w1 ⟨rfl, hg⟩
  have G1 := Lib.hid hg
  clear hg
  go_wp2
  go_ret
  exact ⟨rfl, G1.out⟩

set_option maxRecDepth 100000 in
set_option maxHeartbeats 4000000 in
theorem divs_sixty_a (a b : ByteArray) (w : World) (X : Hid ExOk) (VA : Hid (LongIs a false)) (VB : Hid (LongIs b false)) (ha : a.size ≤ maxLen) (hb : b.size ≤ maxLen) (h : (60 : Int) < (a.size : Int)) (hz : (a.size : Int) ≤ 9223372036854775807) :
    Calls Tryd.prog 6 #[.string a, .string b] w (LawPost w) := by
  obtain ⟨Q, R, E, h0⟩ := divV_form a b
  have p0 := fun w => div_any a b w ha hb
  have r0 := fun w => rdiv_any a b w ha hb
  rw [h0] at p0 r0
  have P0 := Lib.hid p0; have R0 := Lib.hid r0
  clear p0 r0 h0
  clear ha hb
  go_enter Tryd.func6, Tryd.ntmps6
  go_wp2_with fail
  refine (VA.out _).mono ?_
  rintro e w' ⟨rfl, rfl⟩
  go_wp2_with fail
  refine (VB.out _).mono ?_
  rintro e w' ⟨rfl, rfl⟩
  go_wp2_with fail
  refine (P0.out _).mono ?_
  rintro e w1 ⟨rfl, hg⟩
  have G1 := Lib.hid hg
  clear hg
  go_wp2_with fail
  refine (R0.out _).mono ?_
  rintro e w2 ⟨rfl, hg⟩
  have G2 := Lib.hid (grown_trans G1.out (grown_none hg (r := none)))
  clear hg G1
  go_wp2_with fail
  refine (X.out _).mono ?_
  rintro e w3 ⟨rfl, hg⟩
  have G3 := Lib.hid (grown_trans G2.out (grown_none hg (r := none)))
  clear hg G2
  go_wp2
  go_ret
  exact ⟨rfl, G3.out⟩

set_option maxRecDepth 100000 in
set_option maxHeartbeats 4000000 in
theorem divs_sixty_b (a b : ByteArray) (w : World) (X : Hid ExOk) (VA : Hid (LongIs a false)) (VB : Hid (LongIs b false)) (ha : a.size ≤ maxLen) (hb : b.size ≤ maxLen) (h : ¬ (60 : Int) < (a.size : Int)) (h2 : (60 : Int) < (b.size : Int)) (hz : (b.size : Int) ≤ 9223372036854775807) :
    Calls Tryd.prog 6 #[.string a, .string b] w (LawPost w) := by
  obtain ⟨Q, R, E, h0⟩ := divV_form a b
  have p0 := fun w => div_any a b w ha hb
  have r0 := fun w => rdiv_any a b w ha hb
  rw [h0] at p0 r0
  have P0 := Lib.hid p0; have R0 := Lib.hid r0
  clear p0 r0 h0
  clear ha hb
  go_enter Tryd.func6, Tryd.ntmps6
  go_wp2_with fail
  refine (VA.out _).mono ?_
  rintro e w' ⟨rfl, rfl⟩
  go_wp2_with fail
  refine (VB.out _).mono ?_
  rintro e w' ⟨rfl, rfl⟩
  go_wp2_with fail
  refine (P0.out _).mono ?_
  rintro e w1 ⟨rfl, hg⟩
  have G1 := Lib.hid hg
  clear hg
  go_wp2_with fail
  refine (R0.out _).mono ?_
  rintro e w2 ⟨rfl, hg⟩
  have G2 := Lib.hid (grown_trans G1.out (grown_none hg (r := none)))
  clear hg G1
  go_wp2_with fail
  refine (X.out _).mono ?_
  rintro e w3 ⟨rfl, hg⟩
  have G3 := Lib.hid (grown_trans G2.out (grown_none hg (r := none)))
  clear hg G2
  go_wp2
  go_ret
  exact ⟨rfl, G3.out⟩

set_option maxRecDepth 100000 in
set_option maxHeartbeats 4000000 in
theorem divs_full (a b : ByteArray) (w : World) (X : Hid ExOk) (VA : Hid (LongIs a false)) (VB : Hid (LongIs b false)) (ha : a.size ≤ maxLen) (hb : b.size ≤ maxLen) (h : ¬ (60 : Int) < (a.size : Int)) (h2 : ¬ (60 : Int) < (b.size : Int)) :
    Calls Tryd.prog 6 #[.string a, .string b] w (LawPost w) := by
  obtain ⟨Q, R, E, h0⟩ := divV_form a b
  have p0 := fun w => div_any a b w ha hb
  have r0 := fun w => rdiv_any a b w ha hb
  rw [h0] at p0 r0
  have P0 := Lib.hid p0; have R0 := Lib.hid r0
  clear p0 r0 h0
  obtain ⟨S, E1, h1⟩ := gcdV_form a b
  have p1 := fun w => gcd_any a b w ha hb
  have r1 := fun w => rgcd_any a b w ha hb
  rw [h1] at p1 r1
  have P1 := Lib.hid p1; have R1 := Lib.hid r1
  clear p1 r1 h1
  clear ha hb
  go_enter Tryd.func6, Tryd.ntmps6
  go_wp2_with fail
  refine (VA.out _).mono ?_
  rintro e w' ⟨rfl, rfl⟩
  go_wp2_with fail
  refine (VB.out _).mono ?_
  rintro e w' ⟨rfl, rfl⟩
  go_wp2_with fail
  refine (P0.out _).mono ?_
  rintro e w1 ⟨rfl, hg⟩
  have G1 := Lib.hid hg
  clear hg
  go_wp2_with fail
  refine (R0.out _).mono ?_
  rintro e w2 ⟨rfl, hg⟩
  have G2 := Lib.hid (grown_trans G1.out (grown_none hg (r := none)))
  clear hg G1
  go_wp2_with fail
  refine (P1.out _).mono ?_
  rintro e w3 ⟨rfl, hg⟩
  have G3 := Lib.hid (grown_trans G2.out (grown_none hg (r := none)))
  clear hg G2
  go_wp2_with fail
  refine (R1.out _).mono ?_
  rintro e w4 ⟨rfl, hg⟩
  have G4 := Lib.hid (grown_trans G3.out (grown_none hg (r := none)))
  clear hg G3
  go_wp2_with fail
  refine (X.out _).mono ?_
  rintro e w5 ⟨rfl, hg⟩
  have G5 := Lib.hid (grown_trans G4.out (grown_none hg (r := none)))
  clear hg G4
  go_wp2
  go_ret
  exact ⟨rfl, G5.out⟩

theorem divs_walk (a b : ByteArray) (w : World) (ha : a.size ≤ maxLen) (hb : b.size ≤ maxLen) :
    Calls Tryd.prog 6 #[.string a, .string b] w (LawPost w) := by
  have X := Lib.hid exOk
  have va := longIs a ha
  have vb := longIs b hb
  have ha' : (a.size : Int) ≤ 9223372036854775807 := by unfold maxLen at ha; omega
  have hb' : (b.size : Int) ≤ 9223372036854775807 := by unfold maxLen at hb; omega
  cases h1 : decide (1100 < a.size)
  · rw [h1] at va
    cases h2 : decide (1100 < b.size)
    · rw [h2] at vb
      by_cases h : (60 : Int) < (a.size : Int)
      · exact divs_sixty_a a b w X (Lib.hid va) (Lib.hid vb) ha hb h ha'
      by_cases h2 : (60 : Int) < (b.size : Int)
      · exact divs_sixty_b a b w X (Lib.hid va) (Lib.hid vb) ha hb h h2 hb'
      exact divs_full a b w X (Lib.hid va) (Lib.hid vb) ha hb h h2
    · rw [h2] at vb
      exact divs_long_b a b w X (Lib.hid va) (Lib.hid vb)
  · rw [h1] at va
    exact divs_long_a a b w X (Lib.hid va)
end Go.Proofs.YtlkjfhidicgjiaaDoor
