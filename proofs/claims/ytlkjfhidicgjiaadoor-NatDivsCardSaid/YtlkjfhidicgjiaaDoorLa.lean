/- The walk of NatAdds. -/
import Derived.Test.YtlkjfhidicgjiaaDoorYg
import Derived.Test.YtlkjfhidicgjiaaDoorLl
set_option linter.unusedVariables false
set_option linter.unusedSimpArgs false
namespace Go.Proofs.YtlkjfhidicgjiaaDoor
open Go.RowKit
open Go.Lib (nDigits decDigits)

def LongIs (s : ByteArray) (b : Bool) : Prop := ∀ w, Calls Tryd.prog 19 #[.string s] w fun e w' => e = .returned (.bool b) ∧ w = w'
theorem longIs (s : ByteArray) (hs : s.size ≤ maxLen) : LongIs s (decide (1100 < s.size)) := fun w => long_any s w hs
theorem addV_form (a b : ByteArray) : ∃ S E, addV a b = .tuple #[.string S, .int .i64 E] := by
  rcases addV_cases a b with ⟨S, h, _⟩ | ⟨E, h, _⟩
  · exact ⟨_, _, h⟩
  · exact ⟨_, _, h⟩
theorem subV_form (a b : ByteArray) : ∃ S E, subV a b = .tuple #[.string S, .int .i64 E] := by
  unfold subV badV
  split
  · split
    · exact ⟨_, _, rfl⟩
    · exact ⟨_, _, rfl⟩
  · exact ⟨_, _, rfl⟩

set_option maxRecDepth 100000 in
set_option maxHeartbeats 4000000 in
theorem adds_long_a (a b : ByteArray) (w : World) (X : Hid ExOk) (VA : Hid (LongIs a true)) :
    Calls Tryd.prog 4 #[.string a, .string b] w (LawPost w) := by
  go_enter Tryd.func4, Tryd.ntmps4
  go_wp2_with fail
  refine (VA.out _).mono ?_
  rintro e w' ⟨rfl, rfl⟩
  go_wp2_with fail
  refine (X.out _).mono ?_
  rintro e w1 ⟨rfl, hg⟩
  have G1 := Lib.hid hg
  clear hg
  go_wp2
  go_ret
  exact ⟨rfl, G1.out⟩

set_option maxRecDepth 100000 in
set_option maxHeartbeats 4000000 in
theorem adds_long_b (a b : ByteArray) (w : World) (X : Hid ExOk) (VA : Hid (LongIs a false)) (VB : Hid (LongIs b true)) :
    Calls Tryd.prog 4 #[.string a, .string b] w (LawPost w) := by
  go_enter Tryd.func4, Tryd.ntmps4
  go_wp2_with fail
  refine (VA.out _).mono ?_
  rintro e w' ⟨rfl, rfl⟩
  go_wp2_with fail
  refine (VB.out _).mono ?_
  rintro e w' ⟨rfl, rfl⟩
  go_wp2_with fail
  refine (X.out _).mono ?_
  rintro e w1 ⟨rfl, hg⟩
  have G1 := Lib.hid hg
  clear hg
  go_wp2
  go_ret
  exact ⟨rfl, G1.out⟩

set_option maxRecDepth 100000 in
set_option maxHeartbeats 4000000 in
theorem adds_full (a b : ByteArray) (w : World) (X : Hid ExOk) (VA : Hid (LongIs a false)) (VB : Hid (LongIs b false)) (ha : a.size ≤ maxLen) (hb : b.size ≤ maxLen) :
    Calls Tryd.prog 4 #[.string a, .string b] w (LawPost w) := by
  obtain ⟨S0, E0, h0⟩ := addV_form a b
  have p0 := fun w => add_any a b w ha hb
  have r0 := fun w => radd_any a b w ha hb
  rw [h0] at p0 r0
  have P0 := Lib.hid p0; have R0 := Lib.hid r0
  clear p0 r0 h0
  obtain ⟨S1, E1, h1⟩ := subV_form a b
  have p1 := fun w => sub_any a b w ha hb
  have r1 := fun w => rsub_any a b w ha hb
  rw [h1] at p1 r1
  have P1 := Lib.hid p1; have R1 := Lib.hid r1
  clear p1 r1 h1
  clear ha hb
  go_enter Tryd.func4, Tryd.ntmps4
  go_wp2_with fail
  refine (VA.out _).mono ?_
  rintro e w' ⟨rfl, rfl⟩
  go_wp2_with fail
  refine (VB.out _).mono ?_
  rintro e w' ⟨rfl, rfl⟩
  go_wp2_with fail
  refine (P0.out _).mono ?_
  rintro e w1 ⟨rfl, hg⟩
  have G1 := Lib.hid hg
  clear hg
  go_wp2_with fail
  refine (R0.out _).mono ?_
  rintro e w2 ⟨rfl, hg⟩
  have G2 := Lib.hid (grown_trans G1.out (grown_none hg (r := none)))
  clear hg G1
  go_wp2_with fail
  refine (P1.out _).mono ?_
  rintro e w3 ⟨rfl, hg⟩
  have G3 := Lib.hid (grown_trans G2.out (grown_none hg (r := none)))
  clear hg G2
  go_wp2_with fail
  refine (R1.out _).mono ?_
  rintro e w4 ⟨rfl, hg⟩
  have G4 := Lib.hid (grown_trans G3.out (grown_none hg (r := none)))
  clear hg G3
  go_wp2_with fail
  refine (X.out _).mono ?_
  rintro e w5 ⟨rfl, hg⟩
  have G5 := Lib.hid (grown_trans G4.out (grown_none hg (r := none)))
  clear hg G4
  go_wp2
  go_ret
  exact ⟨rfl, G5.out⟩

theorem adds_walk (a b : ByteArray) (w : World) (ha : a.size ≤ maxLen) (hb : b.size ≤ maxLen) :
    Calls Tryd.prog 4 #[.string a, .string b] w (LawPost w) := by
  have X := Lib.hid exOk
  have va := longIs a ha
  have vb := longIs b hb
  cases h1 : decide (1100 < a.size)
  · rw [h1] at va
    cases h2 : decide (1100 < b.size)
    · rw [h2] at vb
      exact adds_full a b w X (Lib.hid va) (Lib.hid vb) ha hb
    · rw [h2] at vb
      exact adds_long_b a b w X (Lib.hid va) (Lib.hid vb)
  · rw [h1] at va
    exact adds_long_a a b w X (Lib.hid va)
end Go.Proofs.YtlkjfhidicgjiaaDoor
