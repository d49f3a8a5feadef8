/- The walk of NatMuls. -/
import Derived.Test.YtlkjfhidicgjiaaDoorYh
import Derived.Test.YtlkjfhidicgjiaaDoorLl
set_option linter.unusedVariables false
set_option linter.unusedSimpArgs false
namespace Go.Proofs.YtlkjfhidicgjiaaDoor
open Go.RowKit
open Go.Lib (nDigits decDigits)

def LongIsM (s : ByteArray) (b : Bool) : Prop := ∀ w, Calls Tryd.prog 19 #[.string s] w fun e w' => e = .returned (.bool b) ∧ w = w'
theorem longIsM (s : ByteArray) (hs : s.size ≤ maxLen) : LongIsM s (decide (1100 < s.size)) := fun w => long_any s w hs

set_option maxRecDepth 100000 in
set_option maxHeartbeats 4000000 in
theorem muls_long_a (a b : ByteArray) (w : World) (X : Hid ExOk) (VA : Hid (LongIsM a true)) :
    Calls Tryd.prog 5 #[.string a, .string b] w (LawPost w) := by
  go_enter Tryd.func5, Tryd.ntmps5
  go_wp2_with fail
  refine (VA.out _).mono ?_
  rintro e w' ⟨rfl, rfl⟩
  go_wp2_with fail
  refine (X.out _).mono ?_
  rintro e w1 ⟨rfl, hg⟩
  have G1 := Lib.hid hg
  clear hg
  go_wp2
  go_ret
  exact ⟨rfl, G1.out⟩

set_option maxRecDepth 100000 in
set_option maxHeartbeats 4000000 in
theorem muls_long_b (a b : ByteArray) (w : World) (X : Hid ExOk) (VA : Hid (LongIsM a false)) (VB : Hid (LongIsM b true)) :
    Calls Tryd.prog 5 #[.string a, .string b] w (LawPost w) := by
  go_enter Tryd.func5, Tryd.ntmps5
  go_wp2_with fail
  refine (VA.out _).mono ?_
  rintro e w' ⟨rfl, rfl⟩
  go_wp2_with fail
  refine (VB.out _).mono ?_
  rintro e w' ⟨rfl, rfl⟩
  go_wp2_with fail
  refine (X.out _).mono ?_
  rintro e w1 ⟨rfl, hg⟩
  have G1 := Lib.hid hg
  clear hg
  go_wp2
  go_ret
  exact ⟨rfl, G1.out⟩

set_option maxRecDepth 100000 in
set_option maxHeartbeats 4000000 in
theorem muls_full (a b : ByteArray) (w : World) (X : Hid ExOk) (VA : Hid (LongIsM a false)) (VB : Hid (LongIsM b false)) (ha : a.size ≤ maxLen) (hb : b.size ≤ maxLen) :
    Calls Tryd.prog 5 #[.string a, .string b] w (LawPost w) := by
  obtain ⟨S0, E0, h0⟩ := mul_form a b
  have p0 := fun w => mul_any a b w ha hb
  have r0 := fun w => rmul_any a b w ha hb
  rw [h0] at p0 r0
  have P0 := Lib.hid p0; have R0 := Lib.hid r0
  clear p0 r0 h0
  clear ha hb
  go_enter Tryd.func5, Tryd.ntmps5
  go_wp2_with fail
  refine (VA.out _).mono ?_
  rintro e w' ⟨rfl, rfl⟩
  go_wp2_with fail
  refine (VB.out _).mono ?_
  rintro e w' ⟨rfl, rfl⟩
  go_wp2_with fail
  refine (P0.out _).mono ?_
  rintro e w1 ⟨rfl, hg⟩
  have G1 := Lib.hid hg
  clear hg
  go_wp2_with fail
  refine (R0.out _).mono ?_
  rintro e w2 ⟨rfl, hg⟩
  have G2 := Lib.hid (grown_trans G1.out (grown_none hg (r := none)))
  clear hg G1
  go_wp2_with fail
  refine (X.out _).mono ?_
  rintro e w3 ⟨rfl, hg⟩
  have G3 := Lib.hid (grown_trans G2.out (grown_none hg (r := none)))
  clear hg G2
  go_wp2
  go_ret
  exact ⟨rfl, G3.out⟩

theorem muls_walk (a b : ByteArray) (w : World) (ha : a.size ≤ maxLen) (hb : b.size ≤ maxLen) :
    Calls Tryd.prog 5 #[.string a, .string b] w (LawPost w) := by
  have X := Lib.hid exOk
  have va := longIsM a ha
  have vb := longIsM b hb
  cases h1 : decide (1100 < a.size)
  · rw [h1] at va
    cases h2 : decide (1100 < b.size)
    · rw [h2] at vb
      exact muls_full a b w X (Lib.hid va) (Lib.hid vb) ha hb
    · rw [h2] at vb
      exact muls_long_b a b w X (Lib.hid va) (Lib.hid vb)
  · rw [h1] at va
    exact muls_long_a a b w X (Lib.hid va)
end Go.Proofs.YtlkjfhidicgjiaaDoor
