/- The walk of NatValid. -/
import Derived.Test.YtlkjfhidicgjiaaDoorYc
import Derived.Test.YtlkjfhidicgjiaaDoorLv
set_option linter.unusedVariables false
set_option linter.unusedSimpArgs false
namespace Go.Proofs.YtlkjfhidicgjiaaDoor
open Go.RowKit
open Go.Lib (nDigits decDigits)

set_option maxRecDepth 100000 in
set_option maxHeartbeats 4000000 in
theorem valid_walk (a b : ByteArray) (n : Nat) (w : World) (ha : a.size ≤ maxLen) (hb : b.size ≤ maxLen) (hn : n < 18446744073709551616) (htab : PowTab w) :
    Calls Tryd.prog 3 #[.string a, .string b, .int .u64 n] w (LawPost w) := by
  have X := Lib.hid exOk
  have va := valOk a ha
  have ra : ∀ w, Calls Tryd.prog 13 #[.string a] w fun e w' => e = .returned (.bool (numB a)) ∧ w = w' := fun w => rvalid_any a w ha
  have sm := smOk w n hn htab
  have rs : ∀ w, Calls Tryd.prog 15 #[.int .u64 n] w fun e w' => e = .returned (.string (decS n)) ∧ w.grownBy w' none := fun w => (rsmall_any n hn w).mono fun e w' h => ⟨h.1, grown_below h.2⟩
  have cm := fun w => cmp_any a b w ha hb
  have rc : ∀ w, Calls Tryd.prog 17 #[.string a, .string b] w fun e w' => e = .returned (.int .i64 (cmpV a b)) ∧ w.grownBy w' none := fun w => rcmp_any a b w ha hb
  generalize numB a = x at *
  generalize decS n = S at *
  generalize cmpV a b = d at *
  have VA := Lib.hid va
  have RA := Lib.hid ra
  have SM := Lib.hid sm
  have RS := Lib.hid rs
  have CM := Lib.hid cm
  have RC := Lib.hid rc
  clear va ra sm rs cm rc htab hn ha hb
  go_enter Tryd.func3, Tryd.ntmps3
  go_wp2_with fail
  refine (VA.out _).mono ?_
  rintro e w' ⟨rfl, rfl⟩
  go_wp2_with fail
  refine (RA.out _).mono ?_
  rintro e w' ⟨rfl, rfl⟩
  go_wp2_with fail
  refine (SM.out _ (grown_refl _ _)).mono ?_
  rintro e w1 ⟨rfl, hg⟩
  have G1 := Lib.hid hg
  clear hg
  go_wp2_with fail
  refine (RS.out _).mono ?_
  rintro e w2 ⟨rfl, hg⟩
  have G2 := Lib.hid (grown_trans G1.out (grown_none hg (r := none)))
  clear hg G1
  go_wp2_with fail
  refine (CM.out _).mono ?_
  rintro e w3 ⟨rfl, hg⟩
  have G3 := Lib.hid (grown_trans G2.out (grown_none hg (r := none)))
  clear hg G2
  go_wp2_with fail
  refine (RC.out _).mono ?_
  rintro e w4 ⟨rfl, hg⟩
  have G4 := Lib.hid (grown_trans G3.out (grown_none hg (r := none)))
  clear hg G3
  go_wp2_with fail
  refine (X.out _).mono ?_
  rintro e w5 ⟨rfl, hg⟩
  have G5 := Lib.hid (grown_trans G4.out (grown_none hg (r := none)))
  clear hg G4
  go_wp2
  go_ret
  exact ⟨rfl, G5.out⟩
end Go.Proofs.YtlkjfhidicgjiaaDoor
