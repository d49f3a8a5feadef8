/- RatMakes: every input. -/
import Derived.Test.YthokjhlbbgfplaaGreatDoorZl
import Derived.Test.YthokjhlbbgfplaaGreatDoorZj
set_option linter.unusedVariables false
set_option linter.unusedSimpArgs false
namespace Go.Proofs.YthokjhlbbgfplaaGreatDoor
open Go.RowKit
open Go.Lib (nDigits decDigits)

theorem marks_ascii : ∀ (j : Nat) b, (⟨#[47, 46]⟩ : ByteArray).data.toList[j]? = some b → b.toNat < 128 := fun j b hb => by
  rcases j with _ | _ | j
  · cases hb; decide
  · cases hb; decide
  · simp at hb
theorem info_set : (Tryz.prog.info? (Tryz.lays153_ren.t 116)).map (fun i => (i.zero, i.size)) = some (some (.agg (Array.replicate 256 (.bool false))), 256) := by kernel_rfl
theorem ix_any (R : ByteArray) (hR : R.size ≤ 1200) : IxOk R := fun w => by
  by_cases h8 : R.size ≤ 8
  · exact indexAny_short R w h8
  · refine Calls.mono (show Calls Tryz.prog 65 _ _ _ from Any.strings_IndexAny_long Tryz.lays153 (zero_of_info info_set).1 (zero_of_info info_set).2 R ⟨#[47, 46]⟩ w (by decide) (by omega) (by omega) (by decide) marks_ascii) fun e w' ⟨k1, k2⟩ => ⟨k1, ?_⟩
    rw [k2]
    exact grown_trans (World.grownBy_alloc _ _ none) (World.grownBy_alloc _ _ none)
theorem parse_all (a : ByteArray) (w : World) (ha : a.size ≤ 1200) : Calls Tryz.prog 16 #[.string a] w (ValPost (parseV a) w) :=
  parse_any a w ha (ix_any _ (by rw [list_size]; have := rest_size a; omega))

set_option maxRecDepth 100000 in
theorem makes_large (n : Bool) (a b c : ByteArray) (w : World) (LG : Hid (LargeIs3 a b c true)) :
    Calls Tryz.prog 4 #[.bool n, .string a, .string b, .string c] w (LawPost w) := by
  go_enter Tryz.func4, Tryz.ntmps4
  go_wp2_with fail
  refine (LG.out _).mono ?_
  rintro e w0 ⟨rfl, hw0⟩
  have G0 := Lib.hid (show w.grownBy w0 none from hw0 ▸ World.grownBy_alloc _ _ none)
  clear hw0
  go_wp2_with fail
  refine (awake_any _).mono ?_
  rintro e w1 ⟨rfl, hg⟩
  have G1 := Lib.hid (grown_trans G0.out hg)
  clear hg
  go_wp2
  go_ret
  exact ⟨rfl, G1.out⟩
set_option maxRecDepth 100000 in
set_option maxHeartbeats 2000000 in
theorem makes_same (n : Bool) (a b c S T : ByteArray) (E F : Int) (w : World) (LG : Hid (LargeIs3 a b c false))
    (M1 : Hid (∀ w, Calls Tryz.prog 14 #[.bool n, .string a, .string b] w (ValPost (.tuple #[.string S, .int .i64 E]) w)))
    (M2 : Hid (∀ w, Calls Tryz.prog 15 #[.bool n, .string a, .string b] w (ValPost (.tuple #[.string S, .int .i64 E]) w)))
    (P1 : Hid (∀ w, Calls Tryz.prog 16 #[.string c] w (ValPost (.tuple #[.string T, .int .i64 F]) w)))
    (P2 : Hid (∀ w, Calls Tryz.prog 17 #[.string c] w (ValPost (.tuple #[.string T, .int .i64 F]) w))) :
    Calls Tryz.prog 4 #[.bool n, .string a, .string b, .string c] w (LawPost w) := by
  go_enter Tryz.func4, Tryz.ntmps4
  go_wp2_with fail
  refine (LG.out _).mono ?_
  rintro e w0 ⟨rfl, hw0⟩
  have G0 := Lib.hid (show w.grownBy w0 none from hw0 ▸ World.grownBy_alloc _ _ none)
  clear hw0
  go_wp2_with fail
  refine (M1.out _).mono ?_
  rintro e w1 ⟨rfl, hg⟩
  have G1 := Lib.hid (grown_trans G0.out hg)
  clear hg G0
  go_wp2_with fail
  refine (M2.out _).mono ?_
  rintro e w2 ⟨rfl, hg⟩
  have G2 := Lib.hid (grown_trans G1.out hg)
  clear hg G1
  go_wp2_with fail
  refine (P1.out _).mono ?_
  rintro e w3 ⟨rfl, hg⟩
  have G3 := Lib.hid (grown_trans G2.out hg)
  clear hg G2
  go_wp2_with fail
  refine (P2.out _).mono ?_
  rintro e w4 ⟨rfl, hg⟩
  have G4 := Lib.hid (grown_trans G3.out hg)
  clear hg G3
  go_wp2_with fail
  refine (awake_any _).mono ?_
  rintro e w5 ⟨rfl, hg⟩
  have G5 := Lib.hid (grown_trans G4.out hg)
  clear hg G4
  go_wp2
  go_ret
  exact ⟨rfl, G5.out⟩
theorem parseV_form (a : ByteArray) : ∃ S E, parseV a = .tuple #[.string S, .int .i64 E] := by
  unfold parseV
  split
  · exact ⟨_, _, rfl⟩
  · split
    · exact ⟨_, _, rfl⟩
    · exact finV_form _
theorem ratmakes_any (n : Bool) (a b c : ByteArray) (w : World) (ha : a.size ≤ maxLen) (hb : b.size ≤ maxLen) (hc : c.size ≤ maxLen) :
    Calls Tryz.prog 4 #[.bool n, .string a, .string b, .string c] w (LawPost w) := by
  have LG := largeIs3 a b c ha hb hc
  cases hl : largeB [a, b, c]
  case true => rw [hl] at LG; exact makes_large n a b c w (Lib.hid LG)
  have hs := large_no hl
  rw [hl] at LG
  have hcs : c.size ≤ 1200 := hs c (by simp)
  obtain ⟨S, E, e1⟩ := read_make n a b
  obtain ⟨T, F, e2⟩ := parseV_form c
  have M1 := fun w => make_any n a b w ha hb
  have M2 := fun w => rmake_any n a b w ha hb
  have P1 := fun w => parse_all c w hcs
  have P2 := fun w => rparse_any c w hcs
  rw [e1] at M1 M2
  rw [e2] at P1 P2
  exact makes_same n a b c S T E F w (Lib.hid LG) (Lib.hid M1) (Lib.hid M2) (Lib.hid P1) (Lib.hid P2)
end Go.Proofs.YthokjhlbbgfplaaGreatDoor
