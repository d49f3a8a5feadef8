/- What layer 3's laws share: large, is, awake. -/
import Derived.Test.YthokjhlbbgfplabGreatDoorQj
import Derived.Test.YthokjhlbbgfplabGreatDoorPm
set_option linter.unusedVariables false
set_option linter.unusedSimpArgs false
namespace Go.Proofs.YthokjhlbbgfplabGreatDoor
open Go.RowKit
open Go.Lib (nDigits decDigits)

def LawPost (w : World) (e : Ending) (w' : World) : Prop := e = .returned (.bool true) ∧ w.grownBy w' none
theorem is_any (S T : ByteArray) (E : Int) (w : World) : Calls Tryz.prog 5 #[.string S, .int .i64 E, .string T] w fun e w' => e = .returned (.bool (decide (E = 0) && decide (S = T))) ∧ w = w' := by
  have f := (bytes_ne (a := T) (c := S))
  cases h1 : (E == 0)
  · have h2 : decide (E = 0) = false := by simpa using h1
    rw [h2]
    go_enter Tryz.func5, Tryz.ntmps5
    go_wp2
    go_ret
    exact ⟨rfl, rfl⟩
  · have h2 : decide (E = 0) = true := by simpa using h1
    rw [h2, Bool.true_and]
    generalize decide (S = T) = b at *
    go_enter Tryz.func5, Tryz.ntmps5
    go_wp2
    go_ret
    exact ⟨rfl, rfl⟩
theorem is_same (S : ByteArray) (w : World) : Calls Tryz.prog 5 #[.string S, .int .i64 0, .string S] w fun e w' => e = .returned (.bool true) ∧ w = w' := by
  have := is_any S S 0 w
  simpa using this

/-! ### The examples -/
theorem r_1_2 : IsRat ⟨#[49, 47, 50]⟩ (mkRat (1) 2) := ⟨by decide +kernel, by decide +kernel⟩
theorem r_1_3 : IsRat ⟨#[49, 47, 51]⟩ (mkRat (1) 3) := ⟨by decide +kernel, by decide +kernel⟩
theorem r_5_6 : IsRat ⟨#[53, 47, 54]⟩ (mkRat (5) 6) := ⟨by decide +kernel, by decide +kernel⟩
theorem r_m1_4 : IsRat ⟨#[45, 49, 47, 52]⟩ (mkRat (-1) 4) := ⟨by decide +kernel, by decide +kernel⟩
theorem r_m2 : IsRat ⟨#[45, 50]⟩ (mkRat (-2) 1) := ⟨by decide +kernel, by decide +kernel⟩
theorem r_m3_2 : IsRat ⟨#[45, 51, 47, 50]⟩ (mkRat (-3) 2) := ⟨by decide +kernel, by decide +kernel⟩
theorem r_m3_4 : IsRat ⟨#[45, 51, 47, 52]⟩ (mkRat (-3) 4) := ⟨by decide +kernel, by decide +kernel⟩
theorem ix_ascii (R : ByteArray) (hs : R.size < 4294967281) (has : ∀ (j : Nat) b, R.data.toList[j]? = some b → b.toNat < 128) : IxOk R := fun w => by
  refine (Tryz.strings_IndexAny_laid R ⟨#[47, 46]⟩ w hs (by decide) has (fun j b hb => ?_)).mono ?_
  · rcases j with _ | _ | j
    · cases hb; decide
    · cases hb; decide
    · simp at hb
  · rintro e w' ⟨rfl, hg⟩
    exact ⟨rfl, grown_below hg⟩
theorem all_ascii {l : List UInt8} (h : l.all (fun b => decide (b.toNat < 128)) = true) : ∀ (j : Nat) b, l[j]? = some b → b.toNat < 128 := fun j b hb => by
  have := List.all_eq_true.1 h b (List.mem_of_getElem? hb)
  simpa using this
theorem not_6_2 : notRat ⟨#[54, 47, 50]⟩ := fun x h => by
  have := (rat_parts h).g
  revert this
  decide +kernel

/-- What awake's calls return. -/
structure AwakeOk : Prop where
  c1 : ∀ w, Calls Tryz.prog 22 #[.string ⟨#[49, 47, 50]⟩, .string ⟨#[49, 47, 51]⟩] w (ValPost (.tuple #[.string ⟨#[53, 47, 54]⟩, .int .i64 0]) w)
  c2 : ∀ w, Calls Tryz.prog 8 #[.string ⟨#[49, 47, 50]⟩, .string ⟨#[45, 49, 47, 52]⟩] w (ValPost (.tuple #[.string ⟨#[45, 50]⟩, .int .i64 0]) w)
  c3 : ∀ w, Calls Tryz.prog 4 #[.string ⟨#[45, 49, 46, 53, 48]⟩] w (ValPost (.tuple #[.string ⟨#[45, 51, 47, 50]⟩, .int .i64 0]) w)
  c4 : ∀ w, Calls Tryz.prog 10 #[.bool true, .string ⟨#[54]⟩, .string ⟨#[52]⟩] w (ValPost (.tuple #[.string ⟨#[45, 51, 47, 50]⟩, .int .i64 0]) w)
  c5 : ∀ w, Calls Tryz.prog 23 #[.string ⟨#[45, 51, 47, 52]⟩] w (ValPost (.tuple #[.bool true, .string ⟨#[51]⟩, .string ⟨#[52]⟩, .bool true]) w)
  c6 : ∀ w, Calls Tryz.prog 6 #[.string ⟨#[45, 51, 47, 52]⟩] w (ValPost (.bool true) w)
  c7 : ∀ w, Calls Tryz.prog 6 #[.string ⟨#[54, 47, 50]⟩] w (ValPost (.bool false) w)
  c8 : ∀ w, Calls Tryz.prog 24 #[.string ⟨#[49, 47, 51]⟩, .string ⟨#[49, 47, 50]⟩] w (ValPost (.int .i64 (-1)) w)
theorem awakeOk : AwakeOk := by
  refine ⟨fun w => ?_, fun w => ?_, fun w => ?_, fun w => ?_, fun w => ?_, fun w => ?_, fun w => ?_, fun w => ?_⟩
  · have h := add_rat r_1_2 r_1_3 w
    rw [show mkRat 1 2 + mkRat 1 3 = mkRat 5 6 by decide +kernel, finV_rat r_5_6] at h
    exact h
  · have h := div_rat r_1_2 r_m1_4 (by decide +kernel) w
    rw [show mkRat 1 2 / mkRat (-1) 4 = mkRat (-2) 1 by decide +kernel, finV_rat r_m2] at h
    exact h
  · have h := parse_any ⟨#[45, 49, 46, 53, 48]⟩ w (by decide) (ix_ascii _ (by decide +kernel) (all_ascii (by decide +kernel)))
    have e : parseV ⟨#[45, 49, 46, 53, 48]⟩ = finV (mkRat (sg true 150) 100) := by
      unfold parseV
      rw [show numeralP (restA ⟨#[45, 49, 46, 53, 48]⟩) = some (150, 100) by decide +kernel, show negA ⟨#[45, 49, 46, 53, 48]⟩ = true by decide +kernel]
      rfl
    rw [e, show mkRat (sg true 150) 100 = mkRat (-3) 2 by decide +kernel, finV_rat r_m3_2] at h
    exact h
  · have h := make_any true ⟨#[54]⟩ ⟨#[52]⟩ w (by decide) (by decide)
    have e : makeV true ⟨#[54]⟩ ⟨#[52]⟩ = finV (mkRat (sg true 6) 4) := by
      unfold makeV
      rw [show numB ⟨#[54]⟩ = true by decide +kernel, show numB ⟨#[52]⟩ = true by decide +kernel, show nv ⟨#[54]⟩ = 6 by decide +kernel, show nv ⟨#[52]⟩ = 4 by decide +kernel]
      rfl
    rw [e, show mkRat (sg true 6) 4 = mkRat (-3) 2 by decide +kernel, finV_rat r_m3_2] at h
    exact h
  · have h := parts_yes r_m3_4 w
    unfold partsV at h
    rw [show sgn (mkRat (-3) 4) = true by decide +kernel, show decS (mkRat (-3) 4).num.natAbs = ⟨#[51]⟩ by decide +kernel, show decS (mkRat (-3) 4).den = ⟨#[52]⟩ by decide +kernel] at h
    exact h
  · exact ratvalid_yes r_m3_4 w
  · exact ratvalid_no not_6_2 (by decide) w
  · have h := ratcmp_yes r_1_3 r_1_2 w
    rw [show cmpQ (mkRat 1 3) (mkRat 1 2) = -1 by decide +kernel] at h
    exact h
set_option maxRecDepth 100000 in
set_option maxHeartbeats 1000000 in
theorem awake_any (w : World) : Calls Tryz.prog 11 #[] w (LawPost w) := by
  have X := Lib.hid awakeOk
  go_enter Tryz.func11, Tryz.ntmps11
  go_wp2_with fail
  refine (X.out.c1 _).mono ?_
  rintro e w1 ⟨rfl, hg⟩
  have G1 := Lib.hid hg
  clear hg
  go_wp2_with fail
  refine (X.out.c2 _).mono ?_
  rintro e w2 ⟨rfl, hg⟩
  have G2 := Lib.hid (grown_trans G1.out (grown_none hg (r := none)))
  clear hg G1
  go_wp2_with fail
  refine (X.out.c3 _).mono ?_
  rintro e w3 ⟨rfl, hg⟩
  have G3 := Lib.hid (grown_trans G2.out (grown_none hg (r := none)))
  clear hg G2
  go_wp2_with fail
  refine (X.out.c4 _).mono ?_
  rintro e w4 ⟨rfl, hg⟩
  have G4 := Lib.hid (grown_trans G3.out (grown_none hg (r := none)))
  clear hg G3
  go_wp2_with fail
  refine (X.out.c5 _).mono ?_
  rintro e w5 ⟨rfl, hg⟩
  have G5 := Lib.hid (grown_trans G4.out (grown_none hg (r := none)))
  clear hg G4
  go_wp2_with fail
  refine (is_same _ _).mono ?_
  rintro e w' ⟨rfl, rfl⟩
  go_wp2_with fail
  refine (is_same _ _).mono ?_
  rintro e w' ⟨rfl, rfl⟩
  go_wp2_with fail
  refine (is_same _ _).mono ?_
  rintro e w' ⟨rfl, rfl⟩
  go_wp2_with fail
  refine (is_same _ _).mono ?_
  rintro e w' ⟨rfl, rfl⟩
  go_wp2_with fail
  refine (X.out.c6 _).mono ?_
  rintro e w6 ⟨rfl, hg⟩
  have G6 := Lib.hid (grown_trans G5.out (grown_none hg (r := none)))
  clear hg G5
  go_wp2_with fail
  refine (X.out.c7 _).mono ?_
  rintro e w7 ⟨rfl, hg⟩
  have G7 := Lib.hid (grown_trans G6.out (grown_none hg (r := none)))
  clear hg G6
  go_wp2_with fail
  refine (X.out.c8 _).mono ?_
  rintro e w8 ⟨rfl, hg⟩
  have G8 := Lib.hid (grown_trans G7.out (grown_none hg (r := none)))
  clear hg G7
  go_wp2
  go_ret
  exact ⟨rfl, G8.out⟩

/-! ### What the laws share -/
def Op2 (F : Nat) (a b S : ByteArray) (E : Int) : Prop := ∀ w, Calls Tryz.prog F #[.string a, .string b] w (ValPost (.tuple #[.string S, .int .i64 E]) w)
def CmpIs (a b : ByteArray) (c : Int) : Prop := ∀ w, Calls Tryz.prog 24 #[.string a, .string b] w (ValPost (.int .i64 c) w)
def ValidIs (a : ByteArray) (k : Bool) : Prop := ∀ w, Calls Tryz.prog 6 #[.string a] w (ValPost (.bool k) w)
theorem valid_or (a : ByteArray) (ha : a.size ≤ maxLen) : (∃ x, IsRat a x ∧ ValidIs a true) ∨ ValidIs a false := by
  rcases rat_or a with ⟨x, h⟩ | h
  · exact .inl ⟨x, h, fun w => ratvalid_yes h w⟩
  · exact .inr fun w => ratvalid_no h ha w
/-! ### The rational numbers -/
/-- The empty string is no number. -/
theorem not_empty : notRat ⟨#[]⟩ := fun x h => by
  have h1 := (rat_parts h).n
  revert h1
  decide +kernel
theorem empty_len : (⟨#[]⟩ : ByteArray).size ≤ maxLen := by decide
/-- What a sum, a product is: a number, or too long. -/
theorem res_or (z : Rat) : (∃ S, finV z = .tuple #[.string S, .int .i64 0] ∧ IsRat S z) ∨ finV z = .tuple #[.string ⟨#[]⟩, .int .i64 2] := by
  rcases finV_cases z with h | ⟨h, _⟩
  · exact .inl h
  · exact .inr h
theorem op2_of {F : Nat} {a b S : ByteArray} {E : Int} {v : Value} (h : ∀ w, Calls Tryz.prog F #[.string a, .string b] w (ValPost v w)) (e : v = .tuple #[.string S, .int .i64 E]) : Op2 F a b S E := fun w => by rw [← e]; exact h w
theorem parts_make {a : ByteArray} {x : Rat} (h : IsRat a x) (w : World) : Calls Tryz.prog 10 #[.bool (sgn x), .string (decS x.num.natAbs), .string (decS x.den)] w (ValPost (.tuple #[.string a, .int .i64 0]) w) := by
  have s1 := h.short.1; have s2 := h.short.2
  have := make_any (sgn x) (decS x.num.natAbs) (decS x.den) w (big_len _ (by omega)) (big_len _ (by omega))
  obtain ⟨p1, p2, p3, _⟩ := apart a x h.eq
  have e := makeV_rat h
  rw [p1, p2, p3] at e
  rw [show sgn x = decide (x.num < 0) from rfl] at this ⊢
  rw [e] at this
  exact this

end Go.Proofs.YthokjhlbbgfplabGreatDoor
