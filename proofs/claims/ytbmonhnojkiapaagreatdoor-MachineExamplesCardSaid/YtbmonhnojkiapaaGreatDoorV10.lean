/- operate: an operation with two numbers, given as a function. · The functions of rat, by contract. · areDigits, natural, numeral: a numeral taken apart. · Valid, Parts, Cmp, Neg, Parse. · numeral, Parse, by contract. -/
import Derived.Test.YtbmonhnojkiapaaGreatDoorV09
import Derived.Test.YtbmonhnojkiapaaGreatDoorV01
import Derived.Lib.TrimByte
import Derived.BigQuiet
set_option linter.unusedVariables false
set_option linter.unusedSimpArgs false
namespace Go.Proofs.YtbmonhnojkiapaaGreatDoor
open Go.RowKit
open Go.Lib (nDigits decDigits)

/-- A function that lies in a cell of its own. -/
def Fun (w : World) (g F : Nat) : Prop := w.heap[g]? = some (.cells #[.func (.func F) #[] #[]] 118 (0, 0))
theorem Fun.grown {w w' : World} {g F : Nat} (h : Fun w g F) (hg : w.grownBy w' none) : Fun w' g F := (hg.block _ (lt_of_block h) (by simp)).trans h

/-! ### By what an operation makes of two numbers -/
def notRat (a : ByteArray) : Prop := ∀ x, ¬ IsRat a x
theorem rat_or (a : ByteArray) : (∃ x, IsRat a x) ∨ notRat a := by
  by_cases h : ∃ x, IsRat a x
  · exact .inl h
  · exact .inr fun x k => h ⟨x, k⟩
theorem read_cases (a : ByteArray) (ha : a.size ≤ maxLen) : ∃ b A B k, (∀ w, Calls Tryz.prog 130 #[.string a] w (ValPost (.tuple #[.agg #[.bool b, .string A, .string B], .bool k]) w)) ∧ (notRat a → k = false) := by
  rcases rat_or a with ⟨x, h⟩ | h
  · exact ⟨_, _, _, true, fun w => read_yes h w ha, fun n => absurd h (n x)⟩
  · exact ⟨_, _, _, false, fun w => read_no h w ha, fun _ => rfl⟩
end Go.Proofs.YtbmonhnojkiapaaGreatDoor
set_option linter.unusedVariables false
set_option linter.unusedSimpArgs false
namespace Go.Proofs.YtbmonhnojkiapaaGreatDoor
open Go.RowKit
open Go.Lib (nDigits decDigits)

/-! ### The operations -/
theorem dig_mul {x y : Nat} (hx : nDigits x ≤ 400) (hy : nDigits y ≤ 400) : nDigits (x * y) ≤ 800 := by have := nDigits_mul x y; omega
theorem timesOk (m n : Nat) (hm : nDigits m ≤ 400) (hn : nDigits n ≤ 400) : TimesOk (decS m) (decS n) := fun w => by
  have := dig_mul hm hn
  unfold mulS
  rw [nv_dec, nv_dec]
  exact times_any m n w (by omega) (by omega) (by omega)
theorem mulS_dec (m n : Nat) : mulS (decS m) (decS n) = decS (m * n) := by unfold mulS; rw [nv_dec, nv_dec]
/-! ### The exported functions -/
end Go.Proofs.YtbmonhnojkiapaaGreatDoor
set_option linter.unusedVariables false
set_option linter.unusedSimpArgs false
namespace Go.Proofs.YtbmonhnojkiapaaGreatDoor
open Go.RowKit
open Go.Lib (nDigits decDigits)

end Go.Proofs.YtbmonhnojkiapaaGreatDoor
set_option linter.unusedVariables false
set_option linter.unusedSimpArgs false
namespace Go.Proofs.YtbmonhnojkiapaaGreatDoor
open Go.RowKit
open Go.Lib (nDigits decDigits)

def ReadsTo (a : ByteArray) (b : Bool) (A B : ByteArray) (k : Bool) : Prop := ∀ w, Calls Tryz.prog 130 #[.string a] w (ValPost (.tuple #[.agg #[.bool b, .string A, .string B], .bool k]) w)

set_option maxRecDepth 100000 in
set_option maxHeartbeats 1000000 in
theorem valid_walk (a : ByteArray) (b : Bool) (A B : ByteArray) (k : Bool) (w : World) (R : Hid (ReadsTo a b A B k)) :
    Calls Tryz.prog 92 #[.string a] w (ValPost (.bool k) w) := by
  go_enter Tryz.func92, Tryz.ntmps92
  go_wp2_with fail
  refine (R.out _).mono ?_
  rintro e w1 ⟨rfl, hg⟩
  have G1 := Lib.hid hg
  clear hg
  go_wp2
  go_ret
  exact ⟨rfl, G1.out⟩
set_option maxRecDepth 100000 in
set_option maxHeartbeats 1000000 in
theorem parts_walk (a : ByteArray) (b : Bool) (A B : ByteArray) (k : Bool) (w : World) (R : Hid (ReadsTo a b A B k)) :
    Calls Tryz.prog 134 #[.string a] w (ValPost (.tuple #[.bool b, .string A, .string B, .bool k]) w) := by
  go_enter Tryz.func134, Tryz.ntmps134
  go_wp2_with fail
  refine (R.out _).mono ?_
  rintro e w1 ⟨rfl, hg⟩
  have G1 := Lib.hid hg
  clear hg
  go_wp2_with fail
  go_quiet (fail)
  go_wp2
  exact bodyPost_ret (v := .tuple #[.bool _, .string _, .string _, .bool _]) (by simp [results, Tryz.results134, go_sem]) rfl ⟨rfl, grown_trans G1.out (grown_trans (World.grownBy_alloc _ _ none) (grown_drewN _ _ _))⟩
set_option maxRecDepth 100000 in
set_option maxHeartbeats 1000000 in
theorem cmp_no (a b : ByteArray) (b1 b2 k1 k2 : Bool) (A B C D : ByteArray) (w : World) (hk : (k1 && k2) = false) (R1 : Hid (ReadsTo a b1 A B k1)) (R2 : Hid (ReadsTo b b2 C D k2)) :
    Calls Tryz.prog 133 #[.string a, .string b] w (ValPost (.int .i64 0) w) := by
  cases k1 <;> cases k2 <;> simp only [Bool.and_self, Bool.and_true, Bool.true_and, Bool.true_eq_false] at hk
  all_goals
    go_enter Tryz.func133, Tryz.ntmps133
    go_wp2_with fail
    refine (R1.out _).mono ?_
    rintro e w1 ⟨rfl, hg⟩
    have G1 := Lib.hid hg
    clear hg
    go_wp2_with fail
    refine (R2.out _).mono ?_
    rintro e w2 ⟨rfl, hg⟩
    have G2 := Lib.hid (grown_trans G1.out (grown_trans (World.grownBy_alloc _ _ none) hg))
    clear hg
    go_wp2
    go_ret
    exact ⟨rfl, grown_trans G2.out (World.grownBy_alloc _ _ none)⟩
set_option maxRecDepth 100000 in
set_option maxHeartbeats 1000000 in
theorem cmp_yes (a b : ByteArray) (b1 b2 : Bool) (A B C D : ByteArray) (c : Int) (w : World) (R1 : Hid (ReadsTo a b1 A B true)) (R2 : Hid (ReadsTo b b2 C D true))
    (CP : Hid (∀ w, Calls Tryz.prog 160 #[.agg #[.bool b1, .string A, .string B], .agg #[.bool b2, .string C, .string D]] w (ValPost (.int .i64 c) w))) :
    Calls Tryz.prog 133 #[.string a, .string b] w (ValPost (.int .i64 c) w) := by
  go_enter Tryz.func133, Tryz.ntmps133
  go_wp2_with fail
  refine (R1.out _).mono ?_
  rintro e w1 ⟨rfl, hg⟩
  have G1 := Lib.hid hg
  clear hg
  go_wp2_with fail
  refine (R2.out _).mono ?_
  rintro e w2 ⟨rfl, hg⟩
  have hb := alloc_old hg
  have N1 := (show Num w2 w1.heap.size b1 A B from hb).grown (World.grownBy_alloc w2 (.cells #[.bool b2, .string C, .string D] 113) none)
  obtain ⟨x0, x1, x2, _⟩ := N1.cells
  have G2 := Lib.hid (grown_trans G1.out (grown_trans (World.grownBy_alloc _ _ none) hg))
  clear hg hb N1
  go_wp2_with fail
  refine (CP.out _).mono ?_
  rintro e w3 ⟨rfl, hg⟩
  have G3 := Lib.hid (grown_trans G2.out (grown_trans (World.grownBy_alloc _ _ none) hg))
  clear hg x0 x1 x2
  go_wp2
  go_ret
  exact ⟨rfl, G3.out⟩
theorem reads_yes {a : ByteArray} {x : Rat} (h : IsRat a x) : ReadsTo a (sgn x) (decS x.num.natAbs) (decS x.den) true := fun w => read_yes h w (rat_len h)
theorem reads_no {a : ByteArray} (h : notRat a) (ha : a.size ≤ maxLen) : ReadsTo a false ⟨#[]⟩ ⟨#[]⟩ false := fun w => read_no h w ha
theorem ratvalid_yes {a : ByteArray} {x : Rat} (h : IsRat a x) (w : World) : Calls Tryz.prog 92 #[.string a] w (ValPost (.bool true) w) := valid_walk a _ _ _ _ w (Lib.hid (reads_yes h))
theorem ratvalid_no {a : ByteArray} (h : notRat a) (ha : a.size ≤ maxLen) (w : World) : Calls Tryz.prog 92 #[.string a] w (ValPost (.bool false) w) := valid_walk a _ _ _ _ w (Lib.hid (reads_no h ha))
def partsV (x : Rat) : Value := .tuple #[.bool (sgn x), .string (decS x.num.natAbs), .string (decS x.den), .bool true]
def noParts : Value := .tuple #[.bool false, .string ⟨#[]⟩, .string ⟨#[]⟩, .bool false]
theorem parts_yes {a : ByteArray} {x : Rat} (h : IsRat a x) (w : World) : Calls Tryz.prog 134 #[.string a] w (ValPost (partsV x) w) := parts_walk a _ _ _ _ w (Lib.hid (reads_yes h))
theorem parts_no {a : ByteArray} (h : notRat a) (ha : a.size ≤ maxLen) (w : World) : Calls Tryz.prog 134 #[.string a] w (ValPost noParts w) := parts_walk a _ _ _ _ w (Lib.hid (reads_no h ha))
theorem cmpCall (m n : Nat) (hm : nDigits m ≤ 1000) (hn : nDigits n ≤ 1000) : ∀ w, Calls Tryz.prog 180 #[.string (decS m), .string (decS n)] w fun e w' => e = .returned (.int .i64 (cmpN m n)) ∧ w.grownBy w' none := fun w => by
  have := cmp_any (decS m) (decS n) w (big_len m hm) (big_len n hn)
  rw [cmp_dec m n hm hn] at this
  exact this
theorem compare_any (x y : Rat) (hx : Short x) (hy : Short y) (w : World) : Calls Tryz.prog 160 #[ratV x, ratV y] w (ValPost (.int .i64 (cmpQ x y)) w) := by
  have d1 := dig_mul hx.1 hy.2
  have d2 := dig_mul hy.1 hx.2
  have t1 := timesOk _ _ hx.1 hy.2
  have t2 := timesOk _ _ hy.1 hx.2
  unfold ratV
  rw [show decide (x.num < 0) = sgn x from rfl, show decide (y.num < 0) = sgn y from rfl]
  cases h1 : sgn x <;> cases h2 : sgn y
  · rw [cmp_plus x y h1 h2]
    have cm := cmpCall (x.num.natAbs * y.den) (y.num.natAbs * x.den) (by omega) (by omega)
    rw [← mulS_dec x.num.natAbs y.den, ← mulS_dec y.num.natAbs x.den] at cm
    exact compare_plus _ _ _ _ _ w t1 t2 (Lib.hid cm)
  · rw [cmp_sign2 x y h1 h2]; exact compare_part false true _ _ _ _ w (by decide)
  · rw [cmp_sign1 x y h1 h2]; exact compare_part true false _ _ _ _ w (by decide)
  · rw [cmp_minus x y h1 h2]
    have cm := cmpCall (y.num.natAbs * x.den) (x.num.natAbs * y.den) (by omega) (by omega)
    rw [← mulS_dec x.num.natAbs y.den, ← mulS_dec y.num.natAbs x.den] at cm
    exact compare_minus _ _ _ _ _ w t2 t1 (Lib.hid cm)
theorem ratcmp_yes {a b : ByteArray} {x y : Rat} (ha : IsRat a x) (hb : IsRat b y) (w : World) : Calls Tryz.prog 133 #[.string a, .string b] w (ValPost (.int .i64 (cmpQ x y)) w) :=
  cmp_yes a b _ _ _ _ _ _ _ w (Lib.hid (reads_yes ha)) (Lib.hid (reads_yes hb)) (Lib.hid fun w => compare_any x y ha.short hb.short w)
theorem ratcmp_no {a b : ByteArray} (ha : a.size ≤ maxLen) (hb : b.size ≤ maxLen) (h : notRat a ∨ notRat b) (w : World) : Calls Tryz.prog 133 #[.string a, .string b] w (ValPost (.int .i64 0) w) := by
  obtain ⟨b1, A, B, k1, r1, n1⟩ := read_cases a ha
  obtain ⟨b2, C, D, k2, r2, n2⟩ := read_cases b hb
  refine cmp_no a b _ _ k1 k2 _ _ _ _ w ?_ (Lib.hid r1) (Lib.hid r2)
  rcases h with h | h
  · rw [n1 h]; rfl
  · rw [n2 h, Bool.and_false]
end Go.Proofs.YtbmonhnojkiapaaGreatDoor
set_option linter.unusedVariables false
set_option linter.unusedSimpArgs false
namespace Go.Proofs.YtbmonhnojkiapaaGreatDoor
open Go.RowKit
open Go.Lib (nDigits decDigits)

end Go.Proofs.YtbmonhnojkiapaaGreatDoor
