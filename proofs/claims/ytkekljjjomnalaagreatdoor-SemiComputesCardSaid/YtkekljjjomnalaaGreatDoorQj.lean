/- areDigits, natural, numeral: a numeral taken apart. · Valid, Parts, Cmp, Neg, Parse. · numeral, Parse, by contract. -/
import Derived.Test.YtkekljjjomnalaaGreatDoorQa
import Derived.Test.YtkekljjjomnalaaGreatDoorPm
import Derived.Lib.TrimByte
import Derived.BigQuiet
import Derived.Test.YtkekljjjomnalaaGreatDoorQh
set_option linter.unusedVariables false
set_option linter.unusedSimpArgs false
namespace Go.Proofs.YtkekljjjomnalaaGreatDoor
open Go.RowKit
open Go.Lib (nDigits decDigits)

theorem digL_no (s : ByteArray) (k : Nat) (hk : k < s.size) (h : isDg s[k] = false) : digL s.data.toList = false := by
  rw [← Bool.not_eq_true]; intro hd
  have hm : s[k] ∈ s.data.toList := by
    rw [List.mem_iff_getElem]
    exact ⟨k, by simpa using hk, rfl⟩
  have := List.all_eq_true.1 (digL_all hd).1 _ hm
  rw [h] at this; cases this
theorem digL_yes (s : ByteArray) (h0 : 1 ≤ s.size) (h : ∀ k (hk : k < s.size), isDg s[k] = true) : digL s.data.toList = true := by
  refine digL_of (all_dg s h) ?_
  intro e
  have := Lib.size_eq s
  rw [e, List.length_nil] at this
  omega
theorem digL_size0 (s : ByteArray) (h0 : s.size = 0) : digL s.data.toList = false := by
  have := Lib.size_eq s
  rw [h0] at this
  rw [List.eq_nil_of_length_eq_zero this.symm]
  rfl
theorem ne_empty (s : ByteArray) (h : 1 ≤ s.size) : (!s.toList.isEmpty) = true := by rw [empty_false s h]; rfl

/-- Digits without the zeros in front, as natural returns them. -/
def natB (s : ByteArray) : ByteArray := if Lib.trimLeftB s.data.toList 48 = [] then ⟨#[48]⟩ else ⟨(Lib.trimLeftB s.data.toList 48).toArray⟩
theorem natB_dec (s : ByteArray) (h : s.data.toList.all isDg = true) : natB s = decS (dval s.data.toList) := by
  unfold natB decS Lib.trimLeftB
  rw [dec_natural _ h]
  split
  · rfl
  · rfl
theorem list_empty (l : List UInt8) : (⟨l.toArray⟩ : ByteArray).toList.isEmpty = decide (l = []) := by
  rw [Lib.toList_data]
  cases l <;> simp
end Go.Proofs.YtkekljjjomnalaaGreatDoor
set_option linter.unusedVariables false
set_option linter.unusedSimpArgs false
namespace Go.Proofs.YtkekljjjomnalaaGreatDoor
open Go.RowKit
open Go.Lib (nDigits decDigits)

def ReadsTo (a : ByteArray) (b : Bool) (A B : ByteArray) (k : Bool) : Prop := ∀ w, Calls Tryz.prog 66 #[.string a] w (ValPost (.tuple #[.agg #[.bool b, .string A, .string B], .bool k]) w)

set_option maxRecDepth 100000 in
set_option maxHeartbeats 1000000 in
theorem valid_walk (a : ByteArray) (b : Bool) (A B : ByteArray) (k : Bool) (w : World) (R : Hid (ReadsTo a b A B k)) :
    Calls Tryz.prog 45 #[.string a] w (ValPost (.bool k) w) := by
  go_enter Tryz.func45, Tryz.ntmps45
  go_wp2_with fail
  refine (R.out _).mono ?_
  rintro e w1 ⟨rfl, hg⟩
  have G1 := Lib.hid hg
  clear hg
  go_wp2
  go_ret
  exact ⟨rfl, G1.out⟩
set_option maxRecDepth 100000 in
set_option maxHeartbeats 1000000 in
theorem parts_walk (a : ByteArray) (b : Bool) (A B : ByteArray) (k : Bool) (w : World) (R : Hid (ReadsTo a b A B k)) :
    Calls Tryz.prog 71 #[.string a] w (ValPost (.tuple #[.bool b, .string A, .string B, .bool k]) w) := by
  go_enter Tryz.func71, Tryz.ntmps71
  go_wp2_with fail
  refine (R.out _).mono ?_
  rintro e w1 ⟨rfl, hg⟩
  have G1 := Lib.hid hg
  clear hg
  go_wp2_with fail
  go_quiet (fail)
  go_wp2
  exact bodyPost_ret (v := .tuple #[.bool _, .string _, .string _, .bool _]) (by simp [results, Tryz.results71, go_sem]) rfl ⟨rfl, grown_trans G1.out (grown_trans (World.grownBy_alloc _ _ none) (grown_drewN _ _ _))⟩
set_option maxRecDepth 100000 in
set_option maxHeartbeats 1000000 in
theorem cmp_no (a b : ByteArray) (b1 b2 k1 k2 : Bool) (A B C D : ByteArray) (w : World) (hk : (k1 && k2) = false) (R1 : Hid (ReadsTo a b1 A B k1)) (R2 : Hid (ReadsTo b b2 C D k2)) :
    Calls Tryz.prog 70 #[.string a, .string b] w (ValPost (.int .i64 0) w) := by
  cases k1 <;> cases k2 <;> simp only [Bool.and_self, Bool.and_true, Bool.true_and, Bool.true_eq_false] at hk
  all_goals
    go_enter Tryz.func70, Tryz.ntmps70
    go_wp2_with fail
    refine (R1.out _).mono ?_
    rintro e w1 ⟨rfl, hg⟩
    have G1 := Lib.hid hg
    clear hg
    go_wp2_with fail
    refine (R2.out _).mono ?_
    rintro e w2 ⟨rfl, hg⟩
    have G2 := Lib.hid (grown_trans G1.out (grown_trans (World.grownBy_alloc _ _ none) hg))
    clear hg
    go_wp2
    go_ret
    exact ⟨rfl, grown_trans G2.out (World.grownBy_alloc _ _ none)⟩
set_option maxRecDepth 100000 in
set_option maxHeartbeats 1000000 in
theorem cmp_yes (a b : ByteArray) (b1 b2 : Bool) (A B C D : ByteArray) (c : Int) (w : World) (R1 : Hid (ReadsTo a b1 A B true)) (R2 : Hid (ReadsTo b b2 C D true))
    (CP : Hid (∀ w, Calls Tryz.prog 92 #[.agg #[.bool b1, .string A, .string B], .agg #[.bool b2, .string C, .string D]] w (ValPost (.int .i64 c) w))) :
    Calls Tryz.prog 70 #[.string a, .string b] w (ValPost (.int .i64 c) w) := by
  go_enter Tryz.func70, Tryz.ntmps70
  go_wp2_with fail
  refine (R1.out _).mono ?_
  rintro e w1 ⟨rfl, hg⟩
  have G1 := Lib.hid hg
  clear hg
  go_wp2_with fail
  refine (R2.out _).mono ?_
  rintro e w2 ⟨rfl, hg⟩
  have hb := alloc_old hg
  have N1 := (show Num w2 w1.heap.size b1 A B from hb).grown (World.grownBy_alloc w2 (.cells #[.bool b2, .string C, .string D] 56) none)
  obtain ⟨x0, x1, x2, _⟩ := N1.cells
  have G2 := Lib.hid (grown_trans G1.out (grown_trans (World.grownBy_alloc _ _ none) hg))
  clear hg hb N1
  go_wp2_with fail
  refine (CP.out _).mono ?_
  rintro e w3 ⟨rfl, hg⟩
  have G3 := Lib.hid (grown_trans G2.out (grown_trans (World.grownBy_alloc _ _ none) hg))
  clear hg x0 x1 x2
  go_wp2
  go_ret
  exact ⟨rfl, G3.out⟩
theorem reads_yes {a : ByteArray} {x : Rat} (h : IsRat a x) : ReadsTo a (sgn x) (decS x.num.natAbs) (decS x.den) true := fun w => read_yes h w (rat_len h)
theorem reads_no {a : ByteArray} (h : notRat a) (ha : a.size ≤ maxLen) : ReadsTo a false ⟨#[]⟩ ⟨#[]⟩ false := fun w => read_no h w ha
theorem ratvalid_yes {a : ByteArray} {x : Rat} (h : IsRat a x) (w : World) : Calls Tryz.prog 45 #[.string a] w (ValPost (.bool true) w) := valid_walk a _ _ _ _ w (Lib.hid (reads_yes h))
theorem ratvalid_no {a : ByteArray} (h : notRat a) (ha : a.size ≤ maxLen) (w : World) : Calls Tryz.prog 45 #[.string a] w (ValPost (.bool false) w) := valid_walk a _ _ _ _ w (Lib.hid (reads_no h ha))
def partsV (x : Rat) : Value := .tuple #[.bool (sgn x), .string (decS x.num.natAbs), .string (decS x.den), .bool true]
def noParts : Value := .tuple #[.bool false, .string ⟨#[]⟩, .string ⟨#[]⟩, .bool false]
theorem parts_yes {a : ByteArray} {x : Rat} (h : IsRat a x) (w : World) : Calls Tryz.prog 71 #[.string a] w (ValPost (partsV x) w) := parts_walk a _ _ _ _ w (Lib.hid (reads_yes h))
theorem parts_no {a : ByteArray} (h : notRat a) (ha : a.size ≤ maxLen) (w : World) : Calls Tryz.prog 71 #[.string a] w (ValPost noParts w) := parts_walk a _ _ _ _ w (Lib.hid (reads_no h ha))
theorem cmpCall (m n : Nat) (hm : nDigits m ≤ 1000) (hn : nDigits n ≤ 1000) : ∀ w, Calls Tryz.prog 108 #[.string (decS m), .string (decS n)] w fun e w' => e = .returned (.int .i64 (cmpN m n)) ∧ w.grownBy w' none := fun w => by
  have := cmp_any (decS m) (decS n) w (big_len m hm) (big_len n hn)
  rw [cmp_dec m n hm hn] at this
  exact this
theorem compare_any (x y : Rat) (hx : Short x) (hy : Short y) (w : World) : Calls Tryz.prog 92 #[ratV x, ratV y] w (ValPost (.int .i64 (cmpQ x y)) w) := by
  have d1 := dig_mul hx.1 hy.2
  have d2 := dig_mul hy.1 hx.2
  have t1 := timesOk _ _ hx.1 hy.2
  have t2 := timesOk _ _ hy.1 hx.2
  unfold ratV
  rw [show decide (x.num < 0) = sgn x from rfl, show decide (y.num < 0) = sgn y from rfl]
  cases h1 : sgn x <;> cases h2 : sgn y
  · rw [cmp_plus x y h1 h2]
    have cm := cmpCall (x.num.natAbs * y.den) (y.num.natAbs * x.den) (by omega) (by omega)
    rw [← mulS_dec x.num.natAbs y.den, ← mulS_dec y.num.natAbs x.den] at cm
    exact compare_plus _ _ _ _ _ w t1 t2 (Lib.hid cm)
  · rw [cmp_sign2 x y h1 h2]; exact compare_part false true _ _ _ _ w (by decide)
  · rw [cmp_sign1 x y h1 h2]; exact compare_part true false _ _ _ _ w (by decide)
  · rw [cmp_minus x y h1 h2]
    have cm := cmpCall (y.num.natAbs * x.den) (x.num.natAbs * y.den) (by omega) (by omega)
    rw [← mulS_dec x.num.natAbs y.den, ← mulS_dec y.num.natAbs x.den] at cm
    exact compare_minus _ _ _ _ _ w t2 t1 (Lib.hid cm)
theorem ratcmp_yes {a b : ByteArray} {x y : Rat} (ha : IsRat a x) (hb : IsRat b y) (w : World) : Calls Tryz.prog 70 #[.string a, .string b] w (ValPost (.int .i64 (cmpQ x y)) w) :=
  cmp_yes a b _ _ _ _ _ _ _ w (Lib.hid (reads_yes ha)) (Lib.hid (reads_yes hb)) (Lib.hid fun w => compare_any x y ha.short hb.short w)
theorem ratcmp_no {a b : ByteArray} (ha : a.size ≤ maxLen) (hb : b.size ≤ maxLen) (h : notRat a ∨ notRat b) (w : World) : Calls Tryz.prog 70 #[.string a, .string b] w (ValPost (.int .i64 0) w) := by
  obtain ⟨b1, A, B, k1, r1, n1⟩ := read_cases a ha
  obtain ⟨b2, C, D, k2, r2, n2⟩ := read_cases b hb
  refine cmp_no a b _ _ k1 k2 _ _ _ _ w ?_ (Lib.hid r1) (Lib.hid r2)
  rcases h with h | h
  · rw [n1 h]; rfl
  · rw [n2 h, Bool.and_false]
theorem indexAny_at (s chars : List UInt8) : (Lib.indexAny s chars = -1 ∧ ∀ x ∈ s, chars.contains x = false) ∨ (∃ (i : Nat) (c : UInt8), Lib.indexAny s chars = i ∧ s[i]? = some c ∧ chars.contains c = true) := by
  induction s with
  | nil => exact .inl ⟨rfl, by simp⟩
  | cons b l ih =>
    by_cases h : chars.contains b = true
    · exact .inr ⟨0, b, by rw [Lib.indexAny, if_pos h]; rfl, rfl, h⟩
    · rcases ih with ⟨h1, h2⟩ | ⟨i, c, h1, h2, h3⟩
      · refine .inl ⟨by rw [Lib.indexAny, if_neg h, h1]; rfl, ?_⟩
        intro x hx
        rcases List.mem_cons.1 hx with rfl | hx
        · simpa using h
        · exact h2 x hx
      · refine .inr ⟨i + 1, c, ?_, by simpa using h2, h3⟩
        rw [Lib.indexAny, if_neg h, h1, if_neg (fun e => by have := beq_iff_eq.1 e; omega)]
        push_cast
        rfl
theorem repeat_zeros (k : Nat) : Lib.repeatL [48] k = List.replicate k 48 := by
  induction k with
  | zero => rfl
  | succ k ih => rw [Lib.repeatL, ih, List.replicate_succ]; rfl
theorem extract_take (l : List UInt8) (i : Nat) : (⟨l.toArray⟩ : ByteArray).extract 0 i = ⟨(l.take i).toArray⟩ := by
  apply ByteArray.ext
  rw [ByteArray.data_extract]
  simp [List.extract_eq_take_drop]
theorem extract_drop (l : List UInt8) (i : Nat) : (⟨l.toArray⟩ : ByteArray).extract i (⟨l.toArray⟩ : ByteArray).size = ⟨(l.drop i).toArray⟩ := by
  apply ByteArray.ext
  rw [ByteArray.data_extract]
  simp [List.extract_eq_take_drop, ByteArray.size]
  rw [List.take_of_length_le (by simp)]
theorem append_list (a b : List UInt8) : (⟨a.toArray⟩ : ByteArray) ++ ⟨b.toArray⟩ = ⟨(a ++ b).toArray⟩ := by
  apply ByteArray.ext
  rw [ByteArray.data_append]
  simp
end Go.Proofs.YtkekljjjomnalaaGreatDoor
set_option linter.unusedVariables false
set_option linter.unusedSimpArgs false
namespace Go.Proofs.YtkekljjjomnalaaGreatDoor
open Go.RowKit
open Go.Lib (nDigits decDigits)

end Go.Proofs.YtkekljjjomnalaaGreatDoor
