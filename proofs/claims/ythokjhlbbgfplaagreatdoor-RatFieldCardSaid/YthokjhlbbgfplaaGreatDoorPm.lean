/- Plain: the text of a rational number, how a text is taken apart, what makes a number of a fraction. -/
import Derived.Test.YthokjhlbbgfplaaGreatDoorPb
import Derived.Lib.IndexMore
import Derived.Lib.Strings
set_option linter.unusedVariables false
set_option linter.unusedSimpArgs false
namespace Go.Proofs.YthokjhlbbgfplaaGreatDoor
open Go.Lib

def ratL (x : Rat) : List UInt8 := (if x.num < 0 then [45] else []) ++ (decDigits x.num.natAbs ++ (if x.den = 1 then [] else 47 :: decDigits x.den))
def ratS (x : Rat) : ByteArray := ⟨(ratL x).toArray⟩
def Short (x : Rat) : Prop := nDigits x.num.natAbs ≤ 400 ∧ nDigits x.den ≤ 400
instance (x : Rat) : Decidable (Short x) := inferInstanceAs (Decidable (_ ∧ _))
structure IsRat (a : ByteArray) (x : Rat) : Prop where
  short : Short x
  eq : a = ratS x

theorem cut_none (ds : List UInt8) (h : ds.all isDg = true) : cut ds [47] = (ds, [], false) := by
  unfold cut
  rcases index_spec ds [47] with ⟨h1, _⟩ | ⟨i, h1, h2, h3, _⟩
  · rw [h1]; rfl
  · exfalso
    unfold occAt at h3
    cases hd : ds.drop i with
    | nil => rw [hd] at h3; simp at h3
    | cons c r =>
      rw [hd] at h3
      simp at h3
      subst h3
      have hm : (47 : UInt8) ∈ ds := List.mem_of_mem_drop (i := i) (by rw [hd]; simp)
      have := List.all_eq_true.1 h _ hm
      exact absurd this (by decide)

theorem cut_some (ds r : List UInt8) (h : ds.all isDg = true) : cut (ds ++ 47 :: r) [47] = (ds, r, true) := by
  unfold cut
  rcases index_spec (ds ++ 47 :: r) [47] with ⟨_, h2⟩ | ⟨i, h1, h2, h3, h4⟩
  · exfalso
    have := h2 ds.length (by simp)
    unfold occAt at this
    simp at this
  · have hi : i = ds.length := by
      rcases Nat.lt_trichotomy i ds.length with hl | hl | hl
      · exfalso
        unfold occAt at h3
        rw [List.drop_append_of_le_length (by omega)] at h3
        cases hd : ds.drop i with
        | nil => have := congrArg List.length hd; simp at this; omega
        | cons c t =>
          rw [hd] at h3
          simp at h3
          subst h3
          have hm : (47 : UInt8) ∈ ds := List.mem_of_mem_drop (i := i) (by rw [hd]; simp)
          have := List.all_eq_true.1 h _ hm
          exact absurd this (by decide)
      · exact hl
      · exfalso
        have := h4 ds.length hl
        unfold occAt at this
        simp at this
    subst hi
    rw [h1, if_pos (by omega)]
    simp

def negA (a : ByteArray) : Bool := hasPrefix a.data.toList [45]
def restA (a : ByteArray) : List UInt8 := trimPrefix a.data.toList [45]
def strokeA (a : ByteArray) : Bool := (cut (restA a) [47]).2.2
def numA (a : ByteArray) : ByteArray := ⟨(cut (restA a) [47]).1.toArray⟩
def tailA (a : ByteArray) : ByteArray := ⟨(cut (restA a) [47]).2.1.toArray⟩
def denA (a : ByteArray) : ByteArray := if strokeA a then tailA a else ⟨#[49]⟩

theorem dec_ne (n : Nat) : ∃ c r, decDigits n = c :: r ∧ isDg c = true := by
  have ha := dec_all n
  have hl : (decDigits n).length ≠ 0 := by rw [decDigits_length]; have := nDigits_pos n; omega
  cases h : decDigits n with
  | nil => rw [h] at hl; exact absurd rfl hl
  | cons c r => rw [h] at ha; simp at ha; exact ⟨c, r, rfl, ha.1⟩
theorem dec_prefix (n : Nat) (t : List UInt8) : hasPrefix (decDigits n ++ t) [45] = false := by
  obtain ⟨c, r, h, hc⟩ := dec_ne n
  rw [h]
  unfold hasPrefix
  rw [List.cons_append]
  simp only [List.isPrefixOf_cons_cons, Bool.and_eq_false_iff]
  left
  rw [beq_eq_false_iff_ne]
  intro e
  rw [← e] at hc
  exact absurd hc (by decide)
theorem one_dec : decDigits 1 = [49] := by rw [decDigits_one (by decide)]; rfl

theorem apart (a : ByteArray) (x : Rat) (h : a = ratS x) : negA a = decide (x.num < 0) ∧ numA a = decS x.num.natAbs ∧ denA a = decS x.den ∧ strokeA a = decide (x.den ≠ 1) := by
  subst h
  have hr : restA (ratS x) = decDigits x.num.natAbs ++ (if x.den = 1 then [] else 47 :: decDigits x.den) := by
    unfold restA ratS ratL trimPrefix
    by_cases hn : x.num < 0
    · simp only [if_pos hn, List.singleton_append]
      rw [if_pos (by unfold hasPrefix; simp)]
      rfl
    · simp only [if_neg hn, List.nil_append]
      rw [if_neg (by rw [dec_prefix]; simp)]
  have hs : negA (ratS x) = decide (x.num < 0) := by
    unfold negA ratS ratL
    by_cases hn : x.num < 0
    · simp only [if_pos hn, List.singleton_append, hn, decide_true]
      unfold hasPrefix; simp
    · simp only [if_neg hn, List.nil_append, hn, decide_false]
      exact dec_prefix _ _
  refine ⟨hs, ?_⟩
  unfold numA denA strokeA tailA
  rw [hr]
  by_cases hd : x.den = 1
  · rw [if_pos hd, List.append_nil, cut_none _ (dec_all _)]
    simp only [hd, decS, one_dec, Bool.false_eq_true, if_false, ne_eq, not_true, decide_false, and_self]
  · rw [if_neg hd, cut_some _ _ (dec_all _)]
    simp only [decS, if_true, ne_eq, hd, not_false_eq_true, decide_true, and_self]

/-- The numerator of a fraction with a sign. -/
def sg (neg : Bool) (n : Nat) : Int := if neg then -(n : Int) else n
theorem sg_abs (neg : Bool) (n : Nat) : (sg neg n).natAbs = n := by unfold sg; split <;> omega
theorem sg_neg (neg : Bool) (n : Nat) : (sg neg n < 0) ↔ (neg = true ∧ n ≠ 0) := by unfold sg; split <;> simp_all <;> omega
theorem sg_num (x : Rat) : sg (decide (x.num < 0)) x.num.natAbs = x.num := by
  by_cases h : x.num < 0
  · rw [sg, if_pos (by simpa using h)]; omega
  · rw [sg, if_neg (by simpa using h)]; omega
theorem mk_self (x : Rat) : mkRat (sg (decide (x.num < 0)) x.num.natAbs) x.den = x := by rw [sg_num, Rat.mkRat_self]
theorem mk_num (neg : Bool) (n d : Nat) (hd : d ≠ 0) : (mkRat (sg neg n) d).num.natAbs = n / Nat.gcd n d := by
  rw [Rat.num_mkRat, if_neg hd, sg_abs, Nat.gcd_comm d n]
  unfold sg
  split
  · rw [Int.natAbs_ediv_of_dvd (by rw [Int.dvd_neg]; exact Int.ofNat_dvd.2 (Nat.gcd_dvd_left n d))]; simp
  · rw [Int.natAbs_ediv_of_dvd (Int.ofNat_dvd.2 (Nat.gcd_dvd_left n d))]; simp
theorem mk_den (neg : Bool) (n d : Nat) (hd : d ≠ 0) : (mkRat (sg neg n) d).den = d / Nat.gcd n d := by
  rw [Rat.den_mkRat, if_neg hd, sg_abs, Nat.gcd_comm d n]
theorem mk_neg (neg : Bool) (n d : Nat) (hd : d ≠ 0) : ((mkRat (sg neg n) d).num < 0) ↔ (neg = true ∧ n ≠ 0) := by
  rw [← sg_neg]
  have e := Rat.num_mkRat (sg neg n) d
  rw [if_neg hd, sg_abs, Nat.gcd_comm d n] at e
  have hg : 0 < Nat.gcd n d := Nat.gcd_pos_of_pos_right _ (Nat.pos_of_ne_zero hd)
  have hdv : ((Nat.gcd n d : Nat) : Int) ∣ sg neg n := by
    unfold sg
    split
    · rw [Int.dvd_neg]; exact Int.ofNat_dvd.2 (Nat.gcd_dvd_left n d)
    · exact Int.ofNat_dvd.2 (Nat.gcd_dvd_left n d)
  obtain ⟨k, hk⟩ := hdv
  rw [e, hk, Int.mul_ediv_cancel_left _ (by omega)]
  constructor
  · intro h; exact Int.mul_neg_of_pos_of_neg (by omega) h
  · intro h
    rcases Int.lt_or_le k 0 with h1 | h1
    · exact h1
    · have := Int.mul_nonneg (show (0 : Int) ≤ (Nat.gcd n d : Nat) by omega) h1
      omega

/-! ### Values -/
def finV (x : Rat) : Value := if Short x then .tuple #[.string (ratS x), .int .i64 0] else .tuple #[.string ⟨#[]⟩, .int .i64 2]
def makeV (neg : Bool) (num den : ByteArray) : Value :=
  if numB num && numB den && !decide (nv den = 0) then finV (mkRat (sg neg (nv num)) (nv den)) else .tuple #[.string ⟨#[]⟩, .int .i64 1]
def ratV (x : Rat) : Value := .agg #[.bool (decide (x.num < 0)), .string (decS x.num.natAbs), .string (decS x.den)]

theorem num_short (n : Nat) (h : nDigits n ≤ 1000) : numB (decS n) = true := by rw [num_dec]; simpa using h
theorem IsRat.uniq {a : ByteArray} {x y : Rat} (h : IsRat a x) (k : IsRat a y) : x = y := by
  obtain ⟨h1, h2, h3, _⟩ := apart a x h.eq
  obtain ⟨k1, k2, k3, _⟩ := apart a y k.eq
  have e1 : decide (x.num < 0) = decide (y.num < 0) := h1.symm.trans k1
  have e2 := dec_inj (h2.symm.trans k2)
  have e3 := dec_inj (h3.symm.trans k3)
  rw [← mk_self x, ← mk_self y, e1, e2, e3]
theorem finV_ok {x : Rat} (h : Short x) : finV x = .tuple #[.string (ratS x), .int .i64 0] := if_pos h
theorem finV_long {x : Rat} (h : ¬ Short x) : finV x = .tuple #[.string ⟨#[]⟩, .int .i64 2] := if_neg h
theorem finV_rat {a : ByteArray} {x : Rat} (h : IsRat a x) : finV x = .tuple #[.string a, .int .i64 0] := by rw [finV_ok h.short, h.eq]
theorem finV_cases (x : Rat) : (∃ S, finV x = .tuple #[.string S, .int .i64 0] ∧ IsRat S x) ∨ (finV x = .tuple #[.string ⟨#[]⟩, .int .i64 2] ∧ ¬ Short x) := by
  by_cases h : Short x
  · exact .inl ⟨ratS x, finV_ok h, h, rfl⟩
  · exact .inr ⟨finV_long h, h⟩
theorem makeV_rat {a : ByteArray} {x : Rat} (h : IsRat a x) : makeV (negA a) (numA a) (denA a) = .tuple #[.string a, .int .i64 0] := by
  obtain ⟨h1, h2, h3, _⟩ := apart a x h.eq
  have := h.short.1
  have := h.short.2
  unfold makeV
  rw [h1, h2, h3, nv_dec, nv_dec, num_short _ (by omega), num_short _ (by omega), mk_self]
  simp only [Bool.and_self, Bool.true_and, x.den_nz, decide_false, Bool.not_false, if_true]
  exact finV_rat h
theorem makeV_cases (neg : Bool) (num den : ByteArray) : (∃ S x, makeV neg num den = .tuple #[.string S, .int .i64 0] ∧ IsRat S x) ∨ (∃ E : Int, makeV neg num den = .tuple #[.string ⟨#[]⟩, .int .i64 E] ∧ (E = 1 ∨ E = 2)) := by
  unfold makeV
  split
  · rcases finV_cases (mkRat (sg neg (nv num)) (nv den)) with ⟨S, h, k⟩ | ⟨h, _⟩
    · exact .inl ⟨S, _, h, k⟩
    · exact .inr ⟨2, h, .inr rfl⟩
  · exact .inr ⟨1, rfl, .inl rfl⟩
theorem ratV_mk (neg : Bool) (n d : Nat) (hd : d ≠ 0) :
    ratV (mkRat (sg neg n) d) = .agg #[.bool (neg && !decide (n = 0)), .string (decS (n / Nat.gcd n d)), .string (decS (d / Nat.gcd n d))] := by
  unfold ratV
  rw [mk_num neg n d hd, mk_den neg n d hd, show decide ((mkRat (sg neg n) d).num < 0) = (neg && !decide (n = 0)) by
    rw [Bool.eq_iff_iff, decide_eq_true_eq, mk_neg neg n d hd]; simp]
theorem short_digits {x : Rat} (h : Short x) : nDigits x.num.natAbs ≤ 400 ∧ nDigits x.den ≤ 400 := h
end Go.Proofs.YthokjhlbbgfplaaGreatDoor
