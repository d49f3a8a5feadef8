/- Plain: the text of a rational number, how a text is taken apart, what makes a number of a fraction. · Plain: what the reference asks of the parts of a text. · Plain: numerals. -/
import Derived.Test.YtkekljjjomnalaaGreatDoorPb
import Derived.Lib.IndexMore
import Derived.Lib.Strings
set_option linter.unusedVariables false
set_option linter.unusedSimpArgs false
namespace Go.Proofs.YtkekljjjomnalaaGreatDoor
open Go.Lib

def ratL (x : Rat) : List UInt8 := (if x.num < 0 then [45] else []) ++ (decDigits x.num.natAbs ++ (if x.den = 1 then [] else 47 :: decDigits x.den))
def ratS (x : Rat) : ByteArray := ⟨(ratL x).toArray⟩
def Short (x : Rat) : Prop := nDigits x.num.natAbs ≤ 400 ∧ nDigits x.den ≤ 400
instance (x : Rat) : Decidable (Short x) := inferInstanceAs (Decidable (_ ∧ _))
structure IsRat (a : ByteArray) (x : Rat) : Prop where
  short : Short x
  eq : a = ratS x

theorem cut_none (ds : List UInt8) (h : ds.all isDg = true) : cut ds [47] = (ds, [], false) := by
  unfold cut
  rcases index_spec ds [47] with ⟨h1, _⟩ | ⟨i, h1, h2, h3, _⟩
  · rw [h1]; rfl
  · exfalso
    unfold occAt at h3
    cases hd : ds.drop i with
    | nil => rw [hd] at h3; simp at h3
    | cons c r =>
      rw [hd] at h3
      simp at h3
      subst h3
      have hm : (47 : UInt8) ∈ ds := List.mem_of_mem_drop (i := i) (by rw [hd]; simp)
      have := List.all_eq_true.1 h _ hm
      exact absurd this (by decide)

theorem cut_some (ds r : List UInt8) (h : ds.all isDg = true) : cut (ds ++ 47 :: r) [47] = (ds, r, true) := by
  unfold cut
  rcases index_spec (ds ++ 47 :: r) [47] with ⟨_, h2⟩ | ⟨i, h1, h2, h3, h4⟩
  · exfalso
    have := h2 ds.length (by simp)
    unfold occAt at this
    simp at this
  · have hi : i = ds.length := by
      rcases Nat.lt_trichotomy i ds.length with hl | hl | hl
      · exfalso
        unfold occAt at h3
        rw [List.drop_append_of_le_length (by omega)] at h3
        cases hd : ds.drop i with
        | nil => have := congrArg List.length hd; simp at this; omega
        | cons c t =>
          rw [hd] at h3
          simp at h3
          subst h3
          have hm : (47 : UInt8) ∈ ds := List.mem_of_mem_drop (i := i) (by rw [hd]; simp)
          have := List.all_eq_true.1 h _ hm
          exact absurd this (by decide)
      · exact hl
      · exfalso
        have := h4 ds.length hl
        unfold occAt at this
        simp at this
    subst hi
    rw [h1, if_pos (by omega)]
    simp

def negA (a : ByteArray) : Bool := hasPrefix a.data.toList [45]
def restA (a : ByteArray) : List UInt8 := trimPrefix a.data.toList [45]
def strokeA (a : ByteArray) : Bool := (cut (restA a) [47]).2.2
def numA (a : ByteArray) : ByteArray := ⟨(cut (restA a) [47]).1.toArray⟩
def tailA (a : ByteArray) : ByteArray := ⟨(cut (restA a) [47]).2.1.toArray⟩
def denA (a : ByteArray) : ByteArray := if strokeA a then tailA a else ⟨#[49]⟩

theorem dec_ne (n : Nat) : ∃ c r, decDigits n = c :: r ∧ isDg c = true := by
  have ha := dec_all n
  have hl : (decDigits n).length ≠ 0 := by rw [decDigits_length]; have := nDigits_pos n; omega
  cases h : decDigits n with
  | nil => rw [h] at hl; exact absurd rfl hl
  | cons c r => rw [h] at ha; simp at ha; exact ⟨c, r, rfl, ha.1⟩
theorem dec_prefix (n : Nat) (t : List UInt8) : hasPrefix (decDigits n ++ t) [45] = false := by
  obtain ⟨c, r, h, hc⟩ := dec_ne n
  rw [h]
  unfold hasPrefix
  rw [List.cons_append]
  simp only [List.isPrefixOf_cons_cons, Bool.and_eq_false_iff]
  left
  rw [beq_eq_false_iff_ne]
  intro e
  rw [← e] at hc
  exact absurd hc (by decide)
theorem one_dec : decDigits 1 = [49] := by rw [decDigits_one (by decide)]; rfl

theorem apart (a : ByteArray) (x : Rat) (h : a = ratS x) : negA a = decide (x.num < 0) ∧ numA a = decS x.num.natAbs ∧ denA a = decS x.den ∧ strokeA a = decide (x.den ≠ 1) := by
  subst h
  have hr : restA (ratS x) = decDigits x.num.natAbs ++ (if x.den = 1 then [] else 47 :: decDigits x.den) := by
    unfold restA ratS ratL trimPrefix
    by_cases hn : x.num < 0
    · simp only [if_pos hn, List.singleton_append]
      rw [if_pos (by unfold hasPrefix; simp)]
      rfl
    · simp only [if_neg hn, List.nil_append]
      rw [if_neg (by rw [dec_prefix]; simp)]
  have hs : negA (ratS x) = decide (x.num < 0) := by
    unfold negA ratS ratL
    by_cases hn : x.num < 0
    · simp only [if_pos hn, List.singleton_append, hn, decide_true]
      unfold hasPrefix; simp
    · simp only [if_neg hn, List.nil_append, hn, decide_false]
      exact dec_prefix _ _
  refine ⟨hs, ?_⟩
  unfold numA denA strokeA tailA
  rw [hr]
  by_cases hd : x.den = 1
  · rw [if_pos hd, List.append_nil, cut_none _ (dec_all _)]
    simp only [hd, decS, one_dec, Bool.false_eq_true, if_false, ne_eq, not_true, decide_false, and_self]
  · rw [if_neg hd, cut_some _ _ (dec_all _)]
    simp only [decS, if_true, ne_eq, hd, not_false_eq_true, decide_true, and_self]

/-- The numerator of a fraction with a sign. -/
def sg (neg : Bool) (n : Nat) : Int := if neg then -(n : Int) else n
theorem sg_abs (neg : Bool) (n : Nat) : (sg neg n).natAbs = n := by unfold sg; split <;> omega
theorem sg_neg (neg : Bool) (n : Nat) : (sg neg n < 0) ↔ (neg = true ∧ n ≠ 0) := by unfold sg; split <;> simp_all <;> omega
theorem sg_num (x : Rat) : sg (decide (x.num < 0)) x.num.natAbs = x.num := by
  by_cases h : x.num < 0
  · rw [sg, if_pos (by simpa using h)]; omega
  · rw [sg, if_neg (by simpa using h)]; omega
theorem mk_self (x : Rat) : mkRat (sg (decide (x.num < 0)) x.num.natAbs) x.den = x := by rw [sg_num, Rat.mkRat_self]
theorem mk_num (neg : Bool) (n d : Nat) (hd : d ≠ 0) : (mkRat (sg neg n) d).num.natAbs = n / Nat.gcd n d := by
  rw [Rat.num_mkRat, if_neg hd, sg_abs, Nat.gcd_comm d n]
  unfold sg
  split
  · rw [Int.natAbs_ediv_of_dvd (by rw [Int.dvd_neg]; exact Int.ofNat_dvd.2 (Nat.gcd_dvd_left n d))]; simp
  · rw [Int.natAbs_ediv_of_dvd (Int.ofNat_dvd.2 (Nat.gcd_dvd_left n d))]; simp
theorem mk_den (neg : Bool) (n d : Nat) (hd : d ≠ 0) : (mkRat (sg neg n) d).den = d / Nat.gcd n d := by
  rw [Rat.den_mkRat, if_neg hd, sg_abs, Nat.gcd_comm d n]
theorem mk_neg (neg : Bool) (n d : Nat) (hd : d ≠ 0) : ((mkRat (sg neg n) d).num < 0) ↔ (neg = true ∧ n ≠ 0) := by
  rw [← sg_neg]
  have e := Rat.num_mkRat (sg neg n) d
  rw [if_neg hd, sg_abs, Nat.gcd_comm d n] at e
  have hg : 0 < Nat.gcd n d := Nat.gcd_pos_of_pos_right _ (Nat.pos_of_ne_zero hd)
  have hdv : ((Nat.gcd n d : Nat) : Int) ∣ sg neg n := by
    unfold sg
    split
    · rw [Int.dvd_neg]; exact Int.ofNat_dvd.2 (Nat.gcd_dvd_left n d)
    · exact Int.ofNat_dvd.2 (Nat.gcd_dvd_left n d)
  obtain ⟨k, hk⟩ := hdv
  rw [e, hk, Int.mul_ediv_cancel_left _ (by omega)]
  constructor
  · intro h; exact Int.mul_neg_of_pos_of_neg (by omega) h
  · intro h
    rcases Int.lt_or_le k 0 with h1 | h1
    · exact h1
    · have := Int.mul_nonneg (show (0 : Int) ≤ (Nat.gcd n d : Nat) by omega) h1
      omega

/-! ### Values -/
def finV (x : Rat) : Value := if Short x then .tuple #[.string (ratS x), .int .i64 0] else .tuple #[.string ⟨#[]⟩, .int .i64 2]
def makeV (neg : Bool) (num den : ByteArray) : Value :=
  if numB num && numB den && !decide (nv den = 0) then finV (mkRat (sg neg (nv num)) (nv den)) else .tuple #[.string ⟨#[]⟩, .int .i64 1]
def ratV (x : Rat) : Value := .agg #[.bool (decide (x.num < 0)), .string (decS x.num.natAbs), .string (decS x.den)]

theorem num_short (n : Nat) (h : nDigits n ≤ 1000) : numB (decS n) = true := by rw [num_dec]; simpa using h
theorem IsRat.uniq {a : ByteArray} {x y : Rat} (h : IsRat a x) (k : IsRat a y) : x = y := by
  obtain ⟨h1, h2, h3, _⟩ := apart a x h.eq
  obtain ⟨k1, k2, k3, _⟩ := apart a y k.eq
  have e1 : decide (x.num < 0) = decide (y.num < 0) := h1.symm.trans k1
  have e2 := dec_inj (h2.symm.trans k2)
  have e3 := dec_inj (h3.symm.trans k3)
  rw [← mk_self x, ← mk_self y, e1, e2, e3]
theorem finV_ok {x : Rat} (h : Short x) : finV x = .tuple #[.string (ratS x), .int .i64 0] := if_pos h
theorem finV_long {x : Rat} (h : ¬ Short x) : finV x = .tuple #[.string ⟨#[]⟩, .int .i64 2] := if_neg h
theorem finV_rat {a : ByteArray} {x : Rat} (h : IsRat a x) : finV x = .tuple #[.string a, .int .i64 0] := by rw [finV_ok h.short, h.eq]
theorem finV_cases (x : Rat) : (∃ S, finV x = .tuple #[.string S, .int .i64 0] ∧ IsRat S x) ∨ (finV x = .tuple #[.string ⟨#[]⟩, .int .i64 2] ∧ ¬ Short x) := by
  by_cases h : Short x
  · exact .inl ⟨ratS x, finV_ok h, h, rfl⟩
  · exact .inr ⟨finV_long h, h⟩
theorem makeV_rat {a : ByteArray} {x : Rat} (h : IsRat a x) : makeV (negA a) (numA a) (denA a) = .tuple #[.string a, .int .i64 0] := by
  obtain ⟨h1, h2, h3, _⟩ := apart a x h.eq
  have := h.short.1
  have := h.short.2
  unfold makeV
  rw [h1, h2, h3, nv_dec, nv_dec, num_short _ (by omega), num_short _ (by omega), mk_self]
  simp only [Bool.and_self, Bool.true_and, x.den_nz, decide_false, Bool.not_false, if_true]
  exact finV_rat h
theorem makeV_cases (neg : Bool) (num den : ByteArray) : (∃ S x, makeV neg num den = .tuple #[.string S, .int .i64 0] ∧ IsRat S x) ∨ (∃ E : Int, makeV neg num den = .tuple #[.string ⟨#[]⟩, .int .i64 E] ∧ (E = 1 ∨ E = 2)) := by
  unfold makeV
  split
  · rcases finV_cases (mkRat (sg neg (nv num)) (nv den)) with ⟨S, h, k⟩ | ⟨h, _⟩
    · exact .inl ⟨S, _, h, k⟩
    · exact .inr ⟨2, h, .inr rfl⟩
  · exact .inr ⟨1, rfl, .inl rfl⟩
theorem ratV_mk (neg : Bool) (n d : Nat) (hd : d ≠ 0) :
    ratV (mkRat (sg neg n) d) = .agg #[.bool (neg && !decide (n = 0)), .string (decS (n / Nat.gcd n d)), .string (decS (d / Nat.gcd n d))] := by
  unfold ratV
  rw [mk_num neg n d hd, mk_den neg n d hd, show decide ((mkRat (sg neg n) d).num < 0) = (neg && !decide (n = 0)) by
    rw [Bool.eq_iff_iff, decide_eq_true_eq, mk_neg neg n d hd]; simp]
theorem short_digits {x : Rat} (h : Short x) : nDigits x.num.natAbs ≤ 400 ∧ nDigits x.den ≤ 400 := h
end Go.Proofs.YtkekljjjomnalaaGreatDoor
set_option linter.unusedVariables false
set_option linter.unusedSimpArgs false
namespace Go.Proofs.YtkekljjjomnalaaGreatDoor
open Go.Lib

theorem cut_back (s : List UInt8) : s = (cut s [47]).1 ++ (if (cut s [47]).2.2 then 47 :: (cut s [47]).2.1 else []) := by
  unfold cut
  rcases index_spec s [47] with ⟨h1, _⟩ | ⟨i, h1, h2, h3, _⟩
  · rw [h1]; simp
  · rw [h1, if_pos (by omega)]
    simp only [if_true, Int.toNat_natCast, List.length_singleton]
    have hc := occAt_head (s := s) (sub := [47]) rfl h3
    obtain ⟨hi, e⟩ := List.getElem?_eq_some_iff.1 hc
    have : s.drop i = 47 :: s.drop (i + 1) := by rw [List.drop_eq_getElem_cons hi, e]
    rw [← this, List.take_append_drop]
theorem neg_back (a : List UInt8) : a = (if hasPrefix a [45] then [45] else []) ++ trimPrefix a [45] := by
  unfold trimPrefix
  cases h : hasPrefix a [45]
  · simp
  · unfold hasPrefix at h
    cases a with
    | nil => simp at h
    | cons c r => simp at h; subst h; simp
theorem list_of (a : ByteArray) : a.data.toList = (if negA a then [45] else []) ++ ((numA a).data.toList ++ (if strokeA a then 47 :: (tailA a).data.toList else [])) := by
  conv => lhs; rw [neg_back a.data.toList]
  unfold negA numA strokeA tailA
  congr 1
  show restA a = _
  conv => lhs; rw [cut_back (restA a)]

/-- What the reference asks of the parts. -/
structure PartsOk (a : ByteArray) : Prop where
  n : numB (numA a) = true
  d : numB (denA a) = true
  sn : (numA a).size ≤ 400
  sd : (denA a).size ≤ 400
  d0 : nv (denA a) ≠ 0
  z : nv (numA a) = 0 → negA a = false ∧ strokeA a = false
  one : nv (denA a) = 1 → strokeA a = false
  g : Nat.gcd (nv (numA a)) (nv (denA a)) = 1 ∨ nv (denA a) = 1
theorem PartsOk.gcd {a : ByteArray} (h : PartsOk a) : Nat.gcd (nv (numA a)) (nv (denA a)) = 1 := by
  rcases h.g with k | k
  · exact k
  · rw [k, Nat.gcd_one_right]
theorem parts_rat {a : ByteArray} (h : PartsOk a) : IsRat a (mkRat (sg (negA a) (nv (numA a))) (nv (denA a))) := by
  have e1 := mk_num (negA a) (nv (numA a)) (nv (denA a)) h.d0
  have e2 := mk_den (negA a) (nv (numA a)) (nv (denA a)) h.d0
  have e3 := mk_neg (negA a) (nv (numA a)) (nv (denA a)) h.d0
  rw [h.gcd, Nat.div_one] at e1 e2
  obtain ⟨n1, n2⟩ := num_is _ h.n
  obtain ⟨d1, d2⟩ := num_is _ h.d
  refine ⟨⟨?_, ?_⟩, ?_⟩
  · rw [e1, ← decS_size, ← n1]; exact h.sn
  · rw [e2, ← decS_size, ← d1]; exact h.sd
  · apply ByteArray.ext
    apply Array.ext'
    rw [list_of a]
    unfold ratS ratL
    rw [e1, e2]
    have en : (numA a).data.toList = decDigits (nv (numA a)) := by conv => lhs; rw [n1]
                                                                   simp [decS]
    rw [en]
    show _ = _ ++ (_ ++ _)
    have hs : ((mkRat (sg (negA a) (nv (numA a))) (nv (denA a))).num < 0) ↔ negA a = true := by
      rw [e3]
      constructor
      · exact fun k => k.1
      · intro k
        refine ⟨k, fun z => ?_⟩
        have := (h.z z).1
        rw [k] at this; cases this
    congr 1
    · by_cases k : negA a = true
      · rw [if_pos k, if_pos (hs.2 k)]
      · rw [if_neg k, if_neg (fun q => k (hs.1 q))]
    · congr 1
      by_cases k : nv (denA a) = 1
      · rw [if_pos k, h.one k]; simp
      · rw [if_neg k]
        cases hk : strokeA a
        · exfalso
          apply k
          unfold denA
          rw [hk]
          simp only [Bool.false_eq_true, if_false]
          decide +kernel
        · have ed : denA a = tailA a := by unfold denA; rw [hk]; simp
          rw [if_pos rfl, ← ed]
          congr 1
          conv => lhs; rw [d1]
          simp [decS]
theorem rat_parts {a : ByteArray} {x : Rat} (h : IsRat a x) : PartsOk a := by
  obtain ⟨h1, h2, h3, h4⟩ := apart a x h.eq
  have s1 := h.short.1
  have s2 := h.short.2
  have hd := x.den_nz
  have hr := x.reduced
  refine ⟨?_, ?_, ?_, ?_, ?_, ?_, ?_, ?_⟩
  · rw [h2]; exact num_short _ (by omega)
  · rw [h3]; exact num_short _ (by omega)
  · rw [h2, decS_size]; exact s1
  · rw [h3, decS_size]; exact s2
  · rw [h3, nv_dec]; exact hd
  · rw [h2, nv_dec, h1, h4]
    intro z
    have hx : x.den = 1 := by
      have : Nat.gcd x.num.natAbs x.den = 1 := hr
      rw [z, Nat.gcd_zero_left] at this
      exact this
    have hz : x.num = 0 := by omega
    rw [hx, hz]
    decide
  · rw [h3, nv_dec, h4]
    intro z
    simp [z]
  · rw [h2, h3, nv_dec, nv_dec]
    exact .inl hr
theorem parts_iff (a : ByteArray) : PartsOk a ↔ ∃ x, IsRat a x := ⟨fun h => ⟨_, parts_rat h⟩, fun ⟨_, h⟩ => rat_parts h⟩
end Go.Proofs.YtkekljjjomnalaaGreatDoor
set_option linter.unusedVariables false
set_option linter.unusedSimpArgs false
namespace Go.Proofs.YtkekljjjomnalaaGreatDoor
open Go.Lib

/-- One or more digits, and nothing else. -/
def digL (l : List UInt8) : Bool := !l.isEmpty && l.all isDg
/-- What a numeral without its sign is: its fraction, not in lowest terms. -/
def numeralP (r : List UInt8) : Option (Nat × Nat) :=
  match r.dropWhile isDg with
  | [] => if r.takeWhile isDg = [] then none else some (dval (r.takeWhile isDg), 1)
  | c :: t => if r.takeWhile isDg = [] ∨ digL t = false then none else if c = 46 then some (dval (r.takeWhile isDg ++ t), 10 ^ t.length) else if c = 47 then (if dval t = 0 then none else some (dval (r.takeWhile isDg), dval t)) else none
def parseV (a : ByteArray) : Value := match numeralP (restA a) with
  | none => .tuple #[.string ⟨#[]⟩, .int .i64 3]
  | some (n, d) => if 900 < a.size then .tuple #[.string ⟨#[]⟩, .int .i64 2] else finV (mkRat (sg (negA a) n) d)

theorem dval_append (a b : List UInt8) : dval (a ++ b) = b.foldl (fun n c => n * 10 + (c.toNat - 48)) (dval a) := by unfold dval; rw [List.foldl_append]
theorem dval_zero_cons (l : List UInt8) : dval (48 :: l) = dval l := by unfold dval; rfl
theorem dval_one_zeros (k : Nat) : dval (49 :: List.replicate k 48) = 10 ^ k := by
  induction k with
  | zero => rfl
  | succ k ih => rw [List.replicate_succ', ← List.cons_append, dval_snoc, ih, Nat.pow_succ]; rfl
theorem dec_pow (k : Nat) : decDigits (10 ^ k) = 49 :: List.replicate k 48 := by
  rw [← dval_one_zeros k]
  refine dec_dval _ (by simp) ?_ (.inr (by simp))
  rw [List.all_cons, Bool.and_eq_true]
  refine ⟨by decide, ?_⟩
  rw [List.all_eq_true]
  intro x hx
  rw [List.mem_replicate] at hx
  rw [hx.2]; decide
theorem dval_drop (l : List UInt8) : dval (l.dropWhile (· == 48)) = dval l := by
  induction l with
  | nil => rfl
  | cons c r ih =>
    by_cases h : c = 48
    · subst h; rw [List.dropWhile_cons_of_pos (by decide), ih, dval_zero_cons]
    · rw [List.dropWhile_cons_of_neg (by simpa using h)]
theorem drop_all (l : List UInt8) (h : l.all isDg = true) : (l.dropWhile (· == 48)).all isDg = true := by
  rw [List.all_eq_true] at h ⊢
  intro x hx
  exact h x ((List.dropWhile_sublist _).mem hx)
theorem drop_head (l : List UInt8) : (l.dropWhile (· == 48)).headD 0 ≠ 48 := by
  induction l with
  | nil => decide
  | cons c r ih =>
    by_cases h : c = 48
    · subst h; rw [List.dropWhile_cons_of_pos (by decide)]; exact ih
    · rw [List.dropWhile_cons_of_neg (by simpa using h)]; exact h
/-- Digits without the zeros in front. -/
theorem dec_natural (l : List UInt8) (h : l.all isDg = true) : decDigits (dval l) = if l.dropWhile (· == 48) = [] then [48] else l.dropWhile (· == 48) := by
  split
  · rename_i e
    rw [← dval_drop l, e]
    decide +kernel
  · rename_i e
    rw [← dval_drop l]
    exact dec_dval _ e (drop_all l h) (.inr (drop_head l))
theorem dval_lt (l : List UInt8) (h : l.all isDg = true) : dval l < 10 ^ l.length := by
  have : ∀ n, ∀ l : List UInt8, l.length = n → l.all isDg = true → dval l < 10 ^ l.length := by
    intro n
    induction n with
    | zero => intro l h0 _; rw [List.eq_nil_of_length_eq_zero h0]; decide
    | succ n ih =>
      intro l h0 ha
      obtain ⟨r, c, rfl⟩ : ∃ r c, l = r ++ [c] := by
        rcases List.eq_nil_or_concat l with rfl | ⟨r, c, rfl⟩
        · simp at h0
        · exact ⟨r, c, by simp⟩
      rw [List.all_append, Bool.and_eq_true] at ha
      have h1 := ih r (by simpa using h0) ha.1
      have h2 : isDg c = true := by simpa using ha.2
      unfold isDg at h2
      simp at h2
      rw [dval_snoc, List.length_append, List.length_singleton, Nat.pow_succ]
      omega
  exact this _ l rfl h
/-- The digits of a text of digits are no more than its bytes. -/
theorem nDigits_dval (l : List UInt8) (h : l.all isDg = true) (h0 : l ≠ []) : nDigits (dval l) ≤ l.length := by
  have hd := dec_natural l h
  rw [← decDigits_length, hd]
  split
  · have := List.length_pos_iff.2 h0; simp; omega
  · exact (List.dropWhile_sublist _).length_le
theorem digL_all {l : List UInt8} (h : digL l = true) : l.all isDg = true ∧ l ≠ [] := by
  unfold digL at h
  simp only [Bool.and_eq_true, Bool.not_eq_true', List.isEmpty_eq_false_iff] at h
  exact ⟨h.2, h.1⟩
theorem digL_of {l : List UInt8} (h : l.all isDg = true) (h0 : l ≠ []) : digL l = true := by
  unfold digL
  simp only [Bool.and_eq_true, Bool.not_eq_true', List.isEmpty_eq_false_iff]
  exact ⟨h0, h⟩
theorem take_while_all (l : List UInt8) : (l.takeWhile isDg).all isDg = true := by simp
theorem while_parts (l : List UInt8) : l.takeWhile isDg ++ l.dropWhile isDg = l := List.takeWhile_append_dropWhile
theorem drop_while_head (l : List UInt8) (c : UInt8) (t : List UInt8) (h : l.dropWhile isDg = c :: t) : isDg c = false := by
  induction l with
  | nil => simp at h
  | cons x r ih =>
    by_cases hx : isDg x = true
    · rw [List.dropWhile_cons_of_pos hx] at h; exact ih h
    · rw [List.dropWhile_cons_of_neg hx] at h
      obtain ⟨rfl, rfl⟩ := List.cons.inj h
      simpa using hx

/-! ### By the place of the first stroke or point -/
theorem all_split (i : Nat) (l : List UInt8) (h : (l.take i).all isDg = true) (hx : ∀ x, l[i]? = some x → isDg x = false) : l.takeWhile isDg = l.take i ∧ l.dropWhile isDg = l.drop i := by
  induction l generalizing i with
  | nil => simp
  | cons c r ih =>
    cases i with
    | zero =>
      have := hx c rfl
      rw [List.takeWhile_cons_of_neg (by simp [this]), List.dropWhile_cons_of_neg (by simp [this])]
      simp
    | succ i =>
      rw [List.take_succ_cons, List.all_cons, Bool.and_eq_true] at h
      obtain ⟨e1, e2⟩ := ih i h.2 (fun x hx' => hx x (by simpa using hx'))
      rw [List.takeWhile_cons_of_pos h.1, List.dropWhile_cons_of_pos h.1, e1, e2]
      simp
theorem numeral_none (r : List UInt8) (h : ∀ x ∈ r, x ≠ 47 ∧ x ≠ 46) : numeralP r = if digL r then some (dval r, 1) else none := by
  unfold numeralP
  cases hd : r.dropWhile isDg with
  | nil =>
    have e := while_parts r
    rw [hd, List.append_nil] at e
    simp only [e]
    have ha : r.all isDg = true := by rw [← e]; exact take_while_all r
    by_cases h0 : r = []
    · subst h0; simp [digL]
    · simp [h0, digL_of ha h0]
  | cons c t =>
    have hc := drop_while_head r c t hd
    have hm : c ∈ r := (List.dropWhile_sublist isDg).mem (by rw [hd]; simp)
    obtain ⟨n1, n2⟩ := h c hm
    have hn : digL r = false := by
      rw [← Bool.not_eq_true]; intro k
      have := List.all_eq_true.1 (digL_all k).1 c hm
      rw [hc] at this; cases this
    simp [n1, n2, hn]
theorem numeral_at (r : List UInt8) (i : Nat) (c : UInt8) (hc : r[i]? = some c) (hcc : c = 47 ∨ c = 46) :
    numeralP r = if digL (r.take i) && digL (r.drop (i + 1)) then (if c = 46 then some (dval (r.take i ++ r.drop (i + 1)), 10 ^ (r.drop (i + 1)).length) else if dval (r.drop (i + 1)) = 0 then none else some (dval (r.take i), dval (r.drop (i + 1)))) else none := by
  have hnd : isDg c = false := by rcases hcc with rfl | rfl <;> decide
  have hdrop : r.drop i = c :: r.drop (i + 1) := by
    obtain ⟨hi, e⟩ := List.getElem?_eq_some_iff.1 hc
    rw [List.drop_eq_getElem_cons hi, e]
  by_cases ha : (r.take i).all isDg = true
  · obtain ⟨e1, e2⟩ := all_split i r ha (fun x hx => by rw [hc] at hx; cases hx; exact hnd)
    unfold numeralP
    rw [e2, hdrop, e1]
    simp only
    by_cases h0 : r.take i = []
    · simp [h0, digL]
    · rw [digL_of ha h0]
      cases hd : digL (r.drop (i + 1))
      · simp
      · rcases hcc with rfl | rfl
        · simp [h0]
        · simp [h0]
  · have hf : digL (r.take i) = false := by
      rw [← Bool.not_eq_true]; intro k; exact ha (digL_all k).1
    rw [hf]
    simp only [Bool.false_and, Bool.false_eq_true, if_false]
    unfold numeralP
    cases hd : r.dropWhile isDg with
    | nil =>
      exfalso
      have e := while_parts r
      rw [hd, List.append_nil] at e
      apply ha
      rw [List.all_eq_true]
      intro x hx
      have h2 := take_while_all r
      rw [e] at h2
      exact List.all_eq_true.1 h2 x (List.mem_of_mem_take hx)
    | cons b t =>
      have hb := drop_while_head r b t hd
      -- the digits in front end before place i, so the stroke or point lies behind b
      have hlen : (r.takeWhile isDg).length < i := by
        rcases Nat.lt_or_ge (r.takeWhile isDg).length i with h1 | h1
        · exact h1
        · exfalso
          apply ha
          rw [List.all_eq_true]
          intro x hx
          have h2 : r.take i = (r.takeWhile isDg).take i := by
            conv => lhs; rw [← while_parts r]
            rw [List.take_append_of_le_length h1]
          rw [h2] at hx
          exact List.all_eq_true.1 (take_while_all r) x (List.mem_of_mem_take hx)
      have hin : c ∈ t := by
        have e : r = r.takeWhile isDg ++ b :: t := by rw [← hd]; exact (while_parts r).symm
        rw [e] at hc
        rw [List.getElem?_append_right (by omega)] at hc
        obtain ⟨q, hq⟩ : ∃ q, i - (r.takeWhile isDg).length = q + 1 := ⟨i - (r.takeWhile isDg).length - 1, by omega⟩
        rw [hq, List.getElem?_cons_succ] at hc
        exact List.mem_of_getElem? hc
      have hf : digL t = false := by
        rw [← Bool.not_eq_true]; intro k
        have := List.all_eq_true.1 (digL_all k).1 c hin
        rw [hnd] at this; cases this
      simp [hf]

theorem numeral_den {r : List UInt8} {n d : Nat} (h : numeralP r = some (n, d)) : d ≠ 0 := by
  unfold numeralP at h
  split at h
  · split at h
    · cases h
    · cases h; decide
  · split at h
    · cases h
    · split at h
      · cases h; exact Nat.ne_of_gt (Nat.pow_pos (by decide))
      · split at h
        · split at h
          · cases h
          · rename_i hz; cases h; exact hz
        · cases h
theorem nDigits_pow (k : Nat) : nDigits (10 ^ k) = k + 1 := by rw [← decDigits_length, dec_pow]; simp
theorem numeral_small {r : List UInt8} {n d : Nat} (h : numeralP r = some (n, d)) : nDigits n ≤ r.length ∧ nDigits d ≤ r.length := by
  have e := congrArg List.length (while_parts r)
  rw [List.length_append] at e
  unfold numeralP at h
  split at h
  · rename_i hd
    split at h
    · cases h
    · rename_i h0
      cases h
      rw [hd] at e
      have h1 := nDigits_dval _ (take_while_all r) h0
      have h2 := List.length_pos_iff.2 h0
      simp at e
      refine ⟨by omega, ?_⟩
      rw [show nDigits 1 = 1 by rw [nDigits_small (by decide)]]
      omega
  · rename_i c t hd
    rw [hd, List.length_cons] at e
    split at h
    · cases h
    · rename_i h0
      have h0a : r.takeWhile isDg ≠ [] := fun k => h0 (.inl k)
      have h0b : digL t = true := by cases k : digL t; exact absurd (.inr k) h0; rfl
      obtain ⟨ta, tn⟩ := digL_all h0b
      split at h
      · cases h
        refine ⟨?_, by rw [nDigits_pow]; have := List.length_pos_iff.2 h0a; omega⟩
        have h1 := nDigits_dval (r.takeWhile isDg ++ t) (by rw [List.all_append, take_while_all, ta]; rfl) (by simp [tn])
        rw [List.length_append] at h1
        omega
      · split at h
        · split at h
          · cases h
          · cases h
            have h1 := nDigits_dval _ (take_while_all r) h0a
            have h2 := nDigits_dval _ ta tn
            omega
        · cases h
end Go.Proofs.YtkekljjjomnalaaGreatDoor
