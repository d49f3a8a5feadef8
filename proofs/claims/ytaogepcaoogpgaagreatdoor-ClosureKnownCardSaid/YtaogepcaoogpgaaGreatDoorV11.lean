/- U13 -/
import Derived.Test.YtaogepcaoogpgaaGreatDoorV09
set_option linter.unusedVariables false
set_option linter.unusedSimpArgs false
namespace Go.Proofs.YtaogepcaoogpgaaGreatDoor
open Go.RowKit
open Go.Lib (nDigits decDigits)
def infS : ByteArray := ⟨#[105, 110, 102]⟩
def lowS : ByteArray := ⟨#[45, 105, 110, 102]⟩
def zeroS : ByteArray := ⟨#[48]⟩
def oneS : ByteArray := ⟨#[49]⟩
abbrev Ext := Sum Bool Rat
def IsE (a : ByteArray) : Ext → Prop
 | .inl true => a = infS
 | .inl false => a = lowS
 | .inr x => IsRat a x
def extV : Ext → Value
 | .inl true => .tuple #[.string infS, .int .i64 0]
 | .inl false => .tuple #[.string lowS, .int .i64 0]
 | .inr x => finV x
theorem extV_is {a : ByteArray} {v : Ext} (h : IsE a v) : extV v = .tuple #[.string a, .int .i64 0] := by
 rcases v with (_ | _) | x
 ·cases h; rfl
 ·cases h; rfl
 ·exact finV_rat h
theorem not_inf : ∀ x, ¬ IsRat infS x := fun x h => by
 have h1 := (rat_parts h).n
 revert h1
 decide +kernel
theorem not_low : ∀ x, ¬ IsRat lowS x := fun x h => by
 have h1 := (rat_parts h).n
 revert h1
 decide +kernel
theorem low_inf : lowS ≠ infS := by decide +kernel
theorem IsE.uniq {a : ByteArray} {u v : Ext} (h : IsE a u) (k : IsE a v) : u = v := by
 rcases u with (_ | _) | x <;> rcases v with (_ | _) | y
 ·rfl
 ·exact absurd (h.symm.trans k) low_inf
 ·cases h; exact absurd k (not_low y)
 ·exact absurd (k.symm.trans h) low_inf
 ·rfl
 ·cases h; exact absurd k (not_inf y)
 ·cases k; exact absurd h (not_low x)
 ·cases k; exact absurd h (not_inf x)
 ·rw [IsRat.uniq h k]
theorem IsE.same {a b : ByteArray} {v : Ext} (h : IsE a v) (k : IsE b v) : a = b := by
 rcases v with (_ | _) | x
 ·exact h.trans k.symm
 ·exact h.trans k.symm
 ·exact h.eq.trans k.eq.symm
theorem IsE.len {a : ByteArray} {v : Ext} (h : IsE a v) : a.size ≤ maxLen := by
 rcases v with (_ | _) | x
 ·cases h; decide
 ·cases h; decide
 ·exact rat_len h
theorem zeroE : IsE zeroS (.inr 0) := zero_rat
theorem oneE : IsE oneS (.inr 1) := ⟨by decide +kernel, by decide +kernel⟩
theorem topE : IsE infS (.inl true) := rfl
theorem lowE : IsE lowS (.inl false) := rfl
def sizeE : Ext → Int
 | .inl true => 1
 | .inl false => -1
 | .inr _ => 0
def cmpI (m n : Int) : Int := if m < n then -1 else if n < m then 1 else 0
def cmpE : Ext → Ext → Int
 | .inr x, .inr y => cmpQ x y
 | u, v => cmpI (sizeE u) (sizeE v)
theorem cmpQ_self (x : Rat) : cmpQ x x = 0 := by unfold cmpQ; rw [if_neg (Rat.lt_irrefl), if_neg (Rat.lt_irrefl)]
theorem cmpQ_neg (x y : Rat) : cmpQ x y < 0 ↔ x < y := by
 unfold cmpQ
 split
 ·simp_all
 ·split <;> simp_all
theorem cmpQ_flip (x y : Rat) : cmpQ y x = -cmpQ x y := by
 unfold cmpQ
 by_cases h : x < y
 ·rw [if_pos h, if_neg (Rat.not_lt.2 (Rat.le_of_lt h)), if_pos h]; rfl
 ·by_cases k : y < x
  ·rw [if_pos k, if_neg h, if_pos k]
  ·rw [if_neg k, if_neg h, if_neg h, if_neg k]; rfl
theorem cmpQ_pos (x y : Rat) : 0 < cmpQ x y ↔ y < x := by
 rw [← cmpQ_neg, cmpQ_flip]; omega
theorem cmpQ_zero (x y : Rat) : cmpQ x y = 0 ↔ x = y := by
 constructor
 ·intro h
  have h1 : ¬ x < y := fun k => by have := (cmpQ_neg x y).2 k; omega
  have h2 : ¬ y < x := fun k => by have := (cmpQ_pos x y).2 k; omega
  exact Rat.le_antisymm (Rat.not_lt.1 h2) (Rat.not_lt.1 h1)
 ·rintro rfl; exact cmpQ_self x
theorem cmpQ_le (x y : Rat) : cmpQ x y ≤ 0 ↔ x ≤ y := by
 rw [← Rat.not_lt, ← cmpQ_pos]; omega
theorem cmpE_flip (u v : Ext) : cmpE v u = -cmpE u v := by
 rcases u with (_ | _) | x <;> rcases v with (_ | _) | y
 all_goals first | exact cmpQ_flip x y | rfl
theorem cmpE_zero (u v : Ext) : cmpE u v = 0 ↔ u = v := by
 rcases u with (_ | _) | x <;> rcases v with (_ | _) | y
 all_goals first
  | exact ⟨fun h => congrArg _ ((cmpQ_zero x y).1 h), fun h => (cmpQ_zero x y).2 (Sum.inr.inj h)⟩
  | exact ⟨fun h => absurd (show (-1 : Int) = 0 from h) (by decide), fun h => by cases h⟩
  | exact ⟨fun h => absurd (show (1 : Int) = 0 from h) (by decide), fun h => by cases h⟩
  | exact ⟨fun _ => rfl, fun _ => rfl⟩
theorem cmpE_trans (u v t : Ext) (h : cmpE u v ≤ 0) (k : cmpE v t ≤ 0) : cmpE u t ≤ 0 := by
 rcases u with (_ | _) | x <;> rcases v with (_ | _) | y <;> rcases t with (_ | _) | z
 all_goals first
  | exact (cmpQ_le x z).2 (Rat.le_trans ((cmpQ_le x y).1 h) ((cmpQ_le y z).1 k))
  | exact absurd (show (1 : Int) ≤ 0 from h) (by decide)
  | exact absurd (show (1 : Int) ≤ 0 from k) (by decide)
  | exact (show (-1 : Int) ≤ 0 by decide)
  | exact (show (0 : Int) ≤ 0 by decide)
def kindB (k : Int) : Bool := decide (k = 1) || (decide (k = 2) || decide (k = 3))
def hasE (k : Int) : Ext → Bool
 | .inl true => kindB k
 | .inl false => decide (k = 1)
 | .inr x => decide (k = 1) || ((decide (k = 2) || decide (k = 3)) && decide (0 ≤ x))
def wgtE (k : Int) : Ext → Bool
 | .inl _ => false
 | .inr x => decide (k = 1) || ((decide (k = 2) || decide (k = 3)) && decide (0 < x))
def topOf (k : Int) : Ext := if k = 1 then .inl true else .inr 0
def unitOf (k : Int) : Ext := if k = 1 then .inr 0 else .inr 1
def lessE (u v : Ext) : Ext := if cmpE v u < 0 then v else u
def moreE (u v : Ext) : Ext := if 0 < cmpE v u then v else u
def costE : Ext → Ext → Ext
 | .inr x, .inr y => .inr (x + y)
 | .inl true, _ => .inl true
 | _, .inl true => .inl true
 | _, _ => .inl false
def sumE : Ext → Ext → Ext
 | .inr x, .inr y => .inr (x + y)
 | _, _ => .inl true
def prodE (u v : Ext) : Ext := if u = .inr 0 ∨ v = .inr 0 then .inr 0 else match u, v with
 | .inr x, .inr y => .inr (x * y)
 | _, _ => .inl true
def plusE (k : Int) (u v : Ext) : Ext := if k = 1 then lessE u v else if k = 2 then sumE u v else moreE u v
def timesE (k : Int) (u v : Ext) : Ext := if k = 1 then costE u v else prodE u v
def starE (k : Int) (u : Ext) : Ext :=
 if k = 1 then (if cmpE u (.inr 0) < 0 then .inl false else .inr 0)
 else if k = 2 then (match u with
  | .inr x => if x < 1 then .inr (1 / (1 - x)) else .inl true
  | _ => .inl true)
 else (if 0 < cmpE u (.inr 1) then .inl true else .inr 1)
def betterE (k : Int) (u v : Ext) : Int := if k = 1 then cmpE u v else cmpE v u
structure Val (k : Int) (a : ByteArray) (v : Ext) : Prop where
 e : IsE a v
 has : hasE k v = true
structure Wgt (k : Int) (a : ByteArray) (v : Ext) : Prop where
 e : IsE a v
 has : wgtE k v = true
def NoVal (k : Int) (a : ByteArray) : Prop := ∀ v, IsE a v → hasE k v = false
def NoWgt (k : Int) (a : ByteArray) : Prop := ∀ v, IsE a v → wgtE k v = false
theorem val_or (k : Int) (a : ByteArray) : (∃ v, Val k a v) ∨ NoVal k a := by
 by_cases h : ∃ v, Val k a v
 ·exact .inl h
 ·refine .inr fun v hv => ?_
  cases hk : hasE k v
  ·rfl
  ·exact absurd ⟨v, hv, hk⟩ h
theorem wgt_or (k : Int) (a : ByteArray) : (∃ v, Wgt k a v) ∨ NoWgt k a := by
 by_cases h : ∃ v, Wgt k a v
 ·exact .inl h
 ·refine .inr fun v hv => ?_
  cases hk : wgtE k v
  ·rfl
  ·exact absurd ⟨v, hv, hk⟩ h
theorem wgt_has {k : Int} {v : Ext} (h : wgtE k v = true) : hasE k v = true := by
 rcases v with (_ | _) | x
 ·cases h
 ·cases h
 ·unfold wgtE at h; unfold hasE
  simp only [Bool.or_eq_true, Bool.and_eq_true, decide_eq_true_eq] at h ⊢
  rcases h with h | ⟨h1, h2⟩
  ·exact .inl h
  ·exact .inr ⟨h1, Rat.le_of_lt h2⟩
theorem Wgt.val {k : Int} {a : ByteArray} {v : Ext} (h : Wgt k a v) : Val k a v := ⟨h.e, wgt_has h.has⟩
theorem no_kind {k : Int} (h1 : k ≠ 1) (h2 : k ≠ 2) (h3 : k ≠ 3) (v : Ext) : hasE k v = false := by
 rcases v with (_ | _) | x <;> simp [hasE, kindB, h1, h2, h3]
theorem Val.kind {k : Int} {a : ByteArray} {v : Ext} (h : Val k a v) : k = 1 ∨ k = 2 ∨ k = 3 := by
 by_cases h1 : k = 1
 ·exact .inl h1
 by_cases h2 : k = 2
 ·exact .inr (.inl h2)
 by_cases h3 : k = 3
 ·exact .inr (.inr h3)
 have := no_kind h1 h2 h3 v
 rw [h.has] at this; cases this
theorem has_two (v : Ext) : hasE 2 v = hasE 3 v := by rcases v with (_ | _) | x <;> rfl
theorem wgt_two (v : Ext) : wgtE 2 v = wgtE 3 v := by rcases v with (_ | _) | x <;> rfl
theorem has_one (v : Ext) : hasE 1 v = true := by rcases v with (_ | _) | x <;> rfl
theorem has_top (v : Ext) (h : hasE 2 v = true) : v = .inl true ∨ ∃ x, v = .inr x ∧ 0 ≤ x := by
 rcases v with (_ | _) | x
 ·cases h
 ·exact .inl rfl
 ·refine .inr ⟨x, rfl, ?_⟩
  simpa [hasE] using h
open Go.RowKit
open Go.Lib (nDigits decDigits)
def Wide (n : Nat) (x : Rat) : Prop := nDigits x.num.natAbs ≤ n ∧ nDigits x.den ≤ n
theorem Wide.mono {m n : Nat} {x : Rat} (h : Wide m x) (k : m ≤ n) : Wide n x := ⟨Nat.le_trans h.1 k, Nat.le_trans h.2 k⟩
theorem mk_small (z : Int) (d : Nat) (hd : d ≠ 0) : (mkRat z d).num.natAbs ≤ z.natAbs ∧ (mkRat z d).den ≤ d := by
 have e : sg (decide (z < 0)) z.natAbs = z := by
  unfold sg
  by_cases h : z < 0
  ·rw [if_pos (by simpa using h)]; omega
  ·rw [if_neg (by simpa using h)]; omega
 have h1 := mk_num (decide (z < 0)) z.natAbs d hd
 have h2 := mk_den (decide (z < 0)) z.natAbs d hd
 rw [e] at h1 h2
 rw [h1, h2]
 exact ⟨Nat.div_le_self _ _, Nat.div_le_self _ _⟩
theorem wide_mk (z : Int) (d n : Nat) (hd : d ≠ 0) (h1 : nDigits z.natAbs ≤ n) (h2 : nDigits d ≤ n) : Wide n (mkRat z d) := by
 obtain ⟨k1, k2⟩ := mk_small z d hd
 exact ⟨Nat.le_trans (nDigits_mono k1) h1, Nat.le_trans (nDigits_mono k2) h2⟩
theorem dig_mul' {x y m n : Nat} (hx : nDigits x ≤ m) (hy : nDigits y ≤ n) : nDigits (x * y) ≤ m + n := by have := nDigits_mul x y; omega
theorem den_ne (x y : Rat) : x.den * y.den ≠ 0 := Nat.mul_ne_zero x.den_nz y.den_nz
theorem wide_mul {m n : Nat} {x y : Rat} (hx : Wide m x) (hy : Wide n y) : Wide (m + n) (x * y) := by
 rw [← mul_parts x y]
 refine wide_mk _ _ _ (den_ne x y) ?_ (dig_mul' hx.2 hy.2)
 rw [sg_abs]
 exact dig_mul' hx.1 hy.1
theorem wide_add {m n : Nat} {x y : Rat} (hx : Wide m x) (hy : Wide n y) : Wide (m + n + 1) (x + y) := by
 rw [← add_parts x y _ rfl]
 refine wide_mk _ _ _ (den_ne x y) ?_ (Nat.le_succ_of_le (dig_mul' hx.2 hy.2))
 have d1 := dig_mul' hx.1 hy.2
 have d2 : nDigits (y.num.natAbs * x.den) ≤ m + n := by have := dig_mul' hy.1 hx.2; omega
 refine Nat.le_trans (nDigits_mono ?_) (nDigits_add _ _ _ d1 d2)
 have e1 := sg_abs (sgn x) (x.num.natAbs * y.den)
 have e2 := sg_abs (sgn y) (y.num.natAbs * x.den)
 omega
theorem wide_zero : Wide 1 (0 : Rat) := by unfold Wide; decide +kernel
theorem wide_one : Wide 1 (1 : Rat) := by unfold Wide; decide +kernel
theorem less_parts {x : Rat} : (1 - x) = mkRat ((x.den : Int) - x.num) x.den := by
 have e := add_parts 1 (-x) _ rfl
 rw [Rat.sub_eq_add_neg, ← e]
 have h1 : sg (sgn 1) ((1 : Rat).num.natAbs * (-x).den) = (x.den : Int) := by
  rw [Rat.neg_den, show sgn 1 = false by decide +kernel, show (1 : Rat).num.natAbs = 1 by decide +kernel]
  unfold sg
  simp
 have h2 : sg (sgn (-x)) ((-x).num.natAbs * (1 : Rat).den) = -x.num := by
  rw [show (1 : Rat).den = 1 by decide +kernel, Nat.mul_one, ← Rat.neg_num]
  exact sg_num (-x)
 rw [h1, h2, show (1 : Rat).den * (-x).den = x.den by rw [Rat.neg_den, show (1 : Rat).den = 1 by decide +kernel, Nat.one_mul], Int.sub_eq_add_neg]
theorem short_less {x : Rat} (h0 : 0 ≤ x) (h1 : x ≤ 1) (h : Short x) : Short (1 - x) := by
 rw [less_parts]
 have k0 := Rat.num_nonneg.2 h0
 have k1 : x.num ≤ x.den := by
  have := (Rat.le_iff x 1).1 h1
  rw [show (1 : Rat).num = 1 by decide +kernel, show (1 : Rat).den = 1 by decide +kernel] at this
  omega
 refine wide_mk _ _ 400 x.den_nz ?_ h.2
 refine Nat.le_trans (nDigits_mono ?_) h.2
 omega
theorem less_ne {x : Rat} (h : x < 1) : (1 - x).num ≠ 0 := fun k => by
 rw [Rat.num_eq_zero] at k
 have := Rat.sub_add_cancel (a := 1) (b := x)
 rw [k, Rat.zero_add] at this
 rw [this] at h
 exact Rat.lt_irrefl h
end Go.Proofs.YtaogepcaoogpgaaGreatDoor
