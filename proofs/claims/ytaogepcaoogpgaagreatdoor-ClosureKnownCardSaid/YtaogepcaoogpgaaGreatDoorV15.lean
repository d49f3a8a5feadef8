/- U61 -/
import Derived.Test.YtaogepcaoogpgaaGreatDoorV11
set_option linter.unusedVariables false
set_option linter.unusedSimpArgs false
namespace Go.Proofs.YtaogepcaoogpgaaGreatDoor
open Go.RowKit
open Go.Lib (nDigits decDigits)
def leE (u v : Ext) : Prop := cmpE u v ≤ 0
theorem leE_refl (u : Ext) : leE u u := by unfold leE; rw [(cmpE_zero u u).2 rfl]; decide
theorem leE_trans {u v t : Ext} (h : leE u v) (k : leE v t) : leE u t := cmpE_trans u v t h k
theorem leE_total (u v : Ext) : leE u v ∨ leE v u := by
 unfold leE
 have := cmpE_flip u v
 omega
theorem leE_anti {u v : Ext} (h : leE u v) (k : leE v u) : u = v := by
 unfold leE at *
 have := cmpE_flip u v
 exact (cmpE_zero u v).1 (by omega)
theorem leE_num (x y : Rat) : leE (.inr x) (.inr y) ↔ x ≤ y := cmpQ_le x y
theorem leE_top (u : Ext) : leE u (.inl true) := by
 rcases u with (_ | _) | x
 ·exact (show (-1 : Int) ≤ 0 by decide)
 ·exact (show (0 : Int) ≤ 0 by decide)
 ·exact (show (-1 : Int) ≤ 0 by decide)
theorem leE_low (u : Ext) : leE (.inl false) u := by
 rcases u with (_ | _) | x
 ·exact (show (0 : Int) ≤ 0 by decide)
 ·exact (show (-1 : Int) ≤ 0 by decide)
 ·exact (show (-1 : Int) ≤ 0 by decide)
theorem not_top_num (x : Rat) : ¬ leE (.inl true) (.inr x) := fun h => absurd (show (1 : Int) ≤ 0 from h) (by decide)
theorem not_top_low : ¬ leE (.inl true) (.inl false) := fun h => absurd (show (1 : Int) ≤ 0 from h) (by decide)
theorem not_num_low (x : Rat) : ¬ leE (.inr x) (.inl false) := fun h => absurd (show (1 : Int) ≤ 0 from h) (by decide)
theorem less_left {u v : Ext} (h : leE u v) : lessE u v = u := by
 unfold lessE
 unfold leE at h
 have := cmpE_flip u v
 rw [if_neg (by omega)]
theorem less_right {u v : Ext} (h : leE v u) : lessE u v = v := by
 unfold lessE
 by_cases k : cmpE v u < 0
 ·rw [if_pos k]
 ·rw [if_neg k]
  unfold leE at h
  exact ((cmpE_zero v u).1 (by omega)).symm
theorem more_left {u v : Ext} (h : leE v u) : moreE u v = u := by
 unfold moreE
 unfold leE at h
 rw [if_neg (by omega)]
theorem more_right {u v : Ext} (h : leE u v) : moreE u v = v := by
 unfold moreE
 by_cases k : 0 < cmpE v u
 ·rw [if_pos k]
 ·rw [if_neg k]
  unfold leE at h
  have := cmpE_flip u v
  exact (cmpE_zero u v).1 (by omega)
theorem le_less (t u v : Ext) : leE t (lessE u v) ↔ leE t u ∧ leE t v := by
 rcases leE_total u v with h | h
 ·rw [less_left h]; exact ⟨fun k => ⟨k, leE_trans k h⟩, fun k => k.1⟩
 ·rw [less_right h]; exact ⟨fun k => ⟨leE_trans k h, k⟩, fun k => k.2⟩
theorem more_le (t u v : Ext) : leE (moreE u v) t ↔ leE u t ∧ leE v t := by
 rcases leE_total u v with h | h
 ·rw [more_right h]; exact ⟨fun k => ⟨leE_trans h k, k⟩, fun k => k.2⟩
 ·rw [more_left h]; exact ⟨fun k => ⟨k, leE_trans h k⟩, fun k => k.1⟩
theorem eq_of_le {u v : Ext} (h : ∀ t, leE t u ↔ leE t v) : u = v := leE_anti ((h u).1 (leE_refl u)) ((h v).2 (leE_refl v))
theorem eq_of_ge {u v : Ext} (h : ∀ t, leE u t ↔ leE v t) : u = v := leE_anti ((h v).2 (leE_refl v)) ((h u).1 (leE_refl u))
theorem less_comm (u v : Ext) : lessE u v = lessE v u := eq_of_le fun t => by rw [le_less, le_less]; exact and_comm
theorem more_comm (u v : Ext) : moreE u v = moreE v u := eq_of_ge fun t => by rw [more_le, more_le]; exact and_comm
theorem less_assoc (u v t : Ext) : lessE (lessE u v) t = lessE u (lessE v t) := eq_of_le fun s => by simp only [le_less, and_assoc]
theorem more_assoc (u v t : Ext) : moreE (moreE u v) t = moreE u (moreE v t) := eq_of_ge fun s => by simp only [more_le, and_assoc]
theorem less_or (u v : Ext) : lessE u v = u ∨ lessE u v = v := by rcases leE_total u v with h | h; exact .inl (less_left h); exact .inr (less_right h)
theorem more_or (u v : Ext) : moreE u v = u ∨ moreE u v = v := by rcases leE_total u v with h | h; exact .inr (more_right h); exact .inl (more_left h)
theorem cost_top (u : Ext) : costE (.inl true) u = .inl true := by rcases u with (_ | _) | x <;> rfl
theorem cost_comm (u v : Ext) : costE u v = costE v u := by
 rcases u with (_ | _) | x <;> rcases v with (_ | _) | y
 all_goals first | exact congrArg Sum.inr (Rat.add_comm x y) | rfl
theorem cost_assoc (u v t : Ext) : costE (costE u v) t = costE u (costE v t) := by
 rcases u with (_ | _) | x <;> rcases v with (_ | _) | y <;> rcases t with (_ | _) | z
 all_goals first | exact congrArg Sum.inr (Rat.add_assoc x y z) | rfl
theorem cost_zero (u : Ext) : costE u (.inr 0) = u := by
 rcases u with (_ | _) | x
 ·rfl
 ·rfl
 ·exact congrArg Sum.inr (Rat.add_zero x)
theorem cost_mono (t u v : Ext) (h : leE u v) : leE (costE t u) (costE t v) := by
 rcases t with (_ | _) | z <;> rcases u with (_ | _) | x <;> rcases v with (_ | _) | y
 all_goals first
  | exact leE_top _
  | exact leE_low _
  | exact absurd h not_top_low
  | exact absurd h (not_top_num _)
  | exact absurd h (not_num_low _)
  | exact (leE_num _ _).2 (Rat.add_le_add_left.2 ((leE_num _ _).1 h))
theorem cost_less (t u v : Ext) : costE t (lessE u v) = lessE (costE t u) (costE t v) := by
 rcases leE_total u v with h | h
 ·rw [less_left h, less_left (cost_mono t u v h)]
 ·rw [less_right h, less_right (cost_mono t v u h)]
theorem prod_num (x y : Rat) : prodE (.inr x) (.inr y) = .inr (x * y) := by
 unfold prodE
 by_cases hx : x = 0
 ·subst hx; rw [if_pos (.inl rfl), Rat.zero_mul]
 by_cases hy : y = 0
 ·subst hy; rw [if_pos (.inr rfl), Rat.mul_zero]
 rw [if_neg (fun h => by rcases h with h | h; exact hx (Sum.inr.inj h); exact hy (Sum.inr.inj h))]
theorem prod_zero_left (u : Ext) : prodE (.inr 0) u = .inr 0 := if_pos (.inl rfl)
theorem prod_zero_right (u : Ext) : prodE u (.inr 0) = .inr 0 := if_pos (.inr rfl)
theorem prod_top_num {x : Rat} (h : x ≠ 0) : prodE (.inl true) (.inr x) = .inl true := by
 unfold prodE
 rw [if_neg (fun k => by rcases k with k | k; cases k; exact h (Sum.inr.inj k))]
theorem prod_num_top {x : Rat} (h : x ≠ 0) : prodE (.inr x) (.inl true) = .inl true := by
 unfold prodE
 rw [if_neg (fun k => by rcases k with k | k; exact h (Sum.inr.inj k); cases k)]
theorem prod_top_top : prodE (.inl true) (.inl true) = .inl true := by
 unfold prodE
 rw [if_neg (fun k => by rcases k with k | k <;> cases k)]
theorem prod_comm (u v : Ext) (hu : hasE 2 u = true) (hv : hasE 2 v = true) : prodE u v = prodE v u := by
 rcases has_top u hu with rfl | ⟨x, rfl, hx⟩ <;> rcases has_top v hv with rfl | ⟨y, rfl, hy⟩
 ·rfl
 ·by_cases h : y = 0
  ·subst h; rw [prod_zero_left, prod_zero_right]
  ·rw [prod_top_num h, prod_num_top h]
 ·by_cases h : x = 0
  ·subst h; rw [prod_zero_left, prod_zero_right]
  ·rw [prod_top_num h, prod_num_top h]
 ·rw [prod_num, prod_num, Rat.mul_comm]
theorem mul_ne {x y : Rat} (hx : x ≠ 0) (hy : y ≠ 0) : x * y ≠ 0 := fun h => by rcases Rat.mul_eq_zero.1 h with h | h; exact hx h; exact hy h
theorem prod_assoc (u v t : Ext) (hu : hasE 2 u = true) (hv : hasE 2 v = true) (ht : hasE 2 t = true) : prodE (prodE u v) t = prodE u (prodE v t) := by
 by_cases zu : u = .inr 0
 ·subst zu; rw [prod_zero_left, prod_zero_left, prod_zero_left]
 by_cases zv : v = .inr 0
 ·subst zv; rw [prod_zero_left, prod_zero_right, prod_zero_left]
 by_cases zt : t = .inr 0
 ·subst zt; rw [prod_zero_right, prod_zero_right, prod_zero_right]
 rcases has_top u hu with rfl | ⟨x, rfl, hx⟩ <;> rcases has_top v hv with rfl | ⟨y, rfl, hy⟩ <;> rcases has_top t ht with rfl | ⟨z, rfl, hz⟩
 ·rw [prod_top_top]
 ·rw [prod_top_top, prod_top_num (fun h => zt (congrArg _ h)), prod_top_top]
 ·rw [prod_top_num (fun h => zv (congrArg _ h)), prod_num_top (fun h => zv (congrArg _ h))]
 ·rw [prod_top_num (fun h => zv (congrArg _ h)), prod_top_num (fun h => zt (congrArg _ h)), prod_num, prod_top_num (mul_ne (fun h => zv (congrArg _ h)) (fun h => zt (congrArg _ h)))]
 ·rw [prod_num_top (fun h => zu (congrArg _ h)), prod_top_top, prod_num_top (fun h => zu (congrArg _ h))]
 ·rw [prod_num_top (fun h => zu (congrArg _ h)), prod_top_num (fun h => zt (congrArg _ h)), prod_num_top (fun h => zu (congrArg _ h))]
 ·rw [prod_num, prod_num_top (fun h => zv (congrArg _ h)), prod_num_top (fun h => zu (congrArg _ h)), prod_num_top (mul_ne (fun h => zu (congrArg _ h)) (fun h => zv (congrArg _ h)))]
 ·rw [prod_num, prod_num, prod_num, prod_num, Rat.mul_assoc]
theorem prod_one (u : Ext) (hu : hasE 2 u = true) : prodE u (.inr 1) = u := by
 rcases has_top u hu with rfl | ⟨x, rfl, hx⟩
 ·exact prod_top_num (by decide +kernel)
 ·rw [prod_num, Rat.mul_one]
theorem prod_mono (t u v : Ext) (ht : hasE 2 t = true) (hu : hasE 2 u = true) (hv : hasE 2 v = true) (h : leE u v) : leE (prodE t u) (prodE t v) := by
 by_cases zt : t = .inr 0
 ·subst zt; rw [prod_zero_left, prod_zero_left]; exact leE_refl _
 rcases has_top v hv with rfl | ⟨y, rfl, hy⟩
 ·rcases has_top t ht with rfl | ⟨z, rfl, hz⟩
  ·rw [prod_top_top]; exact leE_top _
  ·rw [prod_num_top (fun h => zt (congrArg _ h))]; exact leE_top _
 rcases has_top u hu with rfl | ⟨x, rfl, hx⟩
 ·exact absurd h (not_top_num _)
 have k := (leE_num _ _).1 h
 rcases has_top t ht with rfl | ⟨z, rfl, hz⟩
 ·by_cases zx : x = 0
  ·subst zx
   rw [prod_zero_right]
   by_cases zy : y = 0
   ·subst zy; rw [prod_zero_right]; exact leE_refl _
   ·rw [prod_top_num zy]; exact leE_top _
  ·have zy : y ≠ 0 := fun e => zx (Rat.le_antisymm (e ▸ k) hx)
   rw [prod_top_num zx, prod_top_num zy]; exact leE_refl _
 ·rw [prod_num, prod_num]
  exact (leE_num _ _).2 (Rat.mul_le_mul_of_nonneg_left k hz)
theorem prod_more (t u v : Ext) (ht : hasE 2 t = true) (hu : hasE 2 u = true) (hv : hasE 2 v = true) : prodE t (moreE u v) = moreE (prodE t u) (prodE t v) := by
 rcases leE_total u v with h | h
 ·rw [more_right h, more_right (prod_mono t u v ht hu hv h)]
 ·rw [more_left h, more_left (prod_mono t v u ht hv hu h)]
theorem sum_num (x y : Rat) : sumE (.inr x) (.inr y) = .inr (x + y) := rfl
theorem sum_top_left (u : Ext) : sumE (.inl true) u = .inl true := by rcases u with (_ | _) | x <;> rfl
theorem sum_top_right (u : Ext) : sumE u (.inl true) = .inl true := by rcases u with (_ | _) | x <;> rfl
theorem sum_comm (u v : Ext) (hu : hasE 2 u = true) (hv : hasE 2 v = true) : sumE u v = sumE v u := by
 rcases has_top u hu with rfl | ⟨x, rfl, hx⟩ <;> rcases has_top v hv with rfl | ⟨y, rfl, hy⟩
 ·rfl
 ·rfl
 ·rfl
 ·rw [sum_num, sum_num, Rat.add_comm]
theorem sum_assoc (u v t : Ext) (hu : hasE 2 u = true) (hv : hasE 2 v = true) (ht : hasE 2 t = true) : sumE (sumE u v) t = sumE u (sumE v t) := by
 rcases has_top u hu with rfl | ⟨x, rfl, hx⟩
 ·rw [sum_top_left, sum_top_left, sum_top_left]
 rcases has_top v hv with rfl | ⟨y, rfl, hy⟩
 ·rw [sum_top_right, sum_top_left, sum_top_right]
 rcases has_top t ht with rfl | ⟨z, rfl, hz⟩
 ·rw [sum_top_right, sum_top_right, sum_top_right]
 rw [sum_num, sum_num, sum_num, sum_num, Rat.add_assoc]
theorem sum_zero (u : Ext) (hu : hasE 2 u = true) : sumE u (.inr 0) = u := by
 rcases has_top u hu with rfl | ⟨x, rfl, hx⟩
 ·rfl
 ·rw [sum_num, Rat.add_zero]
theorem add_pos {x y : Rat} (hx : 0 ≤ x) (hy : 0 ≤ y) (h : x + y = 0) : x = 0 ∧ y = 0 := by
 have h1 : x ≤ x + y := by
  have := (Rat.add_le_add_left (c := x)).2 hy
  rwa [Rat.add_zero] at this
 have h2 : y ≤ x + y := by
  have := (Rat.add_le_add_right (c := y)).2 hx
  rwa [Rat.zero_add] at this
 rw [h] at h1 h2
 exact ⟨Rat.le_antisymm h1 hx, Rat.le_antisymm h2 hy⟩
theorem prod_sum (t u v : Ext) (ht : hasE 2 t = true) (hu : hasE 2 u = true) (hv : hasE 2 v = true) : prodE t (sumE u v) = sumE (prodE t u) (prodE t v) := by
 rcases has_top t ht with rfl | ⟨z, rfl, hz⟩
 ·rcases has_top u hu with rfl | ⟨x, rfl, hx⟩
  ·rw [sum_top_left, prod_top_top, sum_top_left]
  rcases has_top v hv with rfl | ⟨y, rfl, hy⟩
  ·rw [sum_top_right, prod_top_top, sum_top_right]
  rw [sum_num]
  by_cases zx : x = 0
  ·subst zx
   rw [Rat.zero_add, prod_zero_right]
   by_cases zy : y = 0
   ·subst zy; rw [prod_zero_right, sum_num, Rat.zero_add]
   ·rw [prod_top_num zy]; rfl
  ·rw [prod_top_num zx, sum_top_left]
   exact prod_top_num (fun h => zx (add_pos hx hy h).1)
 ·by_cases zz : z = 0
  ·subst zz; rw [prod_zero_left, prod_zero_left, prod_zero_left, sum_num, Rat.zero_add]
  rcases has_top u hu with rfl | ⟨x, rfl, hx⟩
  ·rw [sum_top_left, prod_num_top zz, sum_top_left]
  rcases has_top v hv with rfl | ⟨y, rfl, hy⟩
  ·rw [sum_top_right, prod_num_top zz, sum_top_right]
  rw [sum_num, prod_num, prod_num, prod_num, sum_num, Rat.mul_add]
theorem has_inr {x : Rat} (h : 0 ≤ x) : hasE 2 (.inr x) = true := by simp [hasE, h]
theorem has_prod {u v : Ext} (hu : hasE 2 u = true) (hv : hasE 2 v = true) : hasE 2 (prodE u v) = true := by
 by_cases zu : u = .inr 0
 ·subst zu; rw [prod_zero_left]; exact hu
 by_cases zv : v = .inr 0
 ·subst zv; rw [prod_zero_right]; exact hv
 rcases has_top u hu with rfl | ⟨x, rfl, hx⟩ <;> rcases has_top v hv with rfl | ⟨y, rfl, hy⟩
 ·rw [prod_top_top]; rfl
 ·rw [prod_top_num (fun h => zv (congrArg _ h))]; rfl
 ·rw [prod_num_top (fun h => zu (congrArg _ h))]; rfl
 ·rw [prod_num]; exact has_inr (Rat.mul_nonneg hx hy)
theorem has_sum {u v : Ext} (hu : hasE 2 u = true) (hv : hasE 2 v = true) : hasE 2 (sumE u v) = true := by
 rcases has_top u hu with rfl | ⟨x, rfl, hx⟩
 ·rw [sum_top_left]; rfl
 rcases has_top v hv with rfl | ⟨y, rfl, hy⟩
 ·rw [sum_top_right]; rfl
 ·rw [sum_num]; exact has_inr (Rat.add_nonneg hx hy)
abbrev IsKind (k : Int) : Prop := k = 1 ∨ k = 2 ∨ k = 3
theorem has_plus {k : Int} (hk : IsKind k) {u v : Ext} (hu : hasE k u = true) (hv : hasE k v = true) : hasE k (plusE k u v) = true := by
 rcases hk with rfl | rfl | rfl
 ·exact has_one _
 ·exact has_sum hu hv
 ·show hasE 3 (moreE u v) = true
  rcases more_or u v with h | h <;> rw [h] <;> assumption
theorem has_times {k : Int} (hk : IsKind k) {u v : Ext} (hu : hasE k u = true) (hv : hasE k v = true) : hasE k (timesE k u v) = true := by
 rcases hk with rfl | rfl | rfl
 ·exact has_one _
 ·exact has_prod hu hv
 ·rw [← has_two] at *; exact has_prod hu hv
theorem has_topOf {k : Int} (hk : IsKind k) : hasE k (topOf k) = true := by rcases hk with rfl | rfl | rfl <;> decide +kernel
theorem has_unit {k : Int} (hk : IsKind k) : hasE k (unitOf k) = true := by rcases hk with rfl | rfl | rfl <;> decide +kernel
theorem plus_comm {k : Int} (hk : IsKind k) {u v : Ext} (hu : hasE k u = true) (hv : hasE k v = true) : plusE k u v = plusE k v u := by
 rcases hk with rfl | rfl | rfl
 ·exact less_comm u v
 ·exact sum_comm u v hu hv
 ·exact more_comm u v
theorem plus_assoc {k : Int} (hk : IsKind k) {u v t : Ext} (hu : hasE k u = true) (hv : hasE k v = true) (ht : hasE k t = true) : plusE k (plusE k u v) t = plusE k u (plusE k v t) := by
 rcases hk with rfl | rfl | rfl
 ·exact less_assoc u v t
 ·exact sum_assoc u v t hu hv ht
 ·exact more_assoc u v t
theorem times_comm {k : Int} (hk : IsKind k) {u v : Ext} (hu : hasE k u = true) (hv : hasE k v = true) : timesE k u v = timesE k v u := by
 rcases hk with rfl | rfl | rfl
 ·exact cost_comm u v
 ·exact prod_comm u v hu hv
 ·rw [← has_two] at *; exact prod_comm u v hu hv
theorem times_assoc {k : Int} (hk : IsKind k) {u v t : Ext} (hu : hasE k u = true) (hv : hasE k v = true) (ht : hasE k t = true) : timesE k (timesE k u v) t = timesE k u (timesE k v t) := by
 rcases hk with rfl | rfl | rfl
 ·exact cost_assoc u v t
 ·exact prod_assoc u v t hu hv ht
 ·rw [← has_two] at *; exact prod_assoc u v t hu hv ht
theorem times_plus {k : Int} (hk : IsKind k) {u v t : Ext} (hu : hasE k u = true) (hv : hasE k v = true) (ht : hasE k t = true) : timesE k u (plusE k v t) = plusE k (timesE k u v) (timesE k u t) := by
 rcases hk with rfl | rfl | rfl
 ·exact cost_less u v t
 ·exact prod_sum u v t hu hv ht
 ·rw [← has_two] at *; exact prod_more u v t hu hv ht
theorem plus_zero {k : Int} (hk : IsKind k) {u : Ext} (hu : hasE k u = true) : plusE k u (topOf k) = u := by
 rcases hk with rfl | rfl | rfl
 ·exact less_left (leE_top u)
 ·exact sum_zero u hu
 ·rw [← has_two] at hu
  refine more_left ?_
  rcases has_top u hu with rfl | ⟨x, rfl, hx⟩
  ·exact leE_top _
  ·exact (leE_num _ _).2 hx
theorem times_one {k : Int} (hk : IsKind k) {u : Ext} (hu : hasE k u = true) : timesE k u (unitOf k) = u := by
 rcases hk with rfl | rfl | rfl
 ·exact cost_zero u
 ·exact prod_one u hu
 ·rw [← has_two] at hu; exact prod_one u hu
theorem times_zero {k : Int} (hk : IsKind k) (u : Ext) : timesE k u (topOf k) = topOf k := by
 rcases hk with rfl | rfl | rfl
 ·show costE u (.inl true) = .inl true
  rw [cost_comm, cost_top]
 ·exact prod_zero_right u
 ·exact prod_zero_right u
theorem better_flip (k : Int) (u v : Ext) : betterE k v u = -betterE k u v := by
 unfold betterE
 split
 ·exact cmpE_flip u v
 ·exact cmpE_flip v u
theorem better_zero (k : Int) (u v : Ext) : betterE k u v = 0 ↔ u = v := by
 unfold betterE
 split
 ·exact cmpE_zero u v
 ·exact (cmpE_zero v u).trans ⟨Eq.symm, Eq.symm⟩
theorem better_trans (k : Int) (u v t : Ext) (h : betterE k u v ≤ 0) (j : betterE k v t ≤ 0) : betterE k u t ≤ 0 := by
 by_cases hk : k = 1
 ·subst hk; exact cmpE_trans u v t h j
 ·have e : ∀ a b, betterE k a b = cmpE b a := fun a b => if_neg hk
  rw [e] at *
  exact cmpE_trans t v u j h
theorem better_times {k : Int} (hk : IsKind k) {u v t : Ext} (hu : hasE k u = true) (hv : hasE k v = true) (ht : hasE k t = true) (h : betterE k u v ≤ 0) : betterE k (timesE k u t) (timesE k v t) ≤ 0 := by
 rw [times_comm hk hu ht, times_comm hk hv ht]
 rcases hk with rfl | rfl | rfl
 ·exact cost_mono t u v h
 ·exact prod_mono t v u ht hv hu h
 ·rw [← has_two] at *; exact prod_mono t v u ht hv hu h
theorem star_sum {x : Rat} (h : x < 1) : 1 / (1 - x) = 1 + x * (1 / (1 - x)) := by
 have hne : (1 - x) ≠ 0 := fun k => less_ne h (by rw [k]; rfl)
 have e : 1 / (1 - x) * (1 - x) = 1 := Rat.div_mul_cancel hne
 generalize 1 / (1 - x) = s at *
 rw [Rat.sub_eq_add_neg, Rat.mul_add, Rat.mul_one, Rat.mul_neg] at e
 have e2 : s + -(s * x) + s * x = 1 + s * x := by rw [e]
 rw [Rat.add_assoc, Rat.neg_add_cancel, Rat.add_zero] at e2
 rw [Rat.mul_comm x s]
 exact e2
theorem star_nonneg {x : Rat} (h : x < 1) : 0 ≤ 1 / (1 - x) := by
 have h1 : 0 < 1 - x := (Rat.lt_iff_sub_pos x 1).1 h
 rw [Rat.div_def, Rat.one_mul]
 exact Rat.le_of_lt (Rat.inv_pos.2 h1)
theorem has_star {k : Int} (hk : IsKind k) (u : Ext) (hu : hasE k u = true) : hasE k (starE k u) = true := by
 rcases hk with rfl | rfl | rfl
 ·exact has_one _
 ·rcases has_top u hu with rfl | ⟨x, rfl, hx⟩
  ·rfl
  ·show hasE 2 (if x < 1 then .inr (1 / (1 - x)) else .inl true) = true
   by_cases h : x < 1
   ·rw [if_pos h]; exact has_inr (star_nonneg h)
   ·rw [if_neg h]; rfl
 ·show hasE 3 (if 0 < cmpE u (.inr 1) then .inl true else .inr 1) = true
  split <;> decide +kernel
theorem star_law {k : Int} (hk : IsKind k) (u : Ext) (hu : hasE k u = true) : plusE k (unitOf k) (timesE k u (starE k u)) = starE k u := by
 rcases hk with rfl | rfl | rfl
 ·show lessE (.inr 0) (costE u (if cmpE u (.inr 0) < 0 then .inl false else .inr 0)) = if cmpE u (.inr 0) < 0 then .inl false else .inr 0
  by_cases h : cmpE u (.inr 0) < 0
  ·rw [if_pos h]
   have : costE u (.inl false) = .inl false := by
    rcases u with (_ | _) | x
    ·rfl
    ·exact absurd (show (1 : Int) < 0 from h) (by decide)
    ·rfl
   rw [this]
   exact less_right (leE_low _)
  ·rw [if_neg h, cost_zero]
   refine less_left ?_
   unfold leE
   have := cmpE_flip u (.inr 0)
   omega
 ·rcases has_top u hu with rfl | ⟨x, rfl, hx⟩
  ·show sumE (.inr 1) (prodE (.inl true) (.inl true)) = .inl true
   rw [prod_top_top]; rfl
  ·show sumE (.inr 1) (prodE (.inr x) (if x < 1 then .inr (1 / (1 - x)) else .inl true)) = if x < 1 then .inr (1 / (1 - x)) else .inl true
   by_cases h : x < 1
   ·rw [if_pos h, prod_num, sum_num, ← star_sum h]
   ·rw [if_neg h, prod_num_top (fun e => by subst e; exact h (by decide +kernel)), sum_top_right]
 ·rw [← has_two] at hu
  show moreE (.inr 1) (prodE u (if 0 < cmpE u (.inr 1) then .inl true else .inr 1)) = if 0 < cmpE u (.inr 1) then .inl true else .inr 1
  by_cases h : 0 < cmpE u (.inr 1)
  ·rw [if_pos h]
   have : prodE u (.inl true) = .inl true := by
    rcases has_top u hu with rfl | ⟨x, rfl, hx⟩
    ·exact prod_top_top
    ·exact prod_num_top (fun e => by subst e; revert h; decide +kernel)
   rw [this]
   exact more_right (leE_top _)
  ·rw [if_neg h, prod_one u hu]
   exact more_left (by unfold leE; omega)
def WideE (n : Nat) : Ext → Prop
 | .inr x => Wide n x
 | _ => True
def Fits : Ext → Prop
 | .inr x => Short x
 | _ => True
def extT : Ext → ByteArray
 | .inl true => infS
 | .inl false => lowS
 | .inr x => ratS x
theorem extT_is {v : Ext} (h : Fits v) : IsE (extT v) v := by
 rcases v with (_ | _) | x
 ·rfl
 ·rfl
 ·exact ⟨h, rfl⟩
theorem extV_fits {v : Ext} (h : Fits v) : extV v = .tuple #[.string (extT v), .int .i64 0] := extV_is (extT_is h)
theorem IsE.text {a : ByteArray} {v : Ext} (h : IsE a v) : a = extT v := by
 rcases v with (_ | _) | x
 ·exact h
 ·exact h
 ·exact h.eq
theorem WideE.mono {m n : Nat} {v : Ext} (h : WideE m v) (k : m ≤ n) : WideE n v := by
 rcases v with (_ | _) | x
 ·trivial
 ·trivial
 ·exact Wide.mono h k
theorem WideE.fits {n : Nat} {v : Ext} (h : WideE n v) (k : n ≤ 400) : Fits v := by
 rcases v with (_ | _) | x
 ·trivial
 ·trivial
 ·exact Wide.mono h k
theorem wideE_zero : WideE 1 (.inr 0) := wide_zero
theorem wideE_one : WideE 1 (.inr 1) := wide_one
theorem wideE_prod {m n : Nat} {u v : Ext} (hm : 1 ≤ m) (hu : WideE m u) (hv : WideE n v) : WideE (m + n) (prodE u v) := by
 unfold prodE
 split
 ·exact wideE_zero.mono (by omega)
 ·rcases u with (_ | _) | x <;> rcases v with (_ | _) | y
  all_goals first | exact wide_mul hu hv | trivial
theorem wideE_times (k : Int) {m n : Nat} {u v : Ext} (hm : 1 ≤ m) (hu : WideE m u) (hv : WideE n v) : WideE (m + n + 1) (timesE k u v) := by
 unfold timesE
 split
 ·rcases u with (_ | _) | x <;> rcases v with (_ | _) | y
  all_goals first | exact wide_add hu hv | trivial
 ·exact (wideE_prod hm hu hv).mono (by omega)
theorem wideE_topOf (k : Int) : WideE 1 (topOf k) := by unfold topOf; split; trivial; exact wideE_zero
theorem wideE_unit (k : Int) : WideE 1 (unitOf k) := by unfold unitOf; split; exact wideE_zero; exact wideE_one
end Go.Proofs.YtaogepcaoogpgaaGreatDoor
