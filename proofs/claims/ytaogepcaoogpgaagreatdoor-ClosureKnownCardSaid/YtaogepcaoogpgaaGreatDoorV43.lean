/- U64 -/
import Derived.Test.YtaogepcaoogpgaaGreatDoorV16
set_option linter.unusedVariables false
set_option linter.unusedSimpArgs false
namespace Go.Proofs.YtaogepcaoogpgaaGreatDoor
open Go.RowKit
theorem rs_more {f : Nat → Rat} {n : Nat} : ∀ d, (∀ m, m < n + d → 0 ≤ f m) → rs n f ≤ rs (n + d) f
 | 0, _ => Rat.le_refl
 | d + 1, h => by
  have h1 := rs_more (f := f) (n := n) d (fun m hm => h m (by omega))
  have h2 := h (n + d) (by omega)
  show rs n f ≤ rs (n + d) f + f (n + d)
  grind
theorem rs_ge {f : Nat → Rat} : ∀ {n j : Nat}, (∀ m, m < n → 0 ≤ f m) → j < n → f j ≤ rs n f
 | n + 1, j, h, hj => by
  show f j ≤ rs n f + f n
  have h0 := rs_nonneg (f := f) (n := n) (fun m hm => h m (by omega))
  by_cases e : j = n
  ·subst e; grind
  ·have h1 := rs_ge (f := f) (n := n) (j := j) (fun m hm => h m (by omega)) (by omega)
   have h2 := h n (by omega)
   grind
theorem isI_neg {x : Rat} (h : isI x) : isI (-x) := by
 have := isI_mul (⟨-1, rfl⟩ : isI (-1)) h
 have e : (-1 : Rat) * x = -x := by grind
 rwa [e] at this
section
variable {A : Nat → Nat → El 2} {k i j n : Nat}
theorem nd_lt (hk : k ≤ n) (hi : i < n) {c : Nat} (hc : c < (onL A k i j).length + 1) : nd A k i j c < n := by
 cases c with
 | zero => exact hi
 | succ c => have := (nd_on (A := A) (i := i) (j := j) (show c < (onL A k i j).length by omega)).1; omega
theorem on_val0 {c : Nat} : val (onA A k i j c 0) = 0 := by unfold onA; rw [if_pos rfl]; exact val_zero
theorem on_valS {c y : Nat} : onA A k i j c (y + 1) = A (nd A k i j c) (nd A k i j (y + 1)) := by unfold onA; rw [if_neg (by omega)]
theorem on_row (hk : k ≤ n) (c : Nat) : rs ((onL A k i j).length + 1) (fun y => val (onA A k i j c y)) ≤ rs n (fun m => val (A (nd A k i j c) m)) := by
 rw [rs_front, on_val0]
 have e1 : rs (onL A k i j).length (fun y => val (onA A k i j c (y + 1))) = rs k (fun m => if onB A k i j m = true then val (A (nd A k i j c) m) else 0) := by
  rw [← rs_part (fun m => val (A (nd A k i j c) m)) (onB A k i j) k]
  refine rs_congr (fun y _ => ?_)
  rw [on_valS, nd_succ]; rfl
 rw [e1]
 have h1 : rs k (fun m => if onB A k i j m = true then val (A (nd A k i j c) m) else 0) ≤ rs k (fun m => val (A (nd A k i j c) m)) := rs_le (fun m _ => by
  by_cases hp : onB A k i j m = true
  ·rw [if_pos hp]; exact Rat.le_refl
  ·rw [if_neg hp]; exact val_nonneg _)
 have h2 := rs_more (f := fun m => val (A (nd A k i j c) m)) (n := k) (n - k) (fun m _ => val_nonneg _)
 rw [show k + (n - k) = n by omega] at h2
 grind
theorem on_prod {Q : Nat → Rat} (hk : k ≤ n) (hi : i < n) (hQ : ∀ x, x < n → 1 ≤ Q x) : rp ((onL A k i j).length + 1) (fun c => Q (nd A k i j c)) ≤ Q i * rp n Q := by
 rw [rp_front]
 have e0 : nd A k i j 0 = i := rfl
 rw [e0]
 have e1 : rp (onL A k i j).length (fun c => Q (nd A k i j (c + 1))) = rp k (fun m => if onB A k i j m = true then Q m else 1) := by
  rw [← rp_part Q (onB A k i j) k]
  refine rp_congr (fun y _ => ?_)
  rw [nd_succ]; rfl
 rw [e1]
 have h1 : rp k (fun m => if onB A k i j m = true then Q m else 1) ≤ rp k Q := rp_le (fun m hm => by
  have := hQ m (by omega)
  by_cases hp : onB A k i j m = true
  ·rw [if_pos hp]; grind
  ·rw [if_neg hp]; grind) (fun m hm => by
  have := hQ m (by omega)
  by_cases hp : onB A k i j m = true
  ·rw [if_pos hp]; exact Rat.le_refl
  ·rw [if_neg hp]; exact this)
 have h2 := rp_more (f := Q) (n := k) (n - k) (fun m hm => hQ m (by omega))
 rw [show k + (n - k) = n by omega] at h2
 have h3 := hQ i hi
 exact Rat.mul_le_mul_of_nonneg_left (Rat.le_trans h1 h2) (by grind)
theorem quotient (h : Fin2 (el S2 A k i j)) (hk : k ≤ n) (hi : i < n) (hj : j < n) {d Q : Nat → Rat} (hd : ∀ x, x < n → 1 ≤ d x) (hdI : ∀ x, x < n → isI (d x)) (hAI : ∀ x y, x < n → y < n → Fin2 (A x y) → isI (d x * val (A x y)))
  (hQ : ∀ x, x < n → 2 * (d x * (1 + rs n (fun m => val (A x m)))) ≤ Q x) :
  ∃ N M : Rat, isI N ∧ isI M ∧ M ≠ 0 ∧ val (el S2 A k i j) * M = N ∧ ab N ≤ Q i * rp n Q ∧ ab M ≤ Q i * rp n Q := by
 have hsum : ∀ x, 0 ≤ rs n (fun m => val (A x m)) := fun x => rs_nonneg (fun m _ => val_nonneg _)
 have hdR : ∀ x, x < n → d x ≤ d x * (1 + rs n (fun m => val (A x m))) := fun x hx => by
  have h1 := hd x hx
  have h2 := Rat.mul_nonneg (show 0 ≤ d x by grind) (hsum x)
  grind
 have hQ1 : ∀ x, x < n → 1 ≤ Q x := fun x hx => by
  have := hQ x hx; have := hdR x hx; have := hd x hx
  grind
 have hV : ∀ y c, y < (onL A k i j).length + 1 → c < (onL A k i j).length + 1 → isI (d (nd A k i j c) * idV (fun x y => val (onA A k i j x y)) y c) := fun y c hy hc => by
  have hc2 := nd_lt (A := A) (j := j) hk hi hc
  have e : d (nd A k i j c) * idV (fun x y => val (onA A k i j x y)) y c = d (nd A k i j c) * (if c = y then 1 else 0) + -(d (nd A k i j c) * val (onA A k i j c y)) := by unfold idV; grind
  rw [e]
  refine isI_add (isI_mul (hdI _ hc2) (by split; exact ⟨1, rfl⟩; exact ⟨0, rfl⟩)) (isI_neg ?_)
  cases y with
  | zero => rw [on_val0]; exact isI_mul (hdI _ hc2) ⟨0, rfl⟩
  | succ y =>
   rw [on_valS]
   exact hAI _ _ hc2 (nd_lt hk hi hy) (nd_arc h hc (by omega))
 have hE : ∀ c, c < (onL A k i j).length + 1 → isI (d (nd A k i j c) * val (A (nd A k i j c) j)) := fun c hc => hAI _ _ (nd_lt hk hi hc) hj (fin_row (nd_fin h hc)).1
 have hcr := dt_cramer (k := (onL A k i j).length) (fun y c => d (nd A k i j c) * idV (fun x y => val (onA A k i j x y)) y c) (fun y => val (el S2 A k (nd A k i j y) j)) (fun c => d (nd A k i j c) * val (A (nd A k i j c) j)) (fun c hc => by
  rw [on_eq h hc, ← rs_mul]
  exact rs_congr (fun y _ => by grind))
 have hsc := dt_scale ((onL A k i j).length + 1) (fun c => d (nd A k i j c)) (idV (fun x y => val (onA A k i j x y)))
 have hne := dt_ne ((onL A k i j).length + 1) (onA A k i j) (fun t x y ht hx hy => on_fin h ht hx hy)
 have hD := rp_one_le (f := fun c => d (nd A k i j c)) (n := (onL A k i j).length + 1) (fun c hc => hd _ (nd_lt hk hi hc))
 have hrow : ∀ c, c < (onL A k i j).length + 1 → rs ((onL A k i j).length + 1) (fun y => ab (d (nd A k i j c) * idV (fun x y => val (onA A k i j x y)) y c)) ≤ d (nd A k i j c) * (1 + rs n (fun m => val (A (nd A k i j c) m))) := fun c hc => by
  have h1 := hd _ (nd_lt (A := A) (j := j) hk hi hc)
  have hle : rs ((onL A k i j).length + 1) (fun y => ab (d (nd A k i j c) * idV (fun x y => val (onA A k i j x y)) y c)) ≤ rs ((onL A k i j).length + 1) (fun y => d (nd A k i j c) * (1 * (if c = y then 1 else 0) + val (onA A k i j c y))) := rs_le (fun y _ => by
   rw [ab_mul, ab_of (show 0 ≤ d (nd A k i j c) by grind)]
   refine Rat.mul_le_mul_of_nonneg_left ?_ (by grind)
   have h2 := val_nonneg (onA A k i j c y)
   unfold idV
   refine ab_le ?_ ?_ <;> split <;> grind)
  rw [rs_mul, rs_add, rs_at (fun _ => 1) hc] at hle
  exact Rat.le_trans hle (Rat.mul_le_mul_of_nonneg_left (by have := on_row (A := A) (i := i) (j := j) hk c; grind) (by grind))
 have hb1 : rp ((onL A k i j).length + 1) (fun c => rs ((onL A k i j).length + 1) (fun y => ab (d (nd A k i j c) * idV (fun x y => val (onA A k i j x y)) y c))) ≤ Q i * rp n Q := by
  refine Rat.le_trans (rp_le (fun c _ => rs_nonneg (fun y _ => ab_nonneg _)) (fun c hc => ?_)) (on_prod (A := A) (j := j) (Q := Q) hk hi hQ1)
  have hx := nd_lt (A := A) (j := j) hk hi hc
  have h1 := hrow c hc; have h2 := hQ _ hx; have h3 := hdR _ hx; have h4 := hd _ hx
  grind
 have hb2 : rp ((onL A k i j).length + 1) (fun c => rs ((onL A k i j).length + 1) (fun y => ab (up (fun y c => d (nd A k i j c) * idV (fun x y => val (onA A k i j x y)) y c) 0 (fun c => d (nd A k i j c) * val (A (nd A k i j c) j)) y c))) ≤ Q i * rp n Q := by
  refine Rat.le_trans (rp_le (fun c _ => rs_nonneg (fun y _ => ab_nonneg _)) (fun c hc => ?_)) (on_prod (A := A) (j := j) (Q := Q) hk hi hQ1)
  have hx := nd_lt (A := A) (j := j) hk hi hc
  have h1 := hrow c hc; have h2 := hQ _ hx; have h4 := hd _ hx
  rw [rs_front] at h1 ⊢
  have e1 : rs (onL A k i j).length (fun m => ab (up (fun y c => d (nd A k i j c) * idV (fun x y => val (onA A k i j x y)) y c) 0 (fun c => d (nd A k i j c) * val (A (nd A k i j c) j)) (m + 1) c)) = rs (onL A k i j).length (fun m => ab (d (nd A k i j c) * idV (fun x y => val (onA A k i j x y)) (m + 1) c)) := rs_congr (fun m _ => by unfold up; rw [if_neg (by omega)])
  have e2 : up (fun y c => d (nd A k i j c) * idV (fun x y => val (onA A k i j x y)) y c) 0 (fun c => d (nd A k i j c) * val (A (nd A k i j c) j)) 0 c = d (nd A k i j c) * val (A (nd A k i j c) j) := by unfold up; rw [if_pos rfl]
  rw [e1, e2, ab_mul, ab_of (show 0 ≤ d (nd A k i j c) by grind), ab_of (val_nonneg _)]
  have h5 := rs_ge (f := fun m => val (A (nd A k i j c) m)) (n := n) (j := j) (fun m _ => val_nonneg _) hj
  have h6 := Rat.mul_le_mul_of_nonneg_left h5 (show 0 ≤ d (nd A k i j c) by grind)
  have h7 := ab_nonneg (d (nd A k i j c) * idV (fun x y => val (onA A k i j x y)) 0 c)
  grind
 refine ⟨_, _, isI_dt (fun y c hy hc => ?_), isI_dt hV, ?_, hcr.symm, Rat.le_trans (dt_bound _ _) hb2, Rat.le_trans (dt_bound _ _) hb1⟩
 ·unfold up
  by_cases e : y = 0
  ·rw [if_pos e]; exact hE c hc
  ·rw [if_neg e]; exact hV y c hy hc
 ·rw [hsc]
  intro e
  rcases Rat.mul_eq_zero.1 e with e | e
  ·grind
  ·exact hne e
end
theorem num_of_den (y : Rat) : (y.num : Rat) = y * (y.den : Rat) := by
 have h := Rat.num_divInt_den y
 rw [Rat.divInt_eq_div] at h
 have hd : ((y.den : Int) : Rat) ≠ 0 := fun e => y.den_nz (by have := Rat.intCast_inj.1 (e.trans (by rfl : (0 : Rat) = ((0 : Int) : Rat))); omega)
 have h2 := Rat.div_mul_cancel (a := (y.num : Rat)) hd
 rw [h] at h2
 exact h2.symm
theorem rat_of_quot {y : Rat} {N M : Rat} (hN : isI N) (hM : isI M) (h0 : M ≠ 0) (h : y * M = N) {P : Nat} (h1 : ab N ≤ (P : Rat)) (h2 : ab M ≤ (P : Rat)) : y.num.natAbs ≤ P ∧ y.den ≤ P := by
 obtain ⟨a, rfl⟩ := hN
 obtain ⟨b, rfl⟩ := hM
 have hb : b ≠ 0 := fun e => h0 (by rw [e]; rfl)
 have hab : ∀ z : Int, ab (z : Rat) ≤ (P : Rat) → z.natAbs ≤ P := fun z hz => by
  have h3 := Rat.le_trans (le_ab (z : Rat)) hz
  have h4 := Rat.le_trans (neg_le_ab (z : Rat)) hz
  have h5 : z ≤ (P : Int) := by
   have : (z : Rat) ≤ ((P : Int) : Rat) := h3
   exact Rat.intCast_le_intCast.1 this
  have h6 : -z ≤ (P : Int) := by
   have : ((-z : Int) : Rat) ≤ ((P : Int) : Rat) := by rw [Rat.intCast_neg]; exact h4
   exact Rat.intCast_le_intCast.1 this
  omega
 have hA := hab a h1
 have hB := hab b h2
 have hy : (y.num * b : Int) = a * (y.den : Int) := by
  have e1 : (y.num : Rat) = y * (y.den : Rat) := num_of_den y
  have e2 : ((y.num * b : Int) : Rat) = ((a * (y.den : Int) : Int) : Rat) := by
   rw [Rat.intCast_mul, Rat.intCast_mul, e1, ← h]
   show y * (y.den : Rat) * (b : Rat) = y * (b : Rat) * (y.den : Rat)
   grind
  exact Rat.intCast_inj.1 e2
 have hcop := y.reduced
 have hden : y.den ∣ b.natAbs := by
  have h3 : (y.den : Int) ∣ y.num * b := ⟨a, by rw [hy]; exact Int.mul_comm _ _⟩
  have h4 : y.den ∣ (y.num * b).natAbs := Int.ofNat_dvd_left.1 h3
  rw [Int.natAbs_mul] at h4
  exact (Nat.Coprime.dvd_of_dvd_mul_left hcop.symm h4)
 have hdb : y.den ≤ b.natAbs := Nat.le_of_dvd (by omega) hden
 refine ⟨?_, by omega⟩
 by_cases ha : a = 0
 ·have : y.num * b = 0 := by rw [hy, ha, Int.zero_mul]
  rcases Int.mul_eq_zero.1 this with h | h
  ·rw [h]; exact Nat.zero_le _
  ·exact absurd h hb
 ·have hnum : y.num.natAbs ∣ a.natAbs := by
   have h3 : y.num ∣ a * (y.den : Int) := ⟨b, hy.symm⟩
   have h4 : y.num.natAbs ∣ (a * (y.den : Int)).natAbs := Int.natAbs_dvd_natAbs.2 h3
   rw [Int.natAbs_mul] at h4
   exact Nat.Coprime.dvd_of_dvd_mul_right hcop (by simpa using h4)
  exact Nat.le_trans (Nat.le_of_dvd (by omega) hnum) hA
open Go.RowKit
def dl : List Rat → Rat
 | [] => 1
 | x :: l => (x.den : Rat) * dl l
def bl : List Rat → Rat
 | [] => 1
 | x :: l => ((x.num : Rat) + (x.den : Rat)) * bl l
def sl : List Rat → Rat
 | [] => 0
 | x :: l => x + sl l
theorem den_one (x : Rat) : (1 : Rat) ≤ (x.den : Rat) := by
 have h : ((1 : Int) : Rat) ≤ ((x.den : Int) : Rat) := Rat.intCast_le_intCast.2 (by have := x.den_pos; omega)
 exact h
theorem isI_den (x : Rat) : isI (x.den : Rat) := ⟨(x.den : Int), rfl⟩
theorem dl_one : ∀ l, 1 ≤ dl l
 | [] => Rat.le_refl
 | x :: l => by
  have h1 := dl_one l
  have h2 := den_one x
  have h3 := Rat.mul_le_mul_of_nonneg_right h2 (show 0 ≤ dl l by grind)
  show 1 ≤ (x.den : Rat) * dl l
  grind
theorem isI_dl : ∀ l, isI (dl l)
 | [] => ⟨1, rfl⟩
 | x :: l => isI_mul (isI_den x) (isI_dl l)
theorem sl_nonneg : ∀ {l : List Rat}, (∀ x ∈ l, 0 ≤ x) → 0 ≤ sl l
 | [], _ => Rat.le_refl
 | x :: l, h => by
  have h1 := sl_nonneg (l := l) (fun y hy => h y (List.mem_cons_of_mem _ hy))
  have h2 := h x (List.mem_cons_self ..)
  show 0 ≤ x + sl l
  grind
theorem dl_bl : ∀ {l : List Rat}, (∀ x ∈ l, 0 ≤ x) → dl l * (1 + sl l) ≤ bl l
 | [], _ => by show (1 : Rat) * (1 + 0) ≤ 1; grind
 | x :: l, h => by
  have ih := dl_bl (l := l) (fun y hy => h y (List.mem_cons_of_mem _ hy))
  have hs := sl_nonneg (l := l) (fun y hy => h y (List.mem_cons_of_mem _ hy))
  have h0 := h x (List.mem_cons_self ..)
  have h1 := dl_one l
  have h2 := den_one x
  have hn := num_of_den x
  have hn0 : 0 ≤ (x.num : Rat) := by rw [hn]; exact Rat.mul_nonneg h0 (by grind)
  have h3 := Rat.mul_le_mul_of_nonneg_left ih (show 0 ≤ (x.den : Rat) by grind)
  have h4 : dl l ≤ dl l * (1 + sl l) := by
   have := Rat.mul_nonneg (show 0 ≤ dl l by grind) hs
   grind
  have h5 := Rat.mul_le_mul_of_nonneg_left (Rat.le_trans h4 ih) hn0
  show (x.den : Rat) * dl l * (1 + (x + sl l)) ≤ ((x.num : Rat) + (x.den : Rat)) * bl l
  have e : (x.den : Rat) * dl l * (1 + (x + sl l)) = (x.den : Rat) * (dl l * (1 + sl l)) + (x.num : Rat) * dl l := by rw [hn]; grind
  rw [e]
  grind
theorem isI_part (p : Nat → Bool) : ∀ (l : List (Nat × Rat)), isI (dl (l.map (·.2)) * sl ((l.filter (fun x => p x.1)).map (·.2)))
 | [] => ⟨0, by show (1 : Rat) * 0 = _; grind⟩
 | x :: l => by
  have ih := isI_part p l
  have hd := isI_dl (l.map (·.2))
  have hn := num_of_den x.2
  have hx : isI ((x.2.den : Rat) * x.2) := ⟨x.2.num, by rw [hn]; grind⟩
  show isI ((x.2.den : Rat) * dl (l.map (·.2)) * sl (((x :: l).filter (fun x => p x.1)).map (·.2)))
  by_cases hp : p x.1 = true
  ·rw [List.filter_cons_of_pos (p := fun x : Nat × Rat => p x.1) hp]
   show isI ((x.2.den : Rat) * dl (l.map (·.2)) * (x.2 + sl ((l.filter (fun x => p x.1)).map (·.2))))
   have e : (x.2.den : Rat) * dl (l.map (·.2)) * (x.2 + sl ((l.filter (fun x => p x.1)).map (·.2))) = (x.2.den : Rat) * x.2 * dl (l.map (·.2)) + (x.2.den : Rat) * (dl (l.map (·.2)) * sl ((l.filter (fun x => p x.1)).map (·.2))) := by grind
   rw [e]
   exact isI_add (isI_mul hx hd) (isI_mul (isI_den _) ih)
  ·rw [List.filter_cons_of_neg (p := fun x : Nat × Rat => p x.1) hp]
   have e : (x.2.den : Rat) * dl (l.map (·.2)) * sl ((l.filter (fun x => p x.1)).map (·.2)) = (x.2.den : Rat) * (dl (l.map (·.2)) * sl ((l.filter (fun x => p x.1)).map (·.2))) := by grind
   rw [e]
   exact isI_mul (isI_den _) ih
theorem bl_pos : ∀ {l : List Rat}, (∀ x ∈ l, 0 ≤ x) → 1 ≤ bl l
 | l, h => by
  have h1 := dl_bl h
  have h2 := dl_one l
  have h3 := Rat.mul_nonneg (show 0 ≤ dl l by grind) (sl_nonneg h)
  grind
def tenP (n : Nat) : Rat := ((10 ^ n : Nat) : Rat)
theorem tenP_add (m n : Nat) : tenP (m + n) = tenP m * tenP n := by
 unfold tenP
 rw [Nat.pow_add]
 show (((10 ^ m * 10 ^ n : Nat) : Int) : Rat) = (((10 ^ m : Nat) : Int) : Rat) * (((10 ^ n : Nat) : Int) : Rat)
 rw [Int.natCast_mul, Rat.intCast_mul]
theorem tenP_pos (n : Nat) : 0 ≤ tenP n := by
 have h : ((0 : Int) : Rat) ≤ (((10 ^ n : Nat) : Int) : Rat) := Rat.intCast_le_intCast.2 (Int.natCast_nonneg _)
 exact h
theorem bl_le {w : Nat} : ∀ {l : List Rat}, (∀ x ∈ l, 0 ≤ x ∧ (x.num : Rat) + (x.den : Rat) ≤ tenP w) → bl l ≤ tenP (w * l.length)
 | [], _ => by show (1 : Rat) ≤ tenP (w * 0); rw [Nat.mul_zero]; exact Rat.le_refl
 | x :: l, h => by
  have ih := bl_le (l := l) (fun y hy => h y (List.mem_cons_of_mem _ hy))
  have h1 := h x (List.mem_cons_self ..)
  have h2 := bl_pos (l := l) (fun y hy => (h y (List.mem_cons_of_mem _ hy)).1)
  show ((x.num : Rat) + (x.den : Rat)) * bl l ≤ tenP (w * (l.length + 1))
  rw [Nat.mul_succ, tenP_add]
  have h3 := Rat.mul_le_mul_of_nonneg_right h1.2 (show 0 ≤ bl l by grind)
  have h4 := Rat.mul_le_mul_of_nonneg_left ih (tenP_pos w)
  have := Rat.le_trans h3 h4
  grind
open Go.RowKit
def ns : Nat → (Nat → Nat) → Nat
 | 0, _ => 0
 | n + 1, f => ns n f + f n
theorem ns_ge {f : Nat → Nat} : ∀ {n i : Nat}, i < n → f i ≤ ns n f
 | n + 1, i, h => by
  show f i ≤ ns n f + f n
  by_cases e : i = n
  ·subst e; omega
  ·have := ns_ge (f := f) (n := n) (i := i) (by omega); omega
theorem rp_ten {f : Nat → Rat} {g : Nat → Nat} : ∀ {n : Nat}, (∀ m, m < n → 0 ≤ f m ∧ f m ≤ tenP (g m)) → rp n f ≤ tenP (ns n g)
 | 0, _ => by show (1 : Rat) ≤ tenP 0; exact Rat.le_refl
 | n + 1, h => by
  have ih := rp_ten (f := f) (g := g) (n := n) (fun m hm => h m (by omega))
  have h1 := h n (by omega)
  show rp n f * f n ≤ tenP (ns n g + g n)
  rw [tenP_add]
  have h2 := Rat.mul_le_mul_of_nonneg_right ih h1.1
  have h3 := Rat.mul_le_mul_of_nonneg_left h1.2 (tenP_pos (ns n g))
  exact Rat.le_trans h2 h3
theorem ns_lin (f : Nat → Nat) : ∀ n, ns n (fun x => 4 * f x + 1) = 4 * ns n f + n
 | 0 => rfl
 | n + 1 => by
  show ns n (fun x => 4 * f x + 1) + (4 * f n + 1) = 4 * (ns n f + f n) + (n + 1)
  rw [ns_lin f n]; omega
theorem rs_one (e : Nat) (v : Rat) (hv : 0 ≤ v) : ∀ n, rs n (fun m => if e = m then v else 0) ≤ v
 | 0 => hv
 | n + 1 => by
  show rs n (fun m => if e = m then v else 0) + (if e = n then v else 0) ≤ v
  by_cases h : e = n
  ·rw [if_pos h, rs_zero (fun m hm => by rw [if_neg (by omega)])]; grind
  ·rw [if_neg h]; have := rs_one e v hv n; grind
theorem sl_split (n : Nat) : ∀ {l : List (Nat × Rat)}, (∀ e ∈ l, 0 ≤ e.2) → rs n (fun m => sl ((l.filter (fun e => e.1 == m)).map (·.2))) ≤ sl (l.map (·.2))
 | [], _ => by
  have h : rs n (fun m => sl ((([] : List (Nat × Rat)).filter (fun e => e.1 == m)).map (·.2))) = 0 := rs_zero (fun _ _ => rfl)
  rw [h]; exact Rat.le_refl
 | e :: l, h => by
  have ih := sl_split n (l := l) (fun y hy => h y (List.mem_cons_of_mem _ hy))
  have h0 := h e (List.mem_cons_self ..)
  have e1 : rs n (fun m => sl (((e :: l).filter (fun e => e.1 == m)).map (·.2))) = rs n (fun m => (if e.1 = m then e.2 else 0) + sl ((l.filter (fun e => e.1 == m)).map (·.2))) := rs_congr (fun m _ => by
   by_cases hp : e.1 = m
   ·rw [if_pos hp, List.filter_cons_of_pos (p := fun e : Nat × Rat => e.1 == m) (by simp [hp])]; rfl
   ·rw [if_neg hp, List.filter_cons_of_neg (p := fun e : Nat × Rat => e.1 == m) (by simp [hp])]; grind)
  rw [e1, rs_add]
  have h1 := rs_one e.1 e.2 h0 n
  show _ ≤ e.2 + sl (l.map (·.2))
  grind
theorem prob_wide {A : Nat → Nat → El 2} {k i j n c : Nat} (L : Nat → List (Nat × Rat)) (hk : k ≤ n) (hi : i < n) (hj : j < n)
  (hL : ∀ x, x < n → ∀ e ∈ L x, 0 ≤ e.2 ∧ (e.2.num : Rat) + (e.2.den : Rat) ≤ tenP 4)
  (hA : ∀ x y, x < n → y < n → Fin2 (A x y) → val (A x y) = sl (((L x).filter (fun e => e.1 == y)).map (·.2)))
  (hc : ns n (fun x => (L x).length) ≤ c) (h : Fin2 (el S2 A k i j)) : WideE (8 * c + n + 2) (el S2 A k i j).1 := by
 have hpos : ∀ x, x < n → ∀ y ∈ (L x).map (·.2), 0 ≤ y := fun x hx y hy => by
  obtain ⟨e, he, rfl⟩ := List.mem_map.1 hy
  exact (hL x hx e he).1
 have hten : ∀ x, x < n → bl ((L x).map (·.2)) ≤ tenP (4 * (L x).length) := fun x hx => by
  have := bl_le (w := 4) (l := (L x).map (·.2)) (fun y hy => by
   obtain ⟨e, he, rfl⟩ := List.mem_map.1 hy
   exact hL x hx e he)
  rwa [List.length_map] at this
 have hsum : ∀ x, x < n → rs n (fun m => val (A x m)) ≤ sl ((L x).map (·.2)) := fun x hx => by
  refine Rat.le_trans (rs_le (fun m hm => ?_)) (sl_split n (fun e he => (hL x hx e he).1))
  by_cases hf : Fin2 (A x m)
  ·rw [hA x m hx hm hf]; exact Rat.le_refl
  ·have : val (A x m) = 0 := by unfold val; rw [not_fin.1 hf]
   rw [this]
   refine sl_nonneg (fun y hy => ?_)
   obtain ⟨e, he, rfl⟩ := List.mem_map.1 hy
   exact (hL x hx e (List.mem_filter.1 he).1).1
 have hQ : ∀ x, x < n → 2 * (dl ((L x).map (·.2)) * (1 + rs n (fun m => val (A x m)))) ≤ tenP (4 * (L x).length + 1) := fun x hx => by
  have h1 := dl_bl (hpos x hx)
  have h2 := hten x hx
  have h3 := hsum x hx
  have h4 := dl_one ((L x).map (·.2))
  have h5 := Rat.mul_le_mul_of_nonneg_left h3 (show 0 ≤ dl ((L x).map (·.2)) by grind)
  have h6 := tenP_pos (4 * (L x).length)
  rw [tenP_add]
  have h7 : tenP 1 = 10 := by unfold tenP; decide +kernel
  rw [h7]
  grind
 obtain ⟨N, M, hN, hM, hM0, hy, hbN, hbM⟩ := quotient (A := A) (k := k) (i := i) (j := j) (n := n) (d := fun x => dl ((L x).map (·.2))) (Q := fun x => tenP (4 * (L x).length + 1)) h hk hi hj (fun x _ => dl_one _) (fun x _ => isI_dl _) (fun x y hx hy hf => by
  rw [hA x y hx hy hf]; exact isI_part (fun z => z == y) (L x)) hQ
 have hP : tenP (4 * (L i).length + 1) * rp n (fun x => tenP (4 * (L x).length + 1)) ≤ ((10 ^ (8 * c + n + 1) : Nat) : Rat) := by
  have h1 := rp_ten (f := fun x => tenP (4 * (L x).length + 1)) (g := fun x => 4 * (L x).length + 1) (n := n) (fun m _ => ⟨tenP_pos _, Rat.le_refl⟩)
  rw [ns_lin (fun x => (L x).length) n] at h1
  have h2 := Rat.mul_le_mul_of_nonneg_left h1 (tenP_pos (4 * (L i).length + 1))
  rw [← tenP_add] at h2
  have h3 : 4 * (L i).length + 1 + (4 * ns n (fun x => (L x).length) + n) ≤ 8 * c + n + 1 := by
   have := ns_ge (f := fun x => (L x).length) hi
   omega
  refine Rat.le_trans h2 ?_
  have h4 : ((10 ^ (4 * (L i).length + 1 + (4 * ns n (fun x => (L x).length) + n)) : Nat) : Int) ≤ ((10 ^ (8 * c + n + 1) : Nat) : Int) := by
   have := Nat.pow_le_pow_right (show 0 < 10 by omega) h3
   exact Int.ofNat_le.2 this
  exact Rat.intCast_le_intCast.2 h4
 have hw := rat_of_quot (y := val (el S2 A k i j)) hN hM hM0 hy (P := 10 ^ (8 * c + n + 1)) (Rat.le_trans hbN hP) (Rat.le_trans hbM hP)
 rw [fin_val h]
 have hlt : 10 ^ (8 * c + n + 1) < 10 ^ (8 * c + n + 2) := Nat.pow_lt_pow_right (by omega) (by omega)
 exact ⟨nDigits_le _ _ (by omega) (Nat.lt_of_le_of_lt hw.1 hlt), nDigits_le _ _ (by omega) (Nat.lt_of_le_of_lt hw.2 hlt)⟩
open Go.RowKit
open Go.Lib (nDigits)
variable {α : Type}
def cs (S : Sr α) : List (Nat × α) → Nat → α
 | [], _ => S.zero
 | e :: l, y => if e.1 = y then S.add e.2 (cs S l y) else cs S l y
theorem cs_snoc (S : Sr α) (e : Nat × α) (y : Nat) : ∀ l, cs S (l ++ [e]) y = if e.1 = y then S.add (cs S l y) e.2 else cs S l y
 | [] => by
  show (if e.1 = y then S.add e.2 S.zero else S.zero) = if e.1 = y then S.add S.zero e.2 else S.zero
  rw [S.add_comm]
 | x :: l => by
  show (if x.1 = y then S.add x.2 (cs S (l ++ [e]) y) else cs S (l ++ [e]) y) = if e.1 = y then S.add (if x.1 = y then S.add x.2 (cs S l y) else cs S l y) e.2 else (if x.1 = y then S.add x.2 (cs S l y) else cs S l y)
  rw [cs_snoc S e y l]
  by_cases h1 : x.1 = y
  ·simp only [h1, if_true]
   by_cases h2 : e.1 = y
   ·simp only [h2, if_true]; rw [S.add_assoc]
   ·simp only [h2, if_false]
  ·simp only [h1, if_false]
def Sh4 : Ext → Prop
 | .inr x => nDigits x.num.natAbs + (if x.den = 1 then 0 else nDigits x.den) ≤ 4
 | _ => True
theorem Sh4.wide {v : Ext} (h : Sh4 v) : WideE 4 v := by
 rcases v with (_ | _) | x
 ·trivial
 ·trivial
 ·have h1 : nDigits x.num.natAbs + (if x.den = 1 then 0 else nDigits x.den) ≤ 4 := h
  refine ⟨by omega, ?_⟩
  by_cases hd : x.den = 1
  ·rw [hd, show nDigits 1 = 1 from Lib.nDigits_small (by decide)]; omega
  ·rw [if_neg hd] at h1; omega
theorem Sh4.ten {x : Rat} (h : Sh4 (.inr x)) (h0 : 0 ≤ x) : (x.num : Rat) + (x.den : Rat) ≤ tenP 4 := by
 have h1 : nDigits x.num.natAbs + (if x.den = 1 then 0 else nDigits x.den) ≤ 4 := h
 have hn := Rat.num_nonneg.2 h0
 have u1 := nDigits_up x.num.natAbs
 have u2 := nDigits_up x.den
 have p1 := Lib.nDigits_pos x.num.natAbs
 have key : x.num + (x.den : Int) ≤ ((10 ^ 4 : Nat) : Int) := by
  by_cases hd : x.den = 1
  ·rw [if_pos hd] at h1
   have h2 : x.num.natAbs < 10 ^ 4 := Nat.lt_of_lt_of_le u1 (Nat.pow_le_pow_right (by omega) (by omega))
   rw [hd]
   omega
  ·rw [if_neg hd] at h1
   have p2 := Lib.nDigits_pos x.den
   have h2 : x.num.natAbs < 10 ^ 3 := Nat.lt_of_lt_of_le u1 (Nat.pow_le_pow_right (by omega) (by omega))
   have h3 : x.den < 10 ^ 3 := Nat.lt_of_lt_of_le u2 (Nat.pow_le_pow_right (by omega) (by omega))
   omega
 have h3 := Rat.intCast_le_intCast.2 key
 rw [Rat.intCast_add] at h3
 exact h3
def fins : List (Nat × El 2) → List (Nat × Rat)
 | [] => []
 | e :: l => match e.2.1 with
  | .inr x => (e.1, x) :: fins l
  | _ => fins l
theorem fins_cons (e : Nat × El 2) (l : List (Nat × El 2)) : (¬ Fin2 e.2 ∧ fins (e :: l) = fins l) ∨ (Fin2 e.2 ∧ fins (e :: l) = (e.1, val e.2) :: fins l) := by
 rcases El2.cases e.2 with h | ⟨x, h, hx⟩
 ·refine .inl ⟨not_fin.2 h, ?_⟩
  conv => lhs; unfold fins
  rw [h]
 ·refine .inr ⟨⟨x, h⟩, ?_⟩
  rw [val_of h]
  conv => lhs; unfold fins
  rw [h]
theorem fins_len7 : ∀ l, (fins l).length ≤ l.length
 | [] => Nat.le_refl _
 | e :: l => by
  have ih := fins_len7 l
  rcases fins_cons e l with ⟨_, h⟩ | ⟨_, h⟩ <;> rw [h]
  ·rw [List.length_cons]; omega
  ·rw [List.length_cons, List.length_cons]; omega
theorem fins_mem7 : ∀ {l : List (Nat × El 2)}, (∀ e ∈ l, Sh4 e.2.1) → ∀ e ∈ fins l, 0 ≤ e.2 ∧ (e.2.num : Rat) + (e.2.den : Rat) ≤ tenP 4
 | [], _, e, he => by cases he
 | a :: l, h, e, he => by
  have ih := fins_mem7 (l := l) (fun x hx => h x (List.mem_cons_of_mem _ hx))
  rcases fins_cons a l with ⟨_, h2⟩ | ⟨hf, h2⟩ <;> rw [h2] at he
  ·exact ih e he
  ·rcases List.mem_cons.1 he with rfl | he
   ·have h3 := h a (List.mem_cons_self ..)
    rw [fin_val hf] at h3
    exact ⟨val_nonneg _, h3.ten (val_nonneg _)⟩
   ·exact ih e he
theorem cs_val (y : Nat) : ∀ {l : List (Nat × El 2)}, Fin2 (cs S2 l y) → val (cs S2 l y) = sl (((fins l).filter (fun e => e.1 == y)).map (·.2))
 | [], _ => rfl
 | e :: l, h => by
  by_cases hy : e.1 = y
  ·have e1 : cs S2 (e :: l) y = S2.add e.2 (cs S2 l y) := if_pos hy
   rw [e1] at h ⊢
   obtain ⟨h1, h2⟩ := fin_add.1 h
   have ih := cs_val y (l := l) h2
   rcases fins_cons e l with ⟨h3, _⟩ | ⟨_, h3⟩
   ·exact absurd h1 h3
   ·rw [h3, List.filter_cons_of_pos (by simp [hy]), List.map_cons, val_add h1 h2, ih]; rfl
  ·have e1 : cs S2 (e :: l) y = cs S2 l y := if_neg hy
   rw [e1] at h ⊢
   have ih := cs_val y (l := l) h
   rcases fins_cons e l with ⟨_, h3⟩ | ⟨_, h3⟩ <;> rw [h3]
   ·exact ih
   ·rw [List.filter_cons_of_neg (by simp [hy])]; exact ih
theorem ns_mono {f g : Nat → Nat} : ∀ {n : Nat}, (∀ m, m < n → f m ≤ g m) → ns n f ≤ ns n g
 | 0, _ => Nat.le_refl _
 | n + 1, h => by
  have h1 := ns_mono (f := f) (g := g) (n := n) (fun m hm => h m (by omega))
  have h2 := h n (by omega)
  show ns n f + f n ≤ ns n g + g n
  omega
theorem el_wide2 {A : Nat → Nat → El 2} {M : Nat → List (Nat × El 2)} {n c t i j : Nat} (ht : t ≤ n) (hi : i < n) (hj : j < n)
  (hA : ∀ x y, x < n → y < n → A x y = cs S2 (M x) y) (hM : ∀ x, x < n → ∀ e ∈ M x, Sh4 e.2.1) (hc : ns n (fun x => (M x).length) ≤ c) :
  WideE (8 * c + n + 2) (el S2 A t i j).1 := by
 by_cases hf : Fin2 (el S2 A t i j)
 ·refine prob_wide (fun x => fins (M x)) ht hi hj (fun x hx => fins_mem7 (hM x hx)) (fun x y hx hy h => ?_) (Nat.le_trans (ns_mono (fun m _ => fins_len7 (M m))) hc) hf
  rw [hA x y hx hy] at h ⊢
  exact cs_val y h
 ·rw [not_fin.1 hf]; trivial
theorem wide_pick {k : Int} (h : k = 1 ∨ k = 3) {n : Nat} {u v : Ext} (hu : WideE n u) (hv : WideE n v) : WideE n (plusE k u v) := by
 rcases h with rfl | rfl
 ·show WideE n (lessE u v)
  rcases less_or u v with h | h <;> rw [h]
  ·exact hu
  ·exact hv
 ·show WideE n (moreE u v)
  rcases more_or u v with h | h <;> rw [h]
  ·exact hu
  ·exact hv
theorem wide_star13 {k : Int} (h : k = 1 ∨ k = 3) (u : Ext) : WideE 1 (starE k u) := by
 rcases h with rfl | rfl
 ·show WideE 1 (if cmpE u (.inr 0) < 0 then .inl false else .inr 0)
  split
  ·trivial
  ·exact wideE_zero
 ·show WideE 1 (if 0 < cmpE u (.inr 1) then .inl true else .inr 1)
  split
  ·trivial
  ·exact wideE_one
def wn : Nat → Nat
 | 0 => 4
 | t + 1 => 2 * wn t + 3
theorem wn_pos : ∀ t, 1 ≤ wn t
 | 0 => by decide
 | t + 1 => by show 1 ≤ 2 * wn t + 3; omega
theorem wn_mono : ∀ {s t : Nat}, s ≤ t → wn s ≤ wn t
 | s, 0, h => by rw [Nat.le_zero.1 h]; exact Nat.le_refl _
 | s, t + 1, h => by
  by_cases e : s = t + 1
  ·rw [e]; exact Nat.le_refl _
  ·have := wn_mono (s := s) (t := t) (by omega)
   show wn s ≤ 2 * wn t + 3
   omega
theorem cs_wide {k : Int} (hk : IsKind k) (h : k = 1 ∨ k = 3) (y : Nat) : ∀ {l : List (Nat × El k)}, (∀ e ∈ l, Sh4 e.2.1) → WideE 4 (cs (srE k hk) l y).1
 | [], _ => (wideE_topOf k).mono (by omega)
 | e :: l, hl => by
  have ih := cs_wide hk h y (l := l) (fun x hx => hl x (List.mem_cons_of_mem _ hx))
  by_cases hy : e.1 = y
  ·have e1 : cs (srE k hk) (e :: l) y = (srE k hk).add e.2 (cs (srE k hk) l y) := if_pos hy
   rw [e1]
   exact wide_pick h (hl e (List.mem_cons_self ..)).wide ih
  ·have e1 : cs (srE k hk) (e :: l) y = cs (srE k hk) l y := if_neg hy
   rw [e1]; exact ih
theorem el_wide13 {k : Int} (hk : IsKind k) (h : k = 1 ∨ k = 3) {A : Nat → Nat → El k} {n : Nat} (hA : ∀ x y, x < n → y < n → WideE 4 (A x y).1) : ∀ t, t ≤ n → ∀ i j, i < n → j < n → WideE (wn t) (el (srE k hk) A t i j).1
 | 0, _, i, j, hi, hj => hA i j hi hj
 | t + 1, ht, i, j, hi, hj => by
  have ih := el_wide13 hk h hA t (by omega)
  have w1 := ih i j hi hj
  have w2 := ih i t hi (by omega)
  have w4 := ih t j (by omega) hj
  have w3 := wide_star13 h (el (srE k hk) A t t t).1
  have p := wn_pos t
  have t1 : WideE (wn t + 1 + 1) (timesE k (el (srE k hk) A t i t).1 (starE k (el (srE k hk) A t t t).1)) := wideE_times k p w2 w3
  have t2 := wideE_times k (by omega) t1 w4
  exact wide_pick h (w1.mono (by show wn t ≤ 2 * wn t + 3; omega)) (t2.mono (by show wn t + 1 + 1 + wn t + 1 ≤ 2 * wn t + 3; omega))
structure Little (k : Int) (hk : IsKind k) (A : Nat → Nat → El k) (n : Nat) (M : Nat → List (Nat × El k)) : Prop where
 row : n ≤ 6
 is : ∀ x y, x < n → y < n → A x y = cs (srE k hk) (M x) y
 short : ∀ x, x < n → ∀ e ∈ M x, Sh4 e.2.1
 few : ns n (fun x => (M x).length) ≤ 15
variable {k : Int} {hk : IsKind k} {A : Nat → Nat → El k} {n : Nat} {M : Nat → List (Nat × El k)}
theorem Little.el (h : Little k hk A n M) {t i j : Nat} (h5 : t ≤ 5) (ht : t ≤ n) (hi : i < n) (hj : j < n) : WideE (if k = 2 then 128 else wn t) (el (srE k hk) A t i j).1 := by
 by_cases e : k = 2
 ·subst e
  rw [if_pos rfl]
  have h1 := h.row
  exact (el_wide2 (c := 15) ht hi hj h.is h.short h.few).mono (by omega)
 ·rw [if_neg e]
  have e13 : k = 1 ∨ k = 3 := by rcases hk with h | h | h <;> omega
  refine el_wide13 hk e13 (fun x y hx hy => ?_) t ht i j hi hj
  rw [h.is x y hx hy]
  exact cs_wide hk e13 y (h.short x hx)
theorem wn5 : wn 5 = 221 := rfl
theorem Little.wide (h : Little k hk A n M) {t i j : Nat} (h5 : t ≤ 5) (ht : t ≤ n) (hi : i < n) (hj : j < n) : WideE 221 (Proofs.YtaogepcaoogpgaaGreatDoor.el (srE k hk) A t i j).1 := by
 refine (h.el h5 ht hi hj).mono ?_
 have := wn_mono h5
 rw [wn5] at this
 split <;> omega
end Go.Proofs.YtaogepcaoogpgaaGreatDoor
