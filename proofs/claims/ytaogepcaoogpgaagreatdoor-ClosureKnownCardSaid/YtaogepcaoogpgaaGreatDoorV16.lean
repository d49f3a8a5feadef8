/- U63 -/
import Derived.Test.YtaogepcaoogpgaaGreatDoorV15
import Derived.Test.YtaogepcaoogpgaaGreatDoorV14
set_option linter.unusedVariables false
set_option linter.unusedSimpArgs false
namespace Go.Proofs.YtaogepcaoogpgaaGreatDoor
open Go.RowKit
def natE (k : Int) (u v : Ext) : Prop := betterE k v u ≤ 0
theorem sum_mono {u v t s : Ext} (hu : hasE 2 u = true) (hv : hasE 2 v = true) (ht : hasE 2 t = true) (hs : hasE 2 s = true) (h : leE u v) (k : leE t s) : leE (sumE u t) (sumE v s) := by
 rcases has_top v hv with rfl | ⟨y, rfl, hy⟩
 ·rw [sum_top_left]; exact leE_top _
 rcases has_top s hs with rfl | ⟨z, rfl, hz⟩
 ·rw [sum_top_right]; exact leE_top _
 rcases has_top u hu with rfl | ⟨x, rfl, hx⟩
 ·exact absurd h (not_top_num _)
 rcases has_top t ht with rfl | ⟨w, rfl, hw⟩
 ·exact absurd k (not_top_num _)
 rw [sum_num, sum_num]
 refine (leE_num _ _).2 ?_
 have h1 := (leE_num _ _).1 h
 have h2 := (leE_num _ _).1 k
 exact Rat.le_trans ((Rat.add_le_add_right (c := w)).2 h1) ((Rat.add_le_add_left (c := y)).2 h2)
theorem star_least_cost (a b x : Ext) (h : leE x (lessE b (costE a x))) : leE x (costE (starE 1 a) b) := by
 obtain ⟨h1, h2⟩ := (le_less x b (costE a x)).1 h
 show leE x (costE (if cmpE a (.inr 0) < 0 then .inl false else .inr 0) b)
 by_cases ha : cmpE a (.inr 0) < 0
 ·rw [if_pos ha]
  rcases b with (_ | _) | y
  ·
   show leE x (.inl false)
   rcases x with (_ | _) | q
   ·exact leE_refl _
   ·exact absurd h1 not_top_low
   ·exact absurd h1 (not_num_low q)
  ·exact leE_top x
  ·show leE x (.inl false)
   rcases x with (_ | _) | q
   ·exact leE_refl _
   ·exact absurd h1 (not_top_num y)
   ·rcases a with (_ | _) | r
    ·exact absurd h2 (not_num_low q)
    ·exact absurd (show (1 : Int) < 0 from ha) (by decide)
    ·have h3 : q ≤ r + q := (leE_num _ _).1 h2
     have h4 : r < 0 := (cmpQ_neg r 0).1 ha
     have h5 : r + q < 0 + q := (Rat.add_lt_add_right (c := q)).2 h4
     rw [Rat.zero_add] at h5
     exact absurd h3 (Rat.not_le.2 h5)
 ·rw [if_neg ha, cost_comm, cost_zero]
  exact h1
theorem rat_lt_self {r q : Rat} (hr : 1 < r) (hq : 0 < q) : q < r * q := by
 have h := Rat.mul_lt_mul_of_pos_right hr hq
 rwa [Rat.one_mul] at h
theorem star_least_more (a b x : Ext) (ha : hasE 2 a = true) (hb : hasE 2 b = true) (hx : hasE 2 x = true) (h : leE (moreE b (prodE a x)) x) : leE (prodE (starE 3 a) b) x := by
 obtain ⟨h1, h2⟩ := (more_le x b (prodE a x)).1 h
 show leE (prodE (if 0 < cmpE a (.inr 1) then .inl true else .inr 1) b) x
 by_cases hs : 0 < cmpE a (.inr 1)
 ·rw [if_pos hs]
  rcases has_top x hx with rfl | ⟨q, rfl, hq⟩
  ·exact leE_top _
  rcases has_top b hb with rfl | ⟨y, rfl, hy⟩
  ·exact absurd h1 (not_top_num q)
  by_cases zy : y = 0
  ·subst zy; rw [prod_zero_right]; exact (leE_num _ _).2 hq
  ·have hyq : y ≤ q := (leE_num _ _).1 h1
   have hy0 : 0 < y := by
    rcases Rat.le_iff_lt_or_eq.1 hy with h | h
    ·exact h
    ·exact absurd h.symm zy
   have hq0 : 0 < q := Rat.not_le.1 (fun e => Rat.not_le.2 hy0 (Rat.le_trans hyq e))
   have hqn : q ≠ 0 := fun e => by rw [e] at hq0; exact Rat.lt_irrefl hq0
   rcases has_top a ha with rfl | ⟨r, rfl, hr⟩
   ·rw [prod_top_num hqn] at h2; exact absurd h2 (not_top_num q)
   ·rw [prod_num] at h2
    have h3 : r * q ≤ q := (leE_num _ _).1 h2
    have h4 : 1 < r := by
     have hc : 0 < cmpQ r 1 := hs
     have := cmpQ_flip r 1
     exact (cmpQ_neg 1 r).1 (by omega)
    exact absurd h3 (Rat.not_le.2 (rat_lt_self h4 hq0))
 ·rw [if_neg hs, prod_comm _ _ (by decide +kernel) hb, prod_one b hb]
  exact h1
theorem star_least_sum (a b x : Ext) (ha : hasE 2 a = true) (hb : hasE 2 b = true) (hx : hasE 2 x = true) (h : leE (sumE b (prodE a x)) x) : leE (prodE (starE 2 a) b) x := by
 rcases has_top x hx with rfl | ⟨q, rfl, hq⟩
 ·exact leE_top _
 rcases has_top b hb with rfl | ⟨y, rfl, hy⟩
 ·rw [sum_top_left] at h; exact absurd h (not_top_num q)
 rcases has_top a ha with rfl | ⟨r, rfl, hr⟩
 ·
  by_cases zq : q = 0
  ·subst zq
   rw [prod_zero_right, sum_num, Rat.add_zero] at h
   have h1 : y ≤ 0 := (leE_num _ _).1 h
   have h2 : y = 0 := Rat.le_antisymm h1 hy
   subst h2
   rw [prod_zero_right]; exact leE_refl _
  ·rw [prod_top_num zq, sum_top_right] at h; exact absurd h (not_top_num q)
 ·rw [prod_num, sum_num] at h
  have h1 : y + r * q ≤ q := (leE_num _ _).1 h
  show leE (prodE (if r < 1 then .inr (1 / (1 - r)) else .inl true) (.inr y)) (.inr q)
  by_cases hr1 : r < 1
  ·rw [if_pos hr1, prod_num]
   refine (leE_num _ _).2 ?_
   have h0 : 0 < 1 - r := (Rat.lt_iff_sub_pos r 1).1 hr1
   have h2 : y ≤ q * (1 - r) := by
    rw [Rat.sub_eq_add_neg, Rat.mul_add, Rat.mul_one, Rat.mul_neg, Rat.mul_comm q r]
    have h3 := (Rat.add_le_add_right (c := -(r * q))).2 h1
    rwa [Rat.add_assoc, Rat.add_neg_cancel, Rat.add_zero] at h3
   have h4 := Rat.mul_le_mul_of_nonneg_left h2 (star_nonneg hr1)
   have h5 : 1 / (1 - r) * (q * (1 - r)) = q := by
    rw [Rat.mul_comm q, ← Rat.mul_assoc, Rat.div_mul_cancel (fun e => by rw [e] at h0; exact Rat.lt_irrefl h0), Rat.one_mul]
   rwa [h5] at h4
  ·rw [if_neg hr1]
   have h2 : 1 ≤ r := Rat.not_lt.1 hr1
   have h3 : q ≤ r * q := by
    have := Rat.mul_le_mul_of_nonneg_right h2 hq
    rwa [Rat.one_mul] at this
   have h4 : y ≤ 0 := by
    have h5 : y + q ≤ y + r * q := (Rat.add_le_add_left (c := y)).2 h3
    have h6 := Rat.le_trans h5 h1
    have h7 := (Rat.add_le_add_right (c := -q)).2 h6
    rwa [Rat.add_assoc, Rat.add_neg_cancel, Rat.add_zero] at h7
   have h8 : y = 0 := Rat.le_antisymm h4 hy
   subst h8
   rw [prod_zero_right]; exact (leE_num _ _).2 hq
def El (k : Int) : Type := { v : Ext // hasE k v = true }
def srE (k : Int) (hk : IsKind k) : Sr (El k) where
 add u v := ⟨plusE k u.1 v.1, has_plus hk u.2 v.2⟩
 mul u v := ⟨timesE k u.1 v.1, has_times hk u.2 v.2⟩
 zero := ⟨topOf k, has_topOf hk⟩
 one := ⟨unitOf k, has_unit hk⟩
 star u := ⟨starE k u.1, has_star hk u.1 u.2⟩
 le u v := natE k u.1 v.1
 add_comm u v := Subtype.ext (plus_comm hk u.2 v.2)
 add_assoc u v t := Subtype.ext (plus_assoc hk u.2 v.2 t.2)
 add_zero u := Subtype.ext (plus_zero hk u.2)
 mul_comm u v := Subtype.ext (times_comm hk u.2 v.2)
 mul_assoc u v t := Subtype.ext (times_assoc hk u.2 v.2 t.2)
 mul_add u v t := Subtype.ext (times_plus hk u.2 v.2 t.2)
 mul_one u := Subtype.ext (times_one hk u.2)
 mul_zero u := Subtype.ext (times_zero hk u.1)
 star_law u := Subtype.ext (star_law hk u.1 u.2)
 le_refl u := by show betterE k u.1 u.1 ≤ 0; rw [(better_zero k u.1 u.1).2 rfl]; exact Int.le_refl 0
 le_trans u v t h j := better_trans k t.1 v.1 u.1 j h
 le_anti u v h j := Subtype.ext ((better_zero k u.1 v.1).1 (by
  have h1 : betterE k v.1 u.1 ≤ 0 := h
  have h2 : betterE k u.1 v.1 ≤ 0 := j
  have := better_flip k u.1 v.1
  omega))
 add_mono u v t s h j := by
  rcases hk with rfl | rfl | rfl
  ·have h1 : leE v.1 u.1 := h
   have h2 : leE s.1 t.1 := j
   show leE (lessE v.1 s.1) (lessE u.1 t.1)
   refine (le_less _ _ _).2 ⟨?_, ?_⟩
   ·exact leE_trans ((le_less _ _ _).1 (leE_refl (lessE v.1 s.1))).1 h1
   ·exact leE_trans ((le_less _ _ _).1 (leE_refl (lessE v.1 s.1))).2 h2
  ·exact sum_mono u.2 v.2 t.2 s.2 h j
  ·have h1 : leE u.1 v.1 := h
   have h2 : leE t.1 s.1 := j
   show leE (moreE u.1 t.1) (moreE v.1 s.1)
   refine (more_le _ _ _).2 ⟨?_, ?_⟩
   ·exact leE_trans h1 ((more_le _ _ _).1 (leE_refl (moreE v.1 s.1))).1
   ·exact leE_trans h2 ((more_le _ _ _).1 (leE_refl (moreE v.1 s.1))).2
 mul_mono u v t h := by
  have h2 := better_times hk v.2 u.2 t.2 h
  show betterE k (timesE k t.1 v.1) (timesE k t.1 u.1) ≤ 0
  rw [times_comm hk t.2 v.2, times_comm hk t.2 u.2]
  exact h2
 zero_le u := by
  rcases hk with rfl | rfl | rfl
  ·exact leE_top _
  ·rcases has_top u.1 u.2 with e | ⟨x, e, hx⟩
   ·show leE (.inr 0) u.1; rw [e]; exact leE_top _
   ·show leE (.inr 0) u.1; rw [e]; exact (leE_num _ _).2 hx
  ·have hu := u.2
   rw [← has_two] at hu
   rcases has_top u.1 hu with e | ⟨x, e, hx⟩
   ·show leE (.inr 0) u.1; rw [e]; exact leE_top _
   ·show leE (.inr 0) u.1; rw [e]; exact (leE_num _ _).2 hx
 star_least a b x h := by
  rcases hk with rfl | rfl | rfl
  ·exact star_least_cost a.1 b.1 x.1 h
  ·exact star_least_sum a.1 b.1 x.1 a.2 b.2 x.2 h
  ·have h1 := a.2; have h2 := b.2; have h3 := x.2
   rw [← has_two] at h1 h2 h3
   exact star_least_more a.1 b.1 x.1 h1 h2 h3 h
def rs : Nat → (Nat → Rat) → Rat
 | 0, _ => 0
 | n + 1, f => rs n f + f n
theorem rs_congr {f g : Nat → Rat} : ∀ {n : Nat}, (∀ m, m < n → f m = g m) → rs n f = rs n g
 | 0, _ => rfl
 | n + 1, h => by unfold rs; rw [rs_congr (fun m hm => h m (by omega)), h n (by omega)]
theorem rs_add (f g : Nat → Rat) : ∀ n, rs n (fun m => f m + g m) = rs n f + rs n g
 | 0 => (Rat.add_zero 0).symm
 | n + 1 => by unfold rs; rw [rs_add f g n]; grind
theorem rs_mul (c : Rat) (f : Nat → Rat) : ∀ n, rs n (fun m => c * f m) = c * rs n f
 | 0 => by simp [rs]
 | n + 1 => by unfold rs; rw [rs_mul c f n]; grind
theorem rs_zero {f : Nat → Rat} : ∀ {n : Nat}, (∀ m, m < n → f m = 0) → rs n f = 0
 | 0, _ => rfl
 | n + 1, h => by unfold rs; rw [rs_zero (fun m hm => h m (by omega)), h n (by omega)]; grind
theorem rs_swap (f : Nat → Nat → Rat) (n : Nat) : ∀ k, rs n (fun i => rs k (fun j => f i j)) = rs k (fun j => rs n (fun i => f i j))
 | 0 => rs_zero (fun _ _ => rfl)
 | k + 1 => by
  show rs n (fun i => rs k (fun j => f i j) + f i k) = rs k (fun j => rs n (fun i => f i j)) + rs n (fun i => f i k)
  rw [rs_add, rs_swap f n k]
theorem rs_le {f g : Nat → Rat} : ∀ {n : Nat}, (∀ m, m < n → f m ≤ g m) → rs n f ≤ rs n g
 | 0, _ => Rat.le_refl
 | n + 1, h => by
  have h1 := rs_le (n := n) (fun m hm => h m (by omega))
  have h2 := h n (by omega)
  unfold rs; grind
def sk (c x : Nat) : Nat := if x < c then x else x + 1
theorem sk_ne (c x : Nat) : sk c x ≠ c := by unfold sk; split <;> omega
theorem sk_lt {c x n : Nat} (h : x < n) : sk c x < n + 1 := by unfold sk; split <;> omega
theorem rs_sk (f : Nat → Rat) {c : Nat} : ∀ {n : Nat}, c ≤ n → rs n (fun x => f (sk c x)) = rs (n + 1) (fun b => if b = c then 0 else f b)
 | 0, h => by
  have : c = 0 := by omega
  subst this
  exact (Rat.add_zero 0).symm
 | n + 1, h => by
  by_cases e : c = n + 1
  ·subst e
   show rs (n + 1) (fun x => f (sk (n + 1) x)) = rs (n + 1) (fun b => if b = n + 1 then 0 else f b) + (if n + 1 = n + 1 then 0 else f (n + 1))
   rw [if_pos rfl, Rat.add_zero]
   refine rs_congr (fun m hm => ?_)
   rw [if_neg (by omega)]
   unfold sk; rw [if_pos hm]
  ·have ih := rs_sk f (c := c) (n := n) (by omega)
   show rs n (fun x => f (sk c x)) + f (sk c n) = rs (n + 1) (fun b => if b = c then 0 else f b) + (if n + 1 = c then 0 else f (n + 1))
   rw [ih, if_neg (fun h => e h.symm)]
   have : sk c n = n + 1 := by unfold sk; rw [if_neg (by omega)]
   rw [this]
def sg7 (c : Nat) : Rat := if c % 2 = 0 then 1 else -1
theorem sg7_succ (c : Nat) : sg7 (c + 1) = -sg7 c := by unfold sg7; split <;> split <;> (try omega) <;> grind
def dt : Nat → (Nat → Nat → Rat) → Rat
 | 0, _ => 1
 | k + 1, V => rs (k + 1) (fun c => sg7 c * V 0 c * dt k (fun i x => V (i + 1) (sk c x)))
theorem dt_congr : ∀ {k : Nat} {V W : Nat → Nat → Rat}, (∀ i x, i < k → x < k → V i x = W i x) → dt k V = dt k W
 | 0, _, _, _ => rfl
 | k + 1, V, W, h => by
  unfold dt
  refine rs_congr (fun c hc => ?_)
  rw [h 0 c (by omega) hc, dt_congr (fun i x hi hx => h (i + 1) (sk c x) (by omega) (sk_lt hx))]
def up (V : Nat → Nat → Rat) (r : Nat) (u : Nat → Rat) (i x : Nat) : Rat := if i = r then u x else V i x
theorem dt_up_add : ∀ {k : Nat} (V : Nat → Nat → Rat) {r : Nat} (u w : Nat → Rat) (s t : Rat), r < k → dt k (up V r (fun x => s * u x + t * w x)) = s * dt k (up V r u) + t * dt k (up V r w)
 | k + 1, V, r, u, w, s, t, h => by
  unfold dt
  rw [← rs_mul, ← rs_mul, ← rs_add]
  refine rs_congr (fun c hc => ?_)
  by_cases e : r = 0
  ·subst e
   have e1 : ∀ z : Nat → Rat, dt k (fun i x => up V 0 z (i + 1) (sk c x)) = dt k (fun i x => V (i + 1) (sk c x)) := fun z => dt_congr (fun i x _ _ => by unfold up; rw [if_neg (by omega)])
   rw [e1, e1, e1]
   simp only [up, if_true]
   grind
  ·obtain ⟨r', rfl⟩ : ∃ r', r = r' + 1 := ⟨r - 1, by omega⟩
   have e1 : ∀ z : Nat → Rat, dt k (fun i x => up V (r' + 1) z (i + 1) (sk c x)) = dt k (up (fun i x => V (i + 1) (sk c x)) r' (fun x => z (sk c x))) := fun z => dt_congr (fun i x _ _ => by
    unfold up
    by_cases e2 : i = r'
    ·rw [if_pos (by omega), if_pos e2]
    ·rw [if_neg (by omega), if_neg e2])
   rw [e1, e1, e1, dt_up_add (fun i x => V (i + 1) (sk c x)) (fun x => u (sk c x)) (fun x => w (sk c x)) s t (by omega)]
   have e3 : ∀ z : Nat → Rat, up V (r' + 1) z 0 c = V 0 c := fun z => by unfold up; rw [if_neg (by omega)]
   rw [e3, e3, e3]
   grind
theorem sk_sk {a b x : Nat} (h : a < b) : sk a (sk (b - 1) x) = sk b (sk a x) := by
 unfold sk
 by_cases h1 : x < a
 ·rw [if_pos h1, if_pos (show x < b - 1 by omega), if_pos h1, if_pos (by omega)]
 ·rw [if_neg h1]
  by_cases h2 : x < b - 1
  ·rw [if_pos h2, if_neg h1, if_pos (by omega)]
  ·rw [if_neg h2, if_neg (by omega), if_neg (by omega)]
def d2 (k : Nat) (V : Nat → Nat → Rat) (a b : Nat) : Rat := dt k (fun i x => V (i + 2) (if a < b then sk a (sk (b - 1) x) else sk b (sk (a - 1) x)))
def s2 (a b : Nat) : Rat := if a = b then 0 else if a < b then sg7 a * sg7 (b - 1) else sg7 a * sg7 b
theorem s2_anti (a b : Nat) : s2 b a = -s2 a b := by
 unfold s2
 by_cases e : a = b
 ·subst e; rw [if_pos rfl]; grind
 ·rw [if_neg e, if_neg (Ne.symm e)]
  by_cases h : a < b
  ·rw [if_pos h, if_neg (by omega)]
   obtain ⟨c, rfl⟩ : ∃ c, b = c + 1 := ⟨b - 1, by omega⟩
   rw [sg7_succ, Nat.add_sub_cancel]; grind
  ·rw [if_neg h, if_pos (by omega)]
   obtain ⟨c, rfl⟩ : ∃ c, a = c + 1 := ⟨a - 1, by omega⟩
   rw [sg7_succ, Nat.add_sub_cancel]; grind
theorem d2_symm (k : Nat) (V : Nat → Nat → Rat) {a b : Nat} (h : a ≠ b) : d2 k V a b = d2 k V b a := by
 unfold d2
 by_cases h1 : a < b
 ·simp only [h1, show ¬ b < a by omega, if_true, if_false]
 ·simp only [h1, show b < a by omega, if_true, if_false]
theorem dt_two (k : Nat) (V : Nat → Nat → Rat) : dt (k + 2) V = rs (k + 2) (fun a => rs (k + 2) (fun b => s2 a b * V 0 a * V 1 b * d2 k V a b)) := by
 show rs (k + 2) (fun a => sg7 a * V 0 a * dt (k + 1) (fun i x => V (i + 1) (sk a x))) = _
 refine rs_congr (fun a ha => ?_)
 have h := rs_sk (fun b => s2 a b * V 0 a * V 1 b * d2 k V a b) (c := a) (n := k + 1) (by omega)
 have h0 : rs (k + 2) (fun b => if b = a then 0 else s2 a b * V 0 a * V 1 b * d2 k V a b) = rs (k + 2) (fun b => s2 a b * V 0 a * V 1 b * d2 k V a b) := by
  refine rs_congr (fun b _ => ?_)
  by_cases e : b = a
  ·subst e; rw [if_pos rfl]; unfold s2; rw [if_pos rfl]; grind
  ·rw [if_neg e]
 rw [← h0]
 refine Eq.trans ?_ h
 show sg7 a * V 0 a * rs (k + 1) (fun c => sg7 c * V 1 (sk a c) * dt k (fun i x => V (i + 2) (sk a (sk c x)))) = _
 rw [← rs_mul]
 refine rs_congr (fun c hc => ?_)
 unfold s2 d2
 rw [if_neg (Ne.symm (sk_ne a c))]
 by_cases h1 : c < a
 ·have e : sk a c = c := by unfold sk; rw [if_pos h1]
  have n1 : ¬ a < c := by omega
  rw [e]
  simp only [n1, if_false]
  have e2 : dt k (fun i x => V (i + 2) (sk a (sk c x))) = dt k (fun i x => V (i + 2) (sk c (sk (a - 1) x))) := dt_congr (fun i x _ _ => by rw [sk_sk h1])
  rw [e2]; grind
 ·have e : sk a c = c + 1 := by unfold sk; rw [if_neg h1]
  have n1 : a < c + 1 := by omega
  rw [e]
  simp only [n1, if_true, Nat.add_sub_cancel]
  grind
theorem dt_first (k : Nat) (V W : Nat → Nat → Rat) (h0 : ∀ x, W 0 x = V 1 x) (h1 : ∀ x, W 1 x = V 0 x) (h : ∀ i x, W (i + 2) x = V (i + 2) x) : dt (k + 2) W = -dt (k + 2) V := by
 rw [dt_two, dt_two, rs_swap]
 have e : (-(rs (k + 2) (fun a => rs (k + 2) (fun b => s2 a b * V 0 a * V 1 b * d2 k V a b)))) = rs (k + 2) (fun a => rs (k + 2) (fun b => -(s2 a b * V 0 a * V 1 b * d2 k V a b))) := by
  have h3 := rs_mul (-1) (fun a => rs (k + 2) (fun b => s2 a b * V 0 a * V 1 b * d2 k V a b)) (k + 2)
  have h4 : ∀ a, (-1 : Rat) * rs (k + 2) (fun b => s2 a b * V 0 a * V 1 b * d2 k V a b) = rs (k + 2) (fun b => -(s2 a b * V 0 a * V 1 b * d2 k V a b)) := fun a => by
   rw [← rs_mul]; exact rs_congr (fun b _ => by grind)
  rw [rs_congr (fun a _ => h4 a)] at h3
  grind
 rw [e]
 refine rs_congr (fun a _ => rs_congr (fun b _ => ?_))
 rw [h0, h1, s2_anti]
 by_cases e : a = b
 ·subst e; have : s2 a a = 0 := by unfold s2; rw [if_pos rfl]
  rw [this]; grind
 ·have e2 : d2 k W b a = d2 k V a b := by
   rw [d2_symm k V e]
   unfold d2
   exact dt_congr (fun i x _ _ => h i _)
  rw [e2]; grind
theorem dt_next : ∀ (k : Nat) (V W : Nat → Nat → Rat) {r : Nat}, r + 1 < k → (∀ x, W r x = V (r + 1) x) → (∀ x, W (r + 1) x = V r x) → (∀ i x, i ≠ r → i ≠ r + 1 → W i x = V i x) → dt k W = -dt k V
 | k + 1, V, W, 0, hr, h0, h1, h => by
  obtain ⟨k', rfl⟩ : ∃ k', k = k' + 1 := ⟨k - 1, by omega⟩
  exact dt_first k' V W h0 h1 (fun i x => h (i + 2) x (by omega) (by omega))
 | k + 1, V, W, r + 1, hr, h0, h1, h => by
  unfold dt
  have e : -(rs (k + 1) (fun c => sg7 c * V 0 c * dt k (fun i x => V (i + 1) (sk c x)))) = rs (k + 1) (fun c => -(sg7 c * V 0 c * dt k (fun i x => V (i + 1) (sk c x)))) := by
   have h3 := rs_mul (-1) (fun c => sg7 c * V 0 c * dt k (fun i x => V (i + 1) (sk c x))) (k + 1)
   rw [rs_congr (g := fun c => -(sg7 c * V 0 c * dt k (fun i x => V (i + 1) (sk c x)))) (fun c _ => by grind)] at h3
   grind
  rw [e]
  refine rs_congr (fun c hc => ?_)
  rw [h 0 c (by omega) (by omega), dt_next k (fun i x => V (i + 1) (sk c x)) (fun i x => W (i + 1) (sk c x)) (r := r) (by omega) (fun x => h0 _) (fun x => h1 _) (fun i x hi hi2 => h (i + 1) _ (by omega) (by omega))]
  grind
theorem dt_equal : ∀ (d k : Nat) (V : Nat → Nat → Rat) {r : Nat}, r + d + 1 < k → (∀ x, V r x = V (r + d + 1) x) → dt k V = 0
 | 0, k, V, r, hr, h => by
  have h1 := dt_next k V V (r := r) hr h (fun x => (h x).symm) (fun _ _ _ _ => rfl)
  grind
 | d + 1, k, V, r, hr, h => by
  have h1 := dt_next k V (fun i x => if i = r + d + 1 then V (r + d + 2) x else if i = r + d + 2 then V (r + d + 1) x else V i x) (r := r + d + 1) (by omega) (fun x => by rw [if_pos rfl]) (fun x => by rw [if_neg (by omega), if_pos rfl]) (fun i x hi hi2 => by rw [if_neg hi, if_neg hi2])
  have h2 := dt_equal d k (fun i x => if i = r + d + 1 then V (r + d + 2) x else if i = r + d + 2 then V (r + d + 1) x else V i x) (r := r) (by omega) (fun x => by
   rw [if_neg (by omega), if_neg (by omega), if_pos rfl]; exact h x)
  grind
theorem dt_shear {k : Nat} (V : Nat → Nat → Rat) {r s : Nat} (t : Rat) (hr : r < k) (hs : s < r) : dt k (up V r (fun x => V r x + t * V s x)) = dt k V := by
 have h := dt_up_add V (V r) (V s) 1 t hr
 have e1 : dt k (up V r (V r)) = dt k V := dt_congr (fun i x _ _ => by unfold up; split; rename_i e; rw [e]; rfl)
 have e2 : dt k (up V r (V s)) = 0 := by
  obtain ⟨d, rfl⟩ : ∃ d, r = s + d + 1 := ⟨r - s - 1, by omega⟩
  exact dt_equal d k _ (r := s) hr (fun x => by unfold up; rw [if_neg (by omega), if_pos rfl])
 rw [e1, e2] at h
 rw [dt_congr (W := up V r (fun x => 1 * V r x + t * V s x)) (fun i x _ _ => by unfold up; split; grind; rfl), h]
 grind
theorem dt_cramer {k : Nat} (V : Nat → Nat → Rat) (x : Nat → Rat) (e : Nat → Rat) (h : ∀ c, c < k + 1 → e c = rs (k + 1) (fun i => x i * V i c)) : dt (k + 1) (up V 0 e) = x 0 * dt (k + 1) V := by
 have step : ∀ n, n ≤ k + 1 → dt (k + 1) (up V 0 (fun c => rs n (fun i => x i * V i c))) = if n = 0 then 0 else x 0 * dt (k + 1) V := fun n => by
  induction n with
  | zero =>
   intro _
   rw [if_pos rfl]
   have h2 := dt_up_add V (k := k + 1) (r := 0) (fun _ => 0) (fun _ => 0) 0 0 (by omega)
   rw [dt_congr (W := up V 0 (fun x => (0 : Rat) * 0 + 0 * 0)) (fun i x _ _ => by unfold up; split; exact (show (0 : Rat) = 0 * 0 + 0 * 0 by grind); rfl), h2]
   grind
  | succ n ih =>
   intro hn
   rw [if_neg (Nat.succ_ne_zero n)]
   have h2 := dt_up_add V (k := k + 1) (r := 0) (fun c => rs n (fun i => x i * V i c)) (V n) 1 (x n) (by omega)
   rw [dt_congr (W := up V 0 (fun c => 1 * rs n (fun i => x i * V i c) + x n * V n c)) (fun i c _ _ => by unfold up; split; exact (show rs n (fun i => x i * V i c) + x n * V n c = 1 * rs n (fun i => x i * V i c) + x n * V n c by grind); rfl), h2, ih (by omega)]
   by_cases e : n = 0
   ·subst e
    rw [if_pos rfl]
    have e1 : dt (k + 1) (up V 0 (V 0)) = dt (k + 1) V := dt_congr (fun i x _ _ => by unfold up; split; rename_i e; rw [e]; rfl)
    rw [e1]; grind
   ·rw [if_neg e]
    have e2 : dt (k + 1) (up V 0 (V n)) = 0 := by
     obtain ⟨d, rfl⟩ : ∃ d, n = 0 + d + 1 := ⟨n - 1, by omega⟩
     exact dt_equal d (k + 1) _ (r := 0) (by omega) (fun x => by unfold up; rw [if_pos rfl, if_neg (by omega)])
    rw [e2]; grind
 have h1 := step (k + 1) (Nat.le_refl _)
 rw [if_neg (by omega)] at h1
 rw [← h1]
 exact dt_congr (fun i c _ hc => by unfold up; split; exact h c hc; rfl)
theorem dt_none : ∀ {k : Nat} (V : Nat → Nat → Rat) {x : Nat}, x < k → (∀ i, V i x = 0) → dt k V = 0
 | k + 1, V, x, hx, h => by
  unfold dt
  refine rs_zero (fun c hc => ?_)
  by_cases e : c = x
  ·subst e; rw [h 0]; grind
  ·have : dt k (fun i y => V (i + 1) (sk c y)) = 0 := by
    by_cases hcx : c < x
    ·refine dt_none _ (x := x - 1) (by omega) (fun i => ?_)
     have : sk c (x - 1) = x := by unfold sk; rw [if_neg (by omega)]; omega
     rw [this]; exact h _
    ·refine dt_none _ (x := x) (by omega) (fun i => ?_)
     have : sk c x = x := by unfold sk; rw [if_pos (by omega)]
     rw [this]; exact h _
   rw [this]; grind
def isI (x : Rat) : Prop := ∃ z : Int, x = z
theorem isI_add {x y : Rat} (hx : isI x) (hy : isI y) : isI (x + y) := by obtain ⟨a, rfl⟩ := hx; obtain ⟨b, rfl⟩ := hy; exact ⟨a + b, by rw [Rat.intCast_add]⟩
theorem isI_mul {x y : Rat} (hx : isI x) (hy : isI y) : isI (x * y) := by obtain ⟨a, rfl⟩ := hx; obtain ⟨b, rfl⟩ := hy; exact ⟨a * b, by rw [Rat.intCast_mul]⟩
theorem isI_rs {f : Nat → Rat} : ∀ {n : Nat}, (∀ m, m < n → isI (f m)) → isI (rs n f)
 | 0, _ => ⟨0, rfl⟩
 | n + 1, h => isI_add (isI_rs (fun m hm => h m (by omega))) (h n (by omega))
theorem isI_sg7 (c : Nat) : isI (sg7 c) := by unfold sg7; split; exact ⟨1, rfl⟩; exact ⟨-1, rfl⟩
theorem isI_dt : ∀ {k : Nat} {V : Nat → Nat → Rat}, (∀ i x, i < k → x < k → isI (V i x)) → isI (dt k V)
 | 0, _, _ => ⟨1, rfl⟩
 | k + 1, V, h => isI_rs (fun c hc => isI_mul (isI_mul (isI_sg7 c) (h 0 c (by omega) hc)) (isI_dt (fun i x hi hx => h (i + 1) _ (by omega) (sk_lt hx))))
def ab (x : Rat) : Rat := if 0 ≤ x then x else -x
theorem ab_nonneg (x : Rat) : 0 ≤ ab x := by unfold ab; split <;> grind
theorem ab_le {x y : Rat} (h1 : x ≤ y) (h2 : -x ≤ y) : ab x ≤ y := by unfold ab; split <;> grind
theorem le_ab (x : Rat) : x ≤ ab x := by unfold ab; split <;> grind
theorem neg_le_ab (x : Rat) : -x ≤ ab x := by unfold ab; split <;> grind
theorem ab_of {x : Rat} (h : 0 ≤ x) : ab x = x := by unfold ab; rw [if_pos h]
theorem ab_add (x y : Rat) : ab (x + y) ≤ ab x + ab y := by
 have := le_ab x; have := le_ab y; have := neg_le_ab x; have := neg_le_ab y
 refine ab_le ?_ ?_ <;> grind
theorem ab_mul (x y : Rat) : ab (x * y) = ab x * ab y := by
 unfold ab
 by_cases hx : 0 ≤ x <;> by_cases hy : 0 ≤ y
 ·rw [if_pos hx, if_pos hy, if_pos (Rat.mul_nonneg hx hy)]
 ·rw [if_pos hx, if_neg hy]
  have h := Rat.mul_nonneg hx (show 0 ≤ -y by grind)
  split <;> grind
 ·rw [if_neg hx, if_pos hy]
  have h := Rat.mul_nonneg (show 0 ≤ -x by grind) hy
  split <;> grind
 ·rw [if_neg hx, if_neg hy]
  have h := Rat.mul_nonneg (show 0 ≤ -x by grind) (show 0 ≤ -y by grind)
  split <;> grind
theorem ab_sg7 (c : Nat) : ab (sg7 c) = 1 := by unfold ab sg7; split <;> split <;> grind
theorem ab_rs (f : Nat → Rat) : ∀ n, ab (rs n f) ≤ rs n (fun m => ab (f m))
 | 0 => by unfold ab rs; simp
 | n + 1 => by
  have h1 := ab_rs f n
  have h2 := ab_add (rs n f) (f n)
  unfold rs; grind
theorem rs_nonneg {f : Nat → Rat} : ∀ {n : Nat}, (∀ m, m < n → 0 ≤ f m) → 0 ≤ rs n f
 | 0, _ => Rat.le_refl
 | n + 1, h => by
  have h1 := rs_nonneg (n := n) (fun m hm => h m (by omega))
  have h2 := h n (by omega)
  unfold rs; grind
def rp : Nat → (Nat → Rat) → Rat
 | 0, _ => 1
 | n + 1, f => rp n f * f n
theorem rp_congr {f g : Nat → Rat} : ∀ {n : Nat}, (∀ m, m < n → f m = g m) → rp n f = rp n g
 | 0, _ => rfl
 | n + 1, h => by unfold rp; rw [rp_congr (fun m hm => h m (by omega)), h n (by omega)]
theorem rp_nonneg {f : Nat → Rat} : ∀ {n : Nat}, (∀ m, m < n → 0 ≤ f m) → 0 ≤ rp n f
 | 0, _ => by unfold rp; grind
 | n + 1, h => Rat.mul_nonneg (rp_nonneg (fun m hm => h m (by omega))) (h n (by omega))
theorem rp_le {f g : Nat → Rat} : ∀ {n : Nat}, (∀ m, m < n → 0 ≤ f m) → (∀ m, m < n → f m ≤ g m) → rp n f ≤ rp n g
 | 0, _, _ => Rat.le_refl
 | n + 1, h0, h => by
  have h1 := rp_le (n := n) (fun m hm => h0 m (by omega)) (fun m hm => h m (by omega))
  have h2 := h n (by omega)
  have h3 := rp_nonneg (n := n) (fun m hm => h0 m (by omega))
  have h4 := h0 n (by omega)
  have h5 := Rat.mul_le_mul_of_nonneg_right h1 h4
  have h6 := Rat.mul_le_mul_of_nonneg_left h2 (Rat.le_trans h3 h1)
  unfold rp; exact Rat.le_trans h5 h6
theorem rp_sk {s : Nat → Rat} {c n : Nat} (h : c ≤ n) : rp (n + 1) (fun x => s (sk c x)) = rp n (fun x => s (sk c x)) * s (n + 1) := by
 show rp n (fun x => s (sk c x)) * s (sk c n) = _
 have : sk c n = n + 1 := by unfold sk; rw [if_neg (by omega)]
 rw [this]
theorem expand_le {a s : Nat → Rat} (ha : ∀ x, 0 ≤ a x) (hs : ∀ x, 0 ≤ s x) : ∀ n, rs (n + 1) (fun c => a c * rp n (fun x => s (sk c x))) ≤ rp (n + 1) (fun x => a x + s x)
 | 0 => by
  have := hs 0
  show 0 + a 0 * 1 ≤ 1 * (a 0 + s 0)
  grind
 | n + 1 => by
  have ih := expand_le ha hs n
  have e1 : rs (n + 1) (fun c => a c * rp (n + 1) (fun x => s (sk c x))) = s (n + 1) * rs (n + 1) (fun c => a c * rp n (fun x => s (sk c x))) := by
   rw [← rs_mul]
   refine rs_congr (fun c hc => ?_)
   rw [rp_sk (by omega)]; grind
  have e2 : rp (n + 1) (fun x => s (sk (n + 1) x)) = rp (n + 1) s := rp_congr (fun m hm => by unfold sk; rw [if_pos hm])
  show rs (n + 1) (fun c => a c * rp (n + 1) (fun x => s (sk c x))) + a (n + 1) * rp (n + 1) (fun x => s (sk (n + 1) x)) ≤ rp (n + 1) (fun x => a x + s x) * (a (n + 1) + s (n + 1))
  rw [e1, e2]
  have h1 := Rat.mul_le_mul_of_nonneg_left ih (hs (n + 1))
  have h2 := rp_le (f := s) (g := fun x => a x + s x) (n := n + 1) (fun m _ => hs m) (fun m _ => by have := ha m; grind)
  have h3 := Rat.mul_le_mul_of_nonneg_left h2 (ha (n + 1))
  grind
theorem dt_bound : ∀ (k : Nat) (V : Nat → Nat → Rat), ab (dt k V) ≤ rp k (fun x => rs k (fun i => ab (V i x)))
 | 0, V => by unfold ab dt rp; grind
 | k + 1, V => by
  have h1 := ab_rs (fun c => sg7 c * V 0 c * dt k (fun i x => V (i + 1) (sk c x))) (k + 1)
  have h2 : rs (k + 1) (fun c => ab (sg7 c * V 0 c * dt k (fun i x => V (i + 1) (sk c x)))) ≤ rs (k + 1) (fun c => ab (V 0 c) * rp k (fun x => rs k (fun i => ab (V (i + 1) (sk c x))))) := by
   refine rs_le (fun c hc => ?_)
   rw [ab_mul, ab_mul, ab_sg7, Rat.one_mul]
   exact Rat.mul_le_mul_of_nonneg_left (dt_bound k (fun i x => V (i + 1) (sk c x))) (ab_nonneg _)
  have h3 := expand_le (a := fun x => ab (V 0 x)) (s := fun x => rs k (fun i => ab (V (i + 1) x))) (fun x => ab_nonneg _) (fun x => rs_nonneg (fun m _ => ab_nonneg _)) k
  refine Rat.le_trans h1 (Rat.le_trans h2 (Rat.le_trans h3 ?_))
  refine rp_le (fun m _ => ?_) (fun m _ => ?_)
  ·have := ab_nonneg (V 0 m); have := rs_nonneg (f := fun i => ab (V (i + 1) m)) (n := k) (fun m _ => ab_nonneg _); grind
  ·have e : ∀ n, rs (n + 1) (fun i => ab (V i m)) = ab (V 0 m) + rs n (fun i => ab (V (i + 1) m)) := fun n => by
    induction n with
    | zero => show 0 + ab (V 0 m) = ab (V 0 m) + 0; grind
    | succ n ih =>
     show rs (n + 1) (fun i => ab (V i m)) + ab (V (n + 1) m) = ab (V 0 m) + (rs n (fun i => ab (V (i + 1) m)) + ab (V (n + 1) m))
     rw [ih]; grind
   rw [e]
   exact Rat.le_refl
theorem dt_shears (k : Nat) (V : Nat → Nat → Rat) (t : Nat → Rat) : ∀ r, r ≤ k → dt (k + 1) (fun i x => if 0 < i ∧ i ≤ r then V i x + t i * V 0 x else V i x) = dt (k + 1) V
 | 0, _ => dt_congr (fun i x _ _ => by rw [if_neg (by omega)])
 | r + 1, h => by
  have ih := dt_shears k V t r (by omega)
  have h2 := dt_shear (k := k + 1) (fun i x => if 0 < i ∧ i ≤ r then V i x + t i * V 0 x else V i x) (r := r + 1) (s := 0) (t (r + 1)) (by omega) (by omega)
  rw [ih] at h2
  rw [← h2]
  refine dt_congr (fun i x _ _ => ?_)
  unfold up
  by_cases e : i = r + 1
  ·subst e
   rw [if_pos rfl]
   dsimp only
   rw [if_pos (show 0 < r + 1 ∧ r + 1 ≤ r + 1 by omega), if_neg (show ¬ (0 < r + 1 ∧ r + 1 ≤ r) by omega), if_neg (show ¬ (0 < 0 ∧ 0 ≤ r) by omega)]
  ·rw [if_neg e]
   dsimp only
   by_cases e2 : 0 < i ∧ i ≤ r
   ·rw [if_pos (show 0 < i ∧ i ≤ r + 1 by omega), if_pos e2]
   ·rw [if_neg (show ¬ (0 < i ∧ i ≤ r + 1) by omega), if_neg e2]
def one1 (a : Nat → Nat → Rat) (x y : Nat) : Rat := a (x + 1) (y + 1) + a (x + 1) 0 * a 0 (y + 1) / (1 - a 0 0)
def idV (a : Nat → Nat → Rat) (y x : Nat) : Rat := (if x = y then 1 else 0) - a x y
theorem dt_pivot (k : Nat) (a : Nat → Nat → Rat) (h : 1 - a 0 0 ≠ 0) : dt (k + 1) (idV a) = (1 - a 0 0) * dt k (idV (one1 a)) := by
 rw [← dt_shears k (idV a) (fun y => a 0 y / (1 - a 0 0)) k (Nat.le_refl k)]
 have hz : ∀ y, 0 < y → idV a y 0 + a 0 y / (1 - a 0 0) * idV a 0 0 = 0 := fun y hy => by
  unfold idV
  rw [if_neg (by omega), if_pos rfl, Rat.div_mul_cancel h]
  grind
 have e : ∀ n, rs (n + 1) (fun c => sg7 c * (if 0 < 0 ∧ 0 ≤ k then idV a 0 c + a 0 0 / (1 - a 0 0) * idV a 0 c else idV a 0 c) * dt k (fun i x => if 0 < i + 1 ∧ i + 1 ≤ k then idV a (i + 1) (sk c x) + a 0 (i + 1) / (1 - a 0 0) * idV a 0 (sk c x) else idV a (i + 1) (sk c x))) = (1 - a 0 0) * dt k (idV (one1 a)) ∨ k < n := fun n => by
  induction n with
  | zero =>
   left
   show 0 + sg7 0 * (if 0 < 0 ∧ 0 ≤ k then idV a 0 0 + a 0 0 / (1 - a 0 0) * idV a 0 0 else idV a 0 0) * dt k (fun i x => if 0 < i + 1 ∧ i + 1 ≤ k then idV a (i + 1) (sk 0 x) + a 0 (i + 1) / (1 - a 0 0) * idV a 0 (sk 0 x) else idV a (i + 1) (sk 0 x)) = _
   rw [if_neg (by omega)]
   have e0 : sg7 0 = 1 := rfl
   have e1 : idV a 0 0 = 1 - a 0 0 := by unfold idV; rw [if_pos rfl]
   have e2 : dt k (fun i x => if 0 < i + 1 ∧ i + 1 ≤ k then idV a (i + 1) (sk 0 x) + a 0 (i + 1) / (1 - a 0 0) * idV a 0 (sk 0 x) else idV a (i + 1) (sk 0 x)) = dt k (idV (one1 a)) := by
    refine dt_congr (fun i x hi hx => ?_)
    rw [if_pos (by omega)]
    have : sk 0 x = x + 1 := by unfold sk; rw [if_neg (by omega)]
    rw [this]
    unfold idV one1
    rw [if_neg (show ¬ x + 1 = 0 by omega)]
    by_cases e : x = i
    ·rw [if_pos e, if_pos (by omega)]
     rw [Rat.div_def, Rat.div_def]; grind
    ·rw [if_neg e, if_neg (by omega)]
     rw [Rat.div_def, Rat.div_def]; grind
   rw [e0, e1, e2]; grind
  | succ n ih =>
   rcases ih with ih | ih
   ·by_cases hn : k < n + 1
    ·exact .inr hn
    ·left
     have h0 : dt k (fun i x => if 0 < i + 1 ∧ i + 1 ≤ k then idV a (i + 1) (sk (n + 1) x) + a 0 (i + 1) / (1 - a 0 0) * idV a 0 (sk (n + 1) x) else idV a (i + 1) (sk (n + 1) x)) = 0 := by
      rw [dt_congr (W := fun i x => idV a (i + 1) (sk (n + 1) x) + a 0 (i + 1) / (1 - a 0 0) * idV a 0 (sk (n + 1) x)) (fun i x hi hx => by rw [if_pos (by omega)])]
      refine dt_none _ (x := 0) (by omega) (fun i => ?_)
      have : sk (n + 1) 0 = 0 := by unfold sk; rw [if_pos (by omega)]
      rw [this]
      exact hz (i + 1) (by omega)
     unfold rs
     rw [ih]
     dsimp only
     rw [h0]; grind
   ·exact .inr (by omega)
 rcases e k with h1 | h1
 ·exact h1
 ·omega
open Go.RowKit
theorem kind2 : IsKind 2 := .inr (.inl rfl)
def S2 : Sr (El 2) := srE 2 kind2
def Fin2 (v : El 2) : Prop := ∃ x, v.1 = .inr x
def val (v : El 2) : Rat := match v.1 with
 | .inr x => x
 | _ => 0
theorem El2.cases (v : El 2) : v.1 = .inl true ∨ ∃ x, v.1 = .inr x ∧ 0 ≤ x := by
 rcases has_top v.1 v.2 with h | ⟨x, h, hx⟩
 ·exact .inl h
 ·exact .inr ⟨x, h, hx⟩
theorem not_fin {v : El 2} : ¬ Fin2 v ↔ v.1 = .inl true := by
 constructor
 ·intro h
  rcases El2.cases v with h2 | ⟨x, h2, _⟩
  ·exact h2
  ·exact absurd ⟨x, h2⟩ h
 ·rintro h ⟨x, h2⟩
  rw [h] at h2; cases h2
theorem val_of {v : El 2} {x : Rat} (h : v.1 = .inr x) : val v = x := by unfold val; rw [h]
theorem fin_val {v : El 2} (h : Fin2 v) : v.1 = .inr (val v) := by obtain ⟨x, hx⟩ := h; rw [val_of hx]; exact hx
theorem val_nonneg (v : El 2) : 0 ≤ val v := by
 rcases El2.cases v with h | ⟨x, h, hx⟩
 ·unfold val; rw [h]; exact Rat.le_refl
 ·rw [val_of h]; exact hx
theorem fin_zero : Fin2 S2.zero := ⟨0, rfl⟩
theorem val_zero : val S2.zero = 0 := rfl
theorem val_pos {v : El 2} (hf : Fin2 v) (h : v ≠ S2.zero) : val v ≠ 0 := fun e => h (Subtype.ext (by rw [fin_val hf, e]; rfl))
theorem fin_add {u v : El 2} : Fin2 (S2.add u v) ↔ Fin2 u ∧ Fin2 v := by
 constructor
 ·intro h
  refine ⟨?_, ?_⟩
  ·refine Classical.byContradiction (fun hn => not_fin.2 ?_ h)
   show sumE u.1 v.1 = _
   rw [not_fin.1 hn, sum_top_left]
  ·refine Classical.byContradiction (fun hn => not_fin.2 ?_ h)
   show sumE u.1 v.1 = _
   rw [not_fin.1 hn, sum_top_right]
 ·rintro ⟨⟨x, hx⟩, y, hy⟩
  exact ⟨x + y, by show sumE u.1 v.1 = _; rw [hx, hy, sum_num]⟩
theorem val_add {u v : El 2} (hu : Fin2 u) (hv : Fin2 v) : val (S2.add u v) = val u + val v := val_of (by show sumE u.1 v.1 = _; rw [fin_val hu, fin_val hv, sum_num])
theorem fin_mul {u v : El 2} (hu : Fin2 u) (hv : Fin2 v) : Fin2 (S2.mul u v) := ⟨val u * val v, by show prodE u.1 v.1 = _; rw [fin_val hu, fin_val hv, prod_num]⟩
theorem val_mul {u v : El 2} (hu : Fin2 u) (hv : Fin2 v) : val (S2.mul u v) = val u * val v := val_of (by show prodE u.1 v.1 = _; rw [fin_val hu, fin_val hv, prod_num])
theorem mul_top {u v : El 2} (hu : u ≠ S2.zero) (hv : v.1 = .inl true) : (S2.mul u v).1 = .inl true := by
 show prodE u.1 v.1 = _
 rw [hv]
 rcases El2.cases u with h | ⟨x, h, hx⟩
 ·rw [h, prod_top_top]
 ·rw [h, prod_num_top (fun e => hu (Subtype.ext (by rw [h, e]; rfl)))]
theorem fin_of_mul {u v : El 2} (h : Fin2 (S2.mul u v)) (hu : u ≠ S2.zero) : Fin2 v := Classical.byContradiction (fun hn => not_fin.2 (mul_top hu (not_fin.1 hn)) h)
theorem fin_of_mul2 {u v : El 2} (h : Fin2 (S2.mul u v)) (hv : v ≠ S2.zero) : Fin2 u := fin_of_mul (S2.mul_comm u v ▸ h) hv
theorem mul_nz (u v : El 2) (hu : u ≠ S2.zero) (hv : v ≠ S2.zero) : S2.mul u v ≠ S2.zero := by
 intro e
 by_cases hf : Fin2 v
 ·by_cases hg : Fin2 u
  ·have h := congrArg val e
   rw [val_mul hg hf, val_zero] at h
   rcases Rat.mul_eq_zero.1 h with h | h
   ·exact val_pos hg hu h
   ·exact val_pos hf hv h
  ·have h := mul_top hv (not_fin.1 hg)
   rw [S2.mul_comm, e] at h; cases h
 ·have h := mul_top hu (not_fin.1 hf)
  rw [e] at h; cases h
theorem fin_le {u v : El 2} (h : S2.le u v) (hv : Fin2 v) : Fin2 u := by
 refine Classical.byContradiction (fun hn => ?_)
 have h1 : leE u.1 v.1 := h
 rw [not_fin.1 hn, fin_val hv] at h1
 exact not_top_num _ h1
theorem fin_sm {f : Nat → El 2} : ∀ {n : Nat}, Fin2 (sm S2 n f) ↔ ∀ m, m < n → Fin2 (f m)
 | 0 => ⟨fun _ m hm => by omega, fun _ => fin_zero⟩
 | n + 1 => by
  show Fin2 (S2.add (sm S2 n f) (f n)) ↔ _
  rw [fin_add, fin_sm]
  constructor
  ·rintro ⟨h1, h2⟩ m hm
   by_cases e : m = n
   ·rw [e]; exact h2
   ·exact h1 m (by omega)
  ·intro h
   exact ⟨fun m hm => h m (by omega), h n (by omega)⟩
theorem val_sm {f : Nat → El 2} : ∀ {n : Nat}, (∀ m, m < n → Fin2 (f m)) → val (sm S2 n f) = rs n (fun m => val (f m))
 | 0, _ => rfl
 | n + 1, h => by
  show val (S2.add (sm S2 n f) (f n)) = _
  rw [val_add (fin_sm.2 (fun m hm => h m (by omega))) (h n (by omega)), val_sm (fun m hm => h m (by omega))]
  rfl
theorem star_fin {u : El 2} (h : Fin2 (S2.mul (S2.star u) u)) : Fin2 u ∧ val u < 1 ∧ Fin2 (S2.star u) ∧ val (S2.star u) = 1 / (1 - val u) := by
 have key : ∀ x : Rat, u.1 = .inr x → x < 1 → Fin2 u ∧ val u < 1 ∧ Fin2 (S2.star u) ∧ val (S2.star u) = 1 / (1 - val u) := fun x hx h1 => by
  have e : (S2.star u).1 = .inr (1 / (1 - x)) := by
   show starE 2 u.1 = _
   rw [hx]
   show (if x < 1 then Sum.inr (1 / (1 - x)) else .inl true) = _
   rw [if_pos h1]
  rw [val_of hx, val_of e]
  exact ⟨⟨x, hx⟩, h1, ⟨_, e⟩, rfl⟩
 by_cases hz : u = S2.zero
 ·exact key 0 (by rw [hz]; rfl) (by decide +kernel)
 ·have hs : Fin2 (S2.star u) := fin_of_mul2 h hz
  have hsn : S2.star u ≠ S2.zero := fun e => by
   have h1 := S2.star_law u
   rw [e] at h1
   have h2 := S2.zero_left h1
   have h3 := congrArg val h2
   rw [val_zero] at h3
   have : val S2.one = 1 := rfl
   rw [this] at h3
   revert h3; decide +kernel
  have hu : Fin2 u := fin_of_mul h hsn
  refine key (val u) (fin_val hu) (Classical.byContradiction (fun hn => not_fin.2 ?_ hs))
  show starE 2 u.1 = _
  rw [fin_val hu]
  show (if val u < 1 then Sum.inr (1 / (1 - val u)) else .inl true) = _
  rw [if_neg hn]
theorem dt_ne : ∀ (r : Nat) (a : Nat → Nat → El 2), (∀ t x y, t ≤ r → x < r → y < r → Fin2 (el S2 a t x y)) → dt r (idV (fun x y => val (a x y))) ≠ 0
 | 0, a, _ => by show (1 : Rat) ≠ 0; decide +kernel
 | r + 1, a, h => by
  have h1 : Fin2 (S2.mul (S2.star (el S2 a 0 0 0)) (el S2 a 0 0 0)) := by
   have := h 1 0 0 (by omega) (by omega) (by omega)
   rwa [el_row] at this
  obtain ⟨hu, hlt, hsf, hsv⟩ := star_fin h1
  have hlt2 : val (a 0 0) < 1 := hlt
  have hne : 1 - val (a 0 0) ≠ 0 := fun e => by grind
  rw [dt_pivot r (fun x y => val (a x y)) hne]
  have ih := dt_ne r (fun x y => el S2 a 1 (x + 1) (y + 1)) (fun t x y ht hx hy => by
   rw [el_shift]; exact h (t + 1) (x + 1) (y + 1) (by omega) (by omega) (by omega))
  have e : dt r (idV (one1 (fun x y => val (a x y)))) = dt r (idV (fun x y => val (el S2 a 1 (x + 1) (y + 1)))) := by
   refine dt_congr (fun i x hi hx => ?_)
   unfold idV
   congr 1
   show one1 (fun x y => val (a x y)) x i = val (S2.add (a (x + 1) (i + 1)) (S2.mul (S2.mul (a (x + 1) 0) (S2.star (a 0 0))) (a 0 (i + 1))))
   have f1 : Fin2 (a (x + 1) (i + 1)) := h 0 (x + 1) (i + 1) (by omega) (by omega) (by omega)
   have f2 : Fin2 (a (x + 1) 0) := h 0 (x + 1) 0 (by omega) (by omega) (by omega)
   have f3 : Fin2 (a 0 (i + 1)) := h 0 0 (i + 1) (by omega) (by omega) (by omega)
   have hsf2 : Fin2 (S2.star (a 0 0)) := hsf
   have hsv2 : val (S2.star (a 0 0)) = 1 / (1 - val (a 0 0)) := hsv
   rw [val_add f1 (fin_mul (fin_mul f2 hsf2) f3), val_mul (fin_mul f2 hsf2) f3, val_mul f2 hsf2, hsv2]
   unfold one1
   rw [Rat.div_def, Rat.div_def]
   grind
  rw [e]
  intro h0
  rcases Rat.mul_eq_zero.1 h0 with h0 | h0
  ·exact hne h0
  ·exact ih h0
open Go.RowKit
variable {α : Type}
theorem sm_front (S : Sr α) (f : Nat → α) : ∀ n, sm S (n + 1) f = S.add (f 0) (sm S n (fun m => f (m + 1)))
 | 0 => by show S.add S.zero (f 0) = S.add (f 0) S.zero; rw [S.add_comm]
 | n + 1 => by
  show S.add (sm S (n + 1) f) (f (n + 1)) = S.add (f 0) (S.add (sm S n (fun m => f (m + 1))) (f (n + 1)))
  rw [sm_front S f n, S.add_assoc]
theorem rs_front (f : Nat → Rat) : ∀ n, rs (n + 1) f = f 0 + rs n (fun m => f (m + 1))
 | 0 => by show 0 + f 0 = f 0 + 0; grind
 | n + 1 => by
  show rs (n + 1) f + f (n + 1) = f 0 + (rs n (fun m => f (m + 1)) + f (n + 1))
  rw [rs_front f n]; grind
theorem rp_front (f : Nat → Rat) : ∀ n, rp (n + 1) f = f 0 * rp n (fun m => f (m + 1))
 | 0 => by show 1 * f 0 = f 0 * 1; grind
 | n + 1 => by
  show rp (n + 1) f * f (n + 1) = f 0 * (rp n (fun m => f (m + 1)) * f (n + 1))
  rw [rp_front f n]; grind
theorem rs_at (f : Nat → Rat) : ∀ {n c : Nat}, c < n → rs n (fun y => f y * (if c = y then 1 else 0)) = f c
 | n + 1, c, h => by
  show rs n (fun y => f y * (if c = y then 1 else 0)) + f n * (if c = n then 1 else 0) = _
  by_cases e : c = n
  ·subst e
   rw [if_pos rfl, rs_zero (fun m hm => by rw [if_neg (by omega)]; grind)]; grind
  ·rw [if_neg e, rs_at f (by omega)]; grind
theorem rs_part (f : Nat → Rat) (p : Nat → Bool) : ∀ k, rs ((List.range k).filter p).length (fun x => f (((List.range k).filter p).getD x 0)) = rs k (fun m => if p m = true then f m else 0)
 | 0 => rfl
 | k + 1 => by
  have ih := rs_part f p k
  show _ = rs k (fun m => if p m = true then f m else 0) + (if p k = true then f k else 0)
  rw [← ih, List.range_succ, List.filter_append]
  by_cases hk : p k = true
  ·rw [if_pos hk]
   have e1 : [k].filter p = [k] := by simp [hk]
   rw [e1, List.length_append, List.length_singleton]
   show rs ((List.range k).filter p).length (fun x => f ((((List.range k).filter p) ++ [k]).getD x 0)) + f ((((List.range k).filter p) ++ [k]).getD ((List.range k).filter p).length 0) = _
   have e2 : (((List.range k).filter p) ++ [k]).getD ((List.range k).filter p).length 0 = k := by
    rw [List.getD_eq_getElem?_getD, List.getElem?_append_right (Nat.le_refl _), Nat.sub_self]; rfl
   rw [e2]
   congr 1
   refine rs_congr (fun m hm => ?_)
   rw [List.getD_eq_getElem?_getD, List.getD_eq_getElem?_getD, List.getElem?_append_left hm]
  ·rw [if_neg hk]
   have e1 : [k].filter p = [] := by simp [hk]
   rw [e1, List.append_nil]; grind
theorem rp_part (f : Nat → Rat) (p : Nat → Bool) : ∀ k, rp ((List.range k).filter p).length (fun x => f (((List.range k).filter p).getD x 0)) = rp k (fun m => if p m = true then f m else 1)
 | 0 => rfl
 | k + 1 => by
  have ih := rp_part f p k
  show _ = rp k (fun m => if p m = true then f m else 1) * (if p k = true then f k else 1)
  rw [← ih, List.range_succ, List.filter_append]
  by_cases hk : p k = true
  ·rw [if_pos hk]
   have e1 : [k].filter p = [k] := by simp [hk]
   rw [e1, List.length_append, List.length_singleton]
   show rp ((List.range k).filter p).length (fun x => f ((((List.range k).filter p) ++ [k]).getD x 0)) * f ((((List.range k).filter p) ++ [k]).getD ((List.range k).filter p).length 0) = _
   have e2 : (((List.range k).filter p) ++ [k]).getD ((List.range k).filter p).length 0 = k := by
    rw [List.getD_eq_getElem?_getD, List.getElem?_append_right (Nat.le_refl _), Nat.sub_self]; rfl
   rw [e2]
   congr 1
   refine rp_congr (fun m hm => ?_)
   rw [List.getD_eq_getElem?_getD, List.getD_eq_getElem?_getD, List.getElem?_append_left hm]
  ·rw [if_neg hk]
   have e1 : [k].filter p = [] := by simp [hk]
   rw [e1, List.append_nil]; grind
theorem part_mem {p : Nat → Bool} {k x : Nat} (h : x < ((List.range k).filter p).length) : ((List.range k).filter p).getD x 0 < k ∧ p (((List.range k).filter p).getD x 0) = true := by
 rw [List.getD_eq_getElem?_getD, List.getElem?_eq_getElem h]
 have := List.mem_filter.1 (List.getElem_mem h)
 exact ⟨List.mem_range.1 this.1, this.2⟩
theorem rp_one_le {f : Nat → Rat} : ∀ {n : Nat}, (∀ m, m < n → 1 ≤ f m) → 1 ≤ rp n f
 | 0, _ => by unfold rp; grind
 | n + 1, h => by
  have h1 := rp_one_le (n := n) (fun m hm => h m (by omega))
  have h2 := h n (by omega)
  have h3 := Rat.mul_le_mul_of_nonneg_left h2 (show 0 ≤ rp n f by grind)
  unfold rp; grind
theorem rp_more {f : Nat → Rat} {n : Nat} : ∀ d, (∀ m, m < n + d → 1 ≤ f m) → rp n f ≤ rp (n + d) f
 | 0, _ => Rat.le_refl
 | d + 1, h => by
  have h1 := rp_more (f := f) (n := n) d (fun m hm => h m (by omega))
  have h2 := h (n + d) (by omega)
  have h3 := rp_one_le (n := n + d) (fun m hm => h m (by omega))
  have h4 := Rat.mul_le_mul_of_nonneg_left h2 (show 0 ≤ rp (n + d) f by grind)
  show rp n f ≤ rp (n + d) f * f (n + d)
  grind
theorem rp_out (D : Nat → Rat) : ∀ {n c : Nat}, c ≤ n → rp (n + 1) D = D c * rp n (fun x => D (sk c x))
 | 0, c, h => by
  have : c = 0 := by omega
  subst this; show 1 * D 0 = D 0 * 1; grind
 | n + 1, c, h => by
  by_cases e : c = n + 1
  ·subst e
   rw [rp_congr (f := fun x => D (sk (n + 1) x)) (g := D) (fun m hm => by unfold sk; rw [if_pos hm])]
   show rp (n + 1) D * D (n + 1) = _
   grind
  ·have ih := rp_out D (c := c) (n := n) (by omega)
   rw [rp_sk (by omega)]
   show rp (n + 1) D * D (n + 1) = _
   rw [ih]; grind
theorem dt_scale : ∀ (k : Nat) (D : Nat → Rat) (V : Nat → Nat → Rat), dt k (fun i x => D x * V i x) = rp k D * dt k V
 | 0, D, V => by show (1 : Rat) = 1 * 1; grind
 | k + 1, D, V => by
  show rs (k + 1) (fun c => sg7 c * (D c * V 0 c) * dt k (fun i x => D (sk c x) * V (i + 1) (sk c x))) = rp (k + 1) D * rs (k + 1) (fun c => sg7 c * V 0 c * dt k (fun i x => V (i + 1) (sk c x)))
  rw [← rs_mul]
  refine rs_congr (fun c hc => ?_)
  rw [dt_scale k (fun x => D (sk c x)) (fun i x => V (i + 1) (sk c x)), rp_out D (c := c) (n := k) (by omega)]
  grind
theorem fin_row {A : Nat → Nat → El 2} {k i j : Nat} (h : Fin2 (el S2 A k i j)) : Fin2 (A i j) ∧ ∀ m, m < k → Fin2 (S2.mul (A i m) (el S2 A k m j)) := by
 rw [el_left S2 A k i j] at h
 have h2 := fin_add.1 h
 exact ⟨h2.1, fin_sm.1 h2.2⟩
theorem fin_down {A : Nat → Nat → El 2} {k i j m : Nat} (hr : Rch S2 A k i m) (hm : m < k) (h : Fin2 (el S2 A k i j)) : Fin2 (el S2 A k m j) := by
 induction hr with
 | one h1 => exact fin_of_mul ((fin_row h).2 _ hm) h1
 | more hl h1 _ ih => exact ih hm (fin_of_mul ((fin_row h).2 _ hl) h1)
theorem fin_side {A : Nat → Nat → El 2} {k x j v : Nat} (hv : v < k) (hn : el S2 A k v j ≠ S2.zero) (h : Fin2 (el S2 A k x j)) : Fin2 (el S2 A k x v) := by
 have h1 : Rch S2 (fun a b => A b a) k j v := rch_of S2 _ k j v (by rw [el_turn]; exact hn)
 have h2 := fin_down (A := fun a b => A b a) (j := x) h1 hv (by rw [el_turn]; exact h)
 rwa [el_turn] at h2
open Classical in
noncomputable def onB (A : Nat → Nat → El 2) (k i j m : Nat) : Bool := decide (el S2 A k i m ≠ S2.zero ∧ el S2 A k m j ≠ S2.zero)
theorem onB_iff {A : Nat → Nat → El 2} {k i j m : Nat} : onB A k i j m = true ↔ el S2 A k i m ≠ S2.zero ∧ el S2 A k m j ≠ S2.zero := by unfold onB; simp
noncomputable def onL (A : Nat → Nat → El 2) (k i j : Nat) : List Nat := (List.range k).filter (onB A k i j)
noncomputable def nd (A : Nat → Nat → El 2) (k i j c : Nat) : Nat := if c = 0 then i else (onL A k i j).getD (c - 1) 0
noncomputable def onA (A : Nat → Nat → El 2) (k i j x y : Nat) : El 2 := if y = 0 then S2.zero else A (nd A k i j x) (nd A k i j y)
theorem nd_succ (A : Nat → Nat → El 2) (k i j c : Nat) : nd A k i j (c + 1) = (onL A k i j).getD c 0 := by unfold nd; rw [if_neg (by omega), Nat.add_sub_cancel]
theorem nd_on {A : Nat → Nat → El 2} {k i j c : Nat} (h : c < (onL A k i j).length) : nd A k i j (c + 1) < k ∧ el S2 A k i (nd A k i j (c + 1)) ≠ S2.zero ∧ el S2 A k (nd A k i j (c + 1)) j ≠ S2.zero := by
 rw [nd_succ]
 have := part_mem h
 exact ⟨this.1, onB_iff.1 this.2⟩
section
variable {A : Nat → Nat → El 2} {k i j : Nat}
theorem nd_fin (h : Fin2 (el S2 A k i j)) {c : Nat} (hc : c < (onL A k i j).length + 1) : Fin2 (el S2 A k (nd A k i j c) j) := by
 cases c with
 | zero => exact h
 | succ c =>
  obtain ⟨h1, h2, _⟩ := nd_on (show c < (onL A k i j).length by omega)
  exact fin_down (rch_of S2 A k i _ h2) h1 h
theorem nd_arc (h : Fin2 (el S2 A k i j)) {c y : Nat} (hc : c < (onL A k i j).length + 1) (hy : y < (onL A k i j).length) : Fin2 (A (nd A k i j c) (nd A k i j (y + 1))) := by
 obtain ⟨h1, _, h3⟩ := nd_on hy
 exact fin_of_mul2 ((fin_row (nd_fin h hc)).2 _ h1) h3
theorem off_zero (h : Fin2 (el S2 A k i j)) {c m : Nat} (hc : c < (onL A k i j).length + 1) (hm : m < k) (hp : ¬ onB A k i j m = true) : S2.mul (A (nd A k i j c) m) (el S2 A k m j) = S2.zero := by
 refine Classical.byContradiction (fun hn => hp (onB_iff.2 ?_))
 have h1 : A (nd A k i j c) m ≠ S2.zero := fun e => hn (by rw [e, S2.zero_mul])
 have h2 : el S2 A k m j ≠ S2.zero := fun e => hn (by rw [e, S2.mul_zero])
 refine ⟨?_, h2⟩
 cases c with
 | zero => exact of_rch S2 mul_nz A (.one h1)
 | succ c =>
  obtain ⟨g1, g2, _⟩ := nd_on (show c < (onL A k i j).length by omega)
  exact of_rch S2 mul_nz A ((rch_of S2 A k i _ g2).trans g1 (.one h1))
theorem on_sum (h : Fin2 (el S2 A k i j)) {c : Nat} (hc : c < (onL A k i j).length + 1) :
  sm S2 (onL A k i j).length (fun y => S2.mul (A (nd A k i j c) (nd A k i j (y + 1))) (el S2 A k (nd A k i j (y + 1)) j)) = sm S2 k (fun m => S2.mul (A (nd A k i j c) m) (el S2 A k m j)) := by
 have e := sm_part S2 (fun m => S2.mul (A (nd A k i j c) m) (el S2 A k m j)) (onB A k i j) k
 rw [sm_congr S2 (g := fun x => S2.mul (A (nd A k i j c) ((onL A k i j).getD x 0)) (el S2 A k ((onL A k i j).getD x 0) j)) (fun y _ => by rw [nd_succ])]
 refine e.trans (sm_congr S2 (fun m hm => ?_))
 by_cases hp : onB A k i j m = true
 ·rw [if_pos hp]
 ·rw [if_neg hp]; exact (off_zero h hc hm hp).symm
theorem on_fin (h : Fin2 (el S2 A k i j)) {t x y : Nat} (ht : t ≤ (onL A k i j).length + 1) (hx : x < (onL A k i j).length + 1) (hy : y < (onL A k i j).length + 1) : Fin2 (el S2 (onA A k i j) t x y) := by
 have hfull : Fin2 (el S2 (onA A k i j) ((onL A k i j).length + 1) x y) := by
  cases y with
  | zero =>
   rw [el_right]
   refine fin_add.2 ⟨fin_zero, fin_sm.2 (fun m _ => ?_)⟩
   have : onA A k i j m 0 = S2.zero := by unfold onA; rw [if_pos rfl]
   rw [this, S2.mul_zero]; exact fin_zero
  | succ y =>
   obtain ⟨g1, g2, g3⟩ := nd_on (show y < (onL A k i j).length by omega)
   have hX : Fin2 (el S2 A k (nd A k i j x) (nd A k i j (y + 1))) := fin_side g1 g3 (nd_fin h hx)
   refine fin_le ?_ hX
   have hl := el_least S2 (onA A k i j) (fun x => onA A k i j x (y + 1)) (fun x => el S2 A k (nd A k i j x) (nd A k i j (y + 1))) (n := (onL A k i j).length + 1) (fun x hx => ?_) ((onL A k i j).length + 1) (Nat.le_refl _) x hx
   ·rw [el_right]
    rw [sm_congr S2 (g := fun m => S2.mul (el S2 (onA A k i j) ((onL A k i j).length + 1) x m) (onA A k i j m (y + 1))) (fun m hm => by rw [if_pos hm])] at hl
    exact hl
   ·have e0 : onA A k i j x (y + 1) = A (nd A k i j x) (nd A k i j (y + 1)) := by unfold onA; rw [if_neg (by omega)]
    rw [e0, el_left S2 A k (nd A k i j x) (nd A k i j (y + 1))]
    refine S2.add_mono _ _ _ _ (S2.le_refl _) ?_
    rw [sm_front]
    have e1 : S2.mul (onA A k i j x 0) (el S2 A k (nd A k i j 0) (nd A k i j (y + 1))) = S2.zero := by
     have : onA A k i j x 0 = S2.zero := by unfold onA; rw [if_pos rfl]
     rw [this, S2.zero_mul]
    rw [e1, S2.zero_add]
    have e2 := sm_part S2 (fun m => S2.mul (A (nd A k i j x) m) (el S2 A k m (nd A k i j (y + 1)))) (onB A k i j) k
    have e3 : sm S2 (onL A k i j).length (fun m => S2.mul (onA A k i j x (m + 1)) (el S2 A k (nd A k i j (m + 1)) (nd A k i j (y + 1)))) = sm S2 ((List.range k).filter (onB A k i j)).length (fun z => S2.mul (A (nd A k i j x) (((List.range k).filter (onB A k i j)).getD z 0)) (el S2 A k (((List.range k).filter (onB A k i j)).getD z 0) (nd A k i j (y + 1)))) := by
     refine sm_congr S2 (fun m _ => ?_)
     have : onA A k i j x (m + 1) = A (nd A k i j x) (nd A k i j (m + 1)) := by unfold onA; rw [if_neg (by omega)]
     rw [this, nd_succ A k i j m]
     rfl
    rw [e3, e2]
    refine sm_mono S2 (fun m _ => ?_)
    by_cases hp : onB A k i j m = true
    ·rw [if_pos hp]; exact S2.le_refl _
    ·rw [if_neg hp]; exact S2.zero_le _
 have hg := el_grow S2 (onA A k i j) x y ((onL A k i j).length + 1 - t) t
 rw [show t + ((onL A k i j).length + 1 - t) = (onL A k i j).length + 1 by omega] at hg
 exact fin_le hg hfull
theorem on_eq (h : Fin2 (el S2 A k i j)) {c : Nat} (hc : c < (onL A k i j).length + 1) :
  val (A (nd A k i j c) j) = rs ((onL A k i j).length + 1) (fun y => val (el S2 A k (nd A k i j y) j) * idV (fun x y => val (onA A k i j x y)) y c) := by
 have hB := nd_fin h hc
 have hr := fin_row hB
 have e1 := congrArg val (el_left S2 A k (nd A k i j c) j)
 rw [val_add hr.1 (fin_sm.2 hr.2), ← on_sum h hc, val_sm (fun m hm => fin_mul (nd_arc h hc hm) (nd_fin h (by omega)))] at e1
 rw [rs_congr (g := fun m => val (A (nd A k i j c) (nd A k i j (m + 1))) * val (el S2 A k (nd A k i j (m + 1)) j)) (fun m hm => val_mul (nd_arc h hc hm) (nd_fin h (by omega)))] at e1
 have e2 : rs ((onL A k i j).length + 1) (fun y => val (el S2 A k (nd A k i j y) j) * idV (fun x y => val (onA A k i j x y)) y c) = rs ((onL A k i j).length + 1) (fun y => val (el S2 A k (nd A k i j y) j) * (if c = y then 1 else 0)) + rs ((onL A k i j).length + 1) (fun y => (-1) * (val (onA A k i j c y) * val (el S2 A k (nd A k i j y) j))) := by
  rw [← rs_add]
  refine rs_congr (fun y _ => ?_)
  unfold idV
  grind
 rw [e2, rs_at (fun y => val (el S2 A k (nd A k i j y) j)) hc, rs_mul, rs_front]
 have e3 : val (onA A k i j c 0) = 0 := by unfold onA; rw [if_pos rfl]; exact val_zero
 have e4 : rs (onL A k i j).length (fun m => val (onA A k i j c (m + 1)) * val (el S2 A k (nd A k i j (m + 1)) j)) = rs (onL A k i j).length (fun m => val (A (nd A k i j c) (nd A k i j (m + 1))) * val (el S2 A k (nd A k i j (m + 1)) j)) := by
  refine rs_congr (fun m _ => ?_)
  have : onA A k i j c (m + 1) = A (nd A k i j c) (nd A k i j (m + 1)) := by unfold onA; rw [if_neg (by omega)]
  rw [this]
 rw [e3, e4, e1]
 grind
end
end Go.Proofs.YtaogepcaoogpgaaGreatDoor
