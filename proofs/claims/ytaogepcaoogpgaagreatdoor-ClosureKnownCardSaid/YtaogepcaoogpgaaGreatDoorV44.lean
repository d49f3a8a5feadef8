/- U65 -/
import Derived.Test.YtaogepcaoogpgaaGreatDoorV43
set_option linter.unusedVariables false
set_option linter.unusedSimpArgs false
namespace Go.Proofs.YtaogepcaoogpgaaGreatDoor
open Go.RowKit
open Go.Lib (nDigits)
variable {α : Type}
def aug (S : Sr α) (A : Nat → Nat → α) (F : Nat → α) (n x y : Nat) : α := if x < n then (if y < n then A x y else F x) else S.zero
def cutF (S : Sr α) (F : Nat → α) (J x : Nat) : α := if x < J then F x else S.zero
theorem el_aug (S : Sr α) (A : Nat → Nat → α) (F : Nat → α) {n t i j : Nat} (ht : t ≤ n) (hi : i < n) (hj : j < n) : el S (aug S A F n) t i j = el S A t i j :=
 el_congr S (fun x y hx hy => by unfold aug; rw [if_pos hx, if_pos hy]) t ht i j hi hj
theorem paths_el (S : Sr α) (A : Nat → Nat → α) (F : Nat → α) {n i : Nat} (hi : i < n) : sm S n (fun m => S.mul (stM S A n i m) (F m)) = el S (aug S A F n) n i n := by
 rw [el_right S (aug S A F n) n i n]
 have e1 : aug S A F n i n = F i := by unfold aug; rw [if_pos hi, if_neg (Nat.lt_irrefl _)]
 have e2 : sm S n (fun m => S.mul (el S (aug S A F n) n i m) (aug S A F n m n)) = sm S n (fun m => S.mul (el S A n i m) (F m)) := sm_congr S (fun m hm => by
  rw [el_aug S A F (Nat.le_refl n) hi hm]
  unfold aug
  rw [if_pos hm, if_neg (Nat.lt_irrefl _)])
 have e3 : sm S n (fun m => S.mul (stM S A n i m) (F m)) = S.add (sm S n (fun m => S.mul (idm S i m) (F m))) (sm S n (fun m => S.mul (el S A n i m) (F m))) := by
  rw [← sm_add]
  exact sm_congr S (fun m _ => S.add_mul _ _ _)
 rw [e1, e2, e3, idm_sm S _ hi]
theorem sm_cut (S : Sr α) (c F : Nat → α) {J : Nat} : ∀ {n : Nat}, J ≤ n → sm S n (fun m => S.mul (c m) (cutF S F J m)) = sm S J (fun m => S.mul (c m) (F m))
 | 0, h => by rw [Nat.le_zero.1 h]; rfl
 | n + 1, h => by
  by_cases e : J = n + 1
  ·rw [e]
   exact sm_congr S (fun m hm => by unfold cutF; rw [if_pos (by omega)])
  ·show S.add (sm S n (fun m => S.mul (c m) (cutF S F J m))) (S.mul (c n) (cutF S F J n)) = _
   rw [sm_cut S c F (n := n) (by omega)]
   have : cutF S F J n = S.zero := by unfold cutF; rw [if_neg (by omega)]
   rw [this, S.mul_zero, S.add_zero]
theorem paths_part (S : Sr α) (A : Nat → Nat → α) (F : Nat → α) {n i J : Nat} (hi : i < n) (hJ : J ≤ n) : sm S J (fun m => S.mul (stM S A n i m) (F m)) = el S (aug S A (cutF S F J) n) n i n := by
 rw [← paths_el S A (cutF S F J) hi, sm_cut S (fun m => stM S A n i m) F hJ]
theorem cs_none (S : Sr α) (y : Nat) : ∀ {l : List (Nat × α)}, (∀ e ∈ l, e.1 ≠ y) → cs S l y = S.zero
 | [], _ => rfl
 | e :: l, h => by
  have h1 : cs S (e :: l) y = cs S l y := if_neg (h e (List.mem_cons_self ..))
  rw [h1]; exact cs_none S y (fun x hx => h x (List.mem_cons_of_mem _ hx))
variable {k : Int} {hk : IsKind k}
theorem sh4_zero (hk : IsKind k) : Sh4 (srE k hk).zero.1 := by
 show Sh4 (topOf k)
 unfold topOf
 split
 ·trivial
 ·show nDigits (0 : Rat).num.natAbs + (if (0 : Rat).den = 1 then 0 else nDigits (0 : Rat).den) ≤ 4
  decide +kernel
structure LittleM (k : Int) (hk : IsKind k) (A : Nat → Nat → El k) (F : Nat → El k) (n : Nat) (M : Nat → List (Nat × El k)) : Prop where
 row : n ≤ 5
 is : ∀ x y, x < n → y < n → A x y = cs (srE k hk) (M x) y
 short : ∀ x, x < n → ∀ e ∈ M x, e.1 < n ∧ Sh4 e.2.1
 few : ns n (fun x => (M x).length) ≤ 10
 fin : ∀ x, x < n → Sh4 (F x).1
variable {A : Nat → Nat → El k} {F : Nat → El k} {n : Nat} {M : Nat → List (Nat × El k)}
theorem LittleM.cutF (h : LittleM k hk A F n M) (J : Nat) : LittleM k hk A (cutF (srE k hk) F J) n M where
 row := h.row
 is := h.is
 short := h.short
 few := h.few
 fin x hx := by
  unfold Proofs.YtaogepcaoogpgaaGreatDoor.cutF
  split
  ·exact h.fin x hx
  ·exact sh4_zero hk
theorem ns_one (f : Nat → Nat) : ∀ n, ns n (fun x => f x + 1) = ns n f + n
 | 0 => rfl
 | n + 1 => by
  show ns n (fun x => f x + 1) + (f n + 1) = ns n f + f n + (n + 1)
  rw [ns_one f n]; omega
theorem LittleM.aug (h : LittleM k hk A F n M) : Little k hk (aug (srE k hk) A F n) (n + 1) (fun x => if x < n then M x ++ [(n, F x)] else []) where
 row := by have := h.row; omega
 is x y hx hy := by
  unfold Proofs.YtaogepcaoogpgaaGreatDoor.aug
  by_cases h1 : x < n
  ·rw [if_pos h1, if_pos h1, cs_snoc]
   by_cases h2 : y < n
   ·rw [if_pos h2, if_neg (by omega)]; exact h.is x y h1 h2
   ·rw [if_neg h2, if_pos (show n = y by omega), cs_none _ y (fun e he => by have := (h.short x h1 e he).1; omega), (srE k hk).zero_add]
  ·rw [if_neg h1, if_neg h1]; rfl
 short x hx e he := by
  by_cases h1 : x < n
  ·rw [if_pos h1] at he
   rcases List.mem_append.1 he with he | he
   ·exact (h.short x h1 e he).2
   ·rw [List.mem_singleton.1 he]; exact h.fin x h1
  ·rw [if_neg h1] at he; cases he
 few := by
  show ns n (fun x => (if x < n then M x ++ [(n, F x)] else []).length) + (if n < n then M n ++ [(n, F n)] else []).length ≤ 15
  rw [if_neg (Nat.lt_irrefl n)]
  have e : ns n (fun x => (if x < n then M x ++ [(n, F x)] else []).length) ≤ ns n (fun x => (M x).length + 1) := ns_mono (fun x hx => by rw [if_pos hx, List.length_append]; exact Nat.le_refl _)
  rw [ns_one] at e
  have := h.few
  have := h.row
  show ns n (fun x => (if x < n then M x ++ [(n, F x)] else []).length) + 0 ≤ 15
  omega
theorem LittleM.part (h : LittleM k hk A F n M) {i J : Nat} (hi : i < n) (hJ : J ≤ n) : WideE 221 (sm (srE k hk) J (fun m => (srE k hk).mul (stM (srE k hk) A n i m) (F m))).1 := by
 rw [paths_part (srE k hk) A F hi hJ]
 exact (h.cutF J).aug.wide h.row (by omega) (by omega) (by omega)
theorem LittleM.total (h : LittleM k hk A F n M) {lead : Ext} (hl : WideE 4 lead) {i : Nat} (hi : i < n) : WideE 226 (timesE k lead (sm (srE k hk) n (fun m => (srE k hk).mul (stM (srE k hk) A n i m) (F m))).1) :=
 (wideE_times k (by omega) hl (h.part hi (Nat.le_refl n))).mono (by omega)
theorem cs_little (hk : IsKind k) {l : List (Nat × El k)} {y : Nat} (hl : ∀ e ∈ l, Sh4 e.2.1) (hn : l.length ≤ 15) (hy : y < 6) : WideE 221 (cs (srE k hk) l y).1 := by
 have h : Little k hk (fun x y => cs (srE k hk) (if x = 0 then l else []) y) 6 (fun x => if x = 0 then l else []) := {
  row := Nat.le_refl 6
  is := fun x y _ _ => rfl
  short := fun x _ e he => by
   by_cases h0 : x = 0
   ·rw [if_pos h0] at he; exact hl e he
   ·rw [if_neg h0] at he; cases he
  few := by
   show 0 + l.length + 0 + 0 + 0 + 0 + 0 ≤ 15
   omega }
 exact h.wide (t := 0) (i := 0) (j := y) (by omega) (by omega) (by omega) hy
open Go.RowKit
open Go.Lib (nDigits decDigits)
def dgs7 (l : List UInt8) : Nat := (l.filter isDg).length
theorem dgs_app (l m : List UInt8) : dgs7 (l ++ m) = dgs7 l + dgs7 m := by unfold dgs7; rw [List.filter_append, List.length_append]
theorem dgs_all {l : List UInt8} (h : l.all isDg = true) : dgs7 l = l.length := by
 unfold dgs7
 rw [List.filter_eq_self.2 (fun x hx => List.all_eq_true.1 h x hx)]
theorem dgs_dec (n : Nat) : dgs7 (decDigits n) = nDigits n := by rw [dgs_all (dec_all n), Lib.decDigits_length]
theorem dgs_rat (x : Rat) : dgs7 (ratL x) = nDigits x.num.natAbs + (if x.den = 1 then 0 else nDigits x.den) := by
 unfold ratL
 rw [dgs_app, dgs_app, dgs_dec]
 have h1 : dgs7 (if x.num < 0 then [45] else []) = 0 := by split <;> rfl
 rw [h1, Nat.zero_add]
 by_cases h : x.den = 1
 ·rw [if_pos h, if_pos h]; rfl
 ·rw [if_neg h, if_neg h]
  show _ + dgs7 ([47] ++ decDigits x.den) = _
  rw [dgs_app, dgs_dec, show dgs7 [47] = 0 from rfl, Nat.zero_add]
theorem sh4_of {a : ByteArray} {v : Ext} (h : IsE a v) (hd : dgs7 a.data.toList ≤ 4) : Sh4 v := by
 rcases v with (_ | _) | x
 ·trivial
 ·trivial
 ·have e : a = ratS x := IsRat.eq h
  rw [e] at hd
  have e2 : (ratS x).data.toList = ratL x := rfl
  rw [e2, dgs_rat] at hd
  exact hd
variable {α : Type}
def nzL (S : Sr α) [DecidableEq α] (f : Nat → α) : Nat → List (Nat × α)
 | 0 => []
 | n + 1 => nzL S f n ++ (if f n = S.zero then [] else [(n, f n)])
theorem nzL_lt (S : Sr α) [DecidableEq α] (f : Nat → α) : ∀ {n : Nat} {e : Nat × α}, e ∈ nzL S f n → e.1 < n ∧ e.2 = f e.1
 | 0, e, h => by cases h
 | n + 1, e, h => by
  rcases List.mem_append.1 h with h | h
  ·have := nzL_lt S f h; exact ⟨by omega, this.2⟩
  ·by_cases hz : f n = S.zero
   ·rw [if_pos hz] at h; cases h
   ·rw [if_neg hz] at h; rw [List.mem_singleton.1 h]; exact ⟨by omega, rfl⟩
theorem nzL_cs (S : Sr α) [DecidableEq α] (f : Nat → α) (y : Nat) : ∀ {n : Nat}, cs S (nzL S f n) y = if y < n then f y else S.zero
 | 0 => rfl
 | n + 1 => by
  have ih := nzL_cs S f y (n := n)
  by_cases hz : f n = S.zero
  ·have e : nzL S f (n + 1) = nzL S f n := by show nzL S f n ++ (if f n = S.zero then [] else [(n, f n)]) = _; rw [if_pos hz, List.append_nil]
   rw [e, ih]
   by_cases h : y < n
   ·rw [if_pos h, if_pos (by omega)]
   ·rw [if_neg h]
    by_cases h2 : y < n + 1
    ·rw [if_pos h2, show y = n by omega, hz]
    ·rw [if_neg h2]
  ·have e : nzL S f (n + 1) = nzL S f n ++ [(n, f n)] := by show nzL S f n ++ (if f n = S.zero then [] else [(n, f n)]) = _; rw [if_neg hz]
   rw [e, cs_snoc, ih]
   dsimp only
   by_cases h : n = y
   ·subst h
    rw [if_pos rfl, if_neg (Nat.lt_irrefl _), if_pos (by omega), S.zero_add]
   ·rw [if_neg h]
    by_cases h2 : y < n
    ·rw [if_pos h2, if_pos (by omega)]
    ·rw [if_neg h2, if_neg (by omega)]
instance (k : Int) : DecidableEq (El k) := fun u v => decidable_of_iff (u.1 = v.1) ⟨fun h => Subtype.ext h, fun h => by rw [h]⟩
open Go.RowKit
theorem dt_cramer_at {k r : Nat} (hr : r < k + 1) (V : Nat → Nat → Rat) (x : Nat → Rat) (e : Nat → Rat) (h : ∀ c, c < k + 1 → e c = rs (k + 1) (fun i => x i * V i c)) : dt (k + 1) (up V r e) = x r * dt (k + 1) V := by
 have step : ∀ n, n ≤ k + 1 → dt (k + 1) (up V r (fun c => rs n (fun i => x i * V i c))) = if r < n then x r * dt (k + 1) V else 0 := fun n => by
  induction n with
  | zero =>
   intro _
   rw [if_neg (by omega)]
   have h2 := dt_up_add V (k := k + 1) (r := r) (fun _ => 0) (fun _ => 0) 0 0 hr
   rw [dt_congr (W := up V r (fun x => (0 : Rat) * 0 + 0 * 0)) (fun i x _ _ => by unfold up; split; exact (show (0 : Rat) = 0 * 0 + 0 * 0 by grind); rfl), h2]
   grind
  | succ n ih =>
   intro hn
   have h2 := dt_up_add V (k := k + 1) (r := r) (fun c => rs n (fun i => x i * V i c)) (V n) 1 (x n) hr
   rw [dt_congr (W := up V r (fun c => 1 * rs n (fun i => x i * V i c) + x n * V n c)) (fun i c _ _ => by unfold up; split; exact (show rs n (fun i => x i * V i c) + x n * V n c = 1 * rs n (fun i => x i * V i c) + x n * V n c by grind); rfl), h2, ih (by omega)]
   by_cases e : n = r
   ·subst e
    rw [if_neg (Nat.lt_irrefl n), if_pos (Nat.lt_succ_self n)]
    have e1 : dt (k + 1) (up V n (V n)) = dt (k + 1) V := dt_congr (fun i x _ _ => by unfold up; split; rename_i e; rw [e]; rfl)
    rw [e1]; grind
   ·have e2 : dt (k + 1) (up V r (V n)) = 0 := by
     by_cases hlt : r < n
     ·exact dt_equal (n - r - 1) (k + 1) _ (r := r) (by omega) (fun x => by unfold up; rw [if_pos rfl, if_neg (by omega), show r + (n - r - 1) + 1 = n by omega])
     ·exact dt_equal (r - n - 1) (k + 1) _ (r := n) (by omega) (fun x => by unfold up; rw [if_neg e, if_pos (by omega)])
    rw [e2]
    by_cases hlt : r < n
    ·rw [if_pos hlt, if_pos (by omega)]; grind
    ·rw [if_neg hlt, if_neg (by omega)]; grind
 have h1 := step (k + 1) (Nat.le_refl _)
 rw [if_pos hr] at h1
 rw [← h1]
 exact dt_congr (fun i c _ hc => by unfold up; split; exact h c hc; rfl)
section
variable {α : Type}
theorem el_below (S : Sr α) (A : Nat → Nat → α) (X : Nat → α) {n j : Nat} (h : ∀ m, m < n → S.le (S.add (A m j) (sm S n (fun l => S.mul (A m l) (X l)))) (X m)) {i : Nat} (hi : i < n) : S.le (el S A n i j) (X i) := by
 have hl := el_least S A (fun m => A m j) X h n (Nat.le_refl n) i hi
 rw [sm_congr S (g := fun m => S.mul (el S A n i m) (A m j)) (fun m hm => by rw [if_pos hm]), ← el_right S A n i j] at hl
 exact hl
theorem Sr.mul_mono2 (S : Sr α) (a b c : α) (h : S.le a b) : S.le (S.mul a c) (S.mul b c) := by
 rw [S.mul_comm a c, S.mul_comm b c]; exact S.mul_mono a b c h
theorem el_le (S : Sr α) {A B : Nat → Nat → α} {n : Nat} (h : ∀ x y, x < n → y < n → S.le (B x y) (A x y)) {i j : Nat} (hi : i < n) (hj : j < n) : S.le (el S B n i j) (el S A n i j) :=
 el_below S B (fun m => el S A n m j) (fun m hm => by
  rw [el_left S A n m j]
  exact S.add_mono _ _ _ _ (h m j hm hj) (sm_mono S (fun l hl => S.mul_mono2 _ _ _ (h m l hm hl)))) hi
end
section
open Classical in
noncomputable def onG (A : Nat → Nat → El 2) (n x y : Nat) : El 2 := if Fin2 (A x y) ∧ Fin2 (el S2 A n x x) ∧ Fin2 (el S2 A n y y) then A x y else S2.zero
variable {A : Nat → Nat → El 2} {n : Nat}
theorem onG_pos {x y : Nat} (h1 : Fin2 (A x y)) (h2 : Fin2 (el S2 A n x x)) (h3 : Fin2 (el S2 A n y y)) : onG A n x y = A x y := by unfold onG; rw [if_pos ⟨h1, h2, h3⟩]
theorem onG_or (A : Nat → Nat → El 2) (n x y : Nat) : onG A n x y = S2.zero ∨ (onG A n x y = A x y ∧ Fin2 (A x y)) := by
 unfold onG
 split
 ·rename_i h; exact .inr ⟨rfl, h.1⟩
 ·exact .inl rfl
theorem onG_le (x y : Nat) : S2.le (onG A n x y) (A x y) := by
 rcases onG_or A n x y with h | h
 ·rw [h]; exact S2.zero_le _
 ·rw [h.1]; exact S2.le_refl _
theorem onG_fin0 (x y : Nat) : Fin2 (onG A n x y) := by
 rcases onG_or A n x y with h | h
 ·rw [h]; exact fin_zero
 ·rw [h.1]; exact h.2
theorem onG_diag {x : Nat} (hx : x < n) : Fin2 (el S2 (onG A n) n x x) := by
 by_cases h : Fin2 (el S2 A n x x)
 ·exact fin_le (el_le S2 (fun a b _ _ => onG_le a b) hx hx) h
 ·have hz : ∀ y, onG A n x y = S2.zero := fun y => by unfold onG; rw [if_neg (fun k => h k.2.1)]
  rw [el_left, hz x, sm_none S2 (fun m _ => by rw [hz m, S2.zero_mul]), S2.add_zero]
  exact fin_zero
theorem onG_fin : ∀ t, t ≤ n → ∀ x y, x < n → y < n → Fin2 (el S2 (onG A n) t x y)
 | 0, _, x, y, _, _ => onG_fin0 x y
 | t + 1, ht, x, y, hx, hy => by
  have ih := onG_fin t (by omega)
  have h1 : Fin2 (el S2 (onG A n) (t + 1) t t) := by
   have hg := el_grow S2 (onG A n) t t (n - (t + 1)) (t + 1)
   rw [show t + 1 + (n - (t + 1)) = n by omega] at hg
   exact fin_le hg (onG_diag (by omega))
  rw [el_row] at h1
  obtain ⟨_, _, h2, _⟩ := star_fin h1
  exact fin_add.2 ⟨ih x y hx hy, fin_mul (fin_mul (ih x t hx (by omega)) h2) (ih t y (by omega) hy)⟩
def top2 : El 2 := ⟨.inl true, rfl⟩
theorem le_top2 (u : El 2) : S2.le u top2 := leE_top u.1
theorem onG_eq {i j : Nat} (hi : i < n) (hj : j < n) (h : Fin2 (el S2 A n i j)) : el S2 A n i j = el S2 (onG A n) n i j := by
 refine S2.le_anti _ _ ?_ (el_le S2 (fun a b _ _ => onG_le a b) hi hj)
 have hb := fun (m : Nat) => Classical.propDecidable (m = i ∨ el S2 A n i m ≠ S2.zero)
 have key := el_below S2 A (fun m => @ite _ (m = i ∨ el S2 A n i m ≠ S2.zero) (hb m) (el S2 (onG A n) n m j) top2) (n := n) (j := j) (fun m hm => ?_) hi
 ·rw [if_pos (.inl rfl)] at key
  exact key
 ·by_cases hr : m = i ∨ el S2 A n i m ≠ S2.zero
  ·rw [if_pos hr]
   have hF : Fin2 (el S2 A n m j) := by
    rcases hr with e | e
    ·rw [e]; exact h
    ·exact fin_down (rch_of S2 A n i m e) hm h
   rw [el_left S2 (onG A n) n m j]
   refine S2.add_mono _ _ _ _ ?_ (sm_mono S2 (fun l hl => ?_))
   ·by_cases hz : A m j = S2.zero
    ·rw [hz]; exact S2.zero_le _
    ·have g1 : Fin2 (el S2 A n m m) := fin_side hm (of_rch S2 mul_nz A (.one hz)) hF
     have g2 : Fin2 (el S2 A n j j) := fin_down (.one hz) hj hF
     rw [onG_pos (fin_row hF).1 g1 g2]
     exact S2.le_refl _
   ·by_cases hz : A m l = S2.zero
    ·rw [hz, S2.zero_mul]; exact S2.zero_le _
    ·have hl2 : l = i ∨ el S2 A n i l ≠ S2.zero := by
      rcases hr with e | e
      ·rw [e] at hz; exact .inr (of_rch S2 mul_nz A (.one hz))
      ·exact .inr (of_rch S2 mul_nz A ((rch_of S2 A n i m e).trans hm (.one hz)))
     rw [if_pos hl2]
     by_cases hy : el S2 (onG A n) n l j = S2.zero
     ·rw [hy, S2.mul_zero]; exact S2.zero_le _
     ·have h1 : el S2 A n l j ≠ S2.zero := fun e => hy (S2.zero_of_le (e ▸ el_le S2 (fun a b _ _ => onG_le (A := A) (n := n) a b) hl hj))
      have h2 : el S2 A n m j ≠ S2.zero := of_rch S2 mul_nz A (.more hl hz (rch_of S2 A n l j h1))
      have h3 := (fin_row hF).2 l hl
      have h4 : Fin2 (el S2 A n l j) := fin_of_mul h3 hz
      rw [onG_pos (fin_of_mul2 h3 h1) (fin_side hm h2 hF) (fin_side hl h1 h4)]
      exact S2.le_refl _
  ·rw [if_neg hr]; exact le_top2 _
theorem onG_col {c j : Nat} (hc : c < n) (hj : j < n) : val (onG A n c j) = rs n (fun y => val (el S2 (onG A n) n y j) * idV (fun x y => val (onG A n x y)) y c) := by
 have hf := fun y (hy : y < n) => onG_fin (A := A) n (Nat.le_refl n) y j hy hj
 have e1 := congrArg val (el_left S2 (onG A n) n c j)
 rw [val_add (onG_fin0 c j) (fin_sm.2 (fun m hm => fin_mul (onG_fin0 c m) (hf m hm))), val_sm (fun m hm => fin_mul (onG_fin0 c m) (hf m hm)),
  rs_congr (g := fun m => val (onG A n c m) * val (el S2 (onG A n) n m j)) (fun m hm => val_mul (onG_fin0 c m) (hf m hm))] at e1
 have e2 : rs n (fun y => val (el S2 (onG A n) n y j) * idV (fun x y => val (onG A n x y)) y c) = rs n (fun y => val (el S2 (onG A n) n y j) * (if c = y then 1 else 0) + -1 * (val (onG A n c y) * val (el S2 (onG A n) n y j))) := rs_congr (fun y _ => by unfold idV; grind)
 rw [e2, rs_add, rs_at (fun y => val (el S2 (onG A n) n y j)) hc, rs_mul]
 grind
theorem common {d Q : Nat → Rat} (hd : ∀ x, x < n → 1 ≤ d x) (hdI : ∀ x, x < n → isI (d x)) (hAI : ∀ x y, x < n → y < n → Fin2 (A x y) → isI (d x * val (A x y)))
  (hQ : ∀ x, x < n → 2 * (d x * (1 + rs n (fun m => val (A x m)))) ≤ Q x) :
  ∃ M : Rat, isI M ∧ M ≠ 0 ∧ ab M ≤ rp n Q ∧ ∀ i j, i < n → j < n → Fin2 (el S2 A n i j) → isI (val (el S2 A n i j) * M) ∧ ab (val (el S2 A n i j) * M) ≤ rp n Q := by
 have hsum : ∀ x, 0 ≤ rs n (fun m => val (A x m)) := fun x => rs_nonneg (fun m _ => val_nonneg _)
 have hvle : ∀ x y, val (onG A n x y) ≤ val (A x y) := fun x y => by
  rcases onG_or A n x y with h | h
  ·rw [h, val_zero]; exact val_nonneg _
  ·rw [h.1]; exact Rat.le_refl
 have hBI : ∀ x y, x < n → y < n → isI (d x * val (onG A n x y)) := fun x y hx hy => by
  rcases onG_or A n x y with h | h
  ·rw [h, val_zero]; exact isI_mul (hdI x hx) ⟨0, rfl⟩
  ·rw [h.1]; exact hAI x y hx hy h.2
 have hV : ∀ y c, y < n → c < n → isI (d c * idV (fun x y => val (onG A n x y)) y c) := fun y c hy hc => by
  have e : d c * idV (fun x y => val (onG A n x y)) y c = d c * (if c = y then 1 else 0) + -(d c * val (onG A n c y)) := by unfold idV; grind
  rw [e]
  exact isI_add (isI_mul (hdI c hc) (by split; exact ⟨1, rfl⟩; exact ⟨0, rfl⟩)) (isI_neg (hBI c y hc hy))
 have hrow : ∀ c, c < n → rs n (fun y => ab (d c * idV (fun x y => val (onG A n x y)) y c)) ≤ d c * (1 + rs n (fun m => val (A c m))) := fun c hc => by
  have h1 := hd c hc
  have hle : rs n (fun y => ab (d c * idV (fun x y => val (onG A n x y)) y c)) ≤ rs n (fun y => d c * (1 * (if c = y then 1 else 0) + val (A c y))) := rs_le (fun y _ => by
   rw [ab_mul, ab_of (show 0 ≤ d c by grind)]
   refine Rat.mul_le_mul_of_nonneg_left ?_ (by grind)
   have h2 := val_nonneg (onG A n c y)
   have h3 := hvle c y
   unfold idV
   refine ab_le ?_ ?_ <;> split <;> grind)
  rwa [rs_mul, rs_add, rs_at (fun _ => 1) hc] at hle
 have hle2 : ∀ c, c < n → d c * (1 + rs n (fun m => val (A c m))) ≤ Q c := fun c hc => by
  have h1 := hQ c hc
  have h2 := Rat.mul_nonneg (show 0 ≤ d c by have := hd c hc; grind) (show 0 ≤ 1 + rs n (fun m => val (A c m)) by have := hsum c; grind)
  grind
 have hne := dt_ne n (onG A n) (fun t x y ht hx hy => onG_fin t ht x y hx hy)
 have hsc := dt_scale n d (idV (fun x y => val (onG A n x y)))
 have hD := rp_one_le (f := d) (n := n) hd
 refine ⟨dt n (fun y c => d c * idV (fun x y => val (onG A n x y)) y c), isI_dt hV, ?_, ?_, fun i j hi hj hf => ?_⟩
 ·rw [hsc]
  intro e
  rcases Rat.mul_eq_zero.1 e with e | e
  ·grind
  ·exact hne e
 ·exact Rat.le_trans (dt_bound _ _) (rp_le (fun c _ => rs_nonneg (fun y _ => ab_nonneg _)) (fun c hc => Rat.le_trans (hrow c hc) (hle2 c hc)))
 ·obtain ⟨k, rfl⟩ : ∃ k, n = k + 1 := ⟨n - 1, by omega⟩
  have hcr := dt_cramer_at hi (fun y c => d c * idV (fun x y => val (onG A (k + 1) x y)) y c) (fun y => val (el S2 (onG A (k + 1)) (k + 1) y j)) (fun c => d c * val (onG A (k + 1) c j)) (fun c hc => by
   rw [onG_col hc hj, ← rs_mul]
   exact rs_congr (fun y _ => by grind))
  rw [onG_eq hi hj hf, ← hcr]
  refine ⟨isI_dt (fun y c hy hc => ?_), Rat.le_trans (dt_bound _ _) (rp_le (fun c _ => rs_nonneg (fun y _ => ab_nonneg _)) (fun c hc => ?_))⟩
  ·unfold up
   by_cases e : y = i
   ·rw [if_pos e]; exact hBI c j hc hj
   ·rw [if_neg e]; exact hV y c hy hc
  ·
   have h1 := hrow c hc
   have h2 := hQ c hc
   have h0 := hd c hc
   have h5 := rs_ge (f := fun m => val (A c m)) (n := k + 1) (j := j) (fun m _ => val_nonneg _) hj
   have h3 := hvle c j
   have h6 := Rat.mul_le_mul_of_nonneg_left (Rat.le_trans h3 h5) (show 0 ≤ d c by grind)
   have hle : rs (k + 1) (fun y => ab (up (fun y c => d c * idV (fun x y => val (onG A (k + 1) x y)) y c) i (fun c => d c * val (onG A (k + 1) c j)) y c)) ≤ rs (k + 1) (fun y => ab (d c * idV (fun x y => val (onG A (k + 1) x y)) y c) + (d c * val (onG A (k + 1) c j)) * (if i = y then 1 else 0)) := rs_le (fun y _ => by
    have h7 := ab_nonneg (d c * idV (fun x y => val (onG A (k + 1) x y)) y c)
    have h8 : 0 ≤ d c * val (onG A (k + 1) c j) := Rat.mul_nonneg (by grind) (val_nonneg _)
    unfold up
    by_cases e : y = i
    ·rw [if_pos e, if_pos e.symm, ab_of h8]; grind
    ·rw [if_neg e, if_neg (Ne.symm e)]; grind)
   rw [rs_add, rs_at (fun _ => d c * val (onG A (k + 1) c j)) hi] at hle
   grind
end
open Go.RowKit
variable {α : Type}
structure Pick (S : Sr α) (I : α → Prop) : Prop where
 pick : ∀ u v, S.add u v = u ∨ S.add u v = v
 inf : ∀ u v, I u → v ≠ S.zero → I (S.mul u v)
 nz : ∀ u v, u ≠ S.zero → v ≠ S.zero → S.mul u v ≠ S.zero
 star : ∀ u, S.star u = S.one ∨ I (S.star u)
 le_inf : ∀ u v, I u → S.le u v → I v
 cancel : ∀ x c, ¬ I x → x ≠ S.zero → S.le (S.mul x c) x → S.le c S.one
theorem walk_cat (S : Sr α) (A : Nat → Nat → α) (l : List Nat) (m : Nat) : ∀ (p : List Nat) (i : Nat), walkW S A (i :: (p ++ m :: l)) = S.mul (walkW S A (i :: (p ++ [m]))) (walkW S A (m :: l))
 | [], i => by
  show S.mul (A i m) (walkW S A (m :: l)) = S.mul (S.mul (A i m) S.one) (walkW S A (m :: l))
  rw [S.mul_one]
 | x :: p, i => by
  show S.mul (A i x) (walkW S A (x :: (p ++ m :: l))) = S.mul (S.mul (A i x) (walkW S A (x :: (p ++ [m])))) (walkW S A (m :: l))
  rw [walk_cat S A l m p x, S.mul_assoc]
theorem way_le (S : Sr α) (A : Nat → Nat → α) {n j : Nat} : ∀ (ms : List Nat) (i : Nat), (∀ m ∈ ms, m < n) → S.le (walkW S A (i :: (ms ++ [j]))) (el S A n i j)
 | [], i, _ => by
  show S.le (S.mul (A i j) S.one) _
  rw [S.mul_one, el_left]
  exact S.le_add _ _
 | m :: ms, i, h => by
  have ih := way_le S A (n := n) (j := j) ms m (fun x hx => h x (List.mem_cons_of_mem _ hx))
  show S.le (S.mul (A i m) (walkW S A (m :: (ms ++ [j])))) _
  rw [el_left S A n i j]
  exact S.le_trans _ _ _ (S.mul_mono _ _ (A i m) ih) (S.le_trans _ _ _ (le_sm S (fun l => S.mul (A i l) (el S A n l j)) (h m (List.mem_cons_self ..))) (S.le_add2 _ _))
section
variable {S : Sr α} {I : α → Prop} {A : Nat → Nat → α}
theorem Pick.idem (P : Pick S I) (u : α) : S.add u u = u := by rcases P.pick u u with h | h <;> exact h
theorem Pick.inf2 (P : Pick S I) {u v : α} (hv : I v) (hu : u ≠ S.zero) : I (S.mul u v) := by rw [S.mul_comm]; exact P.inf v u hv hu
theorem Pick.way (P : Pick S I) : ∀ k i j, el S A k i j = S.zero ∨ I (el S A k i j) ∨ ∃ ms : List Nat, (∀ m ∈ ms, m < k) ∧ walkW S A (i :: (ms ++ [j])) = el S A k i j
 | 0, i, j => .inr (.inr ⟨[], fun m hm => by (cases hm), S.mul_one _⟩)
 | k + 1, i, j => by
  show S.add (el S A k i j) (S.mul (S.mul (el S A k i k) (S.star (el S A k k k))) (el S A k k j)) = _ ∨ I (S.add (el S A k i j) (S.mul (S.mul (el S A k i k) (S.star (el S A k k k))) (el S A k k j))) ∨ ∃ ms : List Nat, (∀ m ∈ ms, m < k + 1) ∧ walkW S A (i :: (ms ++ [j])) = S.add (el S A k i j) (S.mul (S.mul (el S A k i k) (S.star (el S A k k k))) (el S A k k j))
  rcases P.pick (el S A k i j) (S.mul (S.mul (el S A k i k) (S.star (el S A k k k))) (el S A k k j)) with h | h <;> rw [h]
  ·rcases P.way k i j with h1 | h1 | ⟨ms, h1, h2⟩
   ·exact .inl h1
   ·exact .inr (.inl h1)
   ·exact .inr (.inr ⟨ms, fun m hm => by have := h1 m hm; omega, h2⟩)
  ·rcases P.way k i k with h1 | h1 | ⟨p, h1, h2⟩
   ·rw [h1, S.zero_mul, S.zero_mul]; exact .inl rfl
   ·by_cases h3 : el S A k k j = S.zero
    ·rw [h3, S.mul_zero]; exact .inl rfl
    ·refine .inr (.inl (P.inf _ _ (P.inf _ _ h1 ?_) h3))
     intro e
     have := S.star_law (el S A k k k)
     rw [e] at this
     have h4 := S.zero_left this
     exact h3 (by rw [← S.mul_one (el S A k k j), h4, S.mul_zero])
   ·rcases P.way k k j with g1 | g1 | ⟨q, g1, g2⟩
    ·rw [g1, S.mul_zero]; exact .inl rfl
    ·by_cases h3 : S.mul (el S A k i k) (S.star (el S A k k k)) = S.zero
     ·rw [h3, S.zero_mul]; exact .inl rfl
     ·exact .inr (.inl (P.inf2 g1 h3))
    ·rcases P.star (el S A k k k) with s | s
     ·rw [s, S.mul_one]
      refine .inr (.inr ⟨p ++ k :: q, fun m hm => ?_, ?_⟩)
      ·rcases List.mem_append.1 hm with hm | hm
       ·have := h1 m hm; omega
       ·rcases List.mem_cons.1 hm with rfl | hm
        ·omega
        ·have := g1 m hm; omega
      ·rw [List.append_assoc, List.cons_append, walk_cat, h2, g2]
     ·by_cases h3 : el S A k i k = S.zero
      ·rw [h3, S.zero_mul, S.zero_mul]; exact .inl rfl
      ·by_cases h4 : el S A k k j = S.zero
       ·rw [h4, S.mul_zero]; exact .inl rfl
       ·exact .inr (.inl (P.inf _ _ (P.inf2 s h3) h4))
theorem Pick.cat (P : Pick S I) {n m : Nat} (hm : m < n) {i : Nat} (hi : i < n) (j : Nat) : S.le (S.mul (el S A n i m) (el S A n m j)) (el S A n i j) := by
 have hl := el_least S A (fun x => S.mul (A x m) (el S A n m j)) (fun x => el S A n x j) (n := n) (fun x hx => by
  have h1 := S.add_mono _ _ _ _ (le_sm S (fun l => S.mul (A x l) (el S A n l j)) hm) (S.le_refl (sm S n (fun l => S.mul (A x l) (el S A n l j))))
  rw [P.idem] at h1
  refine S.le_trans _ _ _ h1 ?_
  rw [el_left S A n x j]
  exact S.le_add2 _ _) n (Nat.le_refl n) i hi
 rw [sm_congr S (g := fun l => S.mul (S.mul (el S A n i l) (A l m)) (el S A n m j)) (fun l hl => by rw [if_pos hl, S.mul_assoc]), ← sm_mul, ← S.add_mul, ← el_right S A n i m] at hl
 exact hl
theorem twice_of : ∀ {ms : List Nat}, ¬ ms.Nodup → ∃ p l q r, ms = p ++ l :: (q ++ l :: r)
 | [], h => absurd List.nodup_nil h
 | m :: t, h => by
  by_cases hm : m ∈ t
  ·obtain ⟨q, r, e⟩ := List.append_of_mem hm
   exact ⟨[], m, q, r, by rw [e]; rfl⟩
  ·obtain ⟨p, l, q, r, e⟩ := twice_of (ms := t) (fun hn => h (List.nodup_cons.2 ⟨hm, hn⟩))
   exact ⟨m :: p, l, q, r, by rw [e]; rfl⟩
theorem Pick.simple (P : Pick S I) {n i j : Nat} (hi : i < n) (h0 : el S A n i j ≠ S.zero) (hI : ¬ I (el S A n i j)) : ∀ (t : Nat) (ms : List Nat), ms.length ≤ t → (∀ m ∈ ms, m < n) → walkW S A (i :: (ms ++ [j])) = el S A n i j →
  ∃ ms' : List Nat, ms'.Nodup ∧ (∀ m ∈ ms', m < n) ∧ walkW S A (i :: (ms' ++ [j])) = el S A n i j
 | 0, ms, hl, h, e => ⟨ms, by have : ms = [] := List.length_eq_zero_iff.1 (by omega); rw [this]; exact List.nodup_nil, h, e⟩
 | t + 1, ms, hl, h, e => by
  by_cases hn : ms.Nodup
  ·exact ⟨ms, hn, h, e⟩
  ·obtain ⟨p, l, q, r, rfl⟩ := twice_of hn
   have hl1 : l < n := h l (by simp)
   have e1 : walkW S A (i :: (p ++ l :: (q ++ l :: r) ++ [j])) = S.mul (walkW S A (i :: (p ++ [l]))) (S.mul (walkW S A (l :: (q ++ [l]))) (walkW S A (l :: (r ++ [j])))) := by
    have s1 : p ++ l :: (q ++ l :: r) ++ [j] = p ++ l :: (q ++ l :: (r ++ [j])) := by simp
    rw [s1, walk_cat S A (q ++ l :: (r ++ [j])) l p i, walk_cat S A (r ++ [j]) l q l]
   have e2 : walkW S A (i :: (p ++ l :: r ++ [j])) = S.mul (walkW S A (i :: (p ++ [l]))) (walkW S A (l :: (r ++ [j]))) := by
    rw [List.append_assoc, List.cons_append, walk_cat]
   have wa := way_le S A (n := n) (j := l) p i (fun m hm => h m (by simp [hm]))
   have wc := way_le S A (n := n) (j := l) q l (fun m hm => h m (by simp [hm]))
   have wb := way_le S A (n := n) (j := j) r l (fun m hm => h m (by simp [hm]))
   have wn := way_le S A (n := n) (j := j) (p ++ l :: r) i (fun m hm => h m (by
    rcases List.mem_append.1 hm with hm | hm
    ·simp [hm]
    ·rcases List.mem_cons.1 hm with rfl | hm
     ·simp
     ·simp [hm]))
   rw [e2] at wn
   rw [e1] at e
   generalize walkW S A (i :: (p ++ [l])) = a at *
   generalize walkW S A (l :: (q ++ [l])) = c at *
   generalize walkW S A (l :: (r ++ [j])) = b at *
   have hx : el S A n i l ≠ S.zero := fun z => h0 (by
    rw [z] at wa
    rw [← e, S.zero_of_le wa, S.zero_mul])
   have hy : el S A n l j ≠ S.zero := fun z => h0 (by
    rw [z] at wb
    rw [← e, S.zero_of_le wb, S.mul_zero, S.mul_zero])
   have hxI : ¬ I (el S A n i l) := fun z => hI (P.le_inf _ _ (P.inf _ _ z hy) (P.cat hl1 hi j))
   have hc := P.cancel _ c hxI hx (S.le_trans _ _ _ (S.mul_mono _ _ _ wc) (P.cat hl1 hi l))
   have h1 : S.le (S.mul a (S.mul c b)) (S.mul a b) := S.mul_mono _ _ _ (by
    have := S.mul_mono2 _ _ b hc
    rwa [S.one_mul] at this)
   rw [e] at h1
   refine P.simple hi h0 hI t (p ++ l :: r) ?_ (fun m hm => h m (by
    rcases List.mem_append.1 hm with hm | hm
    ·simp [hm]
    ·rcases List.mem_cons.1 hm with rfl | hm
     ·simp
     ·simp [hm])) (e2.trans (S.le_anti _ _ wn h1))
   rw [List.length_append, List.length_cons, List.length_append, List.length_cons] at hl
   rw [List.length_append, List.length_cons]
   omega
theorem few_nodup : ∀ {n : Nat} {o : List Nat}, o.Nodup → (∀ x ∈ o, x < n) → o.length ≤ n
 | n, o, h, hb => by
  have h2 := List.Nodup.length_le_of_subset (l₁ := o) (l₂ := List.range n) h (fun x hx => List.mem_range.2 (hb x hx))
  rwa [List.length_range] at h2
theorem Pick.few (P : Pick S I) {n i j : Nat} (hi : i < n) : el S A n i j = S.zero ∨ I (el S A n i j) ∨ ∃ ms : List Nat, ms.length ≤ n ∧ (∀ m ∈ ms, m < n) ∧ walkW S A (i :: (ms ++ [j])) = el S A n i j := by
 rcases P.way (A := A) n i j with h | h | ⟨ms, h1, h2⟩
 ·exact .inl h
 ·exact .inr (.inl h)
 ·by_cases h0 : el S A n i j = S.zero
  ·exact .inl h0
  ·by_cases hI : I (el S A n i j)
   ·exact .inr (.inl hI)
   ·obtain ⟨o, g1, g2, g3⟩ := P.simple hi h0 hI ms.length ms (Nat.le_refl _) h1 h2
    exact .inr (.inr ⟨o, few_nodup g1 g2, g2, g3⟩)
end
theorem pick1 (hk : IsKind 1) : Pick (srE 1 hk) (fun v => v.1 = .inl false) where
 pick u v := by
  rcases less_or u.1 v.1 with h | h
  ·exact .inl (Subtype.ext h)
  ·exact .inr (Subtype.ext h)
 inf u v hu hv := by
  show costE u.1 v.1 = _
  rw [show u.1 = .inl false from hu]
  have h : v.1 ≠ .inl true := fun e => hv (Subtype.ext e)
  rcases hv2 : v.1 with (_ | _) | x
  ·rfl
  ·exact absurd hv2 h
  ·rfl
 nz u v hu hv e := by
  have h1 : u.1 ≠ .inl true := fun e => hu (Subtype.ext e)
  have h2 : v.1 ≠ .inl true := fun e => hv (Subtype.ext e)
  have h3 : costE u.1 v.1 = .inl true := congrArg Subtype.val e
  rcases hu2 : u.1 with (_ | _) | x <;> rcases hv2 : v.1 with (_ | _) | y <;> rw [hu2, hv2] at h3 <;> first | exact h1 hu2 | exact h2 hv2 | cases h3
 star u := by
  by_cases h : cmpE u.1 (.inr 0) < 0
  ·exact .inr (if_pos h)
  ·exact .inl (Subtype.ext (if_neg h))
 le_inf u v hu h := by
  have h2 : leE v.1 u.1 := h
  rw [show u.1 = .inl false from hu] at h2
  rcases hv : v.1 with (_ | _) | x
  ·rfl
  ·rw [hv] at h2; exact absurd h2 not_top_low
  ·rw [hv] at h2; exact absurd h2 (not_num_low x)
 cancel x c hI h0 h := by
  have h2 : leE x.1 (costE x.1 c.1) := h
  show leE (.inr 0) c.1
  rcases hx : x.1 with (_ | _) | q
  ·exact absurd hx hI
  ·exact absurd (Subtype.ext hx) h0
  ·rcases hc : c.1 with (_ | _) | r
   ·rw [hx, hc] at h2; exact absurd h2 (not_num_low q)
   ·exact leE_top _
   ·rw [hx, hc] at h2
    have h3 : q ≤ q + r := (leE_num _ _).1 h2
    exact (leE_num _ _).2 (by grind)
theorem three_top (v : El 3) : v.1 = .inl true ∨ ∃ x, v.1 = .inr x ∧ 0 ≤ x := by
 have h := v.2
 rw [← has_two] at h
 rcases has_top v.1 h with h | ⟨x, h, hx⟩
 ·exact .inl h
 ·exact .inr ⟨x, h, hx⟩
theorem pick3 (hk : IsKind 3) : Pick (srE 3 hk) (fun v => v.1 = .inl true) where
 pick u v := by
  rcases more_or u.1 v.1 with h | h
  ·exact .inl (Subtype.ext h)
  ·exact .inr (Subtype.ext h)
 inf u v hu hv := by
  show prodE u.1 v.1 = _
  rw [show u.1 = .inl true from hu]
  rcases three_top v with h | ⟨x, h, hx⟩ <;> rw [h]
  ·exact prod_top_top
  ·exact prod_top_num (fun e => hv (Subtype.ext (by rw [h, e]; rfl)))
 nz u v hu hv e := by
  have h3 : prodE u.1 v.1 = .inr 0 := congrArg Subtype.val e
  rcases three_top u with h | ⟨x, h, hx⟩ <;> rcases three_top v with g | ⟨y, g, hy⟩ <;> rw [h, g] at h3
  ·rw [prod_top_top] at h3; cases h3
  ·rw [prod_top_num (fun e => hv (Subtype.ext (by rw [g, e]; rfl)))] at h3; cases h3
  ·rw [prod_num_top (fun e => hu (Subtype.ext (by rw [h, e]; rfl)))] at h3; cases h3
  ·rw [prod_num] at h3
   have h4 : x * y = 0 := Sum.inr.inj h3
   rcases Rat.mul_eq_zero.1 h4 with e | e
   ·exact hu (Subtype.ext (by rw [h, e]; rfl))
   ·exact hv (Subtype.ext (by rw [g, e]; rfl))
 star u := by
  by_cases h : 0 < cmpE u.1 (.inr 1)
  ·exact .inr (if_pos h)
  ·exact .inl (Subtype.ext (if_neg h))
 le_inf u v hu h := by
  have h2 : leE u.1 v.1 := h
  rw [show u.1 = .inl true from hu] at h2
  rcases three_top v with g | ⟨y, g, hy⟩
  ·exact g
  ·rw [g] at h2; exact absurd h2 (not_top_num y)
 cancel x c hI h0 h := by
  have h2 : leE (prodE x.1 c.1) x.1 := h
  show leE c.1 (.inr 1)
  rcases three_top x with hx | ⟨q, hx, hq⟩
  ·exact absurd hx hI
  ·have hq0 : q ≠ 0 := fun e => h0 (Subtype.ext (by rw [hx, e]; rfl))
   rcases three_top c with hc | ⟨r, hc, hr⟩
   ·rw [hx, hc, prod_num_top hq0] at h2; exact absurd h2 (not_top_num q)
   ·rw [hc]
    rw [hx, hc, prod_num] at h2
    have h3 : q * r ≤ q := (leE_num _ _).1 h2
    refine (leE_num _ _).2 (Rat.not_lt.1 (fun hlt => ?_))
    have hqp : 0 < q := by
     rcases Rat.le_iff_lt_or_eq.1 hq with h | h
     ·exact h
     ·exact absurd h.symm hq0
    have := rat_lt_self hlt hqp
    rw [Rat.mul_comm] at this
    exact absurd h3 (Rat.not_le.2 this)
theorem walk_wide {k : Int} {hk : IsKind k} {A : Nat → Nat → El k} {n w : Nat} (hw : 1 ≤ w) (hA : ∀ x y, x < n → y < n → WideE w (A x y).1) {j : Nat} (hj : j < n) : ∀ (ms : List Nat) (i : Nat), i < n → (∀ m ∈ ms, m < n) → WideE ((w + 1) * (ms.length + 1) + 1) (walkW (srE k hk) A (i :: (ms ++ [j]))).1
 | [], i, hi, _ => (wideE_times k hw (hA i j hi hj) (wideE_unit k)).mono (by rw [List.length_nil]; omega)
 | m :: ms, i, hi, h => by
  have hm := h m (List.mem_cons_self ..)
  have ih := walk_wide (hk := hk) hw hA hj ms m hm (fun x hx => h x (List.mem_cons_of_mem _ hx))
  have h1 := wideE_times k hw (hA i m hi hm) ih
  refine WideE.mono h1 ?_
  rw [List.length_cons]
  have : (w + 1) * (ms.length + 1 + 1) = (w + 1) * (ms.length + 1) + (w + 1) := Nat.mul_succ _ _
  omega
theorem el_way13 {k : Int} (hk : IsKind k) (h : k = 1 ∨ k = 3) {A : Nat → Nat → El k} {n w : Nat} (hw : 1 ≤ w) (hA : ∀ x y, x < n → y < n → WideE w (A x y).1) {i j : Nat} (hi : i < n) (hj : j < n) : WideE ((w + 1) * (n + 1) + 1) (el (srE k hk) A n i j).1 := by
 have key : ∀ I, Pick (srE k hk) I → (∀ v, I v → WideE 1 v.1) → WideE ((w + 1) * (n + 1) + 1) (el (srE k hk) A n i j).1 := fun I P hI => by
  rcases P.few (A := A) (n := n) (i := i) (j := j) hi with e | e | ⟨ms, h1, h2, e⟩
  ·rw [e]; exact (wideE_topOf k).mono (by omega)
  ·exact (hI _ e).mono (by omega)
  ·rw [← e]
   refine (walk_wide (hk := hk) hw hA hj ms i hi h2).mono ?_
   have := Nat.mul_le_mul_left (w + 1) (show ms.length + 1 ≤ n + 1 by omega)
   omega
 rcases h with rfl | rfl
 ·exact key _ (pick1 hk) (fun v hv => by rw [show v.1 = .inl false from hv]; trivial)
 ·exact key _ (pick3 hk) (fun v hv => by rw [show v.1 = .inl true from hv]; trivial)
end Go.Proofs.YtaogepcaoogpgaaGreatDoor
