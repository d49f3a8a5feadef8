/- U62 -/

set_option linter.unusedVariables false
set_option linter.unusedSimpArgs false
namespace Go.Proofs.YtaogepcaoogpgaaGreatDoor
structure Sr (α : Type) where
 add : α → α → α
 mul : α → α → α
 zero : α
 one : α
 star : α → α
 le : α → α → Prop
 add_comm : ∀ a b, add a b = add b a
 add_assoc : ∀ a b c, add (add a b) c = add a (add b c)
 add_zero : ∀ a, add a zero = a
 mul_comm : ∀ a b, mul a b = mul b a
 mul_assoc : ∀ a b c, mul (mul a b) c = mul a (mul b c)
 mul_add : ∀ a b c, mul a (add b c) = add (mul a b) (mul a c)
 mul_one : ∀ a, mul a one = a
 mul_zero : ∀ a, mul a zero = zero
 star_law : ∀ a, add one (mul a (star a)) = star a
 le_refl : ∀ a, le a a
 le_trans : ∀ a b c, le a b → le b c → le a c
 le_anti : ∀ a b, le a b → le b a → a = b
 add_mono : ∀ a b c d, le a b → le c d → le (add a c) (add b d)
 mul_mono : ∀ a b c, le a b → le (mul c a) (mul c b)
 zero_le : ∀ a, le zero a
 star_least : ∀ a b x, le (add b (mul a x)) x → le (mul (star a) b) x
variable {α : Type}
instance (S : Sr α) : Std.Associative S.add := ⟨S.add_assoc⟩
instance (S : Sr α) : Std.Commutative S.add := ⟨S.add_comm⟩
instance (S : Sr α) : Std.Associative S.mul := ⟨S.mul_assoc⟩
instance (S : Sr α) : Std.Commutative S.mul := ⟨S.mul_comm⟩
theorem Sr.zero_add (S : Sr α) (a : α) : S.add S.zero a = a := by rw [S.add_comm, S.add_zero]
theorem Sr.one_mul (S : Sr α) (a : α) : S.mul S.one a = a := by rw [S.mul_comm, S.mul_one]
theorem Sr.zero_mul (S : Sr α) (a : α) : S.mul S.zero a = S.zero := by rw [S.mul_comm, S.mul_zero]
theorem Sr.add_mul (S : Sr α) (a b c : α) : S.mul (S.add a b) c = S.add (S.mul a c) (S.mul b c) := by rw [S.mul_comm, S.mul_add, S.mul_comm c a, S.mul_comm c b]
theorem Sr.le_add (S : Sr α) (a b : α) : S.le a (S.add a b) := by
 have h := S.add_mono a a S.zero b (S.le_refl a) (S.zero_le b)
 rwa [S.add_zero] at h
theorem Sr.le_add2 (S : Sr α) (a b : α) : S.le a (S.add b a) := by rw [S.add_comm]; exact S.le_add a b
theorem Sr.star_mul (S : Sr α) (a b : α) : S.add b (S.mul (S.mul a (S.star a)) b) = S.mul (S.star a) b := by
 conv => rhs; rw [← S.star_law a]
 rw [S.add_mul, S.one_mul]
def sm (S : Sr α) : Nat → (Nat → α) → α
 | 0, _ => S.zero
 | n + 1, f => S.add (sm S n f) (f n)
theorem sm_congr (S : Sr α) {f g : Nat → α} : ∀ {n : Nat}, (∀ m, m < n → f m = g m) → sm S n f = sm S n g
 | 0, _ => rfl
 | n + 1, h => by unfold sm; rw [sm_congr S (fun m hm => h m (by omega)), h n (by omega)]
theorem sm_add (S : Sr α) (f g : Nat → α) : ∀ n, sm S n (fun m => S.add (f m) (g m)) = S.add (sm S n f) (sm S n g)
 | 0 => (S.add_zero _).symm
 | n + 1 => by unfold sm; rw [sm_add S f g n]; dsimp only; ac_rfl
theorem mul_sm (S : Sr α) (c : α) (f : Nat → α) : ∀ n, S.mul c (sm S n f) = sm S n (fun m => S.mul c (f m))
 | 0 => S.mul_zero c
 | n + 1 => by unfold sm; rw [S.mul_add, mul_sm S c f n]
theorem sm_mul (S : Sr α) (c : α) (f : Nat → α) (n : Nat) : S.mul (sm S n f) c = sm S n (fun m => S.mul (f m) c) := by
 rw [S.mul_comm, mul_sm]; exact sm_congr S (fun m _ => S.mul_comm _ _)
theorem sm_zero (S : Sr α) : ∀ n, sm S n (fun _ => S.zero) = S.zero
 | 0 => rfl
 | n + 1 => by unfold sm; rw [sm_zero S n, S.add_zero]
theorem sm_none (S : Sr α) {f : Nat → α} {n : Nat} (h : ∀ m, m < n → f m = S.zero) : sm S n f = S.zero := by rw [sm_congr S h, sm_zero]
theorem sm_swap (S : Sr α) (f : Nat → Nat → α) (n : Nat) : ∀ k, sm S n (fun i => sm S k (fun j => f i j)) = sm S k (fun j => sm S n (fun i => f i j))
 | 0 => sm_zero S n
 | k + 1 => by
  show sm S n (fun i => S.add (sm S k (fun j => f i j)) (f i k)) = S.add (sm S k (fun j => sm S n (fun i => f i j))) (sm S n (fun i => f i k))
  rw [sm_add, sm_swap S f n k]
theorem sm_mono (S : Sr α) {f g : Nat → α} : ∀ {n : Nat}, (∀ m, m < n → S.le (f m) (g m)) → S.le (sm S n f) (sm S n g)
 | 0, _ => S.le_refl _
 | n + 1, h => S.add_mono _ _ _ _ (sm_mono S (fun m hm => h m (by omega))) (h n (by omega))
def sx (S : Sr α) (n k : Nat) (f : Nat → α) : α := sm S n (fun m => if m = k then S.zero else f m)
theorem sx_congr (S : Sr α) {f g : Nat → α} {n k : Nat} (h : ∀ m, m < n → m ≠ k → f m = g m) : sx S n k f = sx S n k g := by
 refine sm_congr S (fun m hm => ?_)
 by_cases e : m = k
 ·rw [if_pos e, if_pos e]
 ·rw [if_neg e, if_neg e]; exact h m hm e
theorem sm_iso (S : Sr α) (f : Nat → α) {k : Nat} : ∀ {n : Nat}, k < n → sm S n f = S.add (f k) (sx S n k f)
 | n + 1, h => by
  unfold sx sm
  dsimp only
  by_cases e : k = n
  ·subst e
   rw [if_pos rfl, S.add_zero, S.add_comm]
   congr 1
   exact sm_congr S (fun m hm => (if_neg (by omega)).symm)
  ·rw [if_neg (Ne.symm e), sm_iso S f (show k < n by omega)]
   unfold sx
   ac_rfl
theorem sx_add (S : Sr α) (n k : Nat) (f g : Nat → α) : sx S n k (fun m => S.add (f m) (g m)) = S.add (sx S n k f) (sx S n k g) := by
 unfold sx
 rw [← sm_add]
 refine sm_congr S (fun m _ => ?_)
 by_cases e : m = k
 ·simp only [e, if_true]; rw [S.add_zero]
 ·simp only [e, if_false]
theorem mul_sx (S : Sr α) (c : α) (n k : Nat) (f : Nat → α) : S.mul c (sx S n k f) = sx S n k (fun m => S.mul c (f m)) := by
 unfold sx
 rw [mul_sm]
 refine sm_congr S (fun m _ => ?_)
 by_cases e : m = k
 ·simp only [e, if_true]; rw [S.mul_zero]
 ·simp only [e, if_false]
theorem le_sm (S : Sr α) (f : Nat → α) {k n : Nat} (h : k < n) : S.le (f k) (sm S n f) := by rw [sm_iso S f h]; exact S.le_add _ _
def idm (S : Sr α) (i j : Nat) : α := if i = j then S.one else S.zero
theorem sm_idm (S : Sr α) (f : Nat → α) {n j : Nat} (h : j < n) : sm S n (fun m => S.mul (f m) (idm S m j)) = f j := by
 rw [sm_iso S _ h]
 unfold idm sx
 rw [if_pos rfl, S.mul_one, sm_none S (fun m _ => by
  by_cases e : m = j
  ·rw [if_pos e]
  ·rw [if_neg e]
   dsimp only
   rw [if_neg e, S.mul_zero]), S.add_zero]
theorem idm_sm (S : Sr α) (f : Nat → α) {n i : Nat} (h : i < n) : sm S n (fun m => S.mul (idm S i m) (f m)) = f i := by
 have h2 := sm_idm S f h
 rw [← h2]
 refine sm_congr S (fun m _ => ?_)
 rw [S.mul_comm]
 unfold idm
 by_cases e : i = m
 ·subst e; rfl
 ·rw [if_neg e, if_neg (Ne.symm e)]
def el (S : Sr α) (A : Nat → Nat → α) : Nat → Nat → Nat → α
 | 0, i, j => A i j
 | k + 1, i, j => S.add (el S A k i j) (S.mul (S.mul (el S A k i k) (S.star (el S A k k k))) (el S A k k j))
def stM (S : Sr α) (A : Nat → Nat → α) (n i j : Nat) : α := S.add (idm S i j) (el S A n i j)
theorem el_row (S : Sr α) (A : Nat → Nat → α) (k j : Nat) : el S A (k + 1) k j = S.mul (S.star (el S A k k k)) (el S A k k j) := S.star_mul _ _
theorem el_left (S : Sr α) (A : Nat → Nat → α) : ∀ k i j, el S A k i j = S.add (A i j) (sm S k (fun m => S.mul (A i m) (el S A k m j)))
 | 0, i, j => (S.add_zero _).symm
 | k + 1, i, j => by
  have h1 := el_left S A k i j
  have h2 := el_left S A k i k
  have e : sm S k (fun m => S.mul (A i m) (el S A (k + 1) m j)) = S.add (sm S k (fun m => S.mul (A i m) (el S A k m j))) (S.mul (sm S k (fun m => S.mul (A i m) (el S A k m k))) (S.mul (S.star (el S A k k k)) (el S A k k j))) := by
   rw [sm_mul, ← sm_add]
   refine sm_congr S (fun m _ => ?_)
   show S.mul (A i m) (S.add (el S A k m j) (S.mul (S.mul (el S A k m k) (S.star (el S A k k k))) (el S A k k j))) = _
   rw [S.mul_add]
   congr 1
   ac_rfl
  show S.add (el S A k i j) (S.mul (S.mul (el S A k i k) (S.star (el S A k k k))) (el S A k k j)) = S.add (A i j) (S.add (sm S k (fun m => S.mul (A i m) (el S A (k + 1) m j))) (S.mul (A i k) (el S A (k + 1) k j)))
  rw [e, el_row]
  generalize hx : S.mul (S.star (el S A k k k)) (el S A k k j) = x
  rw [S.mul_assoc, hx]
  generalize sm S k (fun m => S.mul (A i m) (el S A k m j)) = p at *
  generalize sm S k (fun m => S.mul (A i m) (el S A k m k)) = q at *
  rw [h1, h2, S.add_mul]
  ac_rfl
theorem el_turn (S : Sr α) (A : Nat → Nat → α) : ∀ k i j, el S (fun a b => A b a) k i j = el S A k j i
 | 0, i, j => rfl
 | k + 1, i, j => by
  unfold el
  rw [el_turn S A k i j, el_turn S A k i k, el_turn S A k k k, el_turn S A k k j]
  congr 1
  ac_rfl
theorem el_right (S : Sr α) (A : Nat → Nat → α) (k i j : Nat) : el S A k i j = S.add (A i j) (sm S k (fun m => S.mul (el S A k i m) (A m j))) := by
 rw [← el_turn S A k j i, el_left S (fun a b => A b a) k j i]
 congr 1
 refine sm_congr S (fun m _ => ?_)
 rw [el_turn S A k m i, S.mul_comm]
theorem star_left (S : Sr α) (A : Nat → Nat → α) {n i j : Nat} (hj : j < n) : stM S A n i j = S.add (idm S i j) (sm S n (fun m => S.mul (A i m) (stM S A n m j))) := by
 have e : sm S n (fun m => S.mul (A i m) (stM S A n m j)) = S.add (sm S n (fun m => S.mul (A i m) (idm S m j))) (sm S n (fun m => S.mul (A i m) (el S A n m j))) := by
  rw [← sm_add]
  exact sm_congr S (fun m _ => S.mul_add _ _ _)
 rw [e, sm_idm S _ hj, ← el_left]
 rfl
theorem el_least (S : Sr α) (A : Nat → Nat → α) (b X : Nat → α) {n : Nat} (h : ∀ i, i < n → S.le (S.add (b i) (sm S n (fun m => S.mul (A i m) (X m)))) (X i)) :
  ∀ k, k ≤ n → ∀ i, i < n → S.le (S.add (b i) (sm S n (fun m => S.mul (el S A k i m) (if m < k then b m else X m)))) (X i)
 | 0, _, i, hi => by
  refine S.le_trans _ _ _ ?_ (h i hi)
  rw [sm_congr S (g := fun m => S.mul (A i m) (X m)) (fun m _ => by simp [el])]
  exact S.le_refl _
 | k + 1, hk, i, hi => by
  have ih := el_least S A b X h k (by omega)
  have hkn : k < n := by omega
  have hrow := ih k hkn
  rw [sm_iso S _ hkn] at hrow
  have hrow2 := ih i hi
  rw [sm_iso S _ hkn] at hrow2
  simp only [Nat.lt_irrefl, if_false] at hrow hrow2
  have hst : S.le (S.mul (S.star (el S A k k k)) (S.add (b k) (sx S n k (fun m => S.mul (el S A k k m) (if m < k then b m else X m))))) (X k) := by
   refine S.star_least _ _ _ ?_
   refine S.le_trans _ _ _ ?_ hrow
   rw [show S.add (S.add (b k) (sx S n k (fun m => S.mul (el S A k k m) (if m < k then b m else X m)))) (S.mul (el S A k k k) (X k)) = S.add (b k) (S.add (S.mul (el S A k k k) (X k)) (sx S n k (fun m => S.mul (el S A k k m) (if m < k then b m else X m)))) by ac_rfl]
   exact S.le_refl _
  refine S.le_trans _ _ _ ?_ hrow2
  rw [sm_iso S _ hkn]
  simp only [Nat.lt_succ_self, if_true]
  have e1 : el S A (k + 1) i k = S.mul (el S A k i k) (S.star (el S A k k k)) := by
   show S.add (el S A k i k) (S.mul (S.mul (el S A k i k) (S.star (el S A k k k))) (el S A k k k)) = _
   rw [show S.mul (S.mul (el S A k i k) (S.star (el S A k k k))) (el S A k k k) = S.mul (S.mul (el S A k k k) (S.star (el S A k k k))) (el S A k i k) by ac_rfl, S.star_mul, S.mul_comm]
  have e2 : sx S n k (fun m => S.mul (el S A (k + 1) i m) (if m < k + 1 then b m else X m)) = S.add (sx S n k (fun m => S.mul (el S A k i m) (if m < k then b m else X m))) (S.mul (S.mul (el S A k i k) (S.star (el S A k k k))) (sx S n k (fun m => S.mul (el S A k k m) (if m < k then b m else X m)))) := by
   rw [mul_sx, ← sx_add]
   refine sx_congr S (fun m _ hm => ?_)
   have e3 : (if m < k + 1 then b m else X m) = (if m < k then b m else X m) := by
    by_cases e : m < k
    ·rw [if_pos e, if_pos (by omega)]
    ·rw [if_neg e, if_neg (by omega)]
   rw [e3]
   show S.mul (S.add (el S A k i m) (S.mul (S.mul (el S A k i k) (S.star (el S A k k k))) (el S A k k m))) _ = _
   rw [S.add_mul]
   congr 1
   ac_rfl
  rw [e1, e2]
  have hmm := S.mul_mono _ _ (el S A k i k) hst
  generalize hT : sx S n k (fun m => S.mul (el S A k i m) (if m < k then b m else X m)) = T
  generalize hU : sx S n k (fun m => S.mul (el S A k k m) (if m < k then b m else X m)) = U at *
  have e4 : S.add (b i) (S.add (S.mul (S.mul (el S A k i k) (S.star (el S A k k k))) (b k)) (S.add T (S.mul (S.mul (el S A k i k) (S.star (el S A k k k))) U))) = S.add (b i) (S.add (S.mul (el S A k i k) (S.mul (S.star (el S A k k k)) (S.add (b k) U))) T) := by
   rw [S.mul_add, S.mul_add, ← S.mul_assoc, ← S.mul_assoc]
   ac_rfl
  rw [e4]
  exact S.add_mono _ _ _ _ (S.le_refl _) (S.add_mono _ _ _ _ hmm (S.le_refl _))
theorem star_least (S : Sr α) (A : Nat → Nat → α) (X : Nat → α) {n j : Nat} (hj : j < n) (h : ∀ i, i < n → S.le (S.add (idm S i j) (sm S n (fun m => S.mul (A i m) (X m)))) (X i)) {i : Nat} (hi : i < n) : S.le (stM S A n i j) (X i) := by
 have hl := el_least S A (fun i => idm S i j) X h n (Nat.le_refl n) i hi
 rw [sm_congr S (g := fun m => S.mul (el S A n i m) (idm S m j)) (fun m hm => by rw [if_pos hm]), sm_idm S _ hj] at hl
 exact hl
variable {α : Type}
def sw (p q i : Nat) : Nat := if i = p then q else if i = q then p else i
theorem el_congr (S : Sr α) {A B : Nat → Nat → α} {n : Nat} (h : ∀ i j, i < n → j < n → A i j = B i j) : ∀ k, k ≤ n → ∀ i j, i < n → j < n → el S A k i j = el S B k i j
 | 0, _, i, j, hi, hj => h i j hi hj
 | k + 1, hk, i, j, hi, hj => by
  have ih := el_congr S h k (by omega)
  unfold el
  rw [ih i j hi hj, ih i k hi (by omega), ih k k (by omega) (by omega), ih k j (by omega) hj]
theorem stM_congr (S : Sr α) {A B : Nat → Nat → α} {n : Nat} (h : ∀ i j, i < n → j < n → A i j = B i j) {i j : Nat} (hi : i < n) (hj : j < n) : stM S A n i j = stM S B n i j := by
 unfold stM; rw [el_congr S h n (Nat.le_refl n) i j hi hj]
def mm (S : Sr α) (n : Nat) (a b : Nat → Nat → α) (i j : Nat) : α := sm S n (fun m => S.mul (a i m) (b m j))
def pwM (S : Sr α) (n : Nat) (u : Nat → Nat → α) : Nat → Nat → Nat → α
 | 0 => idm S
 | k + 1 => mm S n (pwM S n u k) u
def walkW (S : Sr α) (A : Nat → Nat → α) : List Nat → α
 | [] => S.one
 | [_] => S.one
 | x :: y :: l => S.mul (A x y) (walkW S A (y :: l))
variable {α : Type}
theorem Sr.zero_of_le (S : Sr α) {a : α} (h : S.le a S.zero) : a = S.zero := S.le_anti _ _ h (S.zero_le a)
theorem Sr.zero_left (S : Sr α) {a b : α} (h : S.add a b = S.zero) : a = S.zero := S.zero_of_le (h ▸ S.le_add a b)
theorem Sr.zero_right (S : Sr α) {a b : α} (h : S.add a b = S.zero) : b = S.zero := S.zero_of_le (h ▸ S.le_add2 b a)
theorem sm_zero_at (S : Sr α) {f : Nat → α} {n k : Nat} (h : sm S n f = S.zero) (hk : k < n) : f k = S.zero := S.zero_of_le (h ▸ le_sm S f hk)
theorem sm_part (S : Sr α) (f : Nat → α) (p : Nat → Bool) : ∀ k, sm S ((List.range k).filter p).length (fun x => f (((List.range k).filter p).getD x 0)) = sm S k (fun m => if p m = true then f m else S.zero)
 | 0 => rfl
 | k + 1 => by
  have ih := sm_part S f p k
  show _ = S.add (sm S k (fun m => if p m = true then f m else S.zero)) (if p k = true then f k else S.zero)
  rw [← ih, List.range_succ, List.filter_append]
  by_cases hk : p k = true
  ·rw [if_pos hk]
   have e1 : [k].filter p = [k] := by simp [hk]
   rw [e1, List.length_append, List.length_singleton]
   show S.add (sm S ((List.range k).filter p).length (fun x => f ((((List.range k).filter p) ++ [k]).getD x 0))) (f ((((List.range k).filter p) ++ [k]).getD ((List.range k).filter p).length 0)) = _
   have e2 : (((List.range k).filter p) ++ [k]).getD ((List.range k).filter p).length 0 = k := by
    rw [List.getD_eq_getElem?_getD, List.getElem?_append_right (Nat.le_refl _), Nat.sub_self]; rfl
   rw [e2]
   congr 1
   refine sm_congr S (fun m hm => ?_)
   rw [List.getD_eq_getElem?_getD, List.getD_eq_getElem?_getD, List.getElem?_append_left hm]
  ·rw [if_neg hk, S.add_zero]
   have e1 : [k].filter p = [] := by simp [hk]
   rw [e1, List.append_nil]
inductive Rch (S : Sr α) (A : Nat → Nat → α) (k : Nat) : Nat → Nat → Prop
 | one {i m : Nat} : A i m ≠ S.zero → Rch S A k i m
 | more {i l m : Nat} : l < k → A i l ≠ S.zero → Rch S A k l m → Rch S A k i m
theorem Rch.mono {S : Sr α} {A : Nat → Nat → α} {k k' i m : Nat} (h : Rch S A k i m) (hk : k ≤ k') : Rch S A k' i m := by
 induction h with
 | one h => exact .one h
 | more hl h _ ih => exact .more (by omega) h ih
theorem Rch.trans {S : Sr α} {A : Nat → Nat → α} {k i l m : Nat} (h : Rch S A k i l) (hl : l < k) (h2 : Rch S A k l m) : Rch S A k i m := by
 induction h with
 | one h => exact .more hl h h2
 | more hl' h _ ih => exact .more hl' h (ih hl h2)
theorem rch_of (S : Sr α) (A : Nat → Nat → α) : ∀ k i m, el S A k i m ≠ S.zero → Rch S A k i m
 | 0, i, m, h => .one h
 | k + 1, i, m, h => by
  by_cases h1 : el S A k i m = S.zero
  ·by_cases h2 : el S A k i k = S.zero
   ·exact absurd (by unfold el; rw [h1, h2, S.zero_mul, S.zero_mul, S.add_zero]) h
   ·by_cases h3 : el S A k k m = S.zero
    ·exact absurd (by unfold el; rw [h1, h3, S.mul_zero, S.add_zero]) h
    ·exact ((rch_of S A k i k h2).mono (Nat.le_succ k)).trans (Nat.lt_succ_self k) ((rch_of S A k k m h3).mono (Nat.le_succ k))
  ·exact (rch_of S A k i m h1).mono (Nat.le_succ k)
theorem of_rch (S : Sr α) (hm : ∀ a b : α, a ≠ S.zero → b ≠ S.zero → S.mul a b ≠ S.zero) (A : Nat → Nat → α) {k i m : Nat} (h : Rch S A k i m) : el S A k i m ≠ S.zero := by
 induction h with
 | one h => exact fun e => h (S.zero_left ((el_left S A k _ _).symm.trans e))
 | more hl h _ ih => exact fun e => hm _ _ h ih (sm_zero_at S (S.zero_right ((el_left S A k _ _).symm.trans e)) hl)
theorem el_shift (S : Sr α) (A : Nat → Nat → α) : ∀ t x y, el S (fun x y => el S A 1 (x + 1) (y + 1)) t x y = el S A (t + 1) (x + 1) (y + 1)
 | 0, x, y => rfl
 | t + 1, x, y => by
  show S.add (el S (fun x y => el S A 1 (x + 1) (y + 1)) t x y) (S.mul (S.mul (el S (fun x y => el S A 1 (x + 1) (y + 1)) t x t) (S.star (el S (fun x y => el S A 1 (x + 1) (y + 1)) t t t))) (el S (fun x y => el S A 1 (x + 1) (y + 1)) t t y)) = _
  rw [el_shift S A t x y, el_shift S A t x t, el_shift S A t t t, el_shift S A t t y]
  rfl
theorem el_grow (S : Sr α) (A : Nat → Nat → α) (i j : Nat) : ∀ d k, S.le (el S A k i j) (el S A (k + d) i j)
 | 0, k => S.le_refl _
 | d + 1, k => S.le_trans _ _ _ (el_grow S A i j d k) (S.le_add _ _)
variable {α : Type}
theorem el_map (S : Sr α) (A : Nat → Nat → α) (σ τ : Nat → Nat) : ∀ t, (∀ m, m < t → σ m = m + 1 ∧ τ m = m + 1) → ∀ x y, el S (fun x y => el S A 1 (σ x) (τ y)) t x y = el S A (t + 1) (σ x) (τ y)
 | 0, _, x, y => rfl
 | t + 1, h, x, y => by
  have ih := el_map S A σ τ t (fun m hm => h m (by omega))
  have ht := h t (Nat.lt_succ_self t)
  show S.add (el S (fun x y => el S A 1 (σ x) (τ y)) t x y) (S.mul (S.mul (el S (fun x y => el S A 1 (σ x) (τ y)) t x t) (S.star (el S (fun x y => el S A 1 (σ x) (τ y)) t t t))) (el S (fun x y => el S A 1 (σ x) (τ y)) t t y)) = _
  rw [ih x y, ih x t, ih t t, ih t y, ht.1, ht.2]
  rfl
theorem el_first (S : Sr α) (A : Nat → Nat → α) (n j : Nat) : el S A (n + 1) 0 (j + 1) = S.add (el S A 1 0 (j + 1)) (sm S n (fun l => S.mul (el S A 1 0 (l + 1)) (el S A (n + 1) (l + 1) (j + 1)))) := by
 have hm := el_map S A (fun x => if x < n then x + 1 else 0) (fun y => y + 1) n (fun m hm => ⟨if_pos hm, rfl⟩)
 have hl := el_left S (fun x y => el S A 1 ((fun x => if x < n then x + 1 else 0) x) ((fun y => y + 1) y)) n n j
 rw [hm n j] at hl
 simp only [Nat.lt_irrefl, if_false] at hl
 rw [hl]
 congr 1
 refine sm_congr S (fun m hmn => ?_)
 have := hm m j
 simp only [if_pos hmn] at this
 rw [← this]
def xsol (S : Sr α) (A : Nat → Nat → α) (n : Nat) (F : Nat → α) (i : Nat) : α := sm S n (fun m => S.mul (stM S A n i m) (F m))
theorem xsol_el (S : Sr α) (A : Nat → Nat → α) (n : Nat) (F : Nat → α) {i : Nat} (hi : i < n) : xsol S A n F i = S.add (F i) (sm S n (fun m => S.mul (el S A n i m) (F m))) := by
 unfold xsol
 rw [← idm_sm S F hi, ← sm_add]
 refine sm_congr S (fun m _ => ?_)
 unfold stM
 rw [S.add_mul]
theorem xsol_eq (S : Sr α) (A : Nat → Nat → α) (n : Nat) (F : Nat → α) {i : Nat} (hi : i < n) : xsol S A n F i = S.add (F i) (sm S n (fun m => S.mul (A i m) (xsol S A n F m))) := by
 have e : sm S n (fun m => S.mul (A i m) (xsol S A n F m)) = sm S n (fun j => sm S n (fun m => S.mul (S.mul (A i m) (stM S A n m j)) (F j))) := by
  rw [← sm_swap]
  refine sm_congr S (fun m _ => ?_)
  unfold xsol
  rw [mul_sm]
  exact sm_congr S (fun j _ => (S.mul_assoc _ _ _).symm)
 rw [e]
 conv => rhs; lhs; rw [← idm_sm S F hi]
 rw [← sm_add]
 unfold xsol
 refine sm_congr S (fun j hj => ?_)
 rw [← sm_mul, ← S.add_mul, ← star_left S A hj]
theorem xsol_least (S : Sr α) (A : Nat → Nat → α) {n : Nat} (F Z : Nat → α) (h : ∀ i, i < n → S.le (S.add (F i) (sm S n (fun m => S.mul (A i m) (Z m)))) (Z i)) {i : Nat} (hi : i < n) : S.le (xsol S A n F i) (Z i) := by
 have hl := el_least S A F Z h n (Nat.le_refl n) i hi
 rw [sm_congr S (g := fun m => S.mul (el S A n i m) (F m)) (fun m hm => by rw [if_pos hm])] at hl
 rw [xsol_el S A n F hi]
 exact hl
theorem xsol_congr (S : Sr α) {A B : Nat → Nat → α} {F G : Nat → α} {n : Nat} (h : ∀ i j, i < n → j < n → A i j = B i j) (hf : ∀ i, i < n → F i = G i) {i : Nat} (hi : i < n) : xsol S A n F i = xsol S B n G i :=
 sm_congr S (fun m hm => by rw [stM_congr S h hi hm, hf m hm])
def augM (A b : Nat → Nat → α) (n x y : Nat) : α := if y < n then A x y else b x (y - n)
theorem el_augM (S : Sr α) (A b : Nat → Nat → α) {n t : Nat} (ht : t ≤ n) {j : Nat} (hj : j < n) : ∀ i, el S (augM A b n) t i j = el S A t i j := by
 have : ∀ t, t ≤ n → ∀ i j, j < n → el S (augM A b n) t i j = el S A t i j := by
  intro t
  induction t with
  | zero => intro _ i j hj; show augM A b n i j = A i j; unfold augM; rw [if_pos hj]
  | succ t ih =>
   intro ht i j hj
   unfold el
   rw [ih (by omega) i j hj, ih (by omega) i t (by omega), ih (by omega) t t (by omega), ih (by omega) t j hj]
 exact fun i => this t ht i j hj
theorem el_augM_col (S : Sr α) (A b : Nat → Nat → α) (n t : Nat) (ht : t ≤ n) (i J : Nat) : el S (augM A b n) t i (n + J) = S.add (b i J) (sm S t (fun m => S.mul (el S A t i m) (b m J))) := by
 rw [el_right]
 have e : ∀ x, augM A b n x (n + J) = b x J := fun x => by unfold augM; rw [if_neg (by omega), Nat.add_sub_cancel_left]
 rw [e]
 congr 1
 refine sm_congr S (fun m hm => ?_)
 rw [el_augM S A b ht (by omega), e]
theorem el_xsol (S : Sr α) (A b : Nat → Nat → α) {n i : Nat} (hi : i < n) (J : Nat) : el S (augM A b n) n i (n + J) = xsol S A n (fun m => b m J) i := by
 rw [el_augM_col S A b n n (Nat.le_refl n), xsol_el S A n _ hi]
theorem xsol_idm (S : Sr α) (A : Nat → Nat → α) {n J : Nat} (i : Nat) (hJ : J < n) : xsol S A n (fun m => idm S m J) i = stM S A n i J := sm_idm S _ hJ
theorem sm_pick (S : Sr α) (f : Nat → α) {k d : Nat} (h : d < k) : sm S k (fun e => if d = e then f e else S.zero) = f d := by
 rw [sm_iso S _ h]
 unfold sx
 simp only [if_true]
 rw [sm_none S (fun m _ => by
  by_cases e : m = d
  ·rw [if_pos e]
  ·rw [if_neg e, if_neg (Ne.symm e)]), S.add_zero]
def mrg (S : Sr α) (n : Nat) (f : Nat → α) (κ : Nat → Nat) (d : Nat) : α := sm S n (fun j => if κ j = d then f j else S.zero)
theorem mrg_sum (S : Sr α) {n k : Nat} (f y : Nat → α) (κ : Nat → Nat) (hk : ∀ j, j < n → κ j < k) : sm S k (fun d => S.mul (mrg S n f κ d) (y d)) = sm S n (fun j => S.mul (f j) (y (κ j))) := by
 have e : sm S k (fun d => S.mul (mrg S n f κ d) (y d)) = sm S n (fun j => sm S k (fun d => S.mul (if κ j = d then f j else S.zero) (y d))) := by
  rw [← sm_swap]
  exact sm_congr S (fun d _ => by unfold mrg; rw [sm_mul])
 rw [e]
 refine sm_congr S (fun j hj => ?_)
 rw [← sm_pick S (fun d => S.mul (f j) (y d)) (hk j hj)]
 refine sm_congr S (fun d _ => ?_)
 by_cases h : κ j = d
 ·rw [if_pos h, if_pos h]
 ·rw [if_neg h, if_neg h, S.zero_mul]
theorem xsol_merged (S : Sr α) (A : Nat → Nat → α) {n k : Nat} (F : Nat → α) (κ ρ : Nat → Nat) (hκ : ∀ j, j < n → κ j < k) (hρ : ∀ c, c < k → ρ c < n) (hκρ : ∀ c, c < k → κ (ρ c) = c)
  (he : ∀ i j, i < n → j < n → A (ρ (κ i)) j = A i j) {i : Nat} (hi : i < n) :
  xsol S A n F i = S.add (F i) (xsol S (fun c d => mrg S n (A (ρ c)) κ d) k (fun c => sm S n (fun j => S.mul (A (ρ c) j) (F j))) (κ i)) := by
 generalize hA' : (fun c d => mrg S n (A (ρ c)) κ d) = A'
 generalize hb' : (fun c => sm S n (fun j => S.mul (A (ρ c) j) (F j))) = b'
 have eA : ∀ c (y : Nat → α), sm S k (fun d => S.mul (A' c d) (y d)) = sm S n (fun j => S.mul (A (ρ c) j) (y (κ j))) := fun c y => by
  rw [← hA']; exact mrg_sum S _ y κ hκ
 have eb : ∀ c, b' c = sm S n (fun j => S.mul (A (ρ c) j) (F j)) := fun c => by rw [← hb']
 have hy : ∀ c, c < k → S.le (xsol S A' k b' c) (sm S n (fun j => S.mul (A (ρ c) j) (xsol S A n F j))) := by
  intro c hc
  refine xsol_least S A' b' (fun c => sm S n (fun j => S.mul (A (ρ c) j) (xsol S A n F j))) (fun c hc => ?_) hc
  rw [eA, eb, ← sm_add]
  rw [sm_congr S (g := fun j => S.mul (A (ρ c) j) (xsol S A n F j)) (fun j hj => ?_)]
  ·exact S.le_refl _
  ·rw [← S.mul_add]
   congr 1
   conv => rhs; rw [xsol_eq S A n F hj]
   congr 1
   exact sm_congr S (fun m hm => by rw [he j m hj hm])
 refine S.le_anti _ _ ?_ ?_
 ·refine xsol_least S A F (fun i => S.add (F i) (xsol S A' k b' (κ i))) (fun i hi => ?_) hi
  try dsimp only
  have hκi := hκ i hi
  rw [xsol_eq S A' k b' hκi, eA, eb, ← sm_add]
  rw [sm_congr S (g := fun j => S.add (S.mul (A (ρ (κ i)) j) (F j)) (S.mul (A (ρ (κ i)) j) (xsol S A' k b' (κ j)))) (fun j hj => ?_)]
  ·exact S.le_refl _
  ·rw [he i j hi hj, S.mul_add]
 ·conv => rhs; rw [xsol_eq S A n F hi]
  refine S.add_mono _ _ _ _ (S.le_refl _) ?_
  refine S.le_trans _ _ _ (hy (κ i) (hκ i hi)) ?_
  rw [sm_congr S (g := fun j => S.mul (A i j) (xsol S A n F j)) (fun j hj => by rw [he i j hi hj])]
  exact S.le_refl _
theorem xsol_part (S : Sr α) (A A' : Nat → Nat → α) {n k : Nat} (F F' : Nat → α) (ρ : Nat → Nat) (hρ : ∀ c, c < k → ρ c < n)
  (hs : ∀ c, c < k → ∀ X : Nat → α, (∀ j, j < n → (∀ d, d < k → ρ d ≠ j) → S.mul (A (ρ c) j) (X j) = S.zero) → sm S n (fun j => S.mul (A (ρ c) j) (X j)) = sm S k (fun d => S.mul (A' c d) (X (ρ d))))
  (hF : ∀ c, c < k → F' c = F (ρ c)) (hdead : ∀ c, c < k → ∀ j, j < n → (∀ d, d < k → ρ d ≠ j) → S.mul (A (ρ c) j) (xsol S A n F j) = S.zero) (hinj : ∀ c d, c < k → d < k → ρ c = ρ d → c = d)
  {c : Nat} (hc : c < k) : xsol S A' k F' c = xsol S A n F (ρ c) := by
 refine S.le_anti _ _ ?_ ?_
 ·refine xsol_least S A' F' (fun c => xsol S A n F (ρ c)) (fun c hc => ?_) hc
  try dsimp only
  rw [hF c hc, ← hs c hc (xsol S A n F) (hdead c hc), ← xsol_eq S A n F (hρ c hc)]
  exact S.le_refl _
 ·have key := xsol_least S A F (fun j => if h : ∃ d, d < k ∧ ρ d = j then xsol S A' k F' h.choose else xsol S A n F j) (fun j hj => ?_) (hρ c hc)
  ·have h : ∃ d, d < k ∧ ρ d = ρ c := ⟨c, hc, rfl⟩
   rw [dif_pos h] at key
   have := hinj _ _ h.choose_spec.1 hc h.choose_spec.2
   rwa [this] at key
  ·by_cases h : ∃ d, d < k ∧ ρ d = j
   ·rw [dif_pos h]
    obtain ⟨hd, e⟩ := h.choose_spec
    generalize h.choose = d at *
    subst e
    rw [hs d hd _ (fun j hj hno => ?_)]
    ·rw [sm_congr S (g := fun e => S.mul (A' d e) (xsol S A' k F' e)) (fun e he => ?_), ← hF d hd, ← xsol_eq S A' k F' hd]
     ·exact S.le_refl _
     ·have h2 : ∃ d, d < k ∧ ρ d = ρ e := ⟨e, he, rfl⟩
      rw [dif_pos h2]
      have := hinj _ _ h2.choose_spec.1 he h2.choose_spec.2
      rw [this]
    ·rw [dif_neg (fun ⟨d, hd, e⟩ => hno d hd e)]
     exact hdead d hd j hj hno
   ·rw [dif_neg h]
    conv => rhs; rw [xsol_eq S A n F hj]
    refine S.add_mono _ _ _ _ (S.le_refl _) (sm_mono S (fun m hm => ?_))
    by_cases h2 : ∃ d, d < k ∧ ρ d = m
    ·rw [dif_pos h2]
     obtain ⟨hd, e⟩ := h2.choose_spec
     generalize h2.choose = d at *
     subst e
     refine S.mul_mono _ _ _ ?_
     refine xsol_least S A' F' (fun c => xsol S A n F (ρ c)) (fun c hc => ?_) hd
     try dsimp only
     rw [hF c hc, ← hs c hc (xsol S A n F) (hdead c hc), ← xsol_eq S A n F (hρ c hc)]
     exact S.le_refl _
    ·rw [dif_neg h2]
     exact S.le_refl _
variable {α : Type}
def sumRow (S : Sr α) (row f : Nat → α) (R : Nat → Nat → α) (n j : Nat) : α := S.add (row j) (sm S n (fun s => S.mul (f s) (R s j)))
def SumFits (S : Sr α) (Fit : α → Prop) (n m : Nat) (row f : Nat → α) (R : Nat → Nat → α) : Prop :=
 ∀ t, t < n → ∀ j, j < m → Fit (S.mul (f t) (R t j)) ∧ Fit (sumRow S row f R (t + 1) j)
def fstR (S : Sr α) (A : Nat → Nat → α) (j : Nat) : α := S.mul (S.star (A 0 0)) (A 0 (j + 1))
def putR (S : Sr α) (A : Nat → Nat → α) (i j : Nat) : α := sumRow S (fun j => A (i + 1) (j + 1)) (fun _ => A (i + 1) 0) (fun _ => fstR S A) 1 j
def elimF (S : Sr α) : Nat → (Nat → Nat → α) → Nat → Nat → α
 | 0, _, _, _ => S.zero
 | n + 1, A, 0, J => sumRow S (fun J => fstR S A (n + J)) (fstR S A) (elimF S n (putR S A)) n J
 | n + 1, A, i + 1, J => elimF S n (putR S A) i J
def ElimFits (S : Sr α) (Fit : α → Prop) : Nat → Nat → (Nat → Nat → α) → Prop
 | 0, _, _ => True
 | n + 1, m, A => Fit (S.star (A 0 0)) ∧ (∀ j, j < n + m → Fit (fstR S A j)) ∧ (∀ i, i < n → SumFits S Fit 1 (n + m) (fun j => A (i + 1) (j + 1)) (fun _ => A (i + 1) 0) (fun _ => fstR S A)) ∧
  ElimFits S Fit n m (putR S A) ∧ SumFits S Fit n m (fun J => fstR S A (n + J)) (fstR S A) (elimF S n (putR S A))
theorem fstR_el (S : Sr α) (A : Nat → Nat → α) (j : Nat) : fstR S A j = el S A 1 0 (j + 1) := (el_row S A 0 (j + 1)).symm
theorem putR_el (S : Sr α) (A : Nat → Nat → α) (i j : Nat) : putR S A i j = el S A 1 (i + 1) (j + 1) := by
 unfold putR sumRow fstR
 show S.add (A (i + 1) (j + 1)) (S.add S.zero (S.mul (A (i + 1) 0) (S.mul (S.star (A 0 0)) (A 0 (j + 1))))) = S.add (A (i + 1) (j + 1)) (S.mul (S.mul (A (i + 1) 0) (S.star (A 0 0))) (A 0 (j + 1)))
 rw [S.zero_add, S.mul_assoc]
theorem putR_eq (S : Sr α) (A : Nat → Nat → α) : putR S A = fun x y => el S A 1 (x + 1) (y + 1) := funext fun i => funext fun j => putR_el S A i j
theorem elimF_el (S : Sr α) : ∀ (n : Nat) (A : Nat → Nat → α) (i J : Nat), i < n → elimF S n A i J = el S A n i (n + J)
 | n + 1, A, 0, J, _ => by
  have e : n + 1 + J = (n + J) + 1 := by omega
  rw [e, el_first]
  show sumRow S (fun J => fstR S A (n + J)) (fstR S A) (elimF S n (putR S A)) n J = _
  unfold sumRow
  try dsimp only
  rw [fstR_el]
  congr 1
  refine sm_congr S (fun l hl => ?_)
  rw [fstR_el, elimF_el S n (putR S A) l J hl, putR_eq, el_shift]
 | n + 1, A, i + 1, J, h => by
  show elimF S n (putR S A) i J = _
  rw [elimF_el S n (putR S A) i J (by omega), putR_eq, el_shift]
  congr 1
  omega
theorem el_shiftN (S : Sr α) (A : Nat → Nat → α) (t : Nat) : ∀ s x y, el S (fun x y => el S A t (x + t) (y + t)) s x y = el S A (t + s) (x + t) (y + t)
 | 0, x, y => rfl
 | s + 1, x, y => by
  show S.add (el S (fun x y => el S A t (x + t) (y + t)) s x y) (S.mul (S.mul (el S (fun x y => el S A t (x + t) (y + t)) s x s) (S.star (el S (fun x y => el S A t (x + t) (y + t)) s s s))) (el S (fun x y => el S A t (x + t) (y + t)) s s y)) = _
  rw [el_shiftN S A t s x y, el_shiftN S A t s x s, el_shiftN S A t s s s, el_shiftN S A t s s y, Nat.add_comm s t]
  rfl
structure ElimAbs (S : Sr α) (Fit : α → Prop) (n m : Nat) (A : Nat → Nat → α) : Prop where
 st : ∀ t, t < n → Fit (S.star (el S A t t t))
 row : ∀ t, t < n → ∀ j, t < j → j < n + m → Fit (el S A (t + 1) t j)
 pr : ∀ t, t < n → ∀ i, t < i → i < n → ∀ j, t < j → j < n + m → Fit (S.mul (el S A t i t) (el S A (t + 1) t j))
 en : ∀ t, t < n → ∀ i, t < i → i < n → ∀ j, t < j → j < n + m → Fit (el S A (t + 1) i j)
 bp : ∀ t, t < n → ∀ l, t + 1 + l < n → ∀ J, J < m → Fit (S.mul (el S A (t + 1) t (t + 1 + l)) (el S A n (t + 1 + l) (n + J)))
 bs : ∀ t, t < n → ∀ l, t + 1 + l < n → ∀ J, J < m → Fit (S.add (el S A (t + 1) t (n + J)) (sm S (l + 1) (fun l => S.mul (el S A (t + 1) t (t + 1 + l)) (el S A n (t + 1 + l) (n + J)))))
theorem ElimAbs.fits (S : Sr α) {Fit : α → Prop} {n m : Nat} {A : Nat → Nat → α} (h : ElimAbs S Fit n m A) : ∀ d t, t + d = n → ElimFits S Fit d m (fun x y => el S A t (x + t) (y + t))
 | 0, _, _ => trivial
 | d + 1, t, htd => by
  have e1 : ∀ x y, el S (fun x y => el S A t (x + t) (y + t)) 1 x y = el S A (t + 1) (x + t) (y + t) := fun x y => el_shiftN S A t 1 x y
  have efst : ∀ j, fstR S (fun x y => el S A t (x + t) (y + t)) j = el S A (t + 1) t (j + 1 + t) := fun j => by rw [fstR_el, e1, Nat.zero_add]
  have eput : putR S (fun x y => el S A t (x + t) (y + t)) = fun x y => el S A (t + 1) (x + (t + 1)) (y + (t + 1)) := by
   rw [putR_eq]
   funext x y
   rw [e1, Nat.add_assoc x 1 t, Nat.add_assoc y 1 t, Nat.add_comm 1 t]
  have erest : ∀ l J, l < d → elimF S d (putR S (fun x y => el S A t (x + t) (y + t))) l J = el S A n (t + 1 + l) (n + J) := fun l J hl => by
   rw [elimF_el S d _ l J hl, eput, el_shiftN, show t + 1 + d = n by omega, show l + (t + 1) = t + 1 + l by omega, show d + J + (t + 1) = n + J by omega]
  refine ⟨?_, ?_, ?_, ?_, ?_⟩
  ·have := h.st t (by omega)
   simpa using this
  ·intro j hj
   rw [efst]
   exact h.row t (by omega) _ (by omega) (by omega)
  ·intro i hi s hs j hj
   obtain rfl : s = 0 := by omega
   constructor
   ·show Fit (S.mul (el S A t (i + 1 + t) (0 + t)) (fstR S (fun x y => el S A t (x + t) (y + t)) j))
    rw [efst, Nat.zero_add]
    exact h.pr t (by omega) _ (by omega) (by omega) _ (by omega) (by omega)
   ·show Fit (putR S (fun x y => el S A t (x + t) (y + t)) i j)
    rw [eput]
    exact h.en t (by omega) _ (by omega) (by omega) _ (by omega) (by omega)
  ·rw [eput]
   exact ElimAbs.fits S h d (t + 1) (by omega)
  ·intro l hl J hJ
   constructor
   ·rw [efst, erest l J hl, show l + 1 + t = t + 1 + l by omega]
    exact h.bp t (by omega) l (by omega) J hJ
   ·unfold sumRow
    try dsimp only
    rw [efst, show d + J + 1 + t = n + J by omega, sm_congr S (g := fun l => S.mul (el S A (t + 1) t (t + 1 + l)) (el S A n (t + 1 + l) (n + J))) (fun s hs => by
     rw [efst, erest s J (by omega), show s + 1 + t = t + 1 + s by omega])]
    exact h.bs t (by omega) l (by omega) J hJ
theorem ElimAbs.all (S : Sr α) {Fit : α → Prop} {n m : Nat} {A : Nat → Nat → α} (h : ElimAbs S Fit n m A) : ElimFits S Fit n m A := ElimAbs.fits S h n 0 (by omega)
def scan (eq : Nat → Nat → Bool) : Nat → List Nat × List Nat
 | 0 => ([], [])
 | i + 1 => match (scan eq i).1.findIdx? (fun j => eq j i) with
  | some k => ((scan eq i).1, (scan eq i).2 ++ [k])
  | none => ((scan eq i).1 ++ [i], (scan eq i).2 ++ [(scan eq i).1.length])
structure ScanIs (eq : Nat → Nat → Bool) (i : Nat) (r c : List Nat) : Prop where
 len : c.length = i
 cl : ∀ j, j < i → c.getD j 0 < r.length ∧ eq (r.getD (c.getD j 0) 0) j = true
 rl : ∀ x, x < r.length → r.getD x 0 < i
 rc : ∀ x, x < r.length → c.getD (r.getD x 0) 0 = x
 le : r.length ≤ i
 up : r.Pairwise (· < ·)
theorem getD_append_left {l m : List Nat} {j : Nat} (h : j < l.length) : (l ++ m).getD j 0 = l.getD j 0 := by
 rw [List.getD_eq_getElem?_getD, List.getD_eq_getElem?_getD, List.getElem?_append_left h]
theorem getD_append_at {l : List Nat} {x : Nat} : (l ++ [x]).getD l.length 0 = x := by
 rw [List.getD_eq_getElem?_getD, List.getElem?_append_right (Nat.le_refl _), Nat.sub_self]; rfl
theorem scan_is {eq : Nat → Nat → Bool} (hr : ∀ i, eq i i = true) : ∀ i, ScanIs eq i (scan eq i).1 (scan eq i).2
 | 0 => ⟨rfl, fun j h => absurd h (by omega), fun x h => absurd h (by simp [scan]), fun x h => absurd h (by simp [scan]), Nat.le_refl _, List.Pairwise.nil⟩
 | i + 1 => by
  have ih := scan_is hr i
  unfold scan
  split
  ·next k hk =>
   obtain ⟨hk1, hk2, _⟩ := List.findIdx?_eq_some_iff_getElem.1 hk
   have hkd : (scan eq i).1.getD k 0 = (scan eq i).1[k] := by rw [List.getD_eq_getElem?_getD, List.getElem?_eq_getElem hk1]; rfl
   refine ⟨by simp [ih.len], fun j hj => ?_, fun x hx => Nat.lt_succ_of_lt (ih.rl x hx), fun x hx => ?_, Nat.le_succ_of_le ih.le, ih.up⟩
   ·try dsimp only
    by_cases e : j < i
    ·rw [getD_append_left (by rw [ih.len]; exact e)]; exact ih.cl j e
    ·obtain rfl : j = i := by omega
     have : ((scan eq j).2 ++ [k]).getD j 0 = k := by conv => lhs; arg 2; rw [← ih.len]
                                                      exact getD_append_at
     rw [this]
     exact ⟨hk1, by rw [hkd]; exact hk2⟩
   ·dsimp only at hx ⊢
    rw [getD_append_left (by rw [ih.len]; exact ih.rl x hx)]
    exact ih.rc x hx
  ·next hk =>
   refine ⟨by simp [ih.len], fun j hj => ?_, fun x hx => ?_, fun x hx => ?_, by simp; exact ih.le, ?_⟩
   ·try dsimp only
    by_cases e : j < i
    ·rw [getD_append_left (by rw [ih.len]; exact e), getD_append_left (ih.cl j e).1]
     exact ⟨by simp; exact Nat.lt_succ_of_lt (ih.cl j e).1, (ih.cl j e).2⟩
    ·obtain rfl : j = i := by omega
     have : ((scan eq j).2 ++ [(scan eq j).1.length]).getD j 0 = (scan eq j).1.length := by conv => lhs; arg 2; rw [← ih.len]
                                                                                            exact getD_append_at
     rw [this]
     exact ⟨by simp, by rw [getD_append_at]; exact hr j⟩
   ·dsimp only at hx ⊢
    by_cases e : x < (scan eq i).1.length
    ·rw [getD_append_left e]; exact Nat.lt_succ_of_lt (ih.rl x e)
    ·obtain rfl : x = (scan eq i).1.length := by simp at hx; omega
     rw [getD_append_at]; omega
   ·dsimp only at hx ⊢
    by_cases e : x < (scan eq i).1.length
    ·rw [getD_append_left e, getD_append_left (by rw [ih.len]; exact ih.rl x e)]; exact ih.rc x e
    ·obtain rfl : x = (scan eq i).1.length := by simp at hx; omega
     rw [getD_append_at]
     conv => lhs; arg 2; rw [← ih.len]
     exact getD_append_at
   ·try dsimp only
    refine List.pairwise_append.2 ⟨ih.up, List.pairwise_singleton _ _, fun a ha b hb => ?_⟩
    obtain ⟨x, hx, rfl⟩ := List.getElem_of_mem ha
    have := ih.rl x hx
    rw [List.getD_eq_getElem?_getD, List.getElem?_eq_getElem hx] at this
    simp at hb
    subst hb
    exact this
noncomputable def eqR (n : Nat) (A : Nat → Nat → α) (i j : Nat) : Bool := @decide (∀ l, l < n → A i l = A j l) (Classical.propDecidable _)
theorem eqR_iff {n : Nat} {A : Nat → Nat → α} {i j : Nat} : eqR n A i j = true ↔ ∀ l, l < n → A i l = A j l := by unfold eqR; exact @decide_eq_true_iff _ (Classical.propDecidable _)
noncomputable def repR (n : Nat) (A : Nat → Nat → α) : List Nat := (scan (eqR n A) n).1
noncomputable def clsR (n : Nat) (A : Nat → Nat → α) : List Nat := (scan (eqR n A) n).2
theorem rep_is (n : Nat) (A : Nat → Nat → α) : ScanIs (eqR n A) n (repR n A) (clsR n A) := scan_is (fun i => eqR_iff.2 (fun _ _ => rfl)) n
noncomputable def mrgA (S : Sr α) (n : Nat) (A : Nat → Nat → α) (c d : Nat) : α := mrg S n (A ((repR n A).getD c 0)) (fun j => (clsR n A).getD j 0) d
noncomputable def mrgB (S : Sr α) (n : Nat) (A b : Nat → Nat → α) (c J : Nat) : α := sumRow S (fun _ => S.zero) (A ((repR n A).getD c 0)) b n J
noncomputable def solveF (S : Sr α) : Nat → Nat → (Nat → Nat → α) → (Nat → Nat → α) → Nat → Nat → α
 | 0, _, _, _, _, _ => S.zero
 | s + 1, n, A, b, i, J => if (repR n A).length = n then elimF S n (augM A b n) i J
  else S.add (b i J) (solveF S s (repR n A).length (mrgA S n A) (mrgB S n A b) ((clsR n A).getD i 0) J)
def MrgFits (S : Sr α) (Fit : α → Prop) (n : Nat) (f : Nat → α) (κ : Nat → Nat) : Prop := ∀ t, t < n → Fit (sm S (t + 1) (fun j => if κ j = κ t then f j else S.zero))
noncomputable def SolveFits (S : Sr α) (Fit : α → Prop) : Nat → Nat → Nat → (Nat → Nat → α) → (Nat → Nat → α) → Prop
 | 0, _, _, _, _ => True
 | s + 1, n, m, A, b => if (repR n A).length = n then ElimFits S Fit n m (augM A b n)
  else (∀ c, c < (repR n A).length → MrgFits S Fit n (A ((repR n A).getD c 0)) (fun j => (clsR n A).getD j 0)) ∧
   (∀ c, c < (repR n A).length → SumFits S Fit n m (fun _ => S.zero) (A ((repR n A).getD c 0)) b) ∧
   SolveFits S Fit s (repR n A).length m (mrgA S n A) (mrgB S n A b) ∧
   ∀ i, i < n → ∀ J, J < m → Fit (S.add (b i J) (solveF S s (repR n A).length (mrgA S n A) (mrgB S n A b) ((clsR n A).getD i 0) J))
theorem solveF_is (S : Sr α) : ∀ (s n : Nat) (A b : Nat → Nat → α), n ≤ s → ∀ i J, i < n → solveF S s n A b i J = xsol S A n (fun m => b m J) i
 | 0, n, A, b, h, i, J, hi => absurd hi (by omega)
 | s + 1, n, A, b, h, i, J, hi => by
  have hs := rep_is n A
  unfold solveF
  by_cases hk : (repR n A).length = n
  ·rw [if_pos hk, elimF_el S n _ i J hi, el_xsol S A b hi]
  ·have hlt : (repR n A).length < n := by have := hs.le; omega
   rw [if_neg hk, solveF_is S s _ _ _ (by omega) _ J (hs.cl i hi).1]
   rw [xsol_merged S A (k := (repR n A).length) (fun m => b m J) (fun j => (clsR n A).getD j 0) (fun c => (repR n A).getD c 0) (fun j hj => (hs.cl j hj).1) hs.rl hs.rc (fun i j hi hj => eqR_iff.1 (hs.cl i hi).2 j hj) hi]
   congr 1
   refine xsol_congr S (fun c d _ _ => rfl) (fun c _ => ?_) (hs.cl i hi).1
   unfold mrgB sumRow
   rw [S.zero_add]
end Go.Proofs.YtaogepcaoogpgaaGreatDoor
