/- U66 -/
import Derived.Test.YtaogepcaoogpgaaGreatDoorV44
import Derived.Test.YtaogepcaoogpgaaGreatDoorV14
import Derived.Test.YtaogepcaoogpgaaGreatDoorV43
set_option linter.unusedVariables false
set_option linter.unusedSimpArgs false
namespace Go.Proofs.YtaogepcaoogpgaaGreatDoor
open Go.RowKit
def Clr (K B x : Rat) : Prop := isI (x * K) ∧ ab (x * K) ≤ B
theorem Clr.mono {K B C x : Rat} (h : Clr K B x) (hc : B ≤ C) : Clr K C x := ⟨h.1, Rat.le_trans h.2 hc⟩
theorem clr_zero {K B : Rat} (h : 0 ≤ B) : Clr K B 0 := by
 have e : (0 : Rat) * K = 0 := by grind
 refine ⟨by rw [e]; exact ⟨0, rfl⟩, ?_⟩
 rw [e, ab_of Rat.le_refl]; exact h
theorem Clr.add {K B C x y : Rat} (hx : Clr K B x) (hy : Clr K C y) : Clr K (B + C) (x + y) := by
 have e : (x + y) * K = x * K + y * K := by grind
 refine ⟨by rw [e]; exact isI_add hx.1 hy.1, ?_⟩
 rw [e]
 have h1 := ab_add (x * K) (y * K)
 have h2 := hx.2; have h3 := hy.2
 grind
theorem ab_mul_le {x y B C : Rat} (hx : ab x ≤ B) (hy : ab y ≤ C) : ab (x * y) ≤ B * C := by
 rw [ab_mul]
 have h1 := Rat.mul_le_mul_of_nonneg_left hy (ab_nonneg x)
 have h2 := Rat.mul_le_mul_of_nonneg_right hx (Rat.le_trans (ab_nonneg y) hy)
 exact Rat.le_trans h1 h2
theorem Clr.mul {K L B C x y : Rat} (hx : Clr K B x) (hy : Clr L C y) : Clr (K * L) (B * C) (x * y) := by
 have e : x * y * (K * L) = x * K * (y * L) := by grind
 exact ⟨by rw [e]; exact isI_mul hx.1 hy.1, by rw [e]; exact ab_mul_le hx.2 hy.2⟩
theorem clr_one {L C : Rat} (hL : isI L) (hc : ab L ≤ C) : Clr L C 1 := by
 have e : (1 : Rat) * L = L := by grind
 exact ⟨by rw [e]; exact hL, by rw [e]; exact hc⟩
theorem Clr.up {K L B C x : Rat} (hx : Clr K B x) (hL : isI L) (hc : ab L ≤ C) : Clr (K * L) (B * C) x := by
 have h := hx.mul (clr_one hL hc)
 have e : x * 1 = x := by grind
 rwa [e] at h
theorem Clr.wide {K x : Rat} {w : Nat} (hx : Clr K (tenP w) x) (hK : isI K) (h0 : K ≠ 0) (hk : ab K ≤ tenP w) : WideE (w + 1) (.inr x) := by
 have h := rat_of_quot (y := x) (N := x * K) (M := K) hx.1 hK h0 rfl (P := 10 ^ w) hx.2 hk
 have hlt : 10 ^ w < 10 ^ (w + 1) := Nat.pow_lt_pow_right (by omega) (by omega)
 exact ⟨nDigits_le _ _ (by omega) (Nat.lt_of_le_of_lt h.1 hlt), nDigits_le _ _ (by omega) (Nat.lt_of_le_of_lt h.2 hlt)⟩
def ClE (K B : Rat) (v : El 2) : Prop := Fin2 v → Clr K B (val v)
theorem ClE.mono {K B C : Rat} {v : El 2} (h : ClE K B v) (hc : B ≤ C) : ClE K C v := fun hf => (h hf).mono hc
theorem clE_zero {K B : Rat} (h : 0 ≤ B) : ClE K B S2.zero := fun _ => by rw [val_zero]; exact clr_zero h
theorem ClE.add {K B C : Rat} {u v : El 2} (hu : ClE K B u) (hv : ClE K C v) : ClE K (B + C) (S2.add u v) := fun hf => by
 obtain ⟨h1, h2⟩ := fin_add.1 hf
 rw [val_add h1 h2]
 exact (hu h1).add (hv h2)
theorem ClE.mul {K L B C : Rat} {u v : El 2} (hB : 0 ≤ B) (hC : 0 ≤ C) (hu : ClE K B u) (hv : ClE L C v) : ClE (K * L) (B * C) (S2.mul u v) := fun hf => by
 by_cases h1 : u = S2.zero
 ·rw [h1, S2.zero_mul, val_zero]; exact clr_zero (Rat.mul_nonneg hB hC)
 ·by_cases h2 : v = S2.zero
  ·rw [h2, S2.mul_zero, val_zero]; exact clr_zero (Rat.mul_nonneg hB hC)
  ·have g1 := fin_of_mul2 hf h2
   have g2 := fin_of_mul hf h1
   rw [val_mul g1 g2]
   exact (hu g1).mul (hv g2)
theorem ClE.up {K L B C : Rat} {v : El 2} (h : ClE K B v) (hL : isI L) (hc : ab L ≤ C) : ClE (K * L) (B * C) v := fun hf => (h hf).up hL hc
theorem ClE.sm {K B : Rat} {f : Nat → El 2} (hB : 0 ≤ B) : ∀ {n : Nat}, (∀ m, m < n → ClE K B (f m)) → ClE K ((n : Rat) * B) (sm S2 n f)
 | 0, _ => clE_zero (by
  have e : ((0 : Nat) : Rat) * B = 0 := by
   have : ((0 : Nat) : Rat) = 0 := rfl
   rw [this]; grind
  rw [e]; exact Rat.le_refl)
 | n + 1, h => by
  have ih := ClE.sm hB (n := n) (fun m hm => h m (by omega))
  have h1 := ih.add (h n (by omega))
  have e : ((n + 1 : Nat) : Rat) * B = (n : Rat) * B + B := by
   have : ((n + 1 : Nat) : Rat) = (n : Rat) + 1 := by
    show (((n + 1 : Nat) : Int) : Rat) = ((n : Int) : Rat) + ((1 : Int) : Rat)
    rw [← Rat.intCast_add]; rfl
   rw [this]; grind
  rw [e]; exact h1
theorem ClE.wide {K : Rat} {v : El 2} {w : Nat} (h : ClE K (tenP w) v) (hK : isI K) (h0 : K ≠ 0) (hk : ab K ≤ tenP w) : WideE (w + 1) v.1 := by
 by_cases hf : Fin2 v
 ·rw [fin_val hf]; exact (h hf).wide hK h0 hk
 ·rw [not_fin.1 hf]; trivial
theorem dl_mem : ∀ {l : List Rat} {x : Rat}, x ∈ l → (∀ y ∈ l, 0 ≤ y) → Clr (dl l) (bl l) x
 | l, x, h, h0 => by
  have h1 : isI (x * dl l) := by
   have : ∀ (l : List Rat), x ∈ l → isI (x * dl l) := fun l => by
    induction l with
    | nil => intro h; cases h
    | cons y l ih =>
     intro h
     show isI (x * ((y.den : Rat) * dl l))
     by_cases e : x = y
     ·subst e
      have e2 : x * ((x.den : Rat) * dl l) = (x.num : Rat) * dl l := by rw [num_of_den x]; grind
      rw [e2]
      exact isI_mul ⟨x.num, rfl⟩ (isI_dl l)
     ·have hm : x ∈ l := by
       rcases List.mem_cons.1 h with h | h
       ·exact absurd h e
       ·exact h
      have e2 : x * ((y.den : Rat) * dl l) = (y.den : Rat) * (x * dl l) := by grind
      rw [e2]
      exact isI_mul (isI_den y) (ih hm)
   exact this l h
  have hd := dl_one l
  have hx := h0 x h
  have hs : x ≤ sl l := by
   have : ∀ (l : List Rat), (∀ y ∈ l, 0 ≤ y) → x ∈ l → x ≤ sl l := fun l => by
    induction l with
    | nil => intro _ h; cases h
    | cons y l ih =>
     intro h0 h
     have hy := h0 y (List.mem_cons_self ..)
     have hl := sl_nonneg (l := l) (fun z hz => h0 z (List.mem_cons_of_mem _ hz))
     show x ≤ y + sl l
     rcases List.mem_cons.1 h with h | h
     ·rw [h]; grind
     ·have := ih (fun z hz => h0 z (List.mem_cons_of_mem _ hz)) h
      grind
   exact this l h0 h
  refine ⟨h1, ?_⟩
  rw [ab_of (Rat.mul_nonneg hx (by grind))]
  have h2 := dl_bl h0
  have h3 := Rat.mul_le_mul_of_nonneg_left hs (show 0 ≤ dl l by grind)
  grind
theorem dl_ab (l : List Rat) (h0 : ∀ y ∈ l, 0 ≤ y) : ab (dl l) ≤ bl l := by
 have hd := dl_one l
 rw [ab_of (by grind)]
 have h2 := dl_bl h0
 have h3 := Rat.mul_nonneg (show 0 ≤ dl l by grind) (sl_nonneg h0)
 grind
theorem tenP_mono {m n : Nat} (h : m ≤ n) : tenP m ≤ tenP n := by
 have h1 := Nat.pow_le_pow_right (show 0 < 10 by omega) h
 have h4 : ((10 ^ m : Nat) : Int) ≤ ((10 ^ n : Nat) : Int) := Int.ofNat_le.2 h1
 exact Rat.intCast_le_intCast.2 h4
open Go.RowKit
theorem star_clr {A : Nat → Nat → El 2} {M : Nat → List (Nat × El 2)} {n s : Nat}
  (hA : ∀ x y, x < n → y < n → A x y = cs S2 (M x) y) (hM : ∀ x, x < n → ∀ e ∈ M x, Sh4 e.2.1) (hc : ns n (fun x => (M x).length) ≤ s) :
  ∃ K : Rat, isI K ∧ K ≠ 0 ∧ ab K ≤ tenP (4 * s + n) ∧ ∀ i j, i < n → j < n → ClE K (tenP (4 * s + n + 1)) (stM S2 A n i j) := by
 have hpos : ∀ x, x < n → ∀ y ∈ (fins (M x)).map (·.2), 0 ≤ y := fun x hx y hy => by
  obtain ⟨e, he, rfl⟩ := List.mem_map.1 hy
  exact (fins_mem7 (hM x hx) e he).1
 have hten : ∀ x, x < n → bl ((fins (M x)).map (·.2)) ≤ tenP (4 * (M x).length) := fun x hx => by
  have := bl_le (w := 4) (l := (fins (M x)).map (·.2)) (fun y hy => by
   obtain ⟨e, he, rfl⟩ := List.mem_map.1 hy
   exact fins_mem7 (hM x hx) e he)
  rw [List.length_map] at this
  exact Rat.le_trans this (tenP_mono (by have := fins_len7 (M x); omega))
 have hval : ∀ x m, x < n → m < n → Fin2 (A x m) → val (A x m) = sl (((fins (M x)).filter (fun e => e.1 == m)).map (·.2)) := fun x m hx hm hf => by
  rw [hA x m hx hm] at hf ⊢
  exact cs_val m hf
 have hsum : ∀ x, x < n → rs n (fun m => val (A x m)) ≤ sl ((fins (M x)).map (·.2)) := fun x hx => by
  refine Rat.le_trans (rs_le (fun m hm => ?_)) (sl_split n (fun e he => (fins_mem7 (hM x hx) e he).1))
  by_cases hf : Fin2 (A x m)
  ·rw [hval x m hx hm hf]; exact Rat.le_refl
  ·have : val (A x m) = 0 := by unfold val; rw [not_fin.1 hf]
   rw [this]
   refine sl_nonneg (fun y hy => ?_)
   obtain ⟨e, he, rfl⟩ := List.mem_map.1 hy
   exact (fins_mem7 (hM x hx) e (List.mem_filter.1 he).1).1
 have hQ : ∀ x, x < n → 2 * (dl ((fins (M x)).map (·.2)) * (1 + rs n (fun m => val (A x m)))) ≤ tenP (4 * (M x).length + 1) := fun x hx => by
  have h1 := dl_bl (hpos x hx)
  have h2 := hten x hx
  have h3 := hsum x hx
  have h4 := dl_one ((fins (M x)).map (·.2))
  have h5 := Rat.mul_le_mul_of_nonneg_left h3 (show 0 ≤ dl ((fins (M x)).map (·.2)) by grind)
  have h6 := tenP_pos (4 * (M x).length)
  rw [tenP_add]
  have h7 : tenP 1 = 10 := by unfold tenP; decide +kernel
  rw [h7]
  grind
 obtain ⟨K, hK, hK0, hKb, hall⟩ := common (A := A) (n := n) (d := fun x => dl ((fins (M x)).map (·.2))) (Q := fun x => tenP (4 * (M x).length + 1)) (fun x _ => dl_one _) (fun x _ => isI_dl _) (fun x y hx hy hf => by
  rw [hval x y hx hy hf]; exact isI_part (fun z => z == y) (fins (M x))) hQ
 have hP : rp n (fun x => tenP (4 * (M x).length + 1)) ≤ tenP (4 * s + n) := by
  have h1 := rp_ten (f := fun x => tenP (4 * (M x).length + 1)) (g := fun x => 4 * (M x).length + 1) (n := n) (fun m _ => ⟨tenP_pos _, Rat.le_refl⟩)
  rw [ns_lin (fun x => (M x).length) n] at h1
  exact Rat.le_trans h1 (tenP_mono (by omega))
 refine ⟨K, hK, hK0, Rat.le_trans hKb hP, fun i j hi hj => ?_⟩
 have h1 : ClE K (tenP (4 * s + n)) (idm S2 i j) := by
  unfold idm
  split
  ·intro _
   exact clr_one hK (Rat.le_trans hKb hP)
  ·exact clE_zero (tenP_pos _)
 have h2 : ClE K (tenP (4 * s + n)) (el S2 A n i j) := fun hf => by
  obtain ⟨g1, g2⟩ := hall i j hi hj hf
  exact ⟨g1, Rat.le_trans g2 hP⟩
 refine (h1.add h2).mono ?_
 have h7 : tenP 1 = 10 := by unfold tenP; decide +kernel
 have h6 := tenP_pos (4 * s + n)
 rw [tenP_add (4 * s + n) 1, h7]
 grind
variable {α : Type}
structure Szs (S : Sr α) (Fit : α → Prop) where
 I : Type
 op : I → I → I
 assoc : ∀ a b c, op (op a b) c = op a (op b c)
 comm : ∀ a b, op a b = op b a
 ok : I → Nat → Prop
 C : I → Nat → α → Prop
 okop : ∀ {K L v w}, ok K v → ok L w → ok (op K L) (v + w)
 okmono : ∀ {K v w}, ok K v → v ≤ w → ok K w
 mono : ∀ {K v w a}, C K v a → v ≤ w → C K w a
 zero : ∀ {K w}, ok K w → C K w S.zero
 mul : ∀ {K L v w a b}, C K v a → C L w b → C (op K L) (v + w + 1) (S.mul a b)
 add : ∀ {K w a b}, C K w a → C K w b → C K (w + 1) (S.add a b)
 sums : ∀ {K w} {f : Nat → α} {n : Nat}, ok K w → n ≤ 9 → (∀ m, m < n → C K w (f m)) → C K (w + 1) (sm S n f)
 up : ∀ {K L w l a}, C K w a → ok L l → C (op K L) (w + l) a
 fit : ∀ {K w a}, C K w a → w < 400 → Fit a
instance {S : Sr α} {Fit : α → Prop} (Z : Szs S Fit) : Std.Associative Z.op := ⟨Z.assoc⟩
instance {S : Sr α} {Fit : α → Prop} (Z : Szs S Fit) : Std.Commutative Z.op := ⟨Z.comm⟩
theorem Szs.cast {S : Sr α} {Fit : α → Prop} (Z : Szs S Fit) {K L : Z.I} {w : Nat} {v : α} (h : Z.C K w v) (e : K = L) : Z.C L w v := e ▸ h
structure Base {S : Sr α} {Fit : α → Prop} (Z : Szs S Fit) (A b : Nat → Nat → α) (n m : Nat) (M : Nat → Z.I) (D Kb : Z.I) (wb : Nat) : Prop where
 n5 : n ≤ 5
 okM : ∀ t, t ≤ n → Z.ok (M t) 46
 st : ∀ t, t ≤ n → ∀ i j, i < t → j < t → Z.C (M t) 46 (stM S A t i j)
 okD : Z.ok D 41
 a : ∀ x y, x < n → y < n → Z.C D 41 (A x y)
 okb : Z.ok Kb wb
 b : ∀ x J, x < n → J < m → Z.C Kb wb (b x J)
 wb : wb ≤ 201
theorem el_stM (S : Sr α) (A b : Nat → Nat → α) {n t x : Nat} (ht : t ≤ n) (hx : x < t) (j : Nat) : el S (augM A b n) t x j = sm S t (fun l => S.mul (stM S A t x l) (augM A b n l j)) := by
 rw [el_right, ← idm_sm S (fun l => augM A b n l j) hx, ← sm_add]
 refine sm_congr S (fun l hl => ?_)
 rw [el_augM S A b ht (by omega)]
 unfold stM
 rw [S.add_mul]
section
variable {S : Sr α} {Fit : α → Prop} {Z : Szs S Fit} {A b : Nat → Nat → α} {n m : Nat} {M : Nat → Z.I} {D Kb : Z.I} {wb : Nat}
structure Col (Z : Szs S Fit) (A b : Nat → Nat → α) (n j : Nat) (K : Z.I) (w : Nat) : Prop where
 ok : Z.ok K w
 c : ∀ x, x < n → Z.C K w (augM A b n x j)
theorem Base.colA (B : Base Z A b n m M D Kb wb) {j : Nat} (h : j < n) : Col Z A b n j D 41 := ⟨B.okD, fun x hx => by unfold augM; rw [if_pos h]; exact B.a x j hx h⟩
theorem Base.colB (B : Base Z A b n m M D Kb wb) {J : Nat} (h : J < m) : Col Z A b n (n + J) Kb wb := ⟨B.okb, fun x hx => by unfold augM; rw [if_neg (by omega), Nat.add_sub_cancel_left]; exact B.b x J hx h⟩
theorem Base.col (B : Base Z A b n m M D Kb wb) {j : Nat} (hj : j < n + m) : ∃ K w, w ≤ 201 ∧ Col Z A b n j K w := by
 by_cases h : j < n
 ·exact ⟨D, 41, by omega, B.colA h⟩
 ·obtain ⟨J, rfl⟩ : ∃ J, j = n + J := ⟨j - n, by omega⟩
  exact ⟨Kb, wb, B.wb, B.colB (by omega)⟩
theorem Base.low (B : Base Z A b n m M D Kb wb) {j : Nat} {K : Z.I} {w : Nat} (hc : Col Z A b n j K w) {t : Nat} (ht : t ≤ n) {x : Nat} (hx : x < t) : Z.C (Z.op (M t) K) (w + 48) (el S (augM A b n) t x j) := by
 rw [el_stM S A b ht hx]
 have := Z.sums (n := t) (w := 46 + w + 1) (K := Z.op (M t) K) (f := fun l => S.mul (stM S A t x l) (augM A b n l j)) (Z.okmono (Z.okop (B.okM t ht) hc.ok) (by omega)) (by have := B.n5; omega) (fun l hl => Z.mul (B.st t ht x l hx hl) (hc.c l (by omega)))
 exact Z.mono this (by omega)
theorem Base.any (B : Base Z A b n m M D Kb wb) {j : Nat} {K : Z.I} {w : Nat} (hc : Col Z A b n j K w) {t : Nat} (ht : t ≤ n) {x : Nat} (hx : x < n) : Z.C (Z.op D (Z.op (M t) K)) (w + 92) (el S (augM A b n) t x j) := by
 rw [el_left]
 have hok : Z.ok (Z.op D (Z.op (M t) K)) (41 + (46 + w)) := Z.okop B.okD (Z.okop (B.okM t ht) hc.ok)
 have h1 := Z.sums (n := t) (w := 41 + (w + 48) + 1) (K := Z.op D (Z.op (M t) K)) (f := fun l => S.mul (augM A b n x l) (el S (augM A b n) t l j)) (Z.okmono hok (by omega)) (by have := B.n5; omega)
  (fun l hl => Z.mul (by unfold augM; rw [if_pos (by omega)]; exact B.a x l hx (by omega)) (B.low hc ht hl))
 have h2 : Z.C (Z.op D (Z.op (M t) K)) (w + 91) (augM A b n x j) := by
  have := Z.up (Z.up (hc.c x hx) (B.okM t ht)) B.okD
  exact Z.mono (Z.cast this (by ac_rfl)) (by omega)
 exact Z.add h2 (Z.mono h1 (by omega))
theorem Base.abs (B : Base Z A b n m M D Kb wb) : ElimAbs S Fit n m (augM A b n) where
 st t ht := by
  have e : S.star (el S (augM A b n) t t t) = stM S A (t + 1) t t := by
   unfold stM idm
   rw [if_pos rfl, el_row, el_augM S A b (by omega) ht, S.mul_comm, S.star_law]
  rw [e]
  exact Z.fit (B.st (t + 1) (by omega) t t (by omega) (by omega)) (by omega)
 row t ht j hj hm := by
  obtain ⟨K, w, hw, hc⟩ := B.col hm
  exact Z.fit (B.low hc (t := t + 1) (by omega) (Nat.lt_succ_self t)) (by omega)
 pr t ht i hi hin j hj hm := by
  obtain ⟨K, w, hw, hc⟩ := B.col hm
  exact Z.fit (Z.mul (B.any (B.colA ht) (t := t) (by omega) hin) (B.low hc (t := t + 1) (by omega) (Nat.lt_succ_self t))) (by omega)
 en t ht i hi hin j hj hm := by
  obtain ⟨K, w, hw, hc⟩ := B.col hm
  exact Z.fit (B.any hc (t := t + 1) (by omega) hin) (by omega)
 bp t ht l hl J hJ := by
  have hw := B.wb
  exact Z.fit (Z.mul (B.low (B.colA hl) (t := t + 1) (by omega) (Nat.lt_succ_self t)) (B.low (B.colB hJ) (t := n) (Nat.le_refl n) hl)) (by omega)
 bs t ht l hl J hJ := by
  have hw := B.wb
  have hok : Z.ok (Z.op (Z.op (M (t + 1)) D) (Z.op (M n) Kb)) (46 + 41 + (46 + wb)) := Z.okop (Z.okop (B.okM _ (by omega)) B.okD) (Z.okop (B.okM n (Nat.le_refl n)) B.okb)
  have h1 := Z.sums (n := l + 1) (w := 41 + 48 + (wb + 48) + 1) (K := Z.op (Z.op (M (t + 1)) D) (Z.op (M n) Kb)) (f := fun l => S.mul (el S (augM A b n) (t + 1) t (t + 1 + l)) (el S (augM A b n) n (t + 1 + l) (n + J)))
   (Z.okmono hok (by omega)) (by have := B.n5; omega) (fun s hs => Z.mul (B.low (B.colA (show t + 1 + s < n by omega)) (t := t + 1) (by omega) (Nat.lt_succ_self t)) (B.low (B.colB hJ) (t := n) (Nat.le_refl n) (by omega)))
  have h2 := Z.up (Z.up (B.low (B.colB hJ) (t := t + 1) (by omega) (Nat.lt_succ_self t)) B.okD) (B.okM n (Nat.le_refl n))
  have h3 := Z.mono (Z.cast h2 (show _ = Z.op (Z.op (M (t + 1)) D) (Z.op (M n) Kb) by ac_rfl)) (show _ ≤ 41 + 48 + (wb + 48) + 1 + 1 by omega)
  exact Z.fit (Z.add h3 h1) (by omega)
end
theorem cs_map (S : Sr α) {n : Nat} (κ : Nat → Nat) (d : Nat) : ∀ {l : List (Nat × α)}, (∀ e ∈ l, e.1 < n) → cs S (l.map (fun e => (κ e.1, e.2))) d = mrg S n (cs S l) κ d
 | [], _ => by
  unfold mrg
  rw [sm_none S (fun j _ => by
   by_cases h : κ j = d
   ·rw [if_pos h]; rfl
   ·rw [if_neg h])]
  rfl
 | e :: l, h => by
  have ih := cs_map S κ d (l := l) (fun x hx => h x (List.mem_cons_of_mem _ hx))
  have he := h e List.mem_cons_self
  show (if κ e.1 = d then S.add e.2 (cs S (l.map (fun e => (κ e.1, e.2))) d) else cs S (l.map (fun e => (κ e.1, e.2))) d) = _
  rw [ih]
  have e2 : mrg S n (cs S (e :: l)) κ d = S.add (sm S n (fun j => if e.1 = j then (if κ j = d then e.2 else S.zero) else S.zero)) (mrg S n (cs S l) κ d) := by
   unfold mrg
   rw [← sm_add]
   refine sm_congr S (fun j _ => ?_)
   show (if κ j = d then (if e.1 = j then S.add e.2 (cs S l j) else cs S l j) else S.zero) = _
   by_cases h1 : κ j = d
   ·by_cases h2 : e.1 = j
    ·simp only [h1, h2, if_true]
    ·simp only [h1, h2, if_true, if_false]; rw [S.zero_add]
   ·simp only [h1, if_false]; rw [ite_self, S.add_zero]
  rw [e2, sm_pick S (fun j => if κ j = d then e.2 else S.zero) he]
  by_cases h1 : κ e.1 = d
  ·rw [if_pos h1, if_pos h1]
  ·rw [if_neg h1, if_neg h1, S.zero_add]
theorem ns_list (f : Nat → Nat) (r : List Nat) : ∀ k, k ≤ r.length → ns k (fun c => f (r.getD c 0)) = ((r.take k).map f).sum
 | 0, _ => rfl
 | k + 1, h => by
  show ns k (fun c => f (r.getD c 0)) + f (r.getD k 0) = _
  rw [ns_list f r k (by omega), List.take_succ_eq_append_getElem (by omega), List.map_append, List.sum_append]
  congr 1
  rw [List.getD_eq_getElem?_getD, List.getElem?_eq_getElem (by omega)]
  simp
theorem ns_sub (f : Nat → Nat) : ∀ (n : Nat) (r : List Nat), r.Pairwise (· < ·) → (∀ x ∈ r, x < n) → (r.map f).sum ≤ ns n f
 | 0, r, _, h => by
  rcases r with _ | ⟨x, r⟩
  ·exact Nat.le_refl _
  ·exact absurd (h x List.mem_cons_self) (by omega)
 | n + 1, r, hp, h => by
  rcases List.eq_nil_or_concat r with rfl | ⟨q, x, rfl⟩
  ·exact Nat.zero_le _
  ·rw [List.concat_eq_append] at *
   obtain ⟨p1, _, p3⟩ := List.pairwise_append.1 hp
   have hq : ∀ y ∈ q, y < x := fun y hy => p3 y hy x (List.mem_singleton.2 rfl)
   have hx : x < n + 1 := h x (by simp)
   show _ ≤ ns n f + f n
   by_cases e : x = n
   ·subst e
    rw [List.map_append, List.sum_append]
    have := ns_sub f x q p1 hq
    simp
    omega
   ·have := ns_sub f n (q ++ [x]) hp (fun y hy => by
     rcases List.mem_append.1 hy with g | g
     ·have := hq y g; omega
     ·have := List.mem_singleton.1 g; omega)
    omega
structure Few (S : Sr α) (Sh : α → Prop) (A : Nat → Nat → α) (n : Nat) (M : Nat → List (Nat × α)) : Prop where
 n5 : n ≤ 5
 a : ∀ x y, x < n → y < n → A x y = cs S (M x) y
 sh : ∀ x, x < n → ∀ e ∈ M x, Sh e.2
 lt : ∀ x, x < n → ∀ e ∈ M x, e.1 < n
 ten : ns n (fun x => (M x).length) ≤ 10
theorem mrg_congr (S : Sr α) {n : Nat} {f g : Nat → α} (κ : Nat → Nat) (d : Nat) (h : ∀ j, j < n → f j = g j) : mrg S n f κ d = mrg S n g κ d := sm_congr S (fun j hj => by rw [h j hj])
theorem Few.merged {S : Sr α} {Sh : α → Prop} {A : Nat → Nat → α} {n : Nat} {M : Nat → List (Nat × α)} (h : Few S Sh A n M) :
  Few S Sh (mrgA S n A) (repR n A).length (fun c => (M ((repR n A).getD c 0)).map (fun e => ((clsR n A).getD e.1 0, e.2))) := by
 have hs := rep_is n A
 refine ⟨Nat.le_trans hs.le h.n5, fun c d hc hd => ?_, fun c hc e he => ?_, fun c hc e he => ?_, ?_⟩
 ·rw [cs_map S (fun j => (clsR n A).getD j 0) d (h.lt _ (hs.rl c hc))]
  exact mrg_congr S _ d (fun j hj => h.a _ j (hs.rl c hc) hj)
 ·obtain ⟨x, hx, rfl⟩ := List.mem_map.1 he
  exact h.sh _ (hs.rl c hc) x hx
 ·obtain ⟨x, hx, rfl⟩ := List.mem_map.1 he
  exact (hs.cl _ (h.lt _ (hs.rl c hc) x hx)).1
 ·have e1 : (fun c => ((M ((repR n A).getD c 0)).map (fun e => ((clsR n A).getD e.1 0, e.2))).length) = fun c => (fun x => (M x).length) ((repR n A).getD c 0) := by
   funext c; rw [List.length_map]
  rw [e1, ns_list (fun x => (M x).length) (repR n A) _ (Nat.le_refl _), List.take_length]
  refine Nat.le_trans (ns_sub _ n _ hs.up (fun x hx => ?_)) h.ten
  obtain ⟨i, hi, rfl⟩ := List.getElem_of_mem hx
  have := hs.rl i hi
  rwa [List.getD_eq_getElem?_getD, List.getElem?_eq_getElem hi] at this
structure Facts {S : Sr α} {Fit : α → Prop} (Z : Szs S Fit) (A : Nat → Nat → α) (n : Nat) : Prop where
 st : ∃ M : Nat → Z.I, ∀ t, t ≤ n → Z.ok (M t) 46 ∧ ∀ i j, i < t → j < t → Z.C (M t) 46 (stM S A t i j)
 a : ∃ D : Z.I, Z.ok D 41 ∧ ∀ x y, x < n → y < n → Z.C D 41 (A x y)
theorem solve_fits {S : Sr α} {Fit : α → Prop} (Z : Szs S Fit) {Sh : α → Prop} (hfew : ∀ {A : Nat → Nat → α} {n : Nat} {M : Nat → List (Nat × α)}, Few S Sh A n M → Facts Z A n) (m : Nat) :
  ∀ (s n : Nat) (A b : Nat → Nat → α) (M : Nat → List (Nat × α)) (Kb : Z.I) (wb : Nat), Few S Sh A n M → Z.ok Kb wb → (∀ x J, x < n → J < m → Z.C Kb wb (b x J)) → wb + 44 * n ≤ 245 → n ≤ s → SolveFits S Fit s n m A b
 | 0, _, _, _, _, _, _, _, _, _, _, _ => trivial
 | s + 1, n, A, b, M, Kb, wb, hF, hk, hb, hw, hs => by
  obtain ⟨⟨N, hN⟩, ⟨D, hD, hA⟩⟩ := hfew hF
  have h5 := hF.n5
  have hrep := rep_is n A
  unfold SolveFits
  by_cases h0 : n = 0
  ·subst h0
   have : (repR 0 A).length = 0 := by have := hrep.le; omega
   rw [if_pos this]
   trivial
  have B : Base Z A b n m N D Kb wb := ⟨h5, fun t ht => (hN t ht).1, fun t ht => (hN t ht).2, hD, hA, hk, hb, by omega⟩
  by_cases he : (repR n A).length = n
  ·rw [if_pos he]
   exact B.abs.all
  ·rw [if_neg he]
   have hlt : (repR n A).length < n := by have := hrep.le; omega
   have hsum : ∀ c, c < (repR n A).length → ∀ t, t ≤ n → ∀ J, J < m → Z.C (Z.op D Kb) (wb + 44) (sumRow S (fun _ => S.zero) (A ((repR n A).getD c 0)) b t J) := by
    intro c hc t ht J hJ
    have hok := Z.okop hD hk
    unfold sumRow
    have h1 := Z.sums (n := t) (K := Z.op D Kb) (w := 41 + wb + 1) (f := fun s => S.mul (A ((repR n A).getD c 0) s) (b s J)) (Z.okmono hok (by omega)) (by omega) (fun j hj => Z.mul (hA _ j (hrep.rl c hc) (by omega)) (hb j J (by omega) hJ))
    exact Z.mono (Z.add (Z.zero (Z.okmono hok (by omega))) h1) (by omega)
   refine ⟨fun c hc t ht => ?_, fun c hc t ht J hJ => ⟨?_, ?_⟩, ?_, fun i hi J hJ => ?_⟩
   ·refine Z.fit (Z.sums (n := t + 1) (K := D) (w := 41) (f := fun j => if (clsR n A).getD j 0 = (clsR n A).getD t 0 then A ((repR n A).getD c 0) j else S.zero) hD (by omega) (fun j hj => ?_)) (by omega)
    split
    ·exact hA _ j (hrep.rl c hc) (by omega)
    ·exact Z.zero hD
   ·exact Z.fit (Z.mul (hA _ t (hrep.rl c hc) ht) (hb t J ht hJ)) (by omega)
   ·exact Z.fit (hsum c hc (t + 1) ht J hJ) (by omega)
   ·exact solve_fits Z hfew m s _ _ _ _ (Z.op D Kb) (wb + 44) hF.merged (Z.okmono (Z.okop hD hk) (by omega)) (fun c J hc hJ => hsum c hc n (Nat.le_refl n) J hJ) (by omega) (by omega)
   ·have e := solveF_is S (s + 1) n A b hs i J hi
    unfold solveF at e
    rw [if_neg he] at e
    rw [e, ← el_xsol S A b hi]
    exact Z.fit (B.low (B.colB hJ) (Nat.le_refl n) hi) (by omega)
open Go.RowKit
theorem ten_one : tenP 1 = 10 := by unfold tenP; decide +kernel
theorem mat_clr {A : Nat → Nat → El 2} {M : Nat → List (Nat × El 2)} {n : Nat}
  (hA : ∀ x y, x < n → y < n → A x y = cs S2 (M x) y) (hM : ∀ x, x < n → ∀ e ∈ M x, Sh4 e.2.1) : ∀ t, t ≤ n →
  ∃ D : Rat, isI D ∧ D ≠ 0 ∧ ab D ≤ tenP (4 * ns t (fun x => (M x).length)) ∧ ∀ x y, x < t → y < n → ClE D (tenP (4 * ns t (fun x => (M x).length))) (A x y)
 | 0, _ => ⟨1, ⟨1, rfl⟩, by grind, by rw [ab_of (by grind)]; unfold tenP; simp [ns], fun x y h => absurd h (by omega)⟩
 | t + 1, ht => by
  obtain ⟨D, hD, hD0, hDb, hall⟩ := mat_clr hA hM t (by omega)
  have htn : t < n := ht
  have hpos : ∀ y ∈ (fins (M t)).map (·.2), 0 ≤ y := fun y hy => by
   obtain ⟨e, he, rfl⟩ := List.mem_map.1 hy
   exact (fins_mem7 (hM t htn) e he).1
  have hten : bl ((fins (M t)).map (·.2)) ≤ tenP (4 * (M t).length) := by
   have := bl_le (w := 4) (l := (fins (M t)).map (·.2)) (fun y hy => by
    obtain ⟨e, he, rfl⟩ := List.mem_map.1 hy
    exact fins_mem7 (hM t htn) e he)
   rw [List.length_map] at this
   exact Rat.le_trans this (tenP_mono (by have := fins_len7 (M t); omega))
  have h1 := dl_one ((fins (M t)).map (·.2))
  have hd : ab (dl ((fins (M t)).map (·.2))) ≤ tenP (4 * (M t).length) := Rat.le_trans (dl_ab _ hpos) hten
  have e1 : 4 * ns (t + 1) (fun x => (M x).length) = 4 * ns t (fun x => (M x).length) + 4 * (M t).length := by show 4 * (ns t (fun x => (M x).length) + (M t).length) = _; omega
  refine ⟨D * dl ((fins (M t)).map (·.2)), isI_mul hD (isI_dl _), fun e => ?_, ?_, fun x y hx hy => ?_⟩
  ·rcases Rat.mul_eq_zero.1 e with e | e
   ·exact hD0 e
   ·grind
  ·rw [e1, tenP_add]
   exact ab_mul_le hDb hd
  ·rw [e1, tenP_add]
   by_cases hxt : x < t
   ·exact (hall x y hxt hy).up (isI_dl _) hd
   ·obtain rfl : x = t := by omega
    intro hf
    rw [hA x y htn hy] at hf ⊢
    have hv := cs_val y hf
    have hp := isI_part (fun z => z == y) (fins (M x))
    have hle : dl ((fins (M x)).map (·.2)) * sl (((fins (M x)).filter (fun e => e.1 == y)).map (·.2)) ≤ tenP (4 * (M x).length) := by
     have h4 := dl_bl hpos
     have h5 : sl (((fins (M x)).filter (fun e => e.1 == y)).map (·.2)) ≤ sl ((fins (M x)).map (·.2)) := by
      have := sl_split (n := y + 1) (l := fins (M x)) (fun e he => (fins_mem7 (hM x htn) e he).1)
      refine Rat.le_trans (rs_ge (f := fun m => sl (((fins (M x)).filter (fun e => e.1 == m)).map (·.2))) (n := y + 1) (j := y) (fun m _ => ?_) (Nat.lt_succ_self y)) this
      refine sl_nonneg (fun z hz => ?_)
      obtain ⟨e, he, rfl⟩ := List.mem_map.1 hz
      exact (fins_mem7 (hM x htn) e (List.mem_filter.1 he).1).1
     have h6 := Rat.mul_le_mul_of_nonneg_left h5 (show 0 ≤ dl ((fins (M x)).map (·.2)) by grind)
     grind
    have h0 : 0 ≤ sl (((fins (M x)).filter (fun e => e.1 == y)).map (·.2)) := by
     refine sl_nonneg (fun z hz => ?_)
     obtain ⟨e, he, rfl⟩ := List.mem_map.1 hz
     exact (fins_mem7 (hM x htn) e (List.mem_filter.1 he).1).1
    rw [hv]
    have hc : Clr (dl ((fins (M x)).map (·.2))) (tenP (4 * (M x).length)) (sl (((fins (M x)).filter (fun e => e.1 == y)).map (·.2))) := by
     refine ⟨by rw [Rat.mul_comm]; exact hp, ?_⟩
     rw [Rat.mul_comm, ab_of (Rat.mul_nonneg (by grind) h0)]
     exact hle
    have h7 := hc.up hD hDb
    rw [Rat.mul_comm D, Rat.mul_comm (tenP (4 * ns x (fun x => (M x).length)))]
    exact h7
theorem ns_sum (f : Nat → Nat) {t n : Nat} (h : t ≤ n) : ns t f ≤ ns n f := by
 induction n with
 | zero => obtain rfl : t = 0 := by omega
           exact Nat.le_refl _
 | succ n ih =>
  by_cases e : t = n + 1
  ·subst e; exact Nat.le_refl _
  ·exact Nat.le_trans (ih (by omega)) (Nat.le_add_right _ _)
theorem tenP_up {w : Nat} {x : Rat} (h : x ≤ 9 * tenP w) : x ≤ tenP (w + 1) := by
 rw [tenP_add, ten_one]
 have := tenP_pos w
 grind
theorem tenP_pos1 (w : Nat) : 1 ≤ tenP w := by
 unfold tenP
 have : 1 ≤ 10 ^ w := Nat.pow_pos (by decide)
 exact_mod_cast this
def szs2 : Szs S2 (fun v => Fits v.1) where
 I := { K : Rat // isI K ∧ K ≠ 0 }
 op a b := ⟨a.1 * b.1, isI_mul a.2.1 b.2.1, fun e => by rcases Rat.mul_eq_zero.1 e with h | h; exact a.2.2 h; exact b.2.2 h⟩
 assoc a b c := Subtype.ext (Rat.mul_assoc _ _ _)
 comm a b := Subtype.ext (Rat.mul_comm _ _)
 ok K w := ab K.1 ≤ tenP w
 C K w v := ab K.1 ≤ tenP w ∧ ClE K.1 (tenP w) v
 okop h1 h2 := by dsimp only; rw [tenP_add]; exact ab_mul_le h1 h2
 okmono h hw := Rat.le_trans h (tenP_mono hw)
 mono h hw := ⟨Rat.le_trans h.1 (tenP_mono hw), h.2.mono (tenP_mono hw)⟩
 zero h := ⟨h, clE_zero (tenP_pos _)⟩
 mul h1 h2 := by
  refine ⟨?_, ?_⟩
  ·refine Rat.le_trans ?_ (tenP_mono (Nat.le_succ _))
   rw [tenP_add]; exact ab_mul_le h1.1 h2.1
  ·refine ClE.mono ?_ (tenP_mono (Nat.le_succ _))
   rw [tenP_add]; exact ClE.mul (tenP_pos _) (tenP_pos _) h1.2 h2.2
 add h1 h2 := by
  refine ⟨Rat.le_trans h1.1 (tenP_mono (Nat.le_succ _)), (h1.2.add h2.2).mono (tenP_up ?_)⟩
  have := tenP_pos ‹_›
  grind
 sums {K w f n} hk hn h := by
  refine ⟨Rat.le_trans hk (tenP_mono (Nat.le_succ _)), (ClE.sm (tenP_pos w) (fun m hm => (h m hm).2)).mono (tenP_up ?_)⟩
  refine Rat.mul_le_mul_of_nonneg_right ?_ (tenP_pos w)
  exact_mod_cast hn
 up {K L w l a} h hl := by
  refine ⟨?_, ?_⟩
  ·rw [tenP_add]; exact ab_mul_le h.1 hl
  ·rw [tenP_add]; exact h.2.up L.2.1 hl
 fit {K w a} h hw := (h.2.wide K.2.1 K.2.2 h.1).fits (by omega)
theorem wide_sums {k : Int} (hk : IsKind k) (h : k = 1 ∨ k = 3) {w : Nat} (hw : 1 ≤ w) {f : Nat → El k} : ∀ {n : Nat}, (∀ m, m < n → WideE w (f m).1) → WideE w (sm (srE k hk) n f).1
 | 0, _ => (wideE_topOf k).mono hw
 | n + 1, hf => wide_pick h (wide_sums hk h hw (fun m hm => hf m (by omega))) (hf n (by omega))
theorem ns_const : ∀ n, ns n (fun _ => 1) = n
 | 0 => rfl
 | n + 1 => by show ns n (fun _ => 1) + 1 = n + 1; rw [ns_const n]
def szs13 {k : Int} (hk : IsKind k) (h : k = 1 ∨ k = 3) : Szs (srE k hk) (fun v => Fits v.1) where
 I := Unit
 op _ _ := ()
 assoc _ _ _ := rfl
 comm _ _ := rfl
 ok _ w := 1 ≤ w
 C _ w v := 1 ≤ w ∧ WideE w v.1
 okop h1 h2 := by omega
 okmono h1 h2 := by omega
 mono h hw := ⟨by omega, h.2.mono hw⟩
 zero {_ w} hw := ⟨hw, (wideE_topOf k).mono hw⟩
 mul h1 h2 := ⟨by omega, wideE_times k h1.1 h1.2 h2.2⟩
 add h1 h2 := ⟨by omega, (wide_pick h h1.2 h2.2).mono (by omega)⟩
 sums {_ w f n} hw _ hf := ⟨by omega, (wide_sums hk h hw (fun m hm => (hf m hm).2)).mono (by omega)⟩
 up h _ := ⟨by omega, h.2.mono (by omega)⟩
 fit h hw := h.2.fits (by omega)
theorem facts2 {A : Nat → Nat → El 2} {n : Nat} {M : Nat → List (Nat × El 2)} (h : Few S2 (fun v => Sh4 v.1) A n M) : Facts szs2 A n where
 st := by
  have hex : ∀ t, ∃ K : szs2.I, t ≤ n → szs2.ok K 46 ∧ ∀ i j, i < t → j < t → szs2.C K 46 (stM S2 A t i j) := by
   intro t
   by_cases ht : t ≤ n
   ·obtain ⟨K, k1, k2, k3, k4⟩ := star_clr (A := A) (M := M) (n := t) (s := 10) (fun x y hx hy => h.a x y (by omega) (by omega)) (fun x hx => h.sh x (by omega)) (Nat.le_trans (ns_sum _ ht) h.ten)
    have h5 := h.n5
    have g1 : ab K ≤ tenP 46 := Rat.le_trans k3 (tenP_mono (by omega))
    exact ⟨⟨K, k1, k2⟩, fun _ => ⟨g1, fun i j hi hj => ⟨g1, (k4 i j hi hj).mono (tenP_mono (by omega))⟩⟩⟩
   ·exact ⟨⟨1, ⟨1, rfl⟩, by grind⟩, fun h => absurd h ht⟩
  obtain ⟨f, hf⟩ := Classical.axiomOfChoice hex
  exact ⟨f, fun t ht => hf t ht⟩
 a := by
  obtain ⟨D, d1, d2, d3, d4⟩ := mat_clr h.a h.sh n (Nat.le_refl n)
  have ht := h.ten
  have g1 : ab D ≤ tenP 41 := Rat.le_trans d3 (tenP_mono (by omega))
  exact ⟨⟨D, d1, d2⟩, g1, fun x y hx hy => ⟨g1, (d4 x y hx hy).mono (tenP_mono (by omega))⟩⟩
theorem facts13 {k : Int} (hk : IsKind k) (h13 : k = 1 ∨ k = 3) {A : Nat → Nat → El k} {n : Nat} {M : Nat → List (Nat × El k)} (h : Few (srE k hk) (fun v => Sh4 v.1) A n M) : Facts (szs13 hk h13) A n := by
 have h4 : ∀ x y, x < n → y < n → WideE 4 (A x y).1 := fun x y hx hy => by
  rw [h.a x y hx hy]
  exact cs_wide hk h13 y (h.sh x hx)
 refine ⟨⟨fun _ => (), fun t ht => ⟨show 1 ≤ 46 by omega, fun i j hi hj => ?_⟩⟩, ⟨(), show 1 ≤ 41 by omega, fun x y hx hy => ⟨by omega, (h4 x y hx hy).mono (by omega)⟩⟩⟩
 have h5 := h.n5
 have h1 := el_way13 hk h13 (A := A) (n := t) (w := 4) (by omega) (fun x y hx hy => h4 x y (by omega) (by omega)) hi hj
 have h2 : WideE 46 (idm (srE k hk) i j).1 := by
  unfold idm
  split
  ·exact (wideE_unit k).mono (by omega)
  ·exact (wideE_topOf k).mono (by omega)
 have : (4 + 1) * (t + 1) + 1 ≤ 46 := by omega
 exact ⟨by omega, wide_pick h13 h2 (h1.mono this)⟩
theorem few_fits2 {A b : Nat → Nat → El 2} {n m s : Nat} {M : Nat → List (Nat × El 2)} (h : Few S2 (fun v => Sh4 v.1) A n M) {K : Rat} (hK : isI K) (h0 : K ≠ 0) (hk : ab K ≤ tenP 24)
  (hb : ∀ x J, x < n → J < m → ClE K (tenP 24) (b x J)) (hs : n ≤ s) : SolveFits S2 (fun v => Fits v.1) s n m A b := by
 have h5 := h.n5
 exact solve_fits szs2 (Sh := fun v => Sh4 v.1) (fun hF => facts2 hF) m s n A b M ⟨K, hK, h0⟩ 24 h hk (fun x J hx hJ => ⟨hk, hb x J hx hJ⟩) (by omega) hs
theorem few_fits13 {k : Int} (hk : IsKind k) (h13 : k = 1 ∨ k = 3) {A b : Nat → Nat → El k} {n m s : Nat} {M : Nat → List (Nat × El k)} (h : Few (srE k hk) (fun v => Sh4 v.1) A n M)
  (hb : ∀ x J, x < n → J < m → WideE 25 (b x J).1) (hs : n ≤ s) : SolveFits (srE k hk) (fun v => Fits v.1) s n m A b := by
 have h5 := h.n5
 exact solve_fits (szs13 hk h13) (Sh := fun v => Sh4 v.1) (fun hF => facts13 hk h13 hF) m s n A b M () 25 h (show 1 ≤ 25 by omega) (fun x J hx hJ => ⟨by omega, hb x J hx hJ⟩) (by omega) hs
theorem star_fits {k : Int} (hk : IsKind k) {A : Nat → Nat → El k} {n s : Nat} {M : Nat → List (Nat × El k)} (h : Few (srE k hk) (fun v => Sh4 v.1) A n M) (hs : n ≤ s) :
  SolveFits (srE k hk) (fun v => Fits v.1) s n n A (idm (srE k hk)) := by
 have hw : ∀ x J, WideE 1 (idm (srE k hk) x J).1 := fun x J => by
  unfold idm
  split
  ·exact wideE_unit k
  ·exact wideE_topOf k
 rcases hk with rfl | rfl | rfl
 ·exact few_fits13 _ (.inl rfl) h (fun x J _ _ => (hw x J).mono (by omega)) hs
 ·refine few_fits2 h (K := 1) ⟨1, rfl⟩ (by grind) (by rw [ab_of (by grind)]; exact tenP_pos1 24) (fun x J _ _ hf => ?_) hs
  show Clr 1 (tenP 24) (val (idm S2 x J))
  unfold idm
  split
  ·exact clr_one ⟨1, rfl⟩ (by rw [ab_of (by grind)]; exact tenP_pos1 24)
  ·rw [val_zero]; exact clr_zero (tenP_pos 24)
 ·exact few_fits13 _ (.inr rfl) h (fun x J _ _ => (hw x J).mono (by omega)) hs
theorem col_fits {k : Int} (hk : IsKind k) {A : Nat → Nat → El k} {F : Nat → El k} {n s : Nat} {M : Nat → List (Nat × El k)} (h : Few (srE k hk) (fun v => Sh4 v.1) A n M) (hF : ∀ x, x < n → Sh4 (F x).1) (hs : n ≤ s) :
  SolveFits (srE k hk) (fun v => Fits v.1) s n 1 A (fun x _ => F x) := by
 have h5 := h.n5
 rcases hk with rfl | rfl | rfl
 ·exact few_fits13 _ (.inl rfl) h (fun x J hx _ => ((hF x hx).wide).mono (by omega)) hs
 ·have hc := ns_const n
  obtain ⟨D, d1, d2, d3, d4⟩ := mat_clr (A := fun x y => if 0 = y then F x else S2.zero) (M := fun x => [(0, F x)]) (n := n) (fun x y hx hy => by
   show (if 0 = y then F x else S2.zero) = if 0 = y then S2.add (F x) S2.zero else S2.zero
   rw [S2.add_zero]) (fun x hx e he => by
   obtain rfl := List.mem_singleton.1 he
   exact hF x hx) n (Nat.le_refl n)
  have e1 : 4 * ns n (fun x => ([(0, F x)] : List (Nat × El 2)).length) ≤ 24 := by
   show 4 * ns n (fun _ => 1) ≤ 24
   omega
  refine few_fits2 h d1 d2 (Rat.le_trans d3 (tenP_mono e1)) (fun x J hx hJ => ?_) hs
  have := d4 x 0 hx (by omega)
  rw [if_pos rfl] at this
  exact this.mono (tenP_mono e1)
 ·exact few_fits13 _ (.inr rfl) h (fun x J hx _ => ((hF x hx).wide).mono (by omega)) hs
end Go.Proofs.YtaogepcaoogpgaaGreatDoor
