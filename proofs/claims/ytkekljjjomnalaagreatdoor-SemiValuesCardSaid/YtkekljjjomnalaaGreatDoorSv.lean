/- The reference of layer 4, by contract. · The reference's Times, Star, Over, by contract. -/
import Derived.Test.YtkekljjjomnalaaGreatDoorZe
import Derived.Test.YtkekljjjomnalaaGreatDoorSs
set_option linter.unusedVariables false
set_option linter.unusedSimpArgs false
namespace Go.Proofs.YtkekljjjomnalaaGreatDoor
open Go.RowKit
open Go.Lib (nDigits decDigits)

/-! ### Kind, Valid, Weight -/
def RK (k : Int) (x : Bool) : Prop := ∀ w, Calls Tryz.prog 35 #[.int .i64 k] w fun e w' => e = .returned (.bool x) ∧ w = w'
theorem rk_yes (k : Int) (h1 : 1 ≤ k) (h2 : k ≤ 3) : RK k true := fun w => by
  go_enter Tryz.func35, Tryz.ntmps35
  go_wp2
  go_ret
  exact ⟨rfl, rfl⟩
theorem rk_low (k : Int) (h1 : ¬ 1 ≤ k) : RK k false := fun w => by
  go_enter Tryz.func35, Tryz.ntmps35
  go_wp2
  go_ret
  exact ⟨rfl, rfl⟩
theorem rk_high (k : Int) (h1 : 1 ≤ k) (h2 : ¬ k ≤ 3) : RK k false := fun w => by
  go_enter Tryz.func35, Tryz.ntmps35
  go_wp2
  go_ret
  exact ⟨rfl, rfl⟩
theorem rk_kind {k : Int} (h : k = 1 ∨ k = 2 ∨ k = 3) : RK k true := rk_yes k (by omega) (by omega)
theorem rk_none {k : Int} (h : ¬ (k = 1 ∨ k = 2 ∨ k = 3)) : RK k false := by
  by_cases h1 : 1 ≤ k
  · exact rk_high k h1 (by omega)
  · exact rk_low k h1
theorem k_one (k : Int) : ((k == 1) = true ∧ (k != 1) = false ∧ k = 1) ∨ ((k == 1) = false ∧ (k != 1) = true ∧ k ≠ 1) := by
  by_cases h : k = 1
  · subst h; exact .inl ⟨rfl, rfl, rfl⟩
  · exact .inr ⟨by simpa using h, by simpa using h, h⟩
def RatV (a : ByteArray) (x : Bool) : Prop := ∀ w, Calls Tryz.prog 36 #[.string a] w (ValPost (.bool x) w)
def RatC (a b : ByteArray) (c : Int) : Prop := ∀ w, Calls Tryz.prog 37 #[.string a, .string b] w (ValPost (.int .i64 c) w)
set_option maxRecDepth 100000 in
set_option maxHeartbeats 1000000 in
theorem rv_none (k : Int) (a : ByteArray) (K : Hid (RK k false)) (w : World) : Calls Tryz.prog 21 #[.int .i64 k, .string a] w (ValPost (.bool false) w) := by
  go_enter Tryz.func21, Tryz.ntmps21
  go_wp2_with fail
  refine (K.out _).mono ?_
  rintro e w' ⟨rfl, rfl⟩
  go_wp2
  go_ret
  exact ⟨rfl, grown_refl _ _⟩
set_option maxRecDepth 100000 in
set_option maxHeartbeats 1000000 in
theorem rv_top (k : Int) (a : ByteArray) (K : Hid (RK k true)) (f1 : (a.toList == [105, 110, 102]) = true) (w : World) : Calls Tryz.prog 21 #[.int .i64 k, .string a] w (ValPost (.bool true) w) := by
  go_enter Tryz.func21, Tryz.ntmps21
  go_wp2_with fail
  refine (K.out _).mono ?_
  rintro e w' ⟨rfl, rfl⟩
  go_wp2
  go_ret
  exact ⟨rfl, grown_refl _ _⟩
set_option maxRecDepth 100000 in
set_option maxHeartbeats 1000000 in
theorem rv_low (k : Int) (a : ByteArray) (x : Bool) (K : Hid (RK k true)) (f1 : (a.toList == [105, 110, 102]) = false) (f2 : (a.toList == [45, 105, 110, 102]) = true) (k1 : (k == 1) = x) (w : World) : Calls Tryz.prog 21 #[.int .i64 k, .string a] w (ValPost (.bool x) w) := by
  go_enter Tryz.func21, Tryz.ntmps21
  go_wp2_with fail
  refine (K.out _).mono ?_
  rintro e w' ⟨rfl, rfl⟩
  go_wp2
  go_ret
  exact ⟨rfl, grown_refl _ _⟩
set_option maxRecDepth 100000 in
set_option maxHeartbeats 1000000 in
theorem rv_not (k : Int) (a : ByteArray) (K : Hid (RK k true)) (f1 : (a.toList == [105, 110, 102]) = false) (f2 : (a.toList == [45, 105, 110, 102]) = false) (V : Hid (RatV a false)) (w : World) : Calls Tryz.prog 21 #[.int .i64 k, .string a] w (ValPost (.bool false) w) := by
  go_enter Tryz.func21, Tryz.ntmps21
  go_wp2_with fail
  refine (K.out _).mono ?_
  rintro e w' ⟨rfl, rfl⟩
  go_wp2_with fail
  refine (V.out _).mono ?_
  rintro e w1 ⟨rfl, hg⟩
  have G1 := Lib.hid (hg)
  clear hg
  go_wp2
  go_ret
  exact ⟨rfl, G1.out⟩
set_option maxRecDepth 100000 in
set_option maxHeartbeats 1000000 in
theorem rv_cost (k : Int) (a : ByteArray) (K : Hid (RK k true)) (f1 : (a.toList == [105, 110, 102]) = false) (f2 : (a.toList == [45, 105, 110, 102]) = false) (V : Hid (RatV a true)) (k1 : (k == 1) = true) (w : World) : Calls Tryz.prog 21 #[.int .i64 k, .string a] w (ValPost (.bool true) w) := by
  go_enter Tryz.func21, Tryz.ntmps21
  go_wp2_with fail
  refine (K.out _).mono ?_
  rintro e w' ⟨rfl, rfl⟩
  go_wp2_with fail
  refine (V.out _).mono ?_
  rintro e w1 ⟨rfl, hg⟩
  have G1 := Lib.hid (hg)
  clear hg
  go_wp2
  go_ret
  exact ⟨rfl, G1.out⟩
set_option maxRecDepth 100000 in
set_option maxHeartbeats 1000000 in
theorem rv_cmp (k : Int) (a : ByteArray) (c : Int) (K : Hid (RK k true)) (f1 : (a.toList == [105, 110, 102]) = false) (f2 : (a.toList == [45, 105, 110, 102]) = false) (V : Hid (RatV a true)) (k1 : (k == 1) = false) (C : Hid (RatC a ⟨#[48]⟩ c)) (w : World) : Calls Tryz.prog 21 #[.int .i64 k, .string a] w (ValPost (.bool (decide (0 ≤ c))) w) := by
  go_enter Tryz.func21, Tryz.ntmps21
  go_wp2_with fail
  refine (K.out _).mono ?_
  rintro e w' ⟨rfl, rfl⟩
  go_wp2_with fail
  refine (V.out _).mono ?_
  rintro e w1 ⟨rfl, hg⟩
  have G1 := Lib.hid (hg)
  clear hg
  go_wp2_with fail
  refine (C.out _).mono ?_
  rintro e w2 ⟨rfl, hg⟩
  have G2 := Lib.hid (grown_trans G1.out hg)
  clear hg G1
  go_wp2
  go_ret
  exact ⟨rfl, G2.out⟩
theorem top_low (v : Ext) (h : isTop v = true) : isLow v = false := by rcases v with (_ | _) | x <;> first | rfl | cases h
theorem txt_no_inf {a : ByteArray} (h : NoExt a) : (a.toList == [105, 110, 102]) = false := by rw [← inf_list, bytes_ne]; exact decide_eq_false (fun e => h (.inl true) e)
theorem txt_no_low {a : ByteArray} (h : NoExt a) : (a.toList == [45, 105, 110, 102]) = false := by rw [← low_list, bytes_ne]; exact decide_eq_false (fun e => h (.inl false) e)
theorem has_num (k : Int) (hk : k = 1 ∨ k = 2 ∨ k = 3) (x : Rat) : hasE k (.inr x) = (decide (k = 1) || decide (0 ≤ x)) := by
  rcases hk with rfl | rfl | rfl <;> simp [hasE]
theorem rv_ext {k : Int} (hk : k = 1 ∨ k = 2 ∨ k = 3) {a : ByteArray} {v : Ext} (h : IsE a v) : VB 21 k a (hasE k v) := fun w => by
  have K := Lib.hid (rk_kind hk)
  have i := txt_top h; have j := txt_low h
  rcases v with (_ | _) | x
  · refine rv_low k a _ K i j ?_ w
    show (k == 1) = decide (k = 1)
    rw [Bool.eq_iff_iff, beq_iff_eq, decide_eq_true_eq]
  · have := rv_top k a K i w
    rw [show hasE k (.inl true) = true by rcases hk with rfl | rfl | rfl <;> rfl]
    exact this
  · have V := Lib.hid (show RatV a true from fun w => rvalid_yes h w)
    rw [has_num k hk]
    rcases k_one k with ⟨k1, _, k2⟩ | ⟨k1, _, k2⟩
    · rw [decide_eq_true k2]
      exact rv_cost k a K i j V k1 w
    · rw [decide_eq_false k2, Bool.false_or]
      have C := Lib.hid (show RatC a ⟨#[48]⟩ (cmpQ x 0) from fun w => rcmp_rat h zero_rat w)
      have z : 0 ≤ cmpQ x 0 ↔ 0 ≤ x := by rw [← Rat.not_lt, ← cmpQ_neg]; omega
      rw [← decide_eq_decide.2 z]
      exact rv_cmp k a _ K i j V k1 C w
theorem rv_yes {k : Int} {a : ByteArray} {v : Ext} (h : Val k a v) : VB 21 k a true := by
  have := rv_ext h.kind h.e
  rw [h.has] at this
  exact this
theorem rv_no {k : Int} {a : ByteArray} (h : NoVal k a) (ha : a.size ≤ maxLen) : VB 21 k a false := by
  by_cases hk : k = 1 ∨ k = 2 ∨ k = 3
  · rcases ext_or a with ⟨v, hv⟩ | hn
    · have := rv_ext hk hv
      rw [h v hv] at this
      exact this
    · exact fun w => rv_not k a (Lib.hid (rk_kind hk)) (txt_no_inf hn) (txt_no_low hn) (Lib.hid fun w => rvalid_no hn.rat ha w) w
  · exact fun w => rv_none k a (Lib.hid (rk_none hk)) w

set_option maxRecDepth 100000 in
set_option maxHeartbeats 1000000 in
theorem rw_bad (k : Int) (a : ByteArray) (V : Hid (VB 21 k a false)) (w : World) : Calls Tryz.prog 23 #[.int .i64 k, .string a] w (ValPost (.bool false) w) := by
  go_enter Tryz.func23, Tryz.ntmps23
  go_wp2_with fail
  refine (V.out _).mono ?_
  rintro e w1 ⟨rfl, hg⟩
  have G1 := Lib.hid (hg)
  clear hg
  go_wp2
  go_ret
  exact ⟨rfl, G1.out⟩
set_option maxRecDepth 100000 in
set_option maxHeartbeats 1000000 in
theorem rw_top (k : Int) (a : ByteArray) (V : Hid (VB 21 k a true)) (f : (a.toList == [105, 110, 102]) = true) (fn : (a.toList != [105, 110, 102]) = false) (w : World) : Calls Tryz.prog 23 #[.int .i64 k, .string a] w (ValPost (.bool false) w) := by
  go_enter Tryz.func23, Tryz.ntmps23
  go_wp2_with fail
  refine (V.out _).mono ?_
  rintro e w1 ⟨rfl, hg⟩
  have G1 := Lib.hid (hg)
  clear hg
  go_wp2
  go_ret
  exact ⟨rfl, G1.out⟩
set_option maxRecDepth 100000 in
set_option maxHeartbeats 1000000 in
theorem rw_low (k : Int) (a : ByteArray) (V : Hid (VB 21 k a true)) (f : (a.toList == [105, 110, 102]) = false) (fn : (a.toList != [105, 110, 102]) = true) (g : (a.toList == [45, 105, 110, 102]) = true) (gn : (a.toList != [45, 105, 110, 102]) = false) (w : World) : Calls Tryz.prog 23 #[.int .i64 k, .string a] w (ValPost (.bool false) w) := by
  go_enter Tryz.func23, Tryz.ntmps23
  go_wp2_with fail
  refine (V.out _).mono ?_
  rintro e w1 ⟨rfl, hg⟩
  have G1 := Lib.hid (hg)
  clear hg
  go_wp2
  go_ret
  exact ⟨rfl, G1.out⟩
set_option maxRecDepth 100000 in
set_option maxHeartbeats 1000000 in
theorem rw_cost (k : Int) (a : ByteArray) (V : Hid (VB 21 k a true)) (f : (a.toList == [105, 110, 102]) = false) (fn : (a.toList != [105, 110, 102]) = true) (g : (a.toList == [45, 105, 110, 102]) = false) (gn : (a.toList != [45, 105, 110, 102]) = true) (k1 : (k == 1) = true) (w : World) : Calls Tryz.prog 23 #[.int .i64 k, .string a] w (ValPost (.bool true) w) := by
  go_enter Tryz.func23, Tryz.ntmps23
  go_wp2_with fail
  refine (V.out _).mono ?_
  rintro e w1 ⟨rfl, hg⟩
  have G1 := Lib.hid (hg)
  clear hg
  go_wp2
  go_ret
  exact ⟨rfl, G1.out⟩
set_option maxRecDepth 100000 in
set_option maxHeartbeats 1000000 in
theorem rw_zero (k : Int) (a : ByteArray) (V : Hid (VB 21 k a true)) (f : (a.toList == [105, 110, 102]) = false) (fn : (a.toList != [105, 110, 102]) = true) (g : (a.toList == [45, 105, 110, 102]) = false) (gn : (a.toList != [45, 105, 110, 102]) = true) (k1 : (k == 1) = false) (z : (a.toList == [48]) = true) (zn : (a.toList != [48]) = false) (w : World) : Calls Tryz.prog 23 #[.int .i64 k, .string a] w (ValPost (.bool false) w) := by
  go_enter Tryz.func23, Tryz.ntmps23
  go_wp2_with fail
  refine (V.out _).mono ?_
  rintro e w1 ⟨rfl, hg⟩
  have G1 := Lib.hid (hg)
  clear hg
  go_wp2
  go_ret
  exact ⟨rfl, G1.out⟩
set_option maxRecDepth 100000 in
set_option maxHeartbeats 1000000 in
theorem rw_num (k : Int) (a : ByteArray) (V : Hid (VB 21 k a true)) (f : (a.toList == [105, 110, 102]) = false) (fn : (a.toList != [105, 110, 102]) = true) (g : (a.toList == [45, 105, 110, 102]) = false) (gn : (a.toList != [45, 105, 110, 102]) = true) (k1 : (k == 1) = false) (z : (a.toList == [48]) = false) (zn : (a.toList != [48]) = true) (w : World) : Calls Tryz.prog 23 #[.int .i64 k, .string a] w (ValPost (.bool true) w) := by
  go_enter Tryz.func23, Tryz.ntmps23
  go_wp2_with fail
  refine (V.out _).mono ?_
  rintro e w1 ⟨rfl, hg⟩
  have G1 := Lib.hid (hg)
  clear hg
  go_wp2
  go_ret
  exact ⟨rfl, G1.out⟩
theorem flip_t {l m : List UInt8} (h : (l == m) = true) : (l != m) = false := by rw [bne, h]; rfl
theorem flip_f {l m : List UInt8} (h : (l == m) = false) : (l != m) = true := by rw [bne, h]; rfl
/-- A value that is no weight: inf, -inf, or 0 but for Tropical. -/
theorem wgt_of_has {k : Int} (hk : k = 1 ∨ k = 2 ∨ k = 3) {x : Rat} (h : hasE k (.inr x) = true) : wgtE k (.inr x) = (decide (k = 1) || !decide (x = 0)) := by
  rw [has_num k hk] at h
  have : wgtE k (.inr x) = (decide (k = 1) || decide (0 < x)) := by rcases hk with rfl | rfl | rfl <;> simp [wgtE]
  rw [this]
  by_cases k1 : k = 1
  · rw [decide_eq_true k1]; rfl
  · rw [decide_eq_false k1, Bool.false_or] at *
    have h0 := of_decide_eq_true h
    by_cases hx : x = 0
    · subst hx; rfl
    · rw [decide_eq_true (Rat.lt_of_le_of_ne h0 (Ne.symm hx)), decide_eq_false hx]; rfl
theorem rw_val {k : Int} {a : ByteArray} {v : Ext} (h : Val k a v) : VB 23 k a (wgtE k v) := fun w => by
  have V := Lib.hid (rv_yes h)
  have i := txt_top h.e; have j := txt_low h.e; have z := txt_zero h.e
  have hk := h.kind
  rcases v with (_ | _) | x
  · exact rw_low k a V i (flip_f i) j (flip_t j) w
  · exact rw_top k a V i (flip_t i) w
  · rw [wgt_of_has hk h.has]
    rcases k_one k with ⟨k1, _, k2⟩ | ⟨k1, _, k2⟩
    · rw [decide_eq_true k2]
      exact rw_cost k a V i (flip_f i) j (flip_f j) k1 w
    · rw [decide_eq_false k2, Bool.false_or]
      have z : (a.toList == [48]) = decide (x = 0) := z
      by_cases hx : x = 0
      · rw [decide_eq_true hx] at z ⊢
        exact rw_zero k a V i (flip_f i) j (flip_f j) k1 z (flip_t z) w
      · rw [decide_eq_false hx] at z ⊢
        exact rw_num k a V i (flip_f i) j (flip_f j) k1 z (flip_f z) w
theorem rw_yes {k : Int} {a : ByteArray} {v : Ext} (h : Wgt k a v) : VB 23 k a true := by
  have := rw_val h.val
  rw [h.has] at this
  exact this
theorem rw_no {k : Int} {a : ByteArray} (h : NoWgt k a) (ha : a.size ≤ maxLen) : VB 23 k a false := by
  rcases val_or k a with ⟨v, hv⟩ | hn
  · have := rw_val hv
    rw [h v hv.e] at this
    exact this
  · exact fun w => rw_bad k a (Lib.hid (rv_no hn ha)) w

/-! ### Zero, One -/
set_option maxRecDepth 100000 in
set_option maxHeartbeats 1000000 in
theorem rzero_none (k : Int) (K : Hid (RK k false)) (w : World) : Calls Tryz.prog 24 #[.int .i64 k] w (ValPost (.string ⟨#[]⟩) w) := by
  go_enter Tryz.func24, Tryz.ntmps24
  go_wp2_with fail
  refine (K.out _).mono ?_
  rintro e w' ⟨rfl, rfl⟩
  go_wp2
  go_ret
  exact ⟨rfl, grown_refl _ _⟩
set_option maxRecDepth 100000 in
set_option maxHeartbeats 1000000 in
theorem rzero_cost (k : Int) (K : Hid (RK k true)) (k1 : (k == 1) = true) (w : World) : Calls Tryz.prog 24 #[.int .i64 k] w (ValPost (.string infS) w) := by
  go_enter Tryz.func24, Tryz.ntmps24
  go_wp2_with fail
  refine (K.out _).mono ?_
  rintro e w' ⟨rfl, rfl⟩
  go_wp2
  go_ret
  exact ⟨rfl, grown_refl _ _⟩
set_option maxRecDepth 100000 in
set_option maxHeartbeats 1000000 in
theorem rzero_other (k : Int) (K : Hid (RK k true)) (k1 : (k == 1) = false) (w : World) : Calls Tryz.prog 24 #[.int .i64 k] w (ValPost (.string zeroS) w) := by
  go_enter Tryz.func24, Tryz.ntmps24
  go_wp2_with fail
  refine (K.out _).mono ?_
  rintro e w' ⟨rfl, rfl⟩
  go_wp2
  go_ret
  exact ⟨rfl, grown_refl _ _⟩
theorem rzero_any (k : Int) (w : World) : Calls Tryz.prog 24 #[.int .i64 k] w (ValPost (.string (zeroT k)) w) := by
  unfold zeroT
  by_cases hk : k = 1 ∨ k = 2 ∨ k = 3
  · rcases k_one k with ⟨k1, _, k2⟩ | ⟨k1, _, k2⟩
    · rw [if_pos k2]; exact rzero_cost k (Lib.hid (rk_kind hk)) k1 w
    · rw [if_neg k2, if_pos (by rcases hk with h | h; exact absurd h k2; exact h)]; exact rzero_other k (Lib.hid (rk_kind hk)) k1 w
  · rw [if_neg (fun h => hk (.inl h)), if_neg (fun h => hk (.inr h))]
    exact rzero_none k (Lib.hid (rk_none hk)) w
set_option maxRecDepth 100000 in
set_option maxHeartbeats 1000000 in
theorem rone_none (k : Int) (K : Hid (RK k false)) (w : World) : Calls Tryz.prog 25 #[.int .i64 k] w (ValPost (.string ⟨#[]⟩) w) := by
  go_enter Tryz.func25, Tryz.ntmps25
  go_wp2_with fail
  refine (K.out _).mono ?_
  rintro e w' ⟨rfl, rfl⟩
  go_wp2
  go_ret
  exact ⟨rfl, grown_refl _ _⟩
set_option maxRecDepth 100000 in
set_option maxHeartbeats 1000000 in
theorem rone_cost (k : Int) (K : Hid (RK k true)) (k1 : (k == 1) = true) (w : World) : Calls Tryz.prog 25 #[.int .i64 k] w (ValPost (.string zeroS) w) := by
  go_enter Tryz.func25, Tryz.ntmps25
  go_wp2_with fail
  refine (K.out _).mono ?_
  rintro e w' ⟨rfl, rfl⟩
  go_wp2
  go_ret
  exact ⟨rfl, grown_refl _ _⟩
set_option maxRecDepth 100000 in
set_option maxHeartbeats 1000000 in
theorem rone_other (k : Int) (K : Hid (RK k true)) (k1 : (k == 1) = false) (w : World) : Calls Tryz.prog 25 #[.int .i64 k] w (ValPost (.string oneS) w) := by
  go_enter Tryz.func25, Tryz.ntmps25
  go_wp2_with fail
  refine (K.out _).mono ?_
  rintro e w' ⟨rfl, rfl⟩
  go_wp2
  go_ret
  exact ⟨rfl, grown_refl _ _⟩
theorem rone_any (k : Int) (w : World) : Calls Tryz.prog 25 #[.int .i64 k] w (ValPost (.string (oneT k)) w) := by
  unfold oneT
  by_cases hk : k = 1 ∨ k = 2 ∨ k = 3
  · rcases k_one k with ⟨k1, _, k2⟩ | ⟨k1, _, k2⟩
    · rw [if_pos k2]; exact rone_cost k (Lib.hid (rk_kind hk)) k1 w
    · rw [if_neg k2, if_pos (by rcases hk with h | h; exact absurd h k2; exact h)]; exact rone_other k (Lib.hid (rk_kind hk)) k1 w
  · rw [if_neg (fun h => hk (.inl h)), if_neg (fun h => hk (.inr h))]
    exact rone_none k (Lib.hid (rk_none hk)) w
/-! ### compare, Better -/
set_option maxRecDepth 100000 in
set_option maxHeartbeats 1000000 in
theorem rc_same (a b : ByteArray) (e1 : (a.toList == b.toList) = true) (w : World) : Calls Tryz.prog 40 #[.string a, .string b] w (ValPost (.int .i64 0) w) := by
  go_enter Tryz.func40, Tryz.ntmps40
  go_wp2
  go_ret
  exact ⟨rfl, grown_refl _ _⟩
set_option maxRecDepth 100000 in
set_option maxHeartbeats 1000000 in
theorem rc_low (a b : ByteArray) (e1 : (a.toList == b.toList) = false) (f : (a.toList == [45, 105, 110, 102]) = true) (w : World) : Calls Tryz.prog 40 #[.string a, .string b] w (ValPost (.int .i64 (-1)) w) := by
  go_enter Tryz.func40, Tryz.ntmps40
  go_wp2
  go_ret
  exact ⟨rfl, grown_refl _ _⟩
set_option maxRecDepth 100000 in
set_option maxHeartbeats 1000000 in
theorem rc_below (a b : ByteArray) (e1 : (a.toList == b.toList) = false) (f : (a.toList == [45, 105, 110, 102]) = false) (g : (b.toList == [105, 110, 102]) = true) (w : World) : Calls Tryz.prog 40 #[.string a, .string b] w (ValPost (.int .i64 (-1)) w) := by
  go_enter Tryz.func40, Tryz.ntmps40
  go_wp2
  go_ret
  exact ⟨rfl, grown_refl _ _⟩
set_option maxRecDepth 100000 in
set_option maxHeartbeats 1000000 in
theorem rc_top (a b : ByteArray) (e1 : (a.toList == b.toList) = false) (f : (a.toList == [45, 105, 110, 102]) = false) (g : (b.toList == [105, 110, 102]) = false) (h : (a.toList == [105, 110, 102]) = true) (w : World) : Calls Tryz.prog 40 #[.string a, .string b] w (ValPost (.int .i64 1) w) := by
  go_enter Tryz.func40, Tryz.ntmps40
  go_wp2
  go_ret
  exact ⟨rfl, grown_refl _ _⟩
set_option maxRecDepth 100000 in
set_option maxHeartbeats 1000000 in
theorem rc_above (a b : ByteArray) (e1 : (a.toList == b.toList) = false) (f : (a.toList == [45, 105, 110, 102]) = false) (g : (b.toList == [105, 110, 102]) = false) (h : (a.toList == [105, 110, 102]) = false) (i : (b.toList == [45, 105, 110, 102]) = true) (w : World) : Calls Tryz.prog 40 #[.string a, .string b] w (ValPost (.int .i64 1) w) := by
  go_enter Tryz.func40, Tryz.ntmps40
  go_wp2
  go_ret
  exact ⟨rfl, grown_refl _ _⟩
set_option maxRecDepth 100000 in
set_option maxHeartbeats 1000000 in
theorem rc_num (a b : ByteArray) (c : Int) (e1 : (a.toList == b.toList) = false) (f : (a.toList == [45, 105, 110, 102]) = false) (g : (b.toList == [105, 110, 102]) = false) (h : (a.toList == [105, 110, 102]) = false) (i : (b.toList == [45, 105, 110, 102]) = false) (C : Hid (RatC a b c)) (w : World) : Calls Tryz.prog 40 #[.string a, .string b] w (ValPost (.int .i64 c) w) := by
  go_enter Tryz.func40, Tryz.ntmps40
  go_wp2_with fail
  refine (C.out _).mono ?_
  rintro e w1 ⟨rfl, hg⟩
  have G1 := Lib.hid (hg)
  clear hg
  go_wp2
  go_ret
  exact ⟨rfl, G1.out⟩
def RCmp (a b : ByteArray) (c : Int) : Prop := ∀ w, Calls Tryz.prog 40 #[.string a, .string b] w (ValPost (.int .i64 c) w)
theorem rc_val {a b : ByteArray} {u v : Ext} (ha : IsE a u) (hb : IsE b v) : RCmp a b (cmpE u v) := fun w => by
  have e1 : (a.toList == b.toList) = decide (u = v) := by rw [bytes_ne]; exact txt_is ha hb
  by_cases h : u = v
  · rw [decide_eq_true h] at e1
    rw [(cmpE_zero u v).2 h]
    exact rc_same a b e1 w
  rw [decide_eq_false h] at e1
  have i := txt_top ha; have j := txt_low ha; have m := txt_top hb; have n := txt_low hb
  rcases u with (_ | _) | x <;> rcases v with (_ | _) | y
  · exact absurd rfl h
  · exact rc_low a b e1 j w
  · exact rc_low a b e1 j w
  · exact rc_top a b e1 j m i w
  · exact absurd rfl h
  · exact rc_top a b e1 j m i w
  · exact rc_above a b e1 j m i n w
  · exact rc_below a b e1 j m w
  · exact rc_num a b _ e1 j m i n (Lib.hid fun w => rcmp_rat ha hb w) w
set_option maxRecDepth 100000 in
set_option maxHeartbeats 1000000 in
theorem rb_bad1 (k : Int) (a b : ByteArray) (X : Hid (VB 21 k a false)) (w : World) : Calls Tryz.prog 30 #[.int .i64 k, .string a, .string b] w (ValPost (.int .i64 0) w) := by
  go_enter Tryz.func30, Tryz.ntmps30
  go_wp2_with fail
  refine (X.out _).mono ?_
  rintro e w1 ⟨rfl, hg⟩
  have G1 := Lib.hid (hg)
  clear hg
  go_wp2
  go_ret
  exact ⟨rfl, G1.out⟩
set_option maxRecDepth 100000 in
set_option maxHeartbeats 1000000 in
theorem rb_bad2 (k : Int) (a b : ByteArray) (X : Hid (VB 21 k a true)) (Y : Hid (VB 21 k b false)) (w : World) : Calls Tryz.prog 30 #[.int .i64 k, .string a, .string b] w (ValPost (.int .i64 0) w) := by
  go_enter Tryz.func30, Tryz.ntmps30
  go_wp2_with fail
  refine (X.out _).mono ?_
  rintro e w1 ⟨rfl, hg⟩
  have G1 := Lib.hid (hg)
  clear hg
  go_wp2_with fail
  refine (Y.out _).mono ?_
  rintro e w2 ⟨rfl, hg⟩
  have G2 := Lib.hid (grown_trans G1.out hg)
  clear hg G1
  go_wp2
  go_ret
  exact ⟨rfl, G2.out⟩
set_option maxRecDepth 100000 in
set_option maxHeartbeats 1000000 in
theorem rb_cost (k : Int) (a b : ByteArray) (c : Int) (X : Hid (VB 21 k a true)) (Y : Hid (VB 21 k b true)) (k1 : (k == 1) = true) (C : Hid (RCmp a b c)) (w : World) : Calls Tryz.prog 30 #[.int .i64 k, .string a, .string b] w (ValPost (.int .i64 c) w) := by
  go_enter Tryz.func30, Tryz.ntmps30
  go_wp2_with fail
  refine (X.out _).mono ?_
  rintro e w1 ⟨rfl, hg⟩
  have G1 := Lib.hid (hg)
  clear hg
  go_wp2_with fail
  refine (Y.out _).mono ?_
  rintro e w2 ⟨rfl, hg⟩
  have G2 := Lib.hid (grown_trans G1.out hg)
  clear hg G1
  go_wp2_with fail
  refine (C.out _).mono ?_
  rintro e w3 ⟨rfl, hg⟩
  have G3 := Lib.hid (grown_trans G2.out hg)
  clear hg G2
  go_wp2
  go_ret
  exact ⟨rfl, G3.out⟩
set_option maxRecDepth 100000 in
set_option maxHeartbeats 1000000 in
theorem rb_other (k : Int) (a b : ByteArray) (c : Int) (X : Hid (VB 21 k a true)) (Y : Hid (VB 21 k b true)) (k1 : (k == 1) = false) (C : Hid (RCmp b a c)) (w : World) : Calls Tryz.prog 30 #[.int .i64 k, .string a, .string b] w (ValPost (.int .i64 c) w) := by
  go_enter Tryz.func30, Tryz.ntmps30
  go_wp2_with fail
  refine (X.out _).mono ?_
  rintro e w1 ⟨rfl, hg⟩
  have G1 := Lib.hid (hg)
  clear hg
  go_wp2_with fail
  refine (Y.out _).mono ?_
  rintro e w2 ⟨rfl, hg⟩
  have G2 := Lib.hid (grown_trans G1.out hg)
  clear hg G1
  go_wp2_with fail
  refine (C.out _).mono ?_
  rintro e w3 ⟨rfl, hg⟩
  have G3 := Lib.hid (grown_trans G2.out hg)
  clear hg G2
  go_wp2
  go_ret
  exact ⟨rfl, G3.out⟩
theorem rb_bad {k : Int} {a b : ByteArray} (ha : a.size ≤ maxLen) (hb : b.size ≤ maxLen) (h : NoVal k a ∨ NoVal k b) : SOp 30 k a b (.int .i64 0) := fun w => by
  rcases val_or k a with ⟨v, hv⟩ | hn
  · rcases h with h | h
    · exact absurd hv.has (by rw [h v hv.e]; simp)
    · exact rb_bad2 k a b (Lib.hid (rv_yes hv)) (Lib.hid (rv_no h hb)) w
  · exact rb_bad1 k a b (Lib.hid (rv_no hn ha)) w
theorem rb_val {k : Int} {a b : ByteArray} {u v : Ext} (ha : Val k a u) (hb : Val k b v) : SOp 30 k a b (.int .i64 (betterE k u v)) := fun w => by
  unfold betterE
  rcases k_one k with ⟨k1, _, k2⟩ | ⟨k1, _, k2⟩
  · rw [if_pos k2]
    exact rb_cost k a b _ (Lib.hid (rv_yes ha)) (Lib.hid (rv_yes hb)) k1 (Lib.hid (rc_val ha.e hb.e)) w
  · rw [if_neg k2]
    exact rb_other k a b _ (Lib.hid (rv_yes ha)) (Lib.hid (rv_yes hb)) k1 (Lib.hid (rc_val hb.e ha.e)) w

/-! ### Plus -/
set_option maxRecDepth 100000 in
set_option maxHeartbeats 1000000 in
theorem rp_bad1 (k : Int) (a b : ByteArray) (X : Hid (VB 21 k a false)) (w : World) : Calls Tryz.prog 26 #[.int .i64 k, .string a, .string b] w (ValPost (errV 1) w) := by
  go_enter Tryz.func26, Tryz.ntmps26
  go_wp2_with fail
  refine (X.out _).mono ?_
  rintro e w1 ⟨rfl, hg⟩
  have G1 := Lib.hid (hg)
  clear hg
  go_wp2
  go_ret2
  exact ⟨rfl, G1.out⟩
set_option maxRecDepth 100000 in
set_option maxHeartbeats 1000000 in
theorem rp_bad2 (k : Int) (a b : ByteArray) (X : Hid (VB 21 k a true)) (Y : Hid (VB 21 k b false)) (w : World) : Calls Tryz.prog 26 #[.int .i64 k, .string a, .string b] w (ValPost (errV 1) w) := by
  go_enter Tryz.func26, Tryz.ntmps26
  go_wp2_with fail
  refine (X.out _).mono ?_
  rintro e w1 ⟨rfl, hg⟩
  have G1 := Lib.hid (hg)
  clear hg
  go_wp2_with fail
  refine (Y.out _).mono ?_
  rintro e w2 ⟨rfl, hg⟩
  have G2 := Lib.hid (grown_trans G1.out hg)
  clear hg G1
  go_wp2
  go_ret2
  exact ⟨rfl, G2.out⟩
set_option maxRecDepth 100000 in
set_option maxHeartbeats 1000000 in
theorem rp_right (k : Int) (a b : ByteArray) (c : Int) (X : Hid (VB 21 k a true)) (Y : Hid (VB 21 k b true)) (k1 : (k == 2) = false) (k2 : (k != 2) = true) (B : Hid (SOp 30 k b a (.int .i64 c))) (h : c < 0) (w : World) : Calls Tryz.prog 26 #[.int .i64 k, .string a, .string b] w (ValPost (.tuple #[.string b, .int .i64 0]) w) := by
  go_enter Tryz.func26, Tryz.ntmps26
  go_wp2_with fail
  refine (X.out _).mono ?_
  rintro e w1 ⟨rfl, hg⟩
  have G1 := Lib.hid (hg)
  clear hg
  go_wp2_with fail
  refine (Y.out _).mono ?_
  rintro e w2 ⟨rfl, hg⟩
  have G2 := Lib.hid (grown_trans G1.out hg)
  clear hg G1
  go_wp2_with fail
  refine (B.out _).mono ?_
  rintro e w3 ⟨rfl, hg⟩
  have G3 := Lib.hid (grown_trans G2.out hg)
  clear hg G2
  go_wp2
  go_ret2
  exact ⟨rfl, G3.out⟩
set_option maxRecDepth 100000 in
set_option maxHeartbeats 1000000 in
theorem rp_left (k : Int) (a b : ByteArray) (c : Int) (X : Hid (VB 21 k a true)) (Y : Hid (VB 21 k b true)) (k1 : (k == 2) = false) (k2 : (k != 2) = true) (B : Hid (SOp 30 k b a (.int .i64 c))) (h : ¬ c < 0) (w : World) : Calls Tryz.prog 26 #[.int .i64 k, .string a, .string b] w (ValPost (.tuple #[.string a, .int .i64 0]) w) := by
  go_enter Tryz.func26, Tryz.ntmps26
  go_wp2_with fail
  refine (X.out _).mono ?_
  rintro e w1 ⟨rfl, hg⟩
  have G1 := Lib.hid (hg)
  clear hg
  go_wp2_with fail
  refine (Y.out _).mono ?_
  rintro e w2 ⟨rfl, hg⟩
  have G2 := Lib.hid (grown_trans G1.out hg)
  clear hg G1
  go_wp2_with fail
  refine (B.out _).mono ?_
  rintro e w3 ⟨rfl, hg⟩
  have G3 := Lib.hid (grown_trans G2.out hg)
  clear hg G2
  go_wp2
  go_ret2
  exact ⟨rfl, G3.out⟩
set_option maxRecDepth 100000 in
set_option maxHeartbeats 1000000 in
theorem rp_inf1 (k : Int) (a b : ByteArray) (X : Hid (VB 21 k a true)) (Y : Hid (VB 21 k b true)) (k1 : (k == 2) = true) (k2 : (k != 2) = false) (f : (a.toList == [105, 110, 102]) = true) (w : World) : Calls Tryz.prog 26 #[.int .i64 k, .string a, .string b] w (ValPost (.tuple #[.string infS, .int .i64 0]) w) := by
  go_enter Tryz.func26, Tryz.ntmps26
  go_wp2_with fail
  refine (X.out _).mono ?_
  rintro e w1 ⟨rfl, hg⟩
  have G1 := Lib.hid (hg)
  clear hg
  go_wp2_with fail
  refine (Y.out _).mono ?_
  rintro e w2 ⟨rfl, hg⟩
  have G2 := Lib.hid (grown_trans G1.out hg)
  clear hg G1
  go_wp2
  go_ret2
  exact ⟨rfl, G2.out⟩
set_option maxRecDepth 100000 in
set_option maxHeartbeats 1000000 in
theorem rp_inf2 (k : Int) (a b : ByteArray) (X : Hid (VB 21 k a true)) (Y : Hid (VB 21 k b true)) (k1 : (k == 2) = true) (k2 : (k != 2) = false) (f : (a.toList == [105, 110, 102]) = false) (g : (b.toList == [105, 110, 102]) = true) (w : World) : Calls Tryz.prog 26 #[.int .i64 k, .string a, .string b] w (ValPost (.tuple #[.string infS, .int .i64 0]) w) := by
  go_enter Tryz.func26, Tryz.ntmps26
  go_wp2_with fail
  refine (X.out _).mono ?_
  rintro e w1 ⟨rfl, hg⟩
  have G1 := Lib.hid (hg)
  clear hg
  go_wp2_with fail
  refine (Y.out _).mono ?_
  rintro e w2 ⟨rfl, hg⟩
  have G2 := Lib.hid (grown_trans G1.out hg)
  clear hg G1
  go_wp2
  go_ret2
  exact ⟨rfl, G2.out⟩
set_option maxRecDepth 100000 in
set_option maxHeartbeats 1000000 in
theorem rp_add (k : Int) (a b S : ByteArray) (E : Int) (X : Hid (VB 21 k a true)) (Y : Hid (VB 21 k b true)) (k1 : (k == 2) = true) (k2 : (k != 2) = false) (f : (a.toList == [105, 110, 102]) = false) (g : (b.toList == [105, 110, 102]) = false) (C : Hid (∀ w, Calls Tryz.prog 38 #[.string a, .string b] w (ValPost (.tuple #[.string S, .int .i64 E]) w))) (w : World) : Calls Tryz.prog 26 #[.int .i64 k, .string a, .string b] w (ValPost (.tuple #[.string S, .int .i64 E]) w) := by
  go_enter Tryz.func26, Tryz.ntmps26
  go_wp2_with fail
  refine (X.out _).mono ?_
  rintro e w1 ⟨rfl, hg⟩
  have G1 := Lib.hid (hg)
  clear hg
  go_wp2_with fail
  refine (Y.out _).mono ?_
  rintro e w2 ⟨rfl, hg⟩
  have G2 := Lib.hid (grown_trans G1.out hg)
  clear hg G1
  go_wp2_with fail
  refine (C.out _).mono ?_
  rintro e w3 ⟨rfl, hg⟩
  have G3 := Lib.hid (grown_trans G2.out hg)
  clear hg G2
  go_wp2
  go_ret2
  exact ⟨rfl, G3.out⟩
theorem rplus_bad {k : Int} {a b : ByteArray} (ha : a.size ≤ maxLen) (hb : b.size ≤ maxLen) (h : NoVal k a ∨ NoVal k b) : SOp 26 k a b (errV 1) := fun w => by
  rcases val_or k a with ⟨v, hv⟩ | hn
  · rcases h with h | h
    · exact absurd hv.has (by rw [h v hv.e]; simp)
    · exact rp_bad2 k a b (Lib.hid (rv_yes hv)) (Lib.hid (rv_no h hb)) w
  · exact rp_bad1 k a b (Lib.hid (rv_no hn ha)) w
theorem rplus_val {k : Int} {a b : ByteArray} {u v : Ext} (ha : Val k a u) (hb : Val k b v) : SOp 26 k a b (extV (plusE k u v)) := fun w => by
  have X := Lib.hid (rv_yes ha); have Y := Lib.hid (rv_yes hb)
  have B := Lib.hid (rb_val hb ha)
  by_cases h2 : k = 2
  · subst h2
    have i := txt_top ha.e; have j := txt_top hb.e
    show Calls _ _ _ w (ValPost (extV (sumE u v)) w)
    rcases u with (_ | _) | x
    · cases ha.has
    · exact rp_inf1 2 a b X Y rfl rfl i w
    rcases v with (_ | _) | y
    · cases hb.has
    · exact rp_inf2 2 a b X Y rfl rfl i j w
    obtain ⟨S, E, e⟩ := finV_form (x + y)
    have C := fun w => radd_rat ha.e hb.e w
    show Calls _ _ _ w (ValPost (finV (x + y)) w)
    rw [e] at C ⊢
    exact rp_add 2 a b S E X Y rfl rfl i j (Lib.hid C) w
  · have k1 : (k == 2) = false := by simpa using h2
    have k2 : (k != 2) = true := by simpa using h2
    have main : plusE k u v = if betterE k v u < 0 then v else u := by
      rcases ha.kind with rfl | rfl | rfl
      · rfl
      · exact absurd rfl h2
      · show moreE u v = if cmpE u v < 0 then v else u
        unfold moreE
        have := cmpE_flip u v
        by_cases q : cmpE u v < 0
        · rw [if_pos q, if_pos (by omega)]
        · rw [if_neg q, if_neg (by omega)]
    rw [main]
    by_cases q : betterE k v u < 0
    · rw [if_pos q, extV_is hb.e]
      exact rp_right k a b _ X Y k1 k2 B q w
    · rw [if_neg q, extV_is ha.e]
      exact rp_left k a b _ X Y k1 k2 B q w
end Go.Proofs.YtkekljjjomnalaaGreatDoor
set_option linter.unusedVariables false
set_option linter.unusedSimpArgs false
namespace Go.Proofs.YtkekljjjomnalaaGreatDoor
open Go.RowKit
open Go.Lib (nDigits decDigits)

set_option maxRecDepth 100000 in
set_option maxHeartbeats 1000000 in
theorem rt_bad1 (k : Int) (a b : ByteArray) (X : Hid (VB 21 k a false)) (w : World) : Calls Tryz.prog 27 #[.int .i64 k, .string a, .string b] w (ValPost (errV 1) w) := by
  go_enter Tryz.func27, Tryz.ntmps27
  go_wp2_with fail
  refine (X.out _).mono ?_
  rintro e w1 ⟨rfl, hg⟩
  have G1 := Lib.hid (hg)
  clear hg
  go_wp2
  go_ret2
  exact ⟨rfl, G1.out⟩
set_option maxRecDepth 100000 in
set_option maxHeartbeats 1000000 in
theorem rt_bad2 (k : Int) (a b : ByteArray) (X : Hid (VB 21 k a true)) (Y : Hid (VB 21 k b false)) (w : World) : Calls Tryz.prog 27 #[.int .i64 k, .string a, .string b] w (ValPost (errV 1) w) := by
  go_enter Tryz.func27, Tryz.ntmps27
  go_wp2_with fail
  refine (X.out _).mono ?_
  rintro e w1 ⟨rfl, hg⟩
  have G1 := Lib.hid (hg)
  clear hg
  go_wp2_with fail
  refine (Y.out _).mono ?_
  rintro e w2 ⟨rfl, hg⟩
  have G2 := Lib.hid (grown_trans G1.out hg)
  clear hg G1
  go_wp2
  go_ret2
  exact ⟨rfl, G2.out⟩
theorem rtimes_bad {k : Int} {a b : ByteArray} (ha : a.size ≤ maxLen) (hb : b.size ≤ maxLen) (h : NoVal k a ∨ NoVal k b) : SOp 27 k a b (errV 1) := fun w => by
  rcases val_or k a with ⟨v, hv⟩ | hn
  · rcases h with h | h
    · exact absurd hv.has (by rw [h v hv.e]; simp)
    · exact rt_bad2 k a b (Lib.hid (rv_yes hv)) (Lib.hid (rv_no h hb)) w
  · exact rt_bad1 k a b (Lib.hid (rv_no hn ha)) w
set_option maxRecDepth 100000 in
set_option maxHeartbeats 1000000 in
theorem rt_c_inf1 (k : Int) (a b : ByteArray) (X : Hid (VB 21 k a true)) (Y : Hid (VB 21 k b true)) (O : Hid (∀ w, Calls Tryz.prog 24 #[.int .i64 k] w (ValPost (.string ⟨#[105, 110, 102]⟩) w))) (k1 : (k == 1) = true) (z1 : (a.toList == [105, 110, 102]) = true) (w : World) : Calls Tryz.prog 27 #[.int .i64 k, .string a, .string b] w (ValPost (.tuple #[.string infS, .int .i64 0]) w) := by
  go_enter Tryz.func27, Tryz.ntmps27
  go_wp2_with fail
  refine (X.out _).mono ?_
  rintro e w1 ⟨rfl, hg⟩
  have G1 := Lib.hid (hg)
  clear hg
  go_wp2_with fail
  refine (Y.out _).mono ?_
  rintro e w2 ⟨rfl, hg⟩
  have G2 := Lib.hid (grown_trans G1.out hg)
  clear hg G1
  go_wp2_with fail
  refine (O.out _).mono ?_
  rintro e w3 ⟨rfl, hg⟩
  have G3 := Lib.hid (grown_trans G2.out hg)
  clear hg G2
  go_wp2
  go_ret2
  exact ⟨rfl, G3.out⟩
set_option maxRecDepth 100000 in
set_option maxHeartbeats 1000000 in
theorem rt_c_inf2 (k : Int) (a b : ByteArray) (X : Hid (VB 21 k a true)) (Y : Hid (VB 21 k b true)) (O : Hid (∀ w, Calls Tryz.prog 24 #[.int .i64 k] w (ValPost (.string ⟨#[105, 110, 102]⟩) w))) (k1 : (k == 1) = true) (z1 : (a.toList == [105, 110, 102]) = false) (z2 : (b.toList == [105, 110, 102]) = true) (w : World) : Calls Tryz.prog 27 #[.int .i64 k, .string a, .string b] w (ValPost (.tuple #[.string infS, .int .i64 0]) w) := by
  go_enter Tryz.func27, Tryz.ntmps27
  go_wp2_with fail
  refine (X.out _).mono ?_
  rintro e w1 ⟨rfl, hg⟩
  have G1 := Lib.hid (hg)
  clear hg
  go_wp2_with fail
  refine (Y.out _).mono ?_
  rintro e w2 ⟨rfl, hg⟩
  have G2 := Lib.hid (grown_trans G1.out hg)
  clear hg G1
  go_wp2_with fail
  refine (O.out _).mono ?_
  rintro e w3 ⟨rfl, hg⟩
  have G3 := Lib.hid (grown_trans G2.out hg)
  clear hg G2
  go_wp2
  go_ret2
  exact ⟨rfl, G3.out⟩
set_option maxRecDepth 100000 in
set_option maxHeartbeats 1000000 in
theorem rt_c_low1 (k : Int) (a b : ByteArray) (X : Hid (VB 21 k a true)) (Y : Hid (VB 21 k b true)) (O : Hid (∀ w, Calls Tryz.prog 24 #[.int .i64 k] w (ValPost (.string ⟨#[105, 110, 102]⟩) w))) (k1 : (k == 1) = true) (z1 : (a.toList == [105, 110, 102]) = false) (z2 : (b.toList == [105, 110, 102]) = false) (l1 : (a.toList == [45, 105, 110, 102]) = true) (w : World) : Calls Tryz.prog 27 #[.int .i64 k, .string a, .string b] w (ValPost (.tuple #[.string lowS, .int .i64 0]) w) := by
  go_enter Tryz.func27, Tryz.ntmps27
  go_wp2_with fail
  refine (X.out _).mono ?_
  rintro e w1 ⟨rfl, hg⟩
  have G1 := Lib.hid (hg)
  clear hg
  go_wp2_with fail
  refine (Y.out _).mono ?_
  rintro e w2 ⟨rfl, hg⟩
  have G2 := Lib.hid (grown_trans G1.out hg)
  clear hg G1
  go_wp2_with fail
  refine (O.out _).mono ?_
  rintro e w3 ⟨rfl, hg⟩
  have G3 := Lib.hid (grown_trans G2.out hg)
  clear hg G2
  go_wp2
  go_ret2
  exact ⟨rfl, G3.out⟩
set_option maxRecDepth 100000 in
set_option maxHeartbeats 1000000 in
theorem rt_c_low2 (k : Int) (a b : ByteArray) (X : Hid (VB 21 k a true)) (Y : Hid (VB 21 k b true)) (O : Hid (∀ w, Calls Tryz.prog 24 #[.int .i64 k] w (ValPost (.string ⟨#[105, 110, 102]⟩) w))) (k1 : (k == 1) = true) (z1 : (a.toList == [105, 110, 102]) = false) (z2 : (b.toList == [105, 110, 102]) = false) (l1 : (a.toList == [45, 105, 110, 102]) = false) (l2 : (b.toList == [45, 105, 110, 102]) = true) (w : World) : Calls Tryz.prog 27 #[.int .i64 k, .string a, .string b] w (ValPost (.tuple #[.string lowS, .int .i64 0]) w) := by
  go_enter Tryz.func27, Tryz.ntmps27
  go_wp2_with fail
  refine (X.out _).mono ?_
  rintro e w1 ⟨rfl, hg⟩
  have G1 := Lib.hid (hg)
  clear hg
  go_wp2_with fail
  refine (Y.out _).mono ?_
  rintro e w2 ⟨rfl, hg⟩
  have G2 := Lib.hid (grown_trans G1.out hg)
  clear hg G1
  go_wp2_with fail
  refine (O.out _).mono ?_
  rintro e w3 ⟨rfl, hg⟩
  have G3 := Lib.hid (grown_trans G2.out hg)
  clear hg G2
  go_wp2
  go_ret2
  exact ⟨rfl, G3.out⟩
set_option maxRecDepth 100000 in
set_option maxHeartbeats 1000000 in
theorem rt_c_add (k : Int) (a b S : ByteArray) (E : Int) (X : Hid (VB 21 k a true)) (Y : Hid (VB 21 k b true)) (O : Hid (∀ w, Calls Tryz.prog 24 #[.int .i64 k] w (ValPost (.string ⟨#[105, 110, 102]⟩) w))) (k1 : (k == 1) = true) (z1 : (a.toList == [105, 110, 102]) = false) (z2 : (b.toList == [105, 110, 102]) = false) (l1 : (a.toList == [45, 105, 110, 102]) = false) (l2 : (b.toList == [45, 105, 110, 102]) = false) (C : Hid (∀ w, Calls Tryz.prog 38 #[.string a, .string b] w (ValPost (.tuple #[.string S, .int .i64 E]) w))) (w : World) : Calls Tryz.prog 27 #[.int .i64 k, .string a, .string b] w (ValPost (.tuple #[.string S, .int .i64 E]) w) := by
  go_enter Tryz.func27, Tryz.ntmps27
  go_wp2_with fail
  refine (X.out _).mono ?_
  rintro e w1 ⟨rfl, hg⟩
  have G1 := Lib.hid (hg)
  clear hg
  go_wp2_with fail
  refine (Y.out _).mono ?_
  rintro e w2 ⟨rfl, hg⟩
  have G2 := Lib.hid (grown_trans G1.out hg)
  clear hg G1
  go_wp2_with fail
  refine (O.out _).mono ?_
  rintro e w3 ⟨rfl, hg⟩
  have G3 := Lib.hid (grown_trans G2.out hg)
  clear hg G2
  go_wp2_with fail
  refine (C.out _).mono ?_
  rintro e w4 ⟨rfl, hg⟩
  have G4 := Lib.hid (grown_trans G3.out hg)
  clear hg G3
  go_wp2
  go_ret2
  exact ⟨rfl, G4.out⟩
set_option maxRecDepth 100000 in
set_option maxHeartbeats 1000000 in
theorem rt_p_zero1 (k : Int) (a b : ByteArray) (X : Hid (VB 21 k a true)) (Y : Hid (VB 21 k b true)) (O : Hid (∀ w, Calls Tryz.prog 24 #[.int .i64 k] w (ValPost (.string ⟨#[48]⟩) w))) (k1 : (k == 1) = false) (z1 : (a.toList == [48]) = true) (w : World) : Calls Tryz.prog 27 #[.int .i64 k, .string a, .string b] w (ValPost (.tuple #[.string zeroS, .int .i64 0]) w) := by
  go_enter Tryz.func27, Tryz.ntmps27
  go_wp2_with fail
  refine (X.out _).mono ?_
  rintro e w1 ⟨rfl, hg⟩
  have G1 := Lib.hid (hg)
  clear hg
  go_wp2_with fail
  refine (Y.out _).mono ?_
  rintro e w2 ⟨rfl, hg⟩
  have G2 := Lib.hid (grown_trans G1.out hg)
  clear hg G1
  go_wp2_with fail
  refine (O.out _).mono ?_
  rintro e w3 ⟨rfl, hg⟩
  have G3 := Lib.hid (grown_trans G2.out hg)
  clear hg G2
  go_wp2
  go_ret2
  exact ⟨rfl, G3.out⟩
set_option maxRecDepth 100000 in
set_option maxHeartbeats 1000000 in
theorem rt_p_zero2 (k : Int) (a b : ByteArray) (X : Hid (VB 21 k a true)) (Y : Hid (VB 21 k b true)) (O : Hid (∀ w, Calls Tryz.prog 24 #[.int .i64 k] w (ValPost (.string ⟨#[48]⟩) w))) (k1 : (k == 1) = false) (z1 : (a.toList == [48]) = false) (z2 : (b.toList == [48]) = true) (w : World) : Calls Tryz.prog 27 #[.int .i64 k, .string a, .string b] w (ValPost (.tuple #[.string zeroS, .int .i64 0]) w) := by
  go_enter Tryz.func27, Tryz.ntmps27
  go_wp2_with fail
  refine (X.out _).mono ?_
  rintro e w1 ⟨rfl, hg⟩
  have G1 := Lib.hid (hg)
  clear hg
  go_wp2_with fail
  refine (Y.out _).mono ?_
  rintro e w2 ⟨rfl, hg⟩
  have G2 := Lib.hid (grown_trans G1.out hg)
  clear hg G1
  go_wp2_with fail
  refine (O.out _).mono ?_
  rintro e w3 ⟨rfl, hg⟩
  have G3 := Lib.hid (grown_trans G2.out hg)
  clear hg G2
  go_wp2
  go_ret2
  exact ⟨rfl, G3.out⟩
set_option maxRecDepth 100000 in
set_option maxHeartbeats 1000000 in
theorem rt_p_inf1 (k : Int) (a b : ByteArray) (X : Hid (VB 21 k a true)) (Y : Hid (VB 21 k b true)) (O : Hid (∀ w, Calls Tryz.prog 24 #[.int .i64 k] w (ValPost (.string ⟨#[48]⟩) w))) (k1 : (k == 1) = false) (z1 : (a.toList == [48]) = false) (z2 : (b.toList == [48]) = false) (i1 : (a.toList == [105, 110, 102]) = true) (w : World) : Calls Tryz.prog 27 #[.int .i64 k, .string a, .string b] w (ValPost (.tuple #[.string infS, .int .i64 0]) w) := by
  go_enter Tryz.func27, Tryz.ntmps27
  go_wp2_with fail
  refine (X.out _).mono ?_
  rintro e w1 ⟨rfl, hg⟩
  have G1 := Lib.hid (hg)
  clear hg
  go_wp2_with fail
  refine (Y.out _).mono ?_
  rintro e w2 ⟨rfl, hg⟩
  have G2 := Lib.hid (grown_trans G1.out hg)
  clear hg G1
  go_wp2_with fail
  refine (O.out _).mono ?_
  rintro e w3 ⟨rfl, hg⟩
  have G3 := Lib.hid (grown_trans G2.out hg)
  clear hg G2
  go_wp2
  go_ret2
  exact ⟨rfl, G3.out⟩
set_option maxRecDepth 100000 in
set_option maxHeartbeats 1000000 in
theorem rt_p_inf2 (k : Int) (a b : ByteArray) (X : Hid (VB 21 k a true)) (Y : Hid (VB 21 k b true)) (O : Hid (∀ w, Calls Tryz.prog 24 #[.int .i64 k] w (ValPost (.string ⟨#[48]⟩) w))) (k1 : (k == 1) = false) (z1 : (a.toList == [48]) = false) (z2 : (b.toList == [48]) = false) (i1 : (a.toList == [105, 110, 102]) = false) (i2 : (b.toList == [105, 110, 102]) = true) (w : World) : Calls Tryz.prog 27 #[.int .i64 k, .string a, .string b] w (ValPost (.tuple #[.string infS, .int .i64 0]) w) := by
  go_enter Tryz.func27, Tryz.ntmps27
  go_wp2_with fail
  refine (X.out _).mono ?_
  rintro e w1 ⟨rfl, hg⟩
  have G1 := Lib.hid (hg)
  clear hg
  go_wp2_with fail
  refine (Y.out _).mono ?_
  rintro e w2 ⟨rfl, hg⟩
  have G2 := Lib.hid (grown_trans G1.out hg)
  clear hg G1
  go_wp2_with fail
  refine (O.out _).mono ?_
  rintro e w3 ⟨rfl, hg⟩
  have G3 := Lib.hid (grown_trans G2.out hg)
  clear hg G2
  go_wp2
  go_ret2
  exact ⟨rfl, G3.out⟩
set_option maxRecDepth 100000 in
set_option maxHeartbeats 1000000 in
theorem rt_p_mul (k : Int) (a b S : ByteArray) (E : Int) (X : Hid (VB 21 k a true)) (Y : Hid (VB 21 k b true)) (O : Hid (∀ w, Calls Tryz.prog 24 #[.int .i64 k] w (ValPost (.string ⟨#[48]⟩) w))) (k1 : (k == 1) = false) (z1 : (a.toList == [48]) = false) (z2 : (b.toList == [48]) = false) (i1 : (a.toList == [105, 110, 102]) = false) (i2 : (b.toList == [105, 110, 102]) = false) (l1 : (a.toList == [45, 105, 110, 102]) = false) (l2 : (b.toList == [45, 105, 110, 102]) = false) (C : Hid (∀ w, Calls Tryz.prog 39 #[.string a, .string b] w (ValPost (.tuple #[.string S, .int .i64 E]) w))) (w : World) : Calls Tryz.prog 27 #[.int .i64 k, .string a, .string b] w (ValPost (.tuple #[.string S, .int .i64 E]) w) := by
  go_enter Tryz.func27, Tryz.ntmps27
  go_wp2_with fail
  refine (X.out _).mono ?_
  rintro e w1 ⟨rfl, hg⟩
  have G1 := Lib.hid (hg)
  clear hg
  go_wp2_with fail
  refine (Y.out _).mono ?_
  rintro e w2 ⟨rfl, hg⟩
  have G2 := Lib.hid (grown_trans G1.out hg)
  clear hg G1
  go_wp2_with fail
  refine (O.out _).mono ?_
  rintro e w3 ⟨rfl, hg⟩
  have G3 := Lib.hid (grown_trans G2.out hg)
  clear hg G2
  go_wp2_with fail
  refine (C.out _).mono ?_
  rintro e w4 ⟨rfl, hg⟩
  have G4 := Lib.hid (grown_trans G3.out hg)
  clear hg G3
  go_wp2
  go_ret2
  exact ⟨rfl, G4.out⟩
theorem rprod_val {k : Int} (hk : k = 2 ∨ k = 3) {a b : ByteArray} {u v : Ext} (ha : Val k a u) (hb : Val k b v) : SOp 27 k a b (extV (prodE u v)) := fun w => by
  have X := Lib.hid (rv_yes ha); have Y := Lib.hid (rv_yes hb)
  have O : Hid (∀ w, Calls Tryz.prog 24 #[.int .i64 k] w (ValPost (.string ⟨#[48]⟩) w)) := Lib.hid fun w => by
    have := rzero_any k w
    unfold zeroT at this
    rw [if_neg (by omega), if_pos hk] at this
    exact this
  have k1 : (k == 1) = false := by
    have : k ≠ 1 := by omega
    simpa using this
  have i := txt_top ha.e; have j := txt_top hb.e; have m := txt_zero ha.e; have n := txt_zero hb.e; have p := txt_low ha.e; have q := txt_low hb.e
  have hu : hasE 2 u = true := by rcases hk with rfl | rfl; exact ha.has; rw [has_two]; exact ha.has
  have hv : hasE 2 v = true := by rcases hk with rfl | rfl; exact hb.has; rw [has_two]; exact hb.has
  unfold prodE
  by_cases zu : u = .inr 0
  · rw [if_pos (.inl zu), zeroV]
    rw [(isNil_iff u).2 zu] at m
    exact rt_p_zero1 k a b X Y O k1 m w
  have mu : isNil u = false := by rw [← Bool.not_eq_true, isNil_iff]; exact zu
  rw [mu] at m
  by_cases zv : v = .inr 0
  · rw [if_pos (.inr zv), zeroV]
    rw [(isNil_iff v).2 zv] at n
    exact rt_p_zero2 k a b X Y O k1 m n w
  have mv : isNil v = false := by rw [← Bool.not_eq_true, isNil_iff]; exact zv
  rw [mv] at n
  rw [if_neg (fun h => by rcases h with h | h; exact zu h; exact zv h)]
  rcases u with (_ | _) | x
  · cases hu
  · exact rt_p_inf1 k a b X Y O k1 m n i w
  rcases v with (_ | _) | y
  · cases hv
  · exact rt_p_inf2 k a b X Y O k1 m n i j w
  obtain ⟨S, E, e⟩ := finV_form (x * y)
  have C := fun w => rmul_rat ha.e hb.e w
  show Calls _ _ _ w (ValPost (finV (x * y)) w)
  rw [e] at C ⊢
  exact rt_p_mul k a b S E X Y O k1 m n i j p q (Lib.hid C) w
theorem rcost_val {a b : ByteArray} {u v : Ext} (ha : Val 1 a u) (hb : Val 1 b v) : SOp 27 1 a b (extV (costE u v)) := fun w => by
  have X := Lib.hid (rv_yes ha); have Y := Lib.hid (rv_yes hb)
  have O : Hid (∀ w, Calls Tryz.prog 24 #[.int .i64 1] w (ValPost (.string ⟨#[105, 110, 102]⟩) w)) := Lib.hid fun w => rzero_any 1 w
  have i := txt_top ha.e; have j := txt_top hb.e; have p := txt_low ha.e; have q := txt_low hb.e
  rcases u with (_ | _) | x <;> rcases v with (_ | _) | y
  · exact rt_c_low1 1 a b X Y O rfl i j p w
  · exact rt_c_inf2 1 a b X Y O rfl i j w
  · exact rt_c_low1 1 a b X Y O rfl i j p w
  · exact rt_c_inf1 1 a b X Y O rfl i w
  · exact rt_c_inf1 1 a b X Y O rfl i w
  · exact rt_c_inf1 1 a b X Y O rfl i w
  · exact rt_c_low2 1 a b X Y O rfl i j p q w
  · exact rt_c_inf2 1 a b X Y O rfl i j w
  obtain ⟨S, E, e⟩ := finV_form (x + y)
  have C := fun w => radd_rat ha.e hb.e w
  show Calls _ _ _ w (ValPost (finV (x + y)) w)
  rw [e] at C ⊢
  exact rt_c_add 1 a b S E X Y O rfl i j p q (Lib.hid C) w
theorem rtimes_val {k : Int} {a b : ByteArray} {u v : Ext} (ha : Val k a u) (hb : Val k b v) : SOp 27 k a b (extV (timesE k u v)) := by
  rcases ha.kind with rfl | rfl | rfl
  · exact rcost_val ha hb
  · exact rprod_val (.inl rfl) ha hb
  · exact rprod_val (.inr rfl) ha hb

/-! ### Star -/
set_option maxRecDepth 100000 in
set_option maxHeartbeats 1000000 in
theorem rs_bad (k : Int) (a : ByteArray) (X : Hid (VB 21 k a false)) (w : World) : Calls Tryz.prog 28 #[.int .i64 k, .string a] w (ValPost (errV 1) w) := by
  go_enter Tryz.func28, Tryz.ntmps28
  go_wp2_with fail
  refine (X.out _).mono ?_
  rintro e w1 ⟨rfl, hg⟩
  have G1 := Lib.hid (hg)
  clear hg
  go_wp2
  go_ret2
  exact ⟨rfl, G1.out⟩
set_option maxRecDepth 100000 in
set_option maxHeartbeats 1000000 in
theorem rs_c_one (k : Int) (a : ByteArray) (c : Int) (X : Hid (VB 21 k a true)) (O : Hid (∀ w, Calls Tryz.prog 25 #[.int .i64 k] w (ValPost (.string ⟨#[48]⟩) w))) (k1 : (k == 1) = true) (C : Hid (RCmp a ⟨#[48]⟩ c)) (h : 0 ≤ c) (w : World) : Calls Tryz.prog 28 #[.int .i64 k, .string a] w (ValPost (.tuple #[.string zeroS, .int .i64 0]) w) := by
  go_enter Tryz.func28, Tryz.ntmps28
  go_wp2_with fail
  refine (X.out _).mono ?_
  rintro e w1 ⟨rfl, hg⟩
  have G1 := Lib.hid (hg)
  clear hg
  go_wp2_with fail
  refine (O.out _).mono ?_
  rintro e w2 ⟨rfl, hg⟩
  have G2 := Lib.hid (grown_trans G1.out hg)
  clear hg G1
  go_wp2_with fail
  refine (C.out _).mono ?_
  rintro e w3 ⟨rfl, hg⟩
  have G3 := Lib.hid (grown_trans G2.out hg)
  clear hg G2
  go_wp2
  go_ret2
  exact ⟨rfl, G3.out⟩
set_option maxRecDepth 100000 in
set_option maxHeartbeats 1000000 in
theorem rs_c_low (k : Int) (a : ByteArray) (c : Int) (X : Hid (VB 21 k a true)) (O : Hid (∀ w, Calls Tryz.prog 25 #[.int .i64 k] w (ValPost (.string ⟨#[48]⟩) w))) (k1 : (k == 1) = true) (C : Hid (RCmp a ⟨#[48]⟩ c)) (h : ¬ 0 ≤ c) (w : World) : Calls Tryz.prog 28 #[.int .i64 k, .string a] w (ValPost (.tuple #[.string lowS, .int .i64 0]) w) := by
  go_enter Tryz.func28, Tryz.ntmps28
  go_wp2_with fail
  refine (X.out _).mono ?_
  rintro e w1 ⟨rfl, hg⟩
  have G1 := Lib.hid (hg)
  clear hg
  go_wp2_with fail
  refine (O.out _).mono ?_
  rintro e w2 ⟨rfl, hg⟩
  have G2 := Lib.hid (grown_trans G1.out hg)
  clear hg G1
  go_wp2_with fail
  refine (C.out _).mono ?_
  rintro e w3 ⟨rfl, hg⟩
  have G3 := Lib.hid (grown_trans G2.out hg)
  clear hg G2
  go_wp2
  go_ret2
  exact ⟨rfl, G3.out⟩
set_option maxRecDepth 100000 in
set_option maxHeartbeats 1000000 in
theorem rs_v_one (k : Int) (a : ByteArray) (c : Int) (X : Hid (VB 21 k a true)) (O : Hid (∀ w, Calls Tryz.prog 25 #[.int .i64 k] w (ValPost (.string ⟨#[49]⟩) w))) (k1 : (k == 1) = false) (k3 : (k == 3) = true) (C : Hid (RCmp a ⟨#[49]⟩ c)) (h : c ≤ 0) (w : World) : Calls Tryz.prog 28 #[.int .i64 k, .string a] w (ValPost (.tuple #[.string oneS, .int .i64 0]) w) := by
  go_enter Tryz.func28, Tryz.ntmps28
  go_wp2_with fail
  refine (X.out _).mono ?_
  rintro e w1 ⟨rfl, hg⟩
  have G1 := Lib.hid (hg)
  clear hg
  go_wp2_with fail
  refine (O.out _).mono ?_
  rintro e w2 ⟨rfl, hg⟩
  have G2 := Lib.hid (grown_trans G1.out hg)
  clear hg G1
  go_wp2_with fail
  refine (C.out _).mono ?_
  rintro e w3 ⟨rfl, hg⟩
  have G3 := Lib.hid (grown_trans G2.out hg)
  clear hg G2
  go_wp2
  go_ret2
  exact ⟨rfl, G3.out⟩
set_option maxRecDepth 100000 in
set_option maxHeartbeats 1000000 in
theorem rs_v_inf (k : Int) (a : ByteArray) (c : Int) (X : Hid (VB 21 k a true)) (O : Hid (∀ w, Calls Tryz.prog 25 #[.int .i64 k] w (ValPost (.string ⟨#[49]⟩) w))) (k1 : (k == 1) = false) (k3 : (k == 3) = true) (C : Hid (RCmp a ⟨#[49]⟩ c)) (h : ¬ c ≤ 0) (w : World) : Calls Tryz.prog 28 #[.int .i64 k, .string a] w (ValPost (.tuple #[.string infS, .int .i64 0]) w) := by
  go_enter Tryz.func28, Tryz.ntmps28
  go_wp2_with fail
  refine (X.out _).mono ?_
  rintro e w1 ⟨rfl, hg⟩
  have G1 := Lib.hid (hg)
  clear hg
  go_wp2_with fail
  refine (O.out _).mono ?_
  rintro e w2 ⟨rfl, hg⟩
  have G2 := Lib.hid (grown_trans G1.out hg)
  clear hg G1
  go_wp2_with fail
  refine (C.out _).mono ?_
  rintro e w3 ⟨rfl, hg⟩
  have G3 := Lib.hid (grown_trans G2.out hg)
  clear hg G2
  go_wp2
  go_ret2
  exact ⟨rfl, G3.out⟩
set_option maxRecDepth 100000 in
set_option maxHeartbeats 1000000 in
theorem rs_p_inf (k : Int) (a : ByteArray) (c : Int) (X : Hid (VB 21 k a true)) (O : Hid (∀ w, Calls Tryz.prog 25 #[.int .i64 k] w (ValPost (.string ⟨#[49]⟩) w))) (k1 : (k == 1) = false) (k3 : (k == 3) = false) (C : Hid (RCmp a ⟨#[49]⟩ c)) (h : 0 ≤ c) (w : World) : Calls Tryz.prog 28 #[.int .i64 k, .string a] w (ValPost (.tuple #[.string infS, .int .i64 0]) w) := by
  go_enter Tryz.func28, Tryz.ntmps28
  go_wp2_with fail
  refine (X.out _).mono ?_
  rintro e w1 ⟨rfl, hg⟩
  have G1 := Lib.hid (hg)
  clear hg
  go_wp2_with fail
  refine (O.out _).mono ?_
  rintro e w2 ⟨rfl, hg⟩
  have G2 := Lib.hid (grown_trans G1.out hg)
  clear hg G1
  go_wp2_with fail
  refine (C.out _).mono ?_
  rintro e w3 ⟨rfl, hg⟩
  have G3 := Lib.hid (grown_trans G2.out hg)
  clear hg G2
  go_wp2
  go_ret2
  exact ⟨rfl, G3.out⟩
set_option maxRecDepth 100000 in
set_option maxHeartbeats 1000000 in
theorem rs_p_div (k : Int) (a D S : ByteArray) (c E : Int) (X : Hid (VB 21 k a true)) (O : Hid (∀ w, Calls Tryz.prog 25 #[.int .i64 k] w (ValPost (.string ⟨#[49]⟩) w))) (k1 : (k == 1) = false) (k3 : (k == 3) = false) (C : Hid (RCmp a ⟨#[49]⟩ c)) (h : ¬ 0 ≤ c) (M : Hid (∀ w, Calls Tryz.prog 41 #[.string ⟨#[49]⟩, .string a] w (ValPost (.tuple #[.string D, .int .i64 0]) w))) (N : Hid (∀ w, Calls Tryz.prog 42 #[.string ⟨#[49]⟩, .string D] w (ValPost (.tuple #[.string S, .int .i64 E]) w))) (w : World) : Calls Tryz.prog 28 #[.int .i64 k, .string a] w (ValPost (.tuple #[.string S, .int .i64 E]) w) := by
  go_enter Tryz.func28, Tryz.ntmps28
  go_wp2_with fail
  refine (X.out _).mono ?_
  rintro e w1 ⟨rfl, hg⟩
  have G1 := Lib.hid (hg)
  clear hg
  go_wp2_with fail
  refine (O.out _).mono ?_
  rintro e w2 ⟨rfl, hg⟩
  have G2 := Lib.hid (grown_trans G1.out hg)
  clear hg G1
  go_wp2_with fail
  refine (C.out _).mono ?_
  rintro e w3 ⟨rfl, hg⟩
  have G3 := Lib.hid (grown_trans G2.out hg)
  clear hg G2
  go_wp2_with fail
  refine (M.out _).mono ?_
  rintro e w4 ⟨rfl, hg⟩
  have G4 := Lib.hid (grown_trans G3.out hg)
  clear hg G3
  go_wp2_with fail
  refine (N.out _).mono ?_
  rintro e w5 ⟨rfl, hg⟩
  have G5 := Lib.hid (grown_trans G4.out hg)
  clear hg G4
  go_wp2
  go_ret2
  exact ⟨rfl, G5.out⟩
theorem rstar_no {k : Int} {a : ByteArray} (ha : a.size ≤ maxLen) (h : NoVal k a) : SOp1 28 k a (errV 1) := fun w => rs_bad k a (Lib.hid (rv_no h ha)) w
theorem rone_lit {k : Int} (hk : k = 2 ∨ k = 3) : Hid (∀ w, Calls Tryz.prog 25 #[.int .i64 k] w (ValPost (.string ⟨#[49]⟩) w)) := Lib.hid fun w => by
  have := rone_any k w
  unfold oneT at this
  rw [if_neg (by omega), if_pos hk] at this
  exact this
theorem rstar_val {k : Int} {a : ByteArray} {u : Ext} (ha : Val k a u) : SOp1 28 k a (extV (starE k u)) := fun w => by
  have X := Lib.hid (rv_yes ha)
  rcases ha.kind with rfl | rfl | rfl
  · have C := Lib.hid (rc_val ha.e zeroE)
    show Calls _ _ _ w (ValPost (extV (if cmpE u (.inr 0) < 0 then .inl false else .inr 0)) w)
    have O : Hid (∀ w, Calls Tryz.prog 25 #[.int .i64 1] w (ValPost (.string ⟨#[48]⟩) w)) := Lib.hid fun w => rone_any 1 w
    by_cases h : cmpE u (.inr 0) < 0
    · rw [if_pos h]
      exact rs_c_low 1 a _ X O rfl C (by omega) w
    · rw [if_neg h, zeroV]
      exact rs_c_one 1 a _ X O rfl C (by omega) w
  · have C := Lib.hid (rc_val ha.e oneE)
    have O := rone_lit (k := 2) (.inl rfl)
    rcases has_top u ha.has with rfl | ⟨x, rfl, hx⟩
    · exact rs_p_inf 2 a _ X O rfl rfl C (by decide) w
    show Calls _ _ _ w (ValPost (extV (if x < 1 then .inr (1 / (1 - x)) else .inl true)) w)
    have z : 0 ≤ cmpE (.inr x) (.inr 1) ↔ ¬ x < 1 := by
      show 0 ≤ cmpQ x 1 ↔ _
      rw [← cmpQ_neg]; omega
    by_cases h : x < 1
    · rw [if_pos h]
      have hs := short_less hx (Rat.le_of_lt h) (show Short x from IsRat.short ha.e)
      have hR : IsRat (ratS (1 - x)) (1 - x) := ⟨hs, rfl⟩
      obtain ⟨S, E, e⟩ := finV_form (1 / (1 - x))
      show Calls _ _ _ w (ValPost (finV (1 / (1 - x))) w)
      have M := fun w => rsub_rat oneE ha.e w
      have N := fun w => rdiv_rat oneE hR (less_ne h) w
      rw [finV_rat hR] at M
      rw [e] at N ⊢
      exact rs_p_div 2 a _ S _ E X O rfl rfl C (fun q => z.1 q h) (Lib.hid M) (Lib.hid N) w
    · rw [if_neg h]
      exact rs_p_inf 2 a _ X O rfl rfl C (z.2 h) w
  · have C := Lib.hid (rc_val ha.e oneE)
    have O := rone_lit (k := 3) (.inr rfl)
    show Calls _ _ _ w (ValPost (extV (if 0 < cmpE u (.inr 1) then .inl true else .inr 1)) w)
    by_cases h : 0 < cmpE u (.inr 1)
    · rw [if_pos h]
      exact rs_v_inf 3 a _ X O rfl rfl C (by omega) w
    · rw [if_neg h, oneV]
      exact rs_v_one 3 a _ X O rfl rfl C (by omega) w

/-! ### Over -/
set_option maxRecDepth 100000 in
set_option maxHeartbeats 1000000 in
theorem ro_none (k : Int) (a b : ByteArray) (K : Hid (RK k false)) (w : World) : Calls Tryz.prog 29 #[.int .i64 k, .string a, .string b] w (ValPost (errV 1) w) := by
  go_enter Tryz.func29, Tryz.ntmps29
  go_wp2_with fail
  refine (K.out _).mono ?_
  rintro e w' ⟨rfl, rfl⟩
  go_wp2
  go_ret2
  exact ⟨rfl, grown_refl _ _⟩
set_option maxRecDepth 100000 in
set_option maxHeartbeats 1000000 in
theorem ro_zero_bad (k : Int) (a b Z : ByteArray) (K : Hid (RK k true)) (O : Hid (∀ w, Calls Tryz.prog 24 #[.int .i64 k] w (ValPost (.string Z) w))) (z : (a.toList == Z.toList) = true) (zn : (a.toList != Z.toList) = false) (Y : Hid (VB 23 k b false)) (w : World) : Calls Tryz.prog 29 #[.int .i64 k, .string a, .string b] w (ValPost (errV 1) w) := by
  go_enter Tryz.func29, Tryz.ntmps29
  go_wp2_with fail
  refine (K.out _).mono ?_
  rintro e w' ⟨rfl, rfl⟩
  go_wp2_with fail
  refine (O.out _).mono ?_
  rintro e w1 ⟨rfl, hg⟩
  have G1 := Lib.hid (hg)
  clear hg
  go_wp2_with fail
  refine (Y.out _).mono ?_
  rintro e w2 ⟨rfl, hg⟩
  have G2 := Lib.hid (grown_trans G1.out hg)
  clear hg G1
  go_wp2
  go_ret2
  exact ⟨rfl, G2.out⟩
set_option maxRecDepth 100000 in
set_option maxHeartbeats 1000000 in
theorem ro_zero (k : Int) (a b Z : ByteArray) (K : Hid (RK k true)) (O : Hid (∀ w, Calls Tryz.prog 24 #[.int .i64 k] w (ValPost (.string Z) w))) (z : (a.toList == Z.toList) = true) (zn : (a.toList != Z.toList) = false) (Y : Hid (VB 23 k b true)) (w : World) : Calls Tryz.prog 29 #[.int .i64 k, .string a, .string b] w (ValPost (.tuple #[.string a, .int .i64 0]) w) := by
  go_enter Tryz.func29, Tryz.ntmps29
  go_wp2_with fail
  refine (K.out _).mono ?_
  rintro e w' ⟨rfl, rfl⟩
  go_wp2_with fail
  refine (O.out _).mono ?_
  rintro e w1 ⟨rfl, hg⟩
  have G1 := Lib.hid (hg)
  clear hg
  go_wp2_with fail
  refine (Y.out _).mono ?_
  rintro e w2 ⟨rfl, hg⟩
  have G2 := Lib.hid (grown_trans G1.out hg)
  clear hg G1
  go_wp2_with fail
  refine (O.out _).mono ?_
  rintro e w3 ⟨rfl, hg⟩
  have G3 := Lib.hid (grown_trans G2.out hg)
  clear hg G2
  go_wp2
  go_ret2
  exact ⟨rfl, G3.out⟩
set_option maxRecDepth 100000 in
set_option maxHeartbeats 1000000 in
theorem ro_bad1 (k : Int) (a b Z : ByteArray) (K : Hid (RK k true)) (O : Hid (∀ w, Calls Tryz.prog 24 #[.int .i64 k] w (ValPost (.string Z) w))) (z : (a.toList == Z.toList) = false) (zn : (a.toList != Z.toList) = true) (X : Hid (VB 23 k a false)) (w : World) : Calls Tryz.prog 29 #[.int .i64 k, .string a, .string b] w (ValPost (errV 1) w) := by
  go_enter Tryz.func29, Tryz.ntmps29
  go_wp2_with fail
  refine (K.out _).mono ?_
  rintro e w' ⟨rfl, rfl⟩
  go_wp2_with fail
  refine (O.out _).mono ?_
  rintro e w1 ⟨rfl, hg⟩
  have G1 := Lib.hid (hg)
  clear hg
  go_wp2_with fail
  refine (X.out _).mono ?_
  rintro e w2 ⟨rfl, hg⟩
  have G2 := Lib.hid (grown_trans G1.out hg)
  clear hg G1
  go_wp2
  go_ret2
  exact ⟨rfl, G2.out⟩
set_option maxRecDepth 100000 in
set_option maxHeartbeats 1000000 in
theorem ro_bad2 (k : Int) (a b Z : ByteArray) (K : Hid (RK k true)) (O : Hid (∀ w, Calls Tryz.prog 24 #[.int .i64 k] w (ValPost (.string Z) w))) (z : (a.toList == Z.toList) = false) (zn : (a.toList != Z.toList) = true) (X : Hid (VB 23 k a true)) (Y : Hid (VB 23 k b false)) (w : World) : Calls Tryz.prog 29 #[.int .i64 k, .string a, .string b] w (ValPost (errV 1) w) := by
  go_enter Tryz.func29, Tryz.ntmps29
  go_wp2_with fail
  refine (K.out _).mono ?_
  rintro e w' ⟨rfl, rfl⟩
  go_wp2_with fail
  refine (O.out _).mono ?_
  rintro e w1 ⟨rfl, hg⟩
  have G1 := Lib.hid (hg)
  clear hg
  go_wp2_with fail
  refine (X.out _).mono ?_
  rintro e w2 ⟨rfl, hg⟩
  have G2 := Lib.hid (grown_trans G1.out hg)
  clear hg G1
  go_wp2_with fail
  refine (Y.out _).mono ?_
  rintro e w3 ⟨rfl, hg⟩
  have G3 := Lib.hid (grown_trans G2.out hg)
  clear hg G2
  go_wp2
  go_ret2
  exact ⟨rfl, G3.out⟩
set_option maxRecDepth 100000 in
set_option maxHeartbeats 1000000 in
theorem ro_sub (k : Int) (a b Z S : ByteArray) (E : Int) (K : Hid (RK k true)) (O : Hid (∀ w, Calls Tryz.prog 24 #[.int .i64 k] w (ValPost (.string Z) w))) (z : (a.toList == Z.toList) = false) (zn : (a.toList != Z.toList) = true) (X : Hid (VB 23 k a true)) (Y : Hid (VB 23 k b true)) (k1 : (k == 1) = true) (C : Hid (∀ w, Calls Tryz.prog 41 #[.string a, .string b] w (ValPost (.tuple #[.string S, .int .i64 E]) w))) (w : World) : Calls Tryz.prog 29 #[.int .i64 k, .string a, .string b] w (ValPost (.tuple #[.string S, .int .i64 E]) w) := by
  go_enter Tryz.func29, Tryz.ntmps29
  go_wp2_with fail
  refine (K.out _).mono ?_
  rintro e w' ⟨rfl, rfl⟩
  go_wp2_with fail
  refine (O.out _).mono ?_
  rintro e w1 ⟨rfl, hg⟩
  have G1 := Lib.hid (hg)
  clear hg
  go_wp2_with fail
  refine (X.out _).mono ?_
  rintro e w2 ⟨rfl, hg⟩
  have G2 := Lib.hid (grown_trans G1.out hg)
  clear hg G1
  go_wp2_with fail
  refine (Y.out _).mono ?_
  rintro e w3 ⟨rfl, hg⟩
  have G3 := Lib.hid (grown_trans G2.out hg)
  clear hg G2
  go_wp2_with fail
  refine (O.out _).mono ?_
  rintro e w4 ⟨rfl, hg⟩
  have G4 := Lib.hid (grown_trans G3.out hg)
  clear hg G3
  go_wp2_with fail
  refine (C.out _).mono ?_
  rintro e w5 ⟨rfl, hg⟩
  have G5 := Lib.hid (grown_trans G4.out hg)
  clear hg G4
  go_wp2
  go_ret2
  exact ⟨rfl, G5.out⟩
set_option maxRecDepth 100000 in
set_option maxHeartbeats 1000000 in
theorem ro_div (k : Int) (a b Z S : ByteArray) (E : Int) (K : Hid (RK k true)) (O : Hid (∀ w, Calls Tryz.prog 24 #[.int .i64 k] w (ValPost (.string Z) w))) (z : (a.toList == Z.toList) = false) (zn : (a.toList != Z.toList) = true) (X : Hid (VB 23 k a true)) (Y : Hid (VB 23 k b true)) (k1 : (k == 1) = false) (C : Hid (∀ w, Calls Tryz.prog 42 #[.string a, .string b] w (ValPost (.tuple #[.string S, .int .i64 E]) w))) (w : World) : Calls Tryz.prog 29 #[.int .i64 k, .string a, .string b] w (ValPost (.tuple #[.string S, .int .i64 E]) w) := by
  go_enter Tryz.func29, Tryz.ntmps29
  go_wp2_with fail
  refine (K.out _).mono ?_
  rintro e w' ⟨rfl, rfl⟩
  go_wp2_with fail
  refine (O.out _).mono ?_
  rintro e w1 ⟨rfl, hg⟩
  have G1 := Lib.hid (hg)
  clear hg
  go_wp2_with fail
  refine (X.out _).mono ?_
  rintro e w2 ⟨rfl, hg⟩
  have G2 := Lib.hid (grown_trans G1.out hg)
  clear hg G1
  go_wp2_with fail
  refine (Y.out _).mono ?_
  rintro e w3 ⟨rfl, hg⟩
  have G3 := Lib.hid (grown_trans G2.out hg)
  clear hg G2
  go_wp2_with fail
  refine (O.out _).mono ?_
  rintro e w4 ⟨rfl, hg⟩
  have G4 := Lib.hid (grown_trans G3.out hg)
  clear hg G3
  go_wp2_with fail
  refine (C.out _).mono ?_
  rintro e w5 ⟨rfl, hg⟩
  have G5 := Lib.hid (grown_trans G4.out hg)
  clear hg G4
  go_wp2
  go_ret2
  exact ⟨rfl, G5.out⟩
theorem rover_bad {k : Int} {a b : ByteArray} (ha : a.size ≤ maxLen) (hb : b.size ≤ maxLen) (h : (a ≠ zeroT k ∧ NoWgt k a) ∨ NoWgt k b) : SOp 29 k a b (errV 1) := fun w => by
  by_cases hk : k = 1 ∨ k = 2 ∨ k = 3
  case neg => exact ro_none k a b (Lib.hid (rk_none hk)) w
  have K := Lib.hid (rk_kind hk)
  have O : Hid (∀ w, Calls Tryz.prog 24 #[.int .i64 k] w (ValPost (.string (zeroT k)) w)) := Lib.hid fun w => rzero_any k w
  rcases zt_facts k a with ⟨f1, f2, f3⟩ | ⟨f1, f2, f3⟩
  · rcases h with ⟨h, _⟩ | h
    · exact absurd f3 h
    · exact ro_zero_bad k a b _ K O f1 f2 (Lib.hid (rw_no h hb)) w
  · rcases wgt_or k a with ⟨v, hv⟩ | hn
    · rcases h with ⟨_, h⟩ | h
      · exact absurd hv.has (by rw [h v hv.e]; simp)
      · exact ro_bad2 k a b _ K O f1 f2 (Lib.hid (rw_yes hv)) (Lib.hid (rw_no h hb)) w
    · exact ro_bad1 k a b _ K O f1 f2 (Lib.hid (rw_no hn ha)) w
theorem over_top {k : Int} (hk : k = 1 ∨ k = 2 ∨ k = 3) {v : Ext} (hv : wgtE k v = true) : overE k (topOf k) v = topOf k := by
  rcases v with (_ | _) | y
  · cases hv
  · cases hv
  rcases hk with rfl | rfl | rfl
  · rfl
  · show Sum.inr (0 / y) = Sum.inr 0
    rw [Rat.div_def, Rat.zero_mul]
  · show Sum.inr (0 / y) = Sum.inr 0
    rw [Rat.div_def, Rat.zero_mul]
theorem rover_val {k : Int} {a b : ByteArray} {u v : Ext} (ha : IsE a u) (hu : u = topOf k ∨ wgtE k u = true) (hb : Wgt k b v) : SOp 29 k a b (extV (overE k u v)) := fun w => by
  have kk := hb.val.kind
  have K := Lib.hid (rk_kind kk)
  have O : Hid (∀ w, Calls Tryz.prog 24 #[.int .i64 k] w (ValPost (.string (zeroT k)) w)) := Lib.hid fun w => rzero_any k w
  have Y := Lib.hid (rw_yes hb)
  rcases zt_facts k a with ⟨f1, f2, f3⟩ | ⟨f1, f2, f3⟩
  · have e : u = topOf k := ha.uniq (by rw [f3]; exact zeroT_is kk)
    rw [e, over_top kk hb.has, ← e, extV_is ha]
    exact ro_zero k a b _ K O f1 f2 Y w
  · have hw : wgtE k u = true := by
      rcases hu with h | h
      · exact absurd (ha.same (h ▸ zeroT_is kk)) f3
      · exact h
    have hW : Wgt k a u := ⟨ha, hw⟩
    have X := Lib.hid (rw_yes hW)
    obtain ⟨x, rfl, hx, _⟩ := wgt_num hW
    obtain ⟨y, rfl, hy, h0⟩ := wgt_num hb
    rcases k_one k with ⟨k1, _, k2⟩ | ⟨k1, _, k2⟩
    · rw [show overE k (.inr x) (.inr y) = .inr (x - y) from if_pos k2]
      obtain ⟨S, E, e⟩ := finV_form (x - y)
      have C := fun w => rsub_rat hx hy w
      show Calls _ _ _ w (ValPost (finV (x - y)) w)
      rw [e] at C ⊢
      exact ro_sub k a b _ S E K O f1 f2 X Y k1 (Lib.hid C) w
    · rw [show overE k (.inr x) (.inr y) = .inr (x / y) from if_neg k2]
      obtain ⟨S, E, e⟩ := finV_form (x / y)
      have C := fun w => rdiv_rat hx hy (pos_num (by rcases h0 with h | h; exact absurd h k2; exact h)) w
      show Calls _ _ _ w (ValPost (finV (x / y)) w)
      rw [e] at C ⊢
      exact ro_div k a b _ S E K O f1 f2 X Y k1 (Lib.hid C) w
end Go.Proofs.YtkekljjjomnalaaGreatDoor
