/- The reference of layer 4, by contract. · The reference's Times, Star, Over, by contract. -/
import Derived.Test.YtbmonhnojkiapaaGreatDoorU12
import Derived.Test.YtbmonhnojkiapaaGreatDoorU16
set_option linter.unusedVariables false
set_option linter.unusedSimpArgs false
namespace Go.Proofs.YtbmonhnojkiapaaGreatDoor
open Go.RowKit
open Go.Lib (nDigits decDigits)

/-! ### Kind, Valid, Weight -/
def RK (k : Int) (x : Bool) : Prop := ∀ w, Calls Tryz.prog 39 #[.int .i64 k] w fun e w' => e = .returned (.bool x) ∧ w = w'
theorem rk_yes (k : Int) (h1 : 1 ≤ k) (h2 : k ≤ 3) : RK k true := fun w => by
  go_enter Tryz.func39, Tryz.ntmps39
  go_wp2
  go_ret
  exact ⟨rfl, rfl⟩
theorem rk_low (k : Int) (h1 : ¬ 1 ≤ k) : RK k false := fun w => by
  go_enter Tryz.func39, Tryz.ntmps39
  go_wp2
  go_ret
  exact ⟨rfl, rfl⟩
theorem rk_high (k : Int) (h1 : 1 ≤ k) (h2 : ¬ k ≤ 3) : RK k false := fun w => by
  go_enter Tryz.func39, Tryz.ntmps39
  go_wp2
  go_ret
  exact ⟨rfl, rfl⟩
theorem rk_kind {k : Int} (h : k = 1 ∨ k = 2 ∨ k = 3) : RK k true := rk_yes k (by omega) (by omega)
theorem rk_none {k : Int} (h : ¬ (k = 1 ∨ k = 2 ∨ k = 3)) : RK k false := by
  by_cases h1 : 1 ≤ k
  · exact rk_high k h1 (by omega)
  · exact rk_low k h1
theorem k_one (k : Int) : ((k == 1) = true ∧ (k != 1) = false ∧ k = 1) ∨ ((k == 1) = false ∧ (k != 1) = true ∧ k ≠ 1) := by
  by_cases h : k = 1
  · subst h; exact .inl ⟨rfl, rfl, rfl⟩
  · exact .inr ⟨by simpa using h, by simpa using h, h⟩
def RatV (a : ByteArray) (x : Bool) : Prop := ∀ w, Calls Tryz.prog 85 #[.string a] w (ValPost (.bool x) w)
def RatC (a b : ByteArray) (c : Int) : Prop := ∀ w, Calls Tryz.prog 86 #[.string a, .string b] w (ValPost (.int .i64 c) w)
set_option maxRecDepth 100000 in
set_option maxHeartbeats 1000000 in
theorem rv_none (k : Int) (a : ByteArray) (K : Hid (RK k false)) (w : World) : Calls Tryz.prog 71 #[.int .i64 k, .string a] w (ValPost (.bool false) w) := by
  go_enter Tryz.func71, Tryz.ntmps71
  go_wp2_with fail
  refine (K.out _).mono ?_
  rintro e w' ⟨rfl, rfl⟩
  go_wp2
  go_ret
  exact ⟨rfl, grown_refl _ _⟩
set_option maxRecDepth 100000 in
set_option maxHeartbeats 1000000 in
theorem rv_top (k : Int) (a : ByteArray) (K : Hid (RK k true)) (f1 : (a.toList == [105, 110, 102]) = true) (w : World) : Calls Tryz.prog 71 #[.int .i64 k, .string a] w (ValPost (.bool true) w) := by
  go_enter Tryz.func71, Tryz.ntmps71
  go_wp2_with fail
  refine (K.out _).mono ?_
  rintro e w' ⟨rfl, rfl⟩
  go_wp2
  go_ret
  exact ⟨rfl, grown_refl _ _⟩
set_option maxRecDepth 100000 in
set_option maxHeartbeats 1000000 in
theorem rv_low (k : Int) (a : ByteArray) (x : Bool) (K : Hid (RK k true)) (f1 : (a.toList == [105, 110, 102]) = false) (f2 : (a.toList == [45, 105, 110, 102]) = true) (k1 : (k == 1) = x) (w : World) : Calls Tryz.prog 71 #[.int .i64 k, .string a] w (ValPost (.bool x) w) := by
  go_enter Tryz.func71, Tryz.ntmps71
  go_wp2_with fail
  refine (K.out _).mono ?_
  rintro e w' ⟨rfl, rfl⟩
  go_wp2
  go_ret
  exact ⟨rfl, grown_refl _ _⟩
set_option maxRecDepth 100000 in
set_option maxHeartbeats 1000000 in
theorem rv_not (k : Int) (a : ByteArray) (K : Hid (RK k true)) (f1 : (a.toList == [105, 110, 102]) = false) (f2 : (a.toList == [45, 105, 110, 102]) = false) (V : Hid (RatV a false)) (w : World) : Calls Tryz.prog 71 #[.int .i64 k, .string a] w (ValPost (.bool false) w) := by
  go_enter Tryz.func71, Tryz.ntmps71
  go_wp2_with fail
  refine (K.out _).mono ?_
  rintro e w' ⟨rfl, rfl⟩
  go_wp2_with fail
  refine (V.out _).mono ?_
  rintro e w1 ⟨rfl, hg⟩
  have G1 := Lib.hid (hg)
  clear hg
  go_wp2
  go_ret
  exact ⟨rfl, G1.out⟩
set_option maxRecDepth 100000 in
set_option maxHeartbeats 1000000 in
theorem rv_cost (k : Int) (a : ByteArray) (K : Hid (RK k true)) (f1 : (a.toList == [105, 110, 102]) = false) (f2 : (a.toList == [45, 105, 110, 102]) = false) (V : Hid (RatV a true)) (k1 : (k == 1) = true) (w : World) : Calls Tryz.prog 71 #[.int .i64 k, .string a] w (ValPost (.bool true) w) := by
  go_enter Tryz.func71, Tryz.ntmps71
  go_wp2_with fail
  refine (K.out _).mono ?_
  rintro e w' ⟨rfl, rfl⟩
  go_wp2_with fail
  refine (V.out _).mono ?_
  rintro e w1 ⟨rfl, hg⟩
  have G1 := Lib.hid (hg)
  clear hg
  go_wp2
  go_ret
  exact ⟨rfl, G1.out⟩
set_option maxRecDepth 100000 in
set_option maxHeartbeats 1000000 in
theorem rv_cmp (k : Int) (a : ByteArray) (c : Int) (K : Hid (RK k true)) (f1 : (a.toList == [105, 110, 102]) = false) (f2 : (a.toList == [45, 105, 110, 102]) = false) (V : Hid (RatV a true)) (k1 : (k == 1) = false) (C : Hid (RatC a ⟨#[48]⟩ c)) (w : World) : Calls Tryz.prog 71 #[.int .i64 k, .string a] w (ValPost (.bool (decide (0 ≤ c))) w) := by
  go_enter Tryz.func71, Tryz.ntmps71
  go_wp2_with fail
  refine (K.out _).mono ?_
  rintro e w' ⟨rfl, rfl⟩
  go_wp2_with fail
  refine (V.out _).mono ?_
  rintro e w1 ⟨rfl, hg⟩
  have G1 := Lib.hid (hg)
  clear hg
  go_wp2_with fail
  refine (C.out _).mono ?_
  rintro e w2 ⟨rfl, hg⟩
  have G2 := Lib.hid (grown_trans G1.out hg)
  clear hg G1
  go_wp2
  go_ret
  exact ⟨rfl, G2.out⟩
theorem txt_no_inf {a : ByteArray} (h : NoExt a) : (a.toList == [105, 110, 102]) = false := by rw [← inf_list, bytes_ne]; exact decide_eq_false (fun e => h (.inl true) e)
theorem txt_no_low {a : ByteArray} (h : NoExt a) : (a.toList == [45, 105, 110, 102]) = false := by rw [← low_list, bytes_ne]; exact decide_eq_false (fun e => h (.inl false) e)
theorem has_num (k : Int) (hk : k = 1 ∨ k = 2 ∨ k = 3) (x : Rat) : hasE k (.inr x) = (decide (k = 1) || decide (0 ≤ x)) := by
  rcases hk with rfl | rfl | rfl <;> simp [hasE]
theorem rv_ext {k : Int} (hk : k = 1 ∨ k = 2 ∨ k = 3) {a : ByteArray} {v : Ext} (h : IsE a v) : VB 71 k a (hasE k v) := fun w => by
  have K := Lib.hid (rk_kind hk)
  have i := txt_top h; have j := txt_low h
  rcases v with (_ | _) | x
  · refine rv_low k a _ K i j ?_ w
    show (k == 1) = decide (k = 1)
    rw [Bool.eq_iff_iff, beq_iff_eq, decide_eq_true_eq]
  · have := rv_top k a K i w
    rw [show hasE k (.inl true) = true by rcases hk with rfl | rfl | rfl <;> rfl]
    exact this
  · have V := Lib.hid (show RatV a true from fun w => rvalid_yes h w)
    rw [has_num k hk]
    rcases k_one k with ⟨k1, _, k2⟩ | ⟨k1, _, k2⟩
    · rw [decide_eq_true k2]
      exact rv_cost k a K i j V k1 w
    · rw [decide_eq_false k2, Bool.false_or]
      have C := Lib.hid (show RatC a ⟨#[48]⟩ (cmpQ x 0) from fun w => rcmp_rat h zero_rat w)
      have z : 0 ≤ cmpQ x 0 ↔ 0 ≤ x := by rw [← Rat.not_lt, ← cmpQ_neg]; omega
      rw [← decide_eq_decide.2 z]
      exact rv_cmp k a _ K i j V k1 C w
theorem rv_yes {k : Int} {a : ByteArray} {v : Ext} (h : Val k a v) : VB 71 k a true := by
  have := rv_ext h.kind h.e
  rw [h.has] at this
  exact this
theorem rv_no {k : Int} {a : ByteArray} (h : NoVal k a) (ha : a.size ≤ maxLen) : VB 71 k a false := by
  by_cases hk : k = 1 ∨ k = 2 ∨ k = 3
  · rcases ext_or a with ⟨v, hv⟩ | hn
    · have := rv_ext hk hv
      rw [h v hv] at this
      exact this
    · exact fun w => rv_not k a (Lib.hid (rk_kind hk)) (txt_no_inf hn) (txt_no_low hn) (Lib.hid fun w => rvalid_no hn.rat ha w) w
  · exact fun w => rv_none k a (Lib.hid (rk_none hk)) w

set_option maxRecDepth 100000 in
set_option maxHeartbeats 1000000 in
theorem rw_bad (k : Int) (a : ByteArray) (V : Hid (VB 71 k a false)) (w : World) : Calls Tryz.prog 49 #[.int .i64 k, .string a] w (ValPost (.bool false) w) := by
  go_enter Tryz.func49, Tryz.ntmps49
  go_wp2_with fail
  refine (V.out _).mono ?_
  rintro e w1 ⟨rfl, hg⟩
  have G1 := Lib.hid (hg)
  clear hg
  go_wp2
  go_ret
  exact ⟨rfl, G1.out⟩
set_option maxRecDepth 100000 in
set_option maxHeartbeats 1000000 in
theorem rw_top (k : Int) (a : ByteArray) (V : Hid (VB 71 k a true)) (f : (a.toList == [105, 110, 102]) = true) (fn : (a.toList != [105, 110, 102]) = false) (w : World) : Calls Tryz.prog 49 #[.int .i64 k, .string a] w (ValPost (.bool false) w) := by
  go_enter Tryz.func49, Tryz.ntmps49
  go_wp2_with fail
  refine (V.out _).mono ?_
  rintro e w1 ⟨rfl, hg⟩
  have G1 := Lib.hid (hg)
  clear hg
  go_wp2
  go_ret
  exact ⟨rfl, G1.out⟩
set_option maxRecDepth 100000 in
set_option maxHeartbeats 1000000 in
theorem rw_low (k : Int) (a : ByteArray) (V : Hid (VB 71 k a true)) (f : (a.toList == [105, 110, 102]) = false) (fn : (a.toList != [105, 110, 102]) = true) (g : (a.toList == [45, 105, 110, 102]) = true) (gn : (a.toList != [45, 105, 110, 102]) = false) (w : World) : Calls Tryz.prog 49 #[.int .i64 k, .string a] w (ValPost (.bool false) w) := by
  go_enter Tryz.func49, Tryz.ntmps49
  go_wp2_with fail
  refine (V.out _).mono ?_
  rintro e w1 ⟨rfl, hg⟩
  have G1 := Lib.hid (hg)
  clear hg
  go_wp2
  go_ret
  exact ⟨rfl, G1.out⟩
set_option maxRecDepth 100000 in
set_option maxHeartbeats 1000000 in
theorem rw_cost (k : Int) (a : ByteArray) (V : Hid (VB 71 k a true)) (f : (a.toList == [105, 110, 102]) = false) (fn : (a.toList != [105, 110, 102]) = true) (g : (a.toList == [45, 105, 110, 102]) = false) (gn : (a.toList != [45, 105, 110, 102]) = true) (k1 : (k == 1) = true) (w : World) : Calls Tryz.prog 49 #[.int .i64 k, .string a] w (ValPost (.bool true) w) := by
  go_enter Tryz.func49, Tryz.ntmps49
  go_wp2_with fail
  refine (V.out _).mono ?_
  rintro e w1 ⟨rfl, hg⟩
  have G1 := Lib.hid (hg)
  clear hg
  go_wp2
  go_ret
  exact ⟨rfl, G1.out⟩
set_option maxRecDepth 100000 in
set_option maxHeartbeats 1000000 in
theorem rw_zero (k : Int) (a : ByteArray) (V : Hid (VB 71 k a true)) (f : (a.toList == [105, 110, 102]) = false) (fn : (a.toList != [105, 110, 102]) = true) (g : (a.toList == [45, 105, 110, 102]) = false) (gn : (a.toList != [45, 105, 110, 102]) = true) (k1 : (k == 1) = false) (z : (a.toList == [48]) = true) (zn : (a.toList != [48]) = false) (w : World) : Calls Tryz.prog 49 #[.int .i64 k, .string a] w (ValPost (.bool false) w) := by
  go_enter Tryz.func49, Tryz.ntmps49
  go_wp2_with fail
  refine (V.out _).mono ?_
  rintro e w1 ⟨rfl, hg⟩
  have G1 := Lib.hid (hg)
  clear hg
  go_wp2
  go_ret
  exact ⟨rfl, G1.out⟩
set_option maxRecDepth 100000 in
set_option maxHeartbeats 1000000 in
theorem rw_num (k : Int) (a : ByteArray) (V : Hid (VB 71 k a true)) (f : (a.toList == [105, 110, 102]) = false) (fn : (a.toList != [105, 110, 102]) = true) (g : (a.toList == [45, 105, 110, 102]) = false) (gn : (a.toList != [45, 105, 110, 102]) = true) (k1 : (k == 1) = false) (z : (a.toList == [48]) = false) (zn : (a.toList != [48]) = true) (w : World) : Calls Tryz.prog 49 #[.int .i64 k, .string a] w (ValPost (.bool true) w) := by
  go_enter Tryz.func49, Tryz.ntmps49
  go_wp2_with fail
  refine (V.out _).mono ?_
  rintro e w1 ⟨rfl, hg⟩
  have G1 := Lib.hid (hg)
  clear hg
  go_wp2
  go_ret
  exact ⟨rfl, G1.out⟩
theorem flip_t {l m : List UInt8} (h : (l == m) = true) : (l != m) = false := by rw [bne, h]; rfl
theorem flip_f {l m : List UInt8} (h : (l == m) = false) : (l != m) = true := by rw [bne, h]; rfl
/-- A value that is no weight: inf, -inf, or 0 but for Tropical. -/
theorem wgt_of_has {k : Int} (hk : k = 1 ∨ k = 2 ∨ k = 3) {x : Rat} (h : hasE k (.inr x) = true) : wgtE k (.inr x) = (decide (k = 1) || !decide (x = 0)) := by
  rw [has_num k hk] at h
  have : wgtE k (.inr x) = (decide (k = 1) || decide (0 < x)) := by rcases hk with rfl | rfl | rfl <;> simp [wgtE]
  rw [this]
  by_cases k1 : k = 1
  · rw [decide_eq_true k1]; rfl
  · rw [decide_eq_false k1, Bool.false_or] at *
    have h0 := of_decide_eq_true h
    by_cases hx : x = 0
    · subst hx; rfl
    · rw [decide_eq_true (Rat.lt_of_le_of_ne h0 (Ne.symm hx)), decide_eq_false hx]; rfl
theorem rw_val {k : Int} {a : ByteArray} {v : Ext} (h : Val k a v) : VB 49 k a (wgtE k v) := fun w => by
  have V := Lib.hid (rv_yes h)
  have i := txt_top h.e; have j := txt_low h.e; have z := txt_zero h.e
  have hk := h.kind
  rcases v with (_ | _) | x
  · exact rw_low k a V i (flip_f i) j (flip_t j) w
  · exact rw_top k a V i (flip_t i) w
  · rw [wgt_of_has hk h.has]
    rcases k_one k with ⟨k1, _, k2⟩ | ⟨k1, _, k2⟩
    · rw [decide_eq_true k2]
      exact rw_cost k a V i (flip_f i) j (flip_f j) k1 w
    · rw [decide_eq_false k2, Bool.false_or]
      have z : (a.toList == [48]) = decide (x = 0) := z
      by_cases hx : x = 0
      · rw [decide_eq_true hx] at z ⊢
        exact rw_zero k a V i (flip_f i) j (flip_f j) k1 z (flip_t z) w
      · rw [decide_eq_false hx] at z ⊢
        exact rw_num k a V i (flip_f i) j (flip_f j) k1 z (flip_f z) w
theorem rw_yes {k : Int} {a : ByteArray} {v : Ext} (h : Wgt k a v) : VB 49 k a true := by
  have := rw_val h.val
  rw [h.has] at this
  exact this
theorem rw_no {k : Int} {a : ByteArray} (h : NoWgt k a) (ha : a.size ≤ maxLen) : VB 49 k a false := by
  rcases val_or k a with ⟨v, hv⟩ | hn
  · have := rw_val hv
    rw [h v hv.e] at this
    exact this
  · exact fun w => rw_bad k a (Lib.hid (rv_no hn ha)) w

/-! ### Zero, One -/
set_option maxRecDepth 100000 in
set_option maxHeartbeats 1000000 in
theorem rone_none (k : Int) (K : Hid (RK k false)) (w : World) : Calls Tryz.prog 40 #[.int .i64 k] w (ValPost (.string ⟨#[]⟩) w) := by
  go_enter Tryz.func40, Tryz.ntmps40
  go_wp2_with fail
  refine (K.out _).mono ?_
  rintro e w' ⟨rfl, rfl⟩
  go_wp2
  go_ret
  exact ⟨rfl, grown_refl _ _⟩
set_option maxRecDepth 100000 in
set_option maxHeartbeats 1000000 in
theorem rone_cost (k : Int) (K : Hid (RK k true)) (k1 : (k == 1) = true) (w : World) : Calls Tryz.prog 40 #[.int .i64 k] w (ValPost (.string zeroS) w) := by
  go_enter Tryz.func40, Tryz.ntmps40
  go_wp2_with fail
  refine (K.out _).mono ?_
  rintro e w' ⟨rfl, rfl⟩
  go_wp2
  go_ret
  exact ⟨rfl, grown_refl _ _⟩
set_option maxRecDepth 100000 in
set_option maxHeartbeats 1000000 in
theorem rone_other (k : Int) (K : Hid (RK k true)) (k1 : (k == 1) = false) (w : World) : Calls Tryz.prog 40 #[.int .i64 k] w (ValPost (.string oneS) w) := by
  go_enter Tryz.func40, Tryz.ntmps40
  go_wp2_with fail
  refine (K.out _).mono ?_
  rintro e w' ⟨rfl, rfl⟩
  go_wp2
  go_ret
  exact ⟨rfl, grown_refl _ _⟩
theorem rone_any (k : Int) (w : World) : Calls Tryz.prog 40 #[.int .i64 k] w (ValPost (.string (oneT k)) w) := by
  unfold oneT
  by_cases hk : k = 1 ∨ k = 2 ∨ k = 3
  · rcases k_one k with ⟨k1, _, k2⟩ | ⟨k1, _, k2⟩
    · rw [if_pos k2]; exact rone_cost k (Lib.hid (rk_kind hk)) k1 w
    · rw [if_neg k2, if_pos (by rcases hk with h | h; exact absurd h k2; exact h)]; exact rone_other k (Lib.hid (rk_kind hk)) k1 w
  · rw [if_neg (fun h => hk (.inl h)), if_neg (fun h => hk (.inr h))]
    exact rone_none k (Lib.hid (rk_none hk)) w
/-! ### compare, Better -/
/-! ### Plus -/
end Go.Proofs.YtbmonhnojkiapaaGreatDoor
set_option linter.unusedVariables false
set_option linter.unusedSimpArgs false
namespace Go.Proofs.YtbmonhnojkiapaaGreatDoor
open Go.RowKit
open Go.Lib (nDigits decDigits)

/-! ### Star -/
/-! ### Over -/
end Go.Proofs.YtbmonhnojkiapaaGreatDoor
