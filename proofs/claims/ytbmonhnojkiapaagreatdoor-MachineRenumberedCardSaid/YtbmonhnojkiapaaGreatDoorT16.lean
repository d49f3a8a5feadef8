/- The functions of semi, by contract: on any texts. -/
import Derived.Test.YtbmonhnojkiapaaGreatDoorT15
import Derived.Test.YtbmonhnojkiapaaGreatDoorT13
set_option linter.unusedVariables false
set_option linter.unusedSimpArgs false
namespace Go.Proofs.YtbmonhnojkiapaaGreatDoor
open Go.RowKit
open Go.Lib (nDigits decDigits)

/-! ### The kinds -/
theorem enters_none : Enters 90 := enters_of Tryz.func90 (by kernel_rfl) rfl
theorem enters_extended : Enters 91 := enters_of Tryz.func91 (by kernel_rfl) rfl
theorem enters_valid : Enters 92 := enters_of Tryz.func92 (by kernel_rfl) rfl
theorem enters_notNeg : Enters 98 := enters_of Tryz.func98 (by kernel_rfl) rfl
theorem enters_positive : Enters 99 := enters_of Tryz.func99 (by kernel_rfl) rfl
theorem enters_lesser : Enters 93 := enters_of Tryz.func93 (by kernel_rfl) rfl
theorem enters_greater : Enters 105 := enters_of Tryz.func105 (by kernel_rfl) rfl
theorem enters_costs : Enters 94 := enters_of Tryz.func94 (by kernel_rfl) rfl
theorem enters_sum' : Enters 100 := enters_of Tryz.func100 (by kernel_rfl) rfl
theorem enters_product' : Enters 101 := enters_of Tryz.func101 (by kernel_rfl) rfl
theorem enters_diff : Enters 96 := enters_of Tryz.func96 (by kernel_rfl) rfl
theorem enters_divide : Enters 103 := enters_of Tryz.func103 (by kernel_rfl) rfl
theorem enters_starC : Enters 95 := enters_of Tryz.func95 (by kernel_rfl) rfl
theorem enters_starP : Enters 102 := enters_of Tryz.func102 (by kernel_rfl) rfl
theorem enters_starS : Enters 106 := enters_of Tryz.func106 (by kernel_rfl) rfl
theorem enters_compare : Enters 97 := enters_of Tryz.func97 (by kernel_rfl) rfl
theorem enters_down : Enters 104 := enters_of Tryz.func104 (by kernel_rfl) rfl

theorem kind_one : Kind 1 infS zeroS 91 92 (fnV 93) (fnV 94) (fnV 95) (fnV 96) (fnV 97) :=
  ⟨fun w => of_any 1 w, enters_extended, enters_valid, rfl⟩
theorem kind_two : Kind 2 zeroS oneS 98 99 (fnV 100) (fnV 101) (fnV 102) (fnV 103) (fnV 104) :=
  ⟨fun w => of_any 2 w, enters_notNeg, enters_positive, rfl⟩
theorem kind_three : Kind 3 zeroS oneS 98 99 (fnV 105) (fnV 101) (fnV 106) (fnV 103) (fnV 104) :=
  ⟨fun w => of_any 3 w, enters_notNeg, enters_positive, rfl⟩
theorem kind_none {k : Int} (h1 : k ≠ 1) (h2 : k ≠ 2) (h3 : k ≠ 3) : Kind k ⟨#[]⟩ ⟨#[]⟩ 90 90 .nilFunc .nilFunc .nilFunc .nilFunc .nilFunc :=
  ⟨fun w => by
    have h := of_any k w
    unfold semiV semiC at h
    rw [if_neg h1, if_neg h2, if_neg h3] at h
    exact h, enters_none, enters_none, rfl⟩

/-- The texts of the neutral values. -/
def zeroT (k : Int) : ByteArray := if k = 1 then infS else if k = 2 ∨ k = 3 then zeroS else ⟨#[]⟩
def oneT (k : Int) : ByteArray := if k = 1 then zeroS else if k = 2 ∨ k = 3 then oneS else ⟨#[]⟩
/-- What any kind is, as far as the tests go. -/
structure KindIs (k : Int) (V W : Nat) : Prop where
  vy : ∀ a v, Val k a v → ValueIs V a true
  vn : ∀ a, a.size ≤ maxLen → NoVal k a → ValueIs V a false
  wy : ∀ a v, Wgt k a v → ValueIs W a true
  wn : ∀ a, a.size ≤ maxLen → NoWgt k a → ValueIs W a false
theorem is_one : KindIs 1 91 92 := by
  refine ⟨fun a v h => extended_yes h.e, fun a ha h => extended_no (fun v k => ?_) ha, fun a v h => ?_, fun a ha h => ?_⟩
  · have := h v k; rw [has_one] at this; cases this
  · have := ratval_val h.e; rw [h.has] at this; exact this
  · rcases ext_or a with ⟨v, hv⟩ | hn
    · have := ratval_val hv; rw [h v hv] at this; exact this
    · exact fun w => ratvalid_no hn.rat ha w
theorem is_two : KindIs 2 98 99 := by
  refine ⟨fun a v h => ?_, fun a ha h => ?_, fun a v h => ?_, fun a ha h => ?_⟩
  · have := notNeg_val h.e; rw [h.has] at this; exact this
  · rcases ext_or a with ⟨v, hv⟩ | hn
    · have := notNeg_val hv; rw [h v hv] at this; exact this
    · exact notNeg_no hn ha
  · have := positive_val h.e; rw [h.has] at this; exact this
  · rcases ext_or a with ⟨v, hv⟩ | hn
    · have := positive_val hv; rw [h v hv] at this; exact this
    · exact positive_no hn ha
theorem is_three : KindIs 3 98 99 :=
  ⟨fun a v h => is_two.vy a v ⟨h.e, by rw [has_two]; exact h.has⟩, fun a ha h => is_two.vn a ha (fun v hv => by rw [has_two]; exact h v hv),
   fun a v h => is_two.wy a v ⟨h.e, by rw [wgt_two]; exact h.has⟩, fun a ha h => is_two.wn a ha (fun v hv => by rw [wgt_two]; exact h v hv)⟩
theorem is_none {k : Int} (h1 : k ≠ 1) (h2 : k ≠ 2) (h3 : k ≠ 3) : KindIs k 90 90 :=
  ⟨fun a v h => absurd h.has (by rw [no_kind h1 h2 h3]; simp), fun a _ _ => none_any a, fun a v h => absurd h.val.has (by rw [no_kind h1 h2 h3]; simp), fun a _ _ => none_any a⟩
theorem kind_any (k : Int) : ∃ V W p t s ov b, Kind k (zeroT k) (oneT k) V W p t s ov b ∧ KindIs k V W := by
  unfold zeroT oneT
  by_cases h1 : k = 1
  · subst h1; exact ⟨_, _, _, _, _, _, _, kind_one, is_one⟩
  by_cases h2 : k = 2
  · subst h2; exact ⟨_, _, _, _, _, _, _, kind_two, is_two⟩
  by_cases h3 : k = 3
  · subst h3; exact ⟨_, _, _, _, _, _, _, kind_three, is_three⟩
  simp only [h1, h2, h3, if_false, or_self]
  exact ⟨_, _, _, _, _, _, _, kind_none h1 h2 h3, is_none h1 h2 h3⟩

/-! ### Tests -/
def VB (F : Nat) (k : Int) (a : ByteArray) (x : Bool) : Prop := ∀ w, Calls Tryz.prog F #[.int .i64 k, .string a] w (ValPost (.bool x) w)
theorem sweight_yes {k : Int} {a : ByteArray} {v : Ext} (h : Wgt k a v) : VB 65 k a true := fun w => by
  obtain ⟨V, W, p, t, s, ov, b, K, I⟩ := kind_any k
  exact sweight_walk (Lib.hid K) a true w (Lib.hid (I.wy a v h))
theorem sweight_no {k : Int} {a : ByteArray} (h : NoWgt k a) (ha : a.size ≤ maxLen) : VB 65 k a false := fun w => by
  obtain ⟨V, W, p, t, s, ov, b, K, I⟩ := kind_any k
  exact sweight_walk (Lib.hid K) a false w (Lib.hid (I.wn a ha h))
theorem sone_any (k : Int) (w : World) : Calls Tryz.prog 61 #[.int .i64 k] w (ValPost (.string (oneT k)) w) := by
  obtain ⟨V, W, p, t, s, ov, b, K, I⟩ := kind_any k
  exact sone_walk (Lib.hid K) w

/-! ### Operations with two values -/
def SOp (F : Nat) (k : Int) (a b : ByteArray) (V : Value) : Prop := ∀ w, Calls Tryz.prog F #[.int .i64 k, .string a, .string b] w (ValPost V w)
theorem extV_form (v : Ext) : ∃ S E, extV v = .tuple #[.string S, .int .i64 E] := by
  rcases v with (_ | _) | x
  · exact ⟨_, _, rfl⟩
  · exact ⟨_, _, rfl⟩
  · exact finV_form x
theorem sum_val {a b : ByteArray} {u v : Ext} (ha : IsE a u) (hb : IsE b v) (hu : hasE 2 u = true) (hv : hasE 2 v = true) : OpIs 100 a b (extV (sumE u v)) := fun w => by
  have i := txt_top ha; have j := txt_top hb
  rcases u with (_ | _) | x
  · cases hu
  · exact sum_inf a b _ _ w i j rfl
  rcases v with (_ | _) | y
  · cases hv
  · exact sum_inf a b _ _ w i j rfl
  obtain ⟨S, E, e⟩ := finV_form (x + y)
  have C := fun w => add_rat ha hb w
  show Calls _ _ _ w (ValPost (finV (x + y)) w)
  rw [e] at C ⊢
  exact sum_add a b S E w i j (Lib.hid C)
theorem costs_val {a b : ByteArray} {u v : Ext} (ha : IsE a u) (hb : IsE b v) : OpIs 94 a b (extV (costE u v)) := fun w => by
  have i := txt_top ha; have j := txt_top hb; have m := txt_low ha; have n := txt_low hb
  rcases u with (_ | _) | x <;> rcases v with (_ | _) | y
  · exact costs_low a b _ _ w i j m n rfl
  · exact costs_inf a b _ _ w i j rfl
  · exact costs_low a b _ _ w i j m n rfl
  · exact costs_inf a b _ _ w i j rfl
  · exact costs_inf a b _ _ w i j rfl
  · exact costs_inf a b _ _ w i j rfl
  · exact costs_low a b _ _ w i j m n rfl
  · exact costs_inf a b _ _ w i j rfl
  obtain ⟨S, E, e⟩ := finV_form (x + y)
  have C := fun w => add_rat ha hb w
  show Calls _ _ _ w (ValPost (finV (x + y)) w)
  rw [e] at C ⊢
  exact costs_add a b S E w i j m n (Lib.hid C)
theorem zeroV : extV (.inr 0) = okV zeroS := finV_rat zero_rat
theorem isNil_iff (v : Ext) : isNil v = true ↔ v = .inr 0 := by
  rcases v with (_ | _) | x
  · exact ⟨fun h => (by cases h), fun h => (by cases h)⟩
  · exact ⟨fun h => (by cases h), fun h => (by cases h)⟩
  · exact ⟨fun h => by rw [of_decide_eq_true h], fun h => decide_eq_true (Sum.inr.inj h)⟩
theorem prod_val {a b : ByteArray} {u v : Ext} (ha : IsE a u) (hb : IsE b v) (hu : hasE 2 u = true) (hv : hasE 2 v = true) : OpIs 101 a b (extV (prodE u v)) := fun w => by
  have i := txt_top ha; have j := txt_top hb; have m := txt_zero ha; have n := txt_zero hb
  unfold prodE
  by_cases h : u = .inr 0 ∨ v = .inr 0
  · rw [if_pos h, zeroV]
    refine prod_zero a b _ _ w m n ?_
    rw [Bool.or_eq_true, isNil_iff, isNil_iff]
    exact h
  rw [if_neg h]
  have hm : isNil u = false := by rw [← Bool.not_eq_true, isNil_iff]; exact fun k => h (.inl k)
  have hn : isNil v = false := by rw [← Bool.not_eq_true, isNil_iff]; exact fun k => h (.inr k)
  rw [hm] at m
  rw [hn] at n
  rcases u with (_ | _) | x
  · cases hu
  · exact prod_inf a b _ _ w m n i j rfl
  rcases v with (_ | _) | y
  · cases hv
  · exact prod_inf a b _ _ w m n i j rfl
  obtain ⟨S, E, e⟩ := finV_form (x * y)
  have C := fun w => mul_rat ha hb w
  show Calls _ _ _ w (ValPost (finV (x * y)) w)
  rw [e] at C ⊢
  exact prod_mul a b S E w m n i j (Lib.hid C)

/-! ### Star -/
def SOp1 (F : Nat) (k : Int) (a : ByteArray) (V : Value) : Prop := ∀ w, Calls Tryz.prog F #[.int .i64 k, .string a] w (ValPost V w)
theorem starC_val {a : ByteArray} {u : Ext} (ha : IsE a u) : Op1Is 95 a (extV (starE 1 u)) := fun w => by
  have k := starOfCost_walk a _ _ w (Lib.hid (compare_val ha zeroE)) rfl
  show Calls _ _ _ w (ValPost (extV (if cmpE u (.inr 0) < 0 then .inl false else .inr 0)) w)
  by_cases h : cmpE u (.inr 0) < 0
  · rw [if_pos h]
    rw [decide_eq_true h] at k
    exact k
  · rw [if_neg h, zeroV]
    rw [decide_eq_false h] at k
    exact k
theorem oneV : extV (.inr 1) = okV oneS := finV_rat oneE
theorem starS_val {a : ByteArray} {u : Ext} (ha : IsE a u) : Op1Is 106 a (extV (starE 3 u)) := fun w => by
  have k := starOfScore_walk a _ _ w (Lib.hid (compare_val ha oneE)) rfl
  show Calls _ _ _ w (ValPost (extV (if 0 < cmpE u (.inr 1) then .inl true else .inr 1)) w)
  by_cases h : 0 < cmpE u (.inr 1)
  · rw [if_pos h]
    rw [decide_eq_true h] at k
    exact k
  · rw [if_neg h, oneV]
    rw [decide_eq_false h] at k
    exact k
theorem starP_val {a : ByteArray} {u : Ext} (ha : IsE a u) (hu : hasE 2 u = true) : Op1Is 102 a (extV (starE 2 u)) := fun w => by
  rcases has_top u hu with rfl | ⟨x, rfl, hx⟩
  · exact starProb_inf a _ w (Lib.hid (compare_val ha oneE)) (by decide)
  show Calls _ _ _ w (ValPost (extV (if x < 1 then .inr (1 / (1 - x)) else .inl true)) w)
  by_cases h : x < 1
  · rw [if_pos h]
    have hs := short_less hx (Rat.le_of_lt h) (show Short x from IsRat.short ha)
    have hR : IsRat (ratS (1 - x)) (1 - x) := ⟨hs, rfl⟩
    have hne : (1 - x).num ≠ 0 := less_ne h
    obtain ⟨S, E, e⟩ := finV_form (1 / (1 - x))
    show Calls _ _ _ w (ValPost (finV (1 / (1 - x))) w)
    have D := fun w => sub_rat oneE ha w
    have V := fun w => div_rat oneE hR hne w
    rw [finV_rat hR] at D
    rw [e] at V ⊢
    exact starProb_div a _ S _ 0 E w (Lib.hid (compare_val ha oneE)) (fun k => by have := (cmpQ_neg x 1).2 h; have k : 0 ≤ cmpQ x 1 := k; omega) (Lib.hid D) (Lib.hid V)
  · rw [if_neg h]
    refine starProb_inf a _ w (Lib.hid (compare_val ha oneE)) ?_
    have : ¬ cmpQ x 1 < 0 := fun k => h ((cmpQ_neg x 1).1 k)
    show 0 ≤ cmpQ x 1
    omega
/-! ### Over -/
theorem zt_facts (k : Int) (a : ByteArray) : ((a.toList == (zeroT k).toList) = true ∧ (a.toList != (zeroT k).toList) = false ∧ a = zeroT k) ∨ ((a.toList == (zeroT k).toList) = false ∧ (a.toList != (zeroT k).toList) = true ∧ a ≠ zeroT k) := by
  have e := bytes_ne (a := zeroT k) (c := a)
  by_cases h : a = zeroT k
  · rw [decide_eq_true h] at e
    exact .inl ⟨e, by rw [bne, e]; rfl, h⟩
  · rw [decide_eq_false h] at e
    exact .inr ⟨e, by rw [bne, e]; rfl, h⟩
theorem zeroT_is {k : Int} (h : k = 1 ∨ k = 2 ∨ k = 3) : IsE (zeroT k) (topOf k) := by
  rcases h with rfl | rfl | rfl
  · exact topE
  · exact zeroE
  · exact zeroE
theorem oneT_is {k : Int} (h : k = 1 ∨ k = 2 ∨ k = 3) : IsE (oneT k) (unitOf k) := by
  rcases h with rfl | rfl | rfl
  · exact zeroE
  · exact oneE
  · exact oneE
theorem wgt_num {k : Int} {a : ByteArray} {v : Ext} (h : Wgt k a v) : ∃ x, v = .inr x ∧ IsRat a x ∧ (k = 1 ∨ 0 < x) := by
  rcases v with (_ | _) | x
  · cases h.has
  · cases h.has
  refine ⟨x, rfl, h.e, ?_⟩
  have := h.has
  unfold wgtE at this
  simp only [Bool.or_eq_true, Bool.and_eq_true, decide_eq_true_eq] at this
  rcases this with h | ⟨_, h⟩
  · exact .inl h
  · exact .inr h
theorem pos_num {x : Rat} (h : 0 < x) : x.num ≠ 0 := fun k => by
  rw [Rat.num_eq_zero] at k
  rw [k] at h
  exact Rat.lt_irrefl h
/-- The operations behind Over: on Zero or a weight, and a weight. -/
theorem diff_val {a b : ByteArray} {u v : Ext} (ha : IsE a u) (hu : u = .inl true ∨ ∃ x, u = .inr x) (hb : Wgt 1 b v) : OpIs 96 a b (extV (overE 1 u v)) := fun w => by
  have i := txt_top ha
  obtain ⟨y, rfl, hy, _⟩ := wgt_num hb
  rcases hu with rfl | ⟨x, rfl⟩
  · exact diff_inf a b w i
  · obtain ⟨S, E, e⟩ := finV_form (x - y)
    have C := fun w => sub_rat ha hy w
    show Calls _ _ _ w (ValPost (finV (x - y)) w)
    rw [e] at C ⊢
    exact diff_sub a b S E w i (Lib.hid C)
theorem div_val {k : Int} (hk : k = 2 ∨ k = 3) {a b : ByteArray} {u v : Ext} (ha : IsE a u) (hu : ∃ x, u = .inr x) (hb : Wgt k b v) : OpIs 103 a b (extV (overE k u v)) := fun w => by
  obtain ⟨y, rfl, hy, h⟩ := wgt_num hb
  obtain ⟨x, rfl⟩ := hu
  have h0 : 0 < y := by rcases h with h | h; omega; exact h
  have : overE k (.inr x) (.inr y) = .inr (x / y) := if_neg (by omega)
  rw [this]
  exact div_rat ha hy (pos_num h0) w
end Go.Proofs.YtbmonhnojkiapaaGreatDoor
