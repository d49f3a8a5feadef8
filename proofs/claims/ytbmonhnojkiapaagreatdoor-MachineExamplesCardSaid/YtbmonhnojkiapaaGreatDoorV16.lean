/- The functions of semi, by contract: on any texts. -/
import Derived.Test.YtbmonhnojkiapaaGreatDoorV15
import Derived.Test.YtbmonhnojkiapaaGreatDoorV13
set_option linter.unusedVariables false
set_option linter.unusedSimpArgs false
namespace Go.Proofs.YtbmonhnojkiapaaGreatDoor
open Go.RowKit
open Go.Lib (nDigits decDigits)

/-! ### The kinds -/
theorem enters_none : Enters 90 := enters_of Tryz.func90 (by kernel_rfl) rfl
theorem enters_extended : Enters 91 := enters_of Tryz.func91 (by kernel_rfl) rfl
theorem enters_valid : Enters 92 := enters_of Tryz.func92 (by kernel_rfl) rfl
theorem enters_notNeg : Enters 98 := enters_of Tryz.func98 (by kernel_rfl) rfl
theorem enters_positive : Enters 99 := enters_of Tryz.func99 (by kernel_rfl) rfl
theorem kind_one : Kind 1 infS zeroS 91 92 (fnV 93) (fnV 94) (fnV 95) (fnV 96) (fnV 97) :=
  ⟨fun w => of_any 1 w, enters_extended, enters_valid, rfl⟩
theorem kind_two : Kind 2 zeroS oneS 98 99 (fnV 100) (fnV 101) (fnV 102) (fnV 103) (fnV 104) :=
  ⟨fun w => of_any 2 w, enters_notNeg, enters_positive, rfl⟩
theorem kind_three : Kind 3 zeroS oneS 98 99 (fnV 105) (fnV 101) (fnV 106) (fnV 103) (fnV 104) :=
  ⟨fun w => of_any 3 w, enters_notNeg, enters_positive, rfl⟩
theorem kind_none {k : Int} (h1 : k ≠ 1) (h2 : k ≠ 2) (h3 : k ≠ 3) : Kind k ⟨#[]⟩ ⟨#[]⟩ 90 90 .nilFunc .nilFunc .nilFunc .nilFunc .nilFunc :=
  ⟨fun w => by
    have h := of_any k w
    unfold semiV semiC at h
    rw [if_neg h1, if_neg h2, if_neg h3] at h
    exact h, enters_none, enters_none, rfl⟩

/-- The texts of the neutral values. -/
def zeroT (k : Int) : ByteArray := if k = 1 then infS else if k = 2 ∨ k = 3 then zeroS else ⟨#[]⟩
def oneT (k : Int) : ByteArray := if k = 1 then zeroS else if k = 2 ∨ k = 3 then oneS else ⟨#[]⟩
/-- What any kind is, as far as the tests go. -/
structure KindIs (k : Int) (V W : Nat) : Prop where
  vy : ∀ a v, Val k a v → ValueIs V a true
  vn : ∀ a, a.size ≤ maxLen → NoVal k a → ValueIs V a false
  wy : ∀ a v, Wgt k a v → ValueIs W a true
  wn : ∀ a, a.size ≤ maxLen → NoWgt k a → ValueIs W a false
theorem is_one : KindIs 1 91 92 := by
  refine ⟨fun a v h => extended_yes h.e, fun a ha h => extended_no (fun v k => ?_) ha, fun a v h => ?_, fun a ha h => ?_⟩
  · have := h v k; rw [has_one] at this; cases this
  · have := ratval_val h.e; rw [h.has] at this; exact this
  · rcases ext_or a with ⟨v, hv⟩ | hn
    · have := ratval_val hv; rw [h v hv] at this; exact this
    · exact fun w => ratvalid_no hn.rat ha w
theorem is_two : KindIs 2 98 99 := by
  refine ⟨fun a v h => ?_, fun a ha h => ?_, fun a v h => ?_, fun a ha h => ?_⟩
  · have := notNeg_val h.e; rw [h.has] at this; exact this
  · rcases ext_or a with ⟨v, hv⟩ | hn
    · have := notNeg_val hv; rw [h v hv] at this; exact this
    · exact notNeg_no hn ha
  · have := positive_val h.e; rw [h.has] at this; exact this
  · rcases ext_or a with ⟨v, hv⟩ | hn
    · have := positive_val hv; rw [h v hv] at this; exact this
    · exact positive_no hn ha
theorem is_three : KindIs 3 98 99 :=
  ⟨fun a v h => is_two.vy a v ⟨h.e, by rw [has_two]; exact h.has⟩, fun a ha h => is_two.vn a ha (fun v hv => by rw [has_two]; exact h v hv),
   fun a v h => is_two.wy a v ⟨h.e, by rw [wgt_two]; exact h.has⟩, fun a ha h => is_two.wn a ha (fun v hv => by rw [wgt_two]; exact h v hv)⟩
theorem is_none {k : Int} (h1 : k ≠ 1) (h2 : k ≠ 2) (h3 : k ≠ 3) : KindIs k 90 90 :=
  ⟨fun a v h => absurd h.has (by rw [no_kind h1 h2 h3]; simp), fun a _ _ => none_any a, fun a v h => absurd h.val.has (by rw [no_kind h1 h2 h3]; simp), fun a _ _ => none_any a⟩
theorem kind_any (k : Int) : ∃ V W p t s ov b, Kind k (zeroT k) (oneT k) V W p t s ov b ∧ KindIs k V W := by
  unfold zeroT oneT
  by_cases h1 : k = 1
  · subst h1; exact ⟨_, _, _, _, _, _, _, kind_one, is_one⟩
  by_cases h2 : k = 2
  · subst h2; exact ⟨_, _, _, _, _, _, _, kind_two, is_two⟩
  by_cases h3 : k = 3
  · subst h3; exact ⟨_, _, _, _, _, _, _, kind_three, is_three⟩
  simp only [h1, h2, h3, if_false, or_self]
  exact ⟨_, _, _, _, _, _, _, kind_none h1 h2 h3, is_none h1 h2 h3⟩

/-! ### Tests -/
def VB (F : Nat) (k : Int) (a : ByteArray) (x : Bool) : Prop := ∀ w, Calls Tryz.prog F #[.int .i64 k, .string a] w (ValPost (.bool x) w)
theorem sweight_yes {k : Int} {a : ByteArray} {v : Ext} (h : Wgt k a v) : VB 65 k a true := fun w => by
  obtain ⟨V, W, p, t, s, ov, b, K, I⟩ := kind_any k
  exact sweight_walk (Lib.hid K) a true w (Lib.hid (I.wy a v h))
theorem sweight_no {k : Int} {a : ByteArray} (h : NoWgt k a) (ha : a.size ≤ maxLen) : VB 65 k a false := fun w => by
  obtain ⟨V, W, p, t, s, ov, b, K, I⟩ := kind_any k
  exact sweight_walk (Lib.hid K) a false w (Lib.hid (I.wn a ha h))
theorem sone_any (k : Int) (w : World) : Calls Tryz.prog 61 #[.int .i64 k] w (ValPost (.string (oneT k)) w) := by
  obtain ⟨V, W, p, t, s, ov, b, K, I⟩ := kind_any k
  exact sone_walk (Lib.hid K) w

/-! ### Operations with two values -/
/-! ### Star -/
/-! ### Over -/
theorem oneT_is {k : Int} (h : k = 1 ∨ k = 2 ∨ k = 3) : IsE (oneT k) (unitOf k) := by
  rcases h with rfl | rfl | rfl
  · exact zeroE
  · exact oneE
  · exact oneE
end Go.Proofs.YtbmonhnojkiapaaGreatDoor
