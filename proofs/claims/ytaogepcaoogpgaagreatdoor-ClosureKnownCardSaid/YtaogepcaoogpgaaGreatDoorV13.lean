/- U15 U16 -/
import Derived.Test.YtaogepcaoogpgaaGreatDoorV12
import Derived.Test.YtaogepcaoogpgaaGreatDoorV11
set_option linter.unusedVariables false
set_option linter.unusedSimpArgs false
namespace Go.Proofs.YtaogepcaoogpgaaGreatDoor
open Go.RowKit
open Go.Lib (nDigits decDigits)
structure Kind (k : Int) (z o : ByteArray) (V W : Nat) (p t s ov b : Value) : Prop where
 f : ∀ w, Calls Tryz.prog 66 #[.int .i64 k] w (ValPost (.agg #[.string z, .string o, .func (.func V) #[] #[], .func (.func W) #[] #[], p, t, s, ov, b]) w)
 ev : Enters V
 ew : Enters W
 one : (p.oneCell' && t.oneCell' && s.oneCell' && ov.oneCell' && b.oneCell') = true
def Puts (v : Value) : Prop := ∀ (a : Addr) (m : Mode) (w : World), (store a v m).run Tryz.prog w = stored Tryz.prog w a v m
theorem puts_of {v : Value} (h : v.oneCell' = true) : Puts v := fun a m w => run_store _ w a v m h
theorem puts_all {p t s ov b : Value} (h : (p.oneCell' && t.oneCell' && s.oneCell' && ov.oneCell' && b.oneCell') = true) : Puts p ∧ Puts t ∧ Puts s ∧ Puts ov ∧ Puts b := by
 simp only [Bool.and_eq_true] at h
 exact ⟨puts_of h.1.1.1.1, puts_of h.1.1.1.2, puts_of h.1.1.2, puts_of h.1.2, puts_of h.2⟩
theorem nine {w : World} {g : Nat} {z o v x p t s ov b : Value} (h : w.heap[g]? = some (.cells #[z, o, v, x, p, t, s, ov, b] 89 (0, 0))) :
  w.cell? ⟨g, 0, none⟩ = some z ∧ w.cell? ⟨g, 1, none⟩ = some o ∧ w.cell? ⟨g, 2, none⟩ = some v ∧ w.cell? ⟨g, 3, none⟩ = some x ∧ w.cell? ⟨g, 4, none⟩ = some p ∧ w.cell? ⟨g, 5, none⟩ = some t ∧ w.cell? ⟨g, 6, none⟩ = some s ∧ w.cell? ⟨g, 7, none⟩ = some ov ∧ w.cell? ⟨g, 8, none⟩ = some b :=
 ⟨by rw [cell_of_row w g 0 _ _ (0, 0) h]; rfl, by rw [cell_of_row w g 1 _ _ (0, 0) h]; rfl, by rw [cell_of_row w g 2 _ _ (0, 0) h]; rfl, by rw [cell_of_row w g 3 _ _ (0, 0) h]; rfl, by rw [cell_of_row w g 4 _ _ (0, 0) h]; rfl, by rw [cell_of_row w g 5 _ _ (0, 0) h]; rfl, by rw [cell_of_row w g 6 _ _ (0, 0) h]; rfl, by rw [cell_of_row w g 7 _ _ (0, 0) h]; rfl, by rw [cell_of_row w g 8 _ _ (0, 0) h]; rfl⟩
@[go_sem] theorem field_z (z o v x p t s ov b : Value) (w : World) : (Instr.field 89 (.agg #[z, o, v, x, p, t, s, ov, b]) 0).run Tryz.prog w = .ok z w := by kernel_rfl
@[go_sem] theorem field_o (z o v x p t s ov b : Value) (w : World) : (Instr.field 89 (.agg #[z, o, v, x, p, t, s, ov, b]) 1).run Tryz.prog w = .ok o w := by kernel_rfl
@[go_sem] theorem field_v (z o v x p t s ov b : Value) (w : World) : (Instr.field 89 (.agg #[z, o, v, x, p, t, s, ov, b]) 2).run Tryz.prog w = .ok v w := by kernel_rfl
@[go_sem] theorem field_x (z o v x p t s ov b : Value) (w : World) : (Instr.field 89 (.agg #[z, o, v, x, p, t, s, ov, b]) 3).run Tryz.prog w = .ok x w := by kernel_rfl
set_option maxRecDepth 100000 in
set_option maxHeartbeats 1000000 in
theorem svalid_walk {k : Int} {z o : ByteArray} {V W : Nat} {p t s ov b : Value} (K : Hid (Kind k z o V W p t s ov b)) (a : ByteArray) (x : Bool) (w : World) (X : Hid (ValueIs V a x)) :
  Calls Tryz.prog 71 #[.int .i64 k, .string a] w (ValPost (.bool x) w) := by
 have HE := Lib.hid K.out.ev
 go_enter Tryz.func71, Tryz.ntmps71
 obtain ⟨u1, u2, u3, u4, u5⟩ := puts_all K.out.one
 unfold Puts at u1 u2 u3 u4 u5
 go_wp2_with fail
 refine (K.out.f _).mono ?_
 rintro e w1 ⟨rfl, hg⟩
 have G1 := Lib.hid hg
 clear hg
 go_wp2_with fail
 rw [HE.out]
 refine (X.out _).mono ?_
 rintro e w2 ⟨rfl, hg⟩
 have G2 := Lib.hid (grown_trans G1.out hg)
 clear hg
 go_wp2
 go_ret
 exact ⟨rfl, G2.out⟩
set_option maxRecDepth 100000 in
set_option maxHeartbeats 1000000 in
theorem sweight_walk {k : Int} {z o : ByteArray} {V W : Nat} {p t s ov b : Value} (K : Hid (Kind k z o V W p t s ov b)) (a : ByteArray) (x : Bool) (w : World) (X : Hid (ValueIs W a x)) :
  Calls Tryz.prog 128 #[.int .i64 k, .string a] w (ValPost (.bool x) w) := by
 have HE := Lib.hid K.out.ew
 go_enter Tryz.func128, Tryz.ntmps128
 obtain ⟨u1, u2, u3, u4, u5⟩ := puts_all K.out.one
 unfold Puts at u1 u2 u3 u4 u5
 go_wp2_with fail
 refine (K.out.f _).mono ?_
 rintro e w1 ⟨rfl, hg⟩
 have G1 := Lib.hid hg
 clear hg
 go_wp2_with fail
 rw [HE.out]
 refine (X.out _).mono ?_
 rintro e w2 ⟨rfl, hg⟩
 have G2 := Lib.hid (grown_trans G1.out hg)
 clear hg
 go_wp2
 go_ret
 exact ⟨rfl, G2.out⟩
set_option maxRecDepth 100000 in
set_option maxHeartbeats 1000000 in
theorem szero_walk {k : Int} {z o : ByteArray} {V W : Nat} {p t s ov b : Value} (K : Hid (Kind k z o V W p t s ov b)) (w : World) : Calls Tryz.prog 33 #[.int .i64 k] w (ValPost (.string z) w) := by
 go_enter Tryz.func33, Tryz.ntmps33
 obtain ⟨u1, u2, u3, u4, u5⟩ := puts_all K.out.one
 unfold Puts at u1 u2 u3 u4 u5
 go_wp2_with fail
 refine (K.out.f _).mono ?_
 rintro e w1 ⟨rfl, hg⟩
 have G1 := Lib.hid hg
 clear hg
 go_wp2
 go_ret
 exact ⟨rfl, G1.out⟩
set_option maxRecDepth 100000 in
set_option maxHeartbeats 1000000 in
theorem sone_walk {k : Int} {z o : ByteArray} {V W : Nat} {p t s ov b : Value} (K : Hid (Kind k z o V W p t s ov b)) (w : World) : Calls Tryz.prog 34 #[.int .i64 k] w (ValPost (.string o) w) := by
 go_enter Tryz.func34, Tryz.ntmps34
 obtain ⟨u1, u2, u3, u4, u5⟩ := puts_all K.out.one
 unfold Puts at u1 u2 u3 u4 u5
 go_wp2_with fail
 refine (K.out.f _).mono ?_
 rintro e w1 ⟨rfl, hg⟩
 have G1 := Lib.hid hg
 clear hg
 go_wp2
 go_ret
 exact ⟨rfl, G1.out⟩
set_option maxRecDepth 100000 in
set_option maxHeartbeats 1000000 in
theorem splus_ok {k : Int} {z o : ByteArray} {V W F : Nat} {t s ov b : Value} (K : Hid (Kind k z o V W (.func (.func F) #[] #[]) t s ov b)) (EF : Hid (Enters F)) (a c : ByteArray) (S : ByteArray) (E : Int) (w : World) (X : Hid (ValueIs V a true)) (Y : Hid (ValueIs V c true)) (C : Hid (OpIs F a c (.tuple #[.string S, .int .i64 E]))) :
  Calls Tryz.prog 70 #[.int .i64 k, .string a, .string c] w (ValPost (.tuple #[.string S, .int .i64 E]) w) := by
 have HE := Lib.hid K.out.ev
 go_enter Tryz.func70, Tryz.ntmps70
 obtain ⟨u1, u2, u3, u4, u5⟩ := puts_all K.out.one
 unfold Puts at u1 u2 u3 u4 u5
 go_wp2_with fail
 refine (K.out.f _).mono ?_
 rintro e w1 ⟨rfl, hg⟩
 have G1 := Lib.hid hg
 clear hg
 go_wp2_with fail
 rw [HE.out]
 refine (X.out _).mono ?_
 rintro e w2 ⟨rfl, hg⟩
 have HB := Lib.hid (alloc_old hg)
 have hc := nine HB.out
 have G2 := Lib.hid (grown_trans G1.out (grown_trans (World.grownBy_alloc _ _ none) hg))
 clear hg
 go_wp2_with fail
 rw [HE.out]
 refine (Y.out _).mono ?_
 rintro e w3 ⟨rfl, hg⟩
 have hb := (hg.block _ (lt_of_block HB.out) (by simp)).trans HB.out
 clear HB hc
 have HB := Lib.hid hb
 have hc := nine HB.out
 have G3 := Lib.hid (grown_trans G2.out hg)
 clear hg hb
 clear HB
 go_wp2_with fail
 rw [EF.out]
 refine (C.out _).mono ?_
 rintro e w4 ⟨rfl, hg⟩
 have G4 := Lib.hid (grown_trans G3.out hg)
 clear hg hc
 go_wp2
 go_ret2
 exact ⟨rfl, G4.out⟩
set_option maxRecDepth 100000 in
set_option maxHeartbeats 1000000 in
theorem stimes_ok {k : Int} {z o : ByteArray} {V W F : Nat} {p s ov b : Value} (K : Hid (Kind k z o V W p (.func (.func F) #[] #[]) s ov b)) (EF : Hid (Enters F)) (a c : ByteArray) (S : ByteArray) (E : Int) (w : World) (X : Hid (ValueIs V a true)) (Y : Hid (ValueIs V c true)) (C : Hid (OpIs F a c (.tuple #[.string S, .int .i64 E]))) :
  Calls Tryz.prog 67 #[.int .i64 k, .string a, .string c] w (ValPost (.tuple #[.string S, .int .i64 E]) w) := by
 have HE := Lib.hid K.out.ev
 go_enter Tryz.func67, Tryz.ntmps67
 obtain ⟨u1, u2, u3, u4, u5⟩ := puts_all K.out.one
 unfold Puts at u1 u2 u3 u4 u5
 go_wp2_with fail
 refine (K.out.f _).mono ?_
 rintro e w1 ⟨rfl, hg⟩
 have G1 := Lib.hid hg
 clear hg
 go_wp2_with fail
 rw [HE.out]
 refine (X.out _).mono ?_
 rintro e w2 ⟨rfl, hg⟩
 have HB := Lib.hid (alloc_old hg)
 have hc := nine HB.out
 have G2 := Lib.hid (grown_trans G1.out (grown_trans (World.grownBy_alloc _ _ none) hg))
 clear hg
 go_wp2_with fail
 rw [HE.out]
 refine (Y.out _).mono ?_
 rintro e w3 ⟨rfl, hg⟩
 have hb := (hg.block _ (lt_of_block HB.out) (by simp)).trans HB.out
 clear HB hc
 have HB := Lib.hid hb
 have hc := nine HB.out
 have G3 := Lib.hid (grown_trans G2.out hg)
 clear hg hb
 clear HB
 go_wp2_with fail
 rw [EF.out]
 refine (C.out _).mono ?_
 rintro e w4 ⟨rfl, hg⟩
 have G4 := Lib.hid (grown_trans G3.out hg)
 clear hg hc
 go_wp2
 go_ret2
 exact ⟨rfl, G4.out⟩
set_option maxRecDepth 100000 in
set_option maxHeartbeats 1000000 in
theorem sstar_ok {k : Int} {z o : ByteArray} {V W F : Nat} {p t ov b : Value} (K : Hid (Kind k z o V W p t (.func (.func F) #[] #[]) ov b)) (EF : Hid (Enters F)) (a S : ByteArray) (E : Int) (w : World) (X : Hid (ValueIs V a true)) (C : Hid (Op1Is F a (.tuple #[.string S, .int .i64 E]))) :
  Calls Tryz.prog 204 #[.int .i64 k, .string a] w (ValPost (.tuple #[.string S, .int .i64 E]) w) := by
 have HE := Lib.hid K.out.ev
 go_enter Tryz.func204, Tryz.ntmps204
 obtain ⟨u1, u2, u3, u4, u5⟩ := puts_all K.out.one
 unfold Puts at u1 u2 u3 u4 u5
 go_wp2_with fail
 refine (K.out.f _).mono ?_
 rintro e w1 ⟨rfl, hg⟩
 have G1 := Lib.hid hg
 clear hg
 go_wp2_with fail
 rw [HE.out]
 refine (X.out _).mono ?_
 rintro e w2 ⟨rfl, hg⟩
 have HB := Lib.hid (alloc_old hg)
 have hc := nine HB.out
 have G2 := Lib.hid (grown_trans G1.out (grown_trans (World.grownBy_alloc _ _ none) hg))
 clear hg
 clear HB
 go_wp2_with fail
 rw [EF.out]
 refine (C.out _).mono ?_
 rintro e w3 ⟨rfl, hg⟩
 have G3 := Lib.hid (grown_trans G2.out hg)
 clear hg hc
 go_wp2
 go_ret2
 exact ⟨rfl, G3.out⟩
open Go.RowKit
open Go.Lib (nDigits decDigits)
theorem enters_none : Enters 107 := enters_of Tryz.func107 (by kernel_rfl) rfl
theorem enters_extended : Enters 108 := enters_of Tryz.func108 (by kernel_rfl) rfl
theorem enters_valid : Enters 109 := enters_of Tryz.func109 (by kernel_rfl) rfl
theorem enters_notNeg : Enters 115 := enters_of Tryz.func115 (by kernel_rfl) rfl
theorem enters_positive : Enters 116 := enters_of Tryz.func116 (by kernel_rfl) rfl
theorem enters_lesser : Enters 110 := enters_of Tryz.func110 (by kernel_rfl) rfl
theorem enters_greater : Enters 122 := enters_of Tryz.func122 (by kernel_rfl) rfl
theorem enters_costs : Enters 111 := enters_of Tryz.func111 (by kernel_rfl) rfl
theorem enters_sum' : Enters 117 := enters_of Tryz.func117 (by kernel_rfl) rfl
theorem enters_product' : Enters 118 := enters_of Tryz.func118 (by kernel_rfl) rfl
theorem enters_starC : Enters 112 := enters_of Tryz.func112 (by kernel_rfl) rfl
theorem enters_starP : Enters 119 := enters_of Tryz.func119 (by kernel_rfl) rfl
theorem enters_starS : Enters 123 := enters_of Tryz.func123 (by kernel_rfl) rfl
theorem kind_one : Kind 1 infS zeroS 108 109 (fnV 110) (fnV 111) (fnV 112) (fnV 113) (fnV 114) :=
 ⟨fun w => of_any 1 w, enters_extended, enters_valid, rfl⟩
theorem kind_two : Kind 2 zeroS oneS 115 116 (fnV 117) (fnV 118) (fnV 119) (fnV 120) (fnV 121) :=
 ⟨fun w => of_any 2 w, enters_notNeg, enters_positive, rfl⟩
theorem kind_three : Kind 3 zeroS oneS 115 116 (fnV 122) (fnV 118) (fnV 123) (fnV 120) (fnV 121) :=
 ⟨fun w => of_any 3 w, enters_notNeg, enters_positive, rfl⟩
theorem kind_none {k : Int} (h1 : k ≠ 1) (h2 : k ≠ 2) (h3 : k ≠ 3) : Kind k ⟨#[]⟩ ⟨#[]⟩ 107 107 .nilFunc .nilFunc .nilFunc .nilFunc .nilFunc :=
 ⟨fun w => by
  have h := of_any k w
  unfold semiV semiC at h
  rw [if_neg h1, if_neg h2, if_neg h3] at h
  exact h, enters_none, enters_none, rfl⟩
def zeroT (k : Int) : ByteArray := if k = 1 then infS else if k = 2 ∨ k = 3 then zeroS else ⟨#[]⟩
def oneT (k : Int) : ByteArray := if k = 1 then zeroS else if k = 2 ∨ k = 3 then oneS else ⟨#[]⟩
structure KindIs (k : Int) (V W : Nat) : Prop where
 vy : ∀ a v, Val k a v → ValueIs V a true
 vn : ∀ a, a.size ≤ maxLen → NoVal k a → ValueIs V a false
 wy : ∀ a v, Wgt k a v → ValueIs W a true
 wn : ∀ a, a.size ≤ maxLen → NoWgt k a → ValueIs W a false
theorem is_one : KindIs 1 108 109 := by
 refine ⟨fun a v h => extended_yes h.e, fun a ha h => extended_no (fun v k => ?_) ha, fun a v h => ?_, fun a ha h => ?_⟩
 ·have := h v k; rw [has_one] at this; cases this
 ·have := ratval_val h.e; rw [h.has] at this; exact this
 ·rcases ext_or a with ⟨v, hv⟩ | hn
  ·have := ratval_val hv; rw [h v hv] at this; exact this
  ·exact fun w => ratvalid_no hn.rat ha w
theorem is_two : KindIs 2 115 116 := by
 refine ⟨fun a v h => ?_, fun a ha h => ?_, fun a v h => ?_, fun a ha h => ?_⟩
 ·have := notNeg_val h.e; rw [h.has] at this; exact this
 ·rcases ext_or a with ⟨v, hv⟩ | hn
  ·have := notNeg_val hv; rw [h v hv] at this; exact this
  ·exact notNeg_no hn ha
 ·have := positive_val h.e; rw [h.has] at this; exact this
 ·rcases ext_or a with ⟨v, hv⟩ | hn
  ·have := positive_val hv; rw [h v hv] at this; exact this
  ·exact positive_no hn ha
theorem is_three : KindIs 3 115 116 :=
 ⟨fun a v h => is_two.vy a v ⟨h.e, by rw [has_two]; exact h.has⟩, fun a ha h => is_two.vn a ha (fun v hv => by rw [has_two]; exact h v hv),
  fun a v h => is_two.wy a v ⟨h.e, by rw [wgt_two]; exact h.has⟩, fun a ha h => is_two.wn a ha (fun v hv => by rw [wgt_two]; exact h v hv)⟩
theorem is_none {k : Int} (h1 : k ≠ 1) (h2 : k ≠ 2) (h3 : k ≠ 3) : KindIs k 107 107 :=
 ⟨fun a v h => absurd h.has (by rw [no_kind h1 h2 h3]; simp), fun a _ _ => none_any a, fun a v h => absurd h.val.has (by rw [no_kind h1 h2 h3]; simp), fun a _ _ => none_any a⟩
theorem kind_any (k : Int) : ∃ V W p t s ov b, Kind k (zeroT k) (oneT k) V W p t s ov b ∧ KindIs k V W := by
 unfold zeroT oneT
 by_cases h1 : k = 1
 ·subst h1; exact ⟨_, _, _, _, _, _, _, kind_one, is_one⟩
 by_cases h2 : k = 2
 ·subst h2; exact ⟨_, _, _, _, _, _, _, kind_two, is_two⟩
 by_cases h3 : k = 3
 ·subst h3; exact ⟨_, _, _, _, _, _, _, kind_three, is_three⟩
 simp only [h1, h2, h3, if_false, or_self]
 exact ⟨_, _, _, _, _, _, _, kind_none h1 h2 h3, is_none h1 h2 h3⟩
def VB (F : Nat) (k : Int) (a : ByteArray) (x : Bool) : Prop := ∀ w, Calls Tryz.prog F #[.int .i64 k, .string a] w (ValPost (.bool x) w)
theorem svalid_yes {k : Int} {a : ByteArray} {v : Ext} (h : Val k a v) : VB 71 k a true := fun w => by
 obtain ⟨V, W, p, t, s, ov, b, K, I⟩ := kind_any k
 exact svalid_walk (Lib.hid K) a true w (Lib.hid (I.vy a v h))
theorem svalid_no {k : Int} {a : ByteArray} (h : NoVal k a) (ha : a.size ≤ maxLen) : VB 71 k a false := fun w => by
 obtain ⟨V, W, p, t, s, ov, b, K, I⟩ := kind_any k
 exact svalid_walk (Lib.hid K) a false w (Lib.hid (I.vn a ha h))
theorem sweight_yes {k : Int} {a : ByteArray} {v : Ext} (h : Wgt k a v) : VB 128 k a true := fun w => by
 obtain ⟨V, W, p, t, s, ov, b, K, I⟩ := kind_any k
 exact sweight_walk (Lib.hid K) a true w (Lib.hid (I.wy a v h))
theorem sweight_no {k : Int} {a : ByteArray} (h : NoWgt k a) (ha : a.size ≤ maxLen) : VB 128 k a false := fun w => by
 obtain ⟨V, W, p, t, s, ov, b, K, I⟩ := kind_any k
 exact sweight_walk (Lib.hid K) a false w (Lib.hid (I.wn a ha h))
theorem szero_any (k : Int) (w : World) : Calls Tryz.prog 33 #[.int .i64 k] w (ValPost (.string (zeroT k)) w) := by
 obtain ⟨V, W, p, t, s, ov, b, K, I⟩ := kind_any k
 exact szero_walk (Lib.hid K) w
theorem sone_any (k : Int) (w : World) : Calls Tryz.prog 34 #[.int .i64 k] w (ValPost (.string (oneT k)) w) := by
 obtain ⟨V, W, p, t, s, ov, b, K, I⟩ := kind_any k
 exact sone_walk (Lib.hid K) w
def SOp (F : Nat) (k : Int) (a b : ByteArray) (V : Value) : Prop := ∀ w, Calls Tryz.prog F #[.int .i64 k, .string a, .string b] w (ValPost V w)
theorem extV_form (v : Ext) : ∃ S E, extV v = .tuple #[.string S, .int .i64 E] := by
 rcases v with (_ | _) | x
 ·exact ⟨_, _, rfl⟩
 ·exact ⟨_, _, rfl⟩
 ·exact finV_form x
theorem sum_val {a b : ByteArray} {u v : Ext} (ha : IsE a u) (hb : IsE b v) (hu : hasE 2 u = true) (hv : hasE 2 v = true) : OpIs 117 a b (extV (sumE u v)) := fun w => by
 have i := txt_top ha; have j := txt_top hb
 rcases u with (_ | _) | x
 ·cases hu
 ·exact sum_inf a b _ _ w i j rfl
 rcases v with (_ | _) | y
 ·cases hv
 ·exact sum_inf a b _ _ w i j rfl
 obtain ⟨S, E, e⟩ := finV_form (x + y)
 have C := fun w => add_rat ha hb w
 show Calls _ _ _ w (ValPost (finV (x + y)) w)
 rw [e] at C ⊢
 exact sum_add a b S E w i j (Lib.hid C)
theorem costs_val {a b : ByteArray} {u v : Ext} (ha : IsE a u) (hb : IsE b v) : OpIs 111 a b (extV (costE u v)) := fun w => by
 have i := txt_top ha; have j := txt_top hb; have m := txt_low ha; have n := txt_low hb
 rcases u with (_ | _) | x <;> rcases v with (_ | _) | y
 ·exact costs_low a b _ _ w i j m n rfl
 ·exact costs_inf a b _ _ w i j rfl
 ·exact costs_low a b _ _ w i j m n rfl
 ·exact costs_inf a b _ _ w i j rfl
 ·exact costs_inf a b _ _ w i j rfl
 ·exact costs_inf a b _ _ w i j rfl
 ·exact costs_low a b _ _ w i j m n rfl
 ·exact costs_inf a b _ _ w i j rfl
 obtain ⟨S, E, e⟩ := finV_form (x + y)
 have C := fun w => add_rat ha hb w
 show Calls _ _ _ w (ValPost (finV (x + y)) w)
 rw [e] at C ⊢
 exact costs_add a b S E w i j m n (Lib.hid C)
theorem zeroV : extV (.inr 0) = okV zeroS := finV_rat zero_rat
theorem isNil_iff (v : Ext) : isNil v = true ↔ v = .inr 0 := by
 rcases v with (_ | _) | x
 ·exact ⟨fun h => (by cases h), fun h => (by cases h)⟩
 ·exact ⟨fun h => (by cases h), fun h => (by cases h)⟩
 ·exact ⟨fun h => by rw [of_decide_eq_true h], fun h => decide_eq_true (Sum.inr.inj h)⟩
theorem prod_val {a b : ByteArray} {u v : Ext} (ha : IsE a u) (hb : IsE b v) (hu : hasE 2 u = true) (hv : hasE 2 v = true) : OpIs 118 a b (extV (prodE u v)) := fun w => by
 have i := txt_top ha; have j := txt_top hb; have m := txt_zero ha; have n := txt_zero hb
 unfold prodE
 by_cases h : u = .inr 0 ∨ v = .inr 0
 ·rw [if_pos h, zeroV]
  refine prod_zero a b _ _ w m n ?_
  rw [Bool.or_eq_true, isNil_iff, isNil_iff]
  exact h
 rw [if_neg h]
 have hm : isNil u = false := by rw [← Bool.not_eq_true, isNil_iff]; exact fun k => h (.inl k)
 have hn : isNil v = false := by rw [← Bool.not_eq_true, isNil_iff]; exact fun k => h (.inr k)
 rw [hm] at m
 rw [hn] at n
 rcases u with (_ | _) | x
 ·cases hu
 ·exact prod_inf a b _ _ w m n i j rfl
 rcases v with (_ | _) | y
 ·cases hv
 ·exact prod_inf a b _ _ w m n i j rfl
 obtain ⟨S, E, e⟩ := finV_form (x * y)
 have C := fun w => mul_rat ha hb w
 show Calls _ _ _ w (ValPost (finV (x * y)) w)
 rw [e] at C ⊢
 exact prod_mul a b S E w m n i j (Lib.hid C)
theorem splus_val {k : Int} {a b : ByteArray} {u v : Ext} (ha : Val k a u) (hb : Val k b v) : SOp 70 k a b (extV (plusE k u v)) := fun w => by
 obtain ⟨S, E, e⟩ := extV_form (plusE k u v)
 rw [e]
 rcases ha.kind with rfl | rfl | rfl
 ·have C := lesser_val ha.e hb.e
  rw [show lessE u v = plusE 1 u v from rfl, e] at C
  exact splus_ok (Lib.hid kind_one) (Lib.hid enters_lesser) a b S E w (Lib.hid (is_one.vy a u ha)) (Lib.hid (is_one.vy b v hb)) (Lib.hid C)
 ·have C := sum_val ha.e hb.e ha.has hb.has
  rw [show sumE u v = plusE 2 u v from rfl, e] at C
  exact splus_ok (Lib.hid kind_two) (Lib.hid enters_sum') a b S E w (Lib.hid (is_two.vy a u ha)) (Lib.hid (is_two.vy b v hb)) (Lib.hid C)
 ·have C := greater_val ha.e hb.e
  rw [show moreE u v = plusE 3 u v from rfl, e] at C
  exact splus_ok (Lib.hid kind_three) (Lib.hid enters_greater) a b S E w (Lib.hid (is_three.vy a u ha)) (Lib.hid (is_three.vy b v hb)) (Lib.hid C)
theorem stimes_val {k : Int} {a b : ByteArray} {u v : Ext} (ha : Val k a u) (hb : Val k b v) : SOp 67 k a b (extV (timesE k u v)) := fun w => by
 obtain ⟨S, E, e⟩ := extV_form (timesE k u v)
 rw [e]
 rcases ha.kind with rfl | rfl | rfl
 ·have C := costs_val ha.e hb.e
  rw [show costE u v = timesE 1 u v from rfl, e] at C
  exact stimes_ok (Lib.hid kind_one) (Lib.hid enters_costs) a b S E w (Lib.hid (is_one.vy a u ha)) (Lib.hid (is_one.vy b v hb)) (Lib.hid C)
 ·have C := prod_val ha.e hb.e ha.has hb.has
  rw [show prodE u v = timesE 2 u v from rfl, e] at C
  exact stimes_ok (Lib.hid kind_two) (Lib.hid enters_product') a b S E w (Lib.hid (is_two.vy a u ha)) (Lib.hid (is_two.vy b v hb)) (Lib.hid C)
 ·have C := prod_val ha.e hb.e (by rw [has_two]; exact ha.has) (by rw [has_two]; exact hb.has)
  rw [show prodE u v = timesE 3 u v from rfl, e] at C
  exact stimes_ok (Lib.hid kind_three) (Lib.hid enters_product') a b S E w (Lib.hid (is_three.vy a u ha)) (Lib.hid (is_three.vy b v hb)) (Lib.hid C)
def SOp1 (F : Nat) (k : Int) (a : ByteArray) (V : Value) : Prop := ∀ w, Calls Tryz.prog F #[.int .i64 k, .string a] w (ValPost V w)
theorem starC_val {a : ByteArray} {u : Ext} (ha : IsE a u) : Op1Is 112 a (extV (starE 1 u)) := fun w => by
 have k := starOfCost_walk a _ _ w (Lib.hid (compare_val ha zeroE)) rfl
 show Calls _ _ _ w (ValPost (extV (if cmpE u (.inr 0) < 0 then .inl false else .inr 0)) w)
 by_cases h : cmpE u (.inr 0) < 0
 ·rw [if_pos h]
  rw [decide_eq_true h] at k
  exact k
 ·rw [if_neg h, zeroV]
  rw [decide_eq_false h] at k
  exact k
theorem oneV : extV (.inr 1) = okV oneS := finV_rat oneE
theorem starS_val {a : ByteArray} {u : Ext} (ha : IsE a u) : Op1Is 123 a (extV (starE 3 u)) := fun w => by
 have k := starOfScore_walk a _ _ w (Lib.hid (compare_val ha oneE)) rfl
 show Calls _ _ _ w (ValPost (extV (if 0 < cmpE u (.inr 1) then .inl true else .inr 1)) w)
 by_cases h : 0 < cmpE u (.inr 1)
 ·rw [if_pos h]
  rw [decide_eq_true h] at k
  exact k
 ·rw [if_neg h, oneV]
  rw [decide_eq_false h] at k
  exact k
theorem starP_val {a : ByteArray} {u : Ext} (ha : IsE a u) (hu : hasE 2 u = true) : Op1Is 119 a (extV (starE 2 u)) := fun w => by
 rcases has_top u hu with rfl | ⟨x, rfl, hx⟩
 ·exact starProb_inf a _ w (Lib.hid (compare_val ha oneE)) (by decide)
 show Calls _ _ _ w (ValPost (extV (if x < 1 then .inr (1 / (1 - x)) else .inl true)) w)
 by_cases h : x < 1
 ·rw [if_pos h]
  have hs := short_less hx (Rat.le_of_lt h) (show Short x from IsRat.short ha)
  have hR : IsRat (ratS (1 - x)) (1 - x) := ⟨hs, rfl⟩
  have hne : (1 - x).num ≠ 0 := less_ne h
  obtain ⟨S, E, e⟩ := finV_form (1 / (1 - x))
  show Calls _ _ _ w (ValPost (finV (1 / (1 - x))) w)
  have D := fun w => sub_rat oneE ha w
  have V := fun w => div_rat oneE hR hne w
  rw [finV_rat hR] at D
  rw [e] at V ⊢
  exact starProb_div a _ S _ 0 E w (Lib.hid (compare_val ha oneE)) (fun k => by have := (cmpQ_neg x 1).2 h; have k : 0 ≤ cmpQ x 1 := k; omega) (Lib.hid D) (Lib.hid V)
 ·rw [if_neg h]
  refine starProb_inf a _ w (Lib.hid (compare_val ha oneE)) ?_
  have : ¬ cmpQ x 1 < 0 := fun k => h ((cmpQ_neg x 1).1 k)
  show 0 ≤ cmpQ x 1
  omega
theorem sstar_val {k : Int} {a : ByteArray} {u : Ext} (ha : Val k a u) : SOp1 204 k a (extV (starE k u)) := fun w => by
 obtain ⟨S, E, e⟩ := extV_form (starE k u)
 rw [e]
 rcases ha.kind with rfl | rfl | rfl
 ·have C := starC_val ha.e
  rw [e] at C
  exact sstar_ok (Lib.hid kind_one) (Lib.hid enters_starC) a S E w (Lib.hid (is_one.vy a u ha)) (Lib.hid C)
 ·have C := starP_val ha.e ha.has
  rw [e] at C
  exact sstar_ok (Lib.hid kind_two) (Lib.hid enters_starP) a S E w (Lib.hid (is_two.vy a u ha)) (Lib.hid C)
 ·have C := starS_val ha.e
  rw [e] at C
  exact sstar_ok (Lib.hid kind_three) (Lib.hid enters_starS) a S E w (Lib.hid (is_three.vy a u ha)) (Lib.hid C)
theorem zeroT_is {k : Int} (h : k = 1 ∨ k = 2 ∨ k = 3) : IsE (zeroT k) (topOf k) := by
 rcases h with rfl | rfl | rfl
 ·exact topE
 ·exact zeroE
 ·exact zeroE
theorem oneT_is {k : Int} (h : k = 1 ∨ k = 2 ∨ k = 3) : IsE (oneT k) (unitOf k) := by
 rcases h with rfl | rfl | rfl
 ·exact zeroE
 ·exact oneE
 ·exact oneE
end Go.Proofs.YtaogepcaoogpgaaGreatDoor
