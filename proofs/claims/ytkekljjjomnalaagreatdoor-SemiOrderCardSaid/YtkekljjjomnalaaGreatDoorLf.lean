/- What the laws with three texts share: fit, plus, times. -/
import Derived.Test.YtkekljjjomnalaaGreatDoorLz
import Derived.Test.YtkekljjjomnalaaGreatDoorPl
import Derived.Deep.CutRange
set_option linter.unusedVariables false
set_option linter.unusedSimpArgs false
namespace Go.Proofs.YtkekljjjomnalaaGreatDoor
open Go.RowKit
open Go.Lib (nDigits decDigits)

theorem three {w : World} {g : Nat} {a b c : Value} (h : w.heap[g]? = some (.cells #[a, b, c] 34 (0, 0))) :
    w.cell? ⟨g, 0, none⟩ = some a ∧ w.cell? ⟨g, 1, none⟩ = some b ∧ w.cell? ⟨g, 2, none⟩ = some c :=
  ⟨by rw [cell_of_row w g 0 _ _ (0, 0) h]; rfl, by rw [cell_of_row w g 1 _ _ (0, 0) h]; rfl, by rw [cell_of_row w g 2 _ _ (0, 0) h]; rfl⟩
set_option maxRecDepth 100000 in
set_option maxHeartbeats 4000000 in
theorem fit_l1 (k : Int) (a b c : ByteArray) (h1 : ¬ (a.size : Int) ≤ 100) (ha : a.size ≤ maxLen) (hb : b.size ≤ maxLen) (hc : c.size ≤ maxLen) (w : World) :
    Calls Tryz.prog 31 #[.int .i64 k, .agg #[.string a, .string b, .string c]] w (ValPost (.bool false) w) := by
  unfold maxLen at ha hb hc
  go_enter Tryz.func31, Tryz.ntmps31
  go_wp2
  go_ret
  exact ⟨rfl, World.grownBy_alloc _ _ none⟩
set_option maxRecDepth 100000 in
set_option maxHeartbeats 4000000 in
theorem fit_l2 (k : Int) (a b c : ByteArray) (h1 : (a.size : Int) ≤ 100) (h2 : ¬ (b.size : Int) ≤ 100) (ha : a.size ≤ maxLen) (hb : b.size ≤ maxLen) (hc : c.size ≤ maxLen) (w : World) :
    Calls Tryz.prog 31 #[.int .i64 k, .agg #[.string a, .string b, .string c]] w (ValPost (.bool false) w) := by
  unfold maxLen at ha hb hc
  go_enter Tryz.func31, Tryz.ntmps31
  go_wp2
  go_ret
  exact ⟨rfl, World.grownBy_alloc _ _ none⟩
set_option maxRecDepth 100000 in
set_option maxHeartbeats 4000000 in
theorem fit_l3 (k : Int) (a b c : ByteArray) (h1 : (a.size : Int) ≤ 100) (h2 : (b.size : Int) ≤ 100) (h3 : ¬ (c.size : Int) ≤ 100) (ha : a.size ≤ maxLen) (hb : b.size ≤ maxLen) (hc : c.size ≤ maxLen) (w : World) :
    Calls Tryz.prog 31 #[.int .i64 k, .agg #[.string a, .string b, .string c]] w (ValPost (.bool false) w) := by
  unfold maxLen at ha hb hc
  go_enter Tryz.func31, Tryz.ntmps31
  go_wp2
  go_ret
  exact ⟨rfl, World.grownBy_alloc _ _ none⟩
set_option maxRecDepth 100000 in
set_option maxHeartbeats 4000000 in
theorem fit_v1 (k : Int) (a b c : ByteArray) (h1 : (a.size : Int) ≤ 100) (h2 : (b.size : Int) ≤ 100) (h3 : (c.size : Int) ≤ 100) (A : Hid (VB 16 k a false)) (ha : a.size ≤ maxLen) (hb : b.size ≤ maxLen) (hc : c.size ≤ maxLen) (w : World) :
    Calls Tryz.prog 31 #[.int .i64 k, .agg #[.string a, .string b, .string c]] w (ValPost (.bool false) w) := by
  unfold maxLen at ha hb hc
  go_enter Tryz.func31, Tryz.ntmps31
  go_wp2_with fail
  refine (A.out _).mono ?_
  rintro e w1 ⟨rfl, hg⟩
  have HB := Lib.hid (alloc_old hg)
  have ht := three HB.out
  have G1 := Lib.hid (grown_trans (World.grownBy_alloc _ _ none) hg)
  clear hg
  go_wp2
  go_ret
  exact ⟨rfl, G1.out⟩
set_option maxRecDepth 100000 in
set_option maxHeartbeats 4000000 in
theorem fit_v2 (k : Int) (a b c : ByteArray) (h1 : (a.size : Int) ≤ 100) (h2 : (b.size : Int) ≤ 100) (h3 : (c.size : Int) ≤ 100) (A : Hid (VB 16 k a true)) (B : Hid (VB 16 k b false)) (ha : a.size ≤ maxLen) (hb : b.size ≤ maxLen) (hc : c.size ≤ maxLen) (w : World) :
    Calls Tryz.prog 31 #[.int .i64 k, .agg #[.string a, .string b, .string c]] w (ValPost (.bool false) w) := by
  unfold maxLen at ha hb hc
  go_enter Tryz.func31, Tryz.ntmps31
  go_wp2_with fail
  refine (A.out _).mono ?_
  rintro e w1 ⟨rfl, hg⟩
  have HB := Lib.hid (alloc_old hg)
  have ht := three HB.out
  have G1 := Lib.hid (grown_trans (World.grownBy_alloc _ _ none) hg)
  clear hg
  go_wp2_with fail
  refine (B.out _).mono ?_
  rintro e w2 ⟨rfl, hg⟩
  have hb' := (hg.block _ (lt_of_block HB.out) (by simp)).trans HB.out
  clear HB ht
  have HB := Lib.hid hb'
  have ht := three HB.out
  have G2 := Lib.hid (grown_trans G1.out hg)
  clear hg hb'
  go_wp2
  go_ret
  exact ⟨rfl, G2.out⟩
set_option maxRecDepth 100000 in
set_option maxHeartbeats 4000000 in
theorem fit_v3 (k : Int) (a b c : ByteArray) (h1 : (a.size : Int) ≤ 100) (h2 : (b.size : Int) ≤ 100) (h3 : (c.size : Int) ≤ 100) (x : Bool) (A : Hid (VB 16 k a true)) (B : Hid (VB 16 k b true)) (C : Hid (VB 16 k c x)) (ha : a.size ≤ maxLen) (hb : b.size ≤ maxLen) (hc : c.size ≤ maxLen) (w : World) :
    Calls Tryz.prog 31 #[.int .i64 k, .agg #[.string a, .string b, .string c]] w (ValPost (.bool x) w) := by
  unfold maxLen at ha hb hc
  go_enter Tryz.func31, Tryz.ntmps31
  go_wp2_with fail
  refine (A.out _).mono ?_
  rintro e w1 ⟨rfl, hg⟩
  have HB := Lib.hid (alloc_old hg)
  have ht := three HB.out
  have G1 := Lib.hid (grown_trans (World.grownBy_alloc _ _ none) hg)
  clear hg
  go_wp2_with fail
  refine (B.out _).mono ?_
  rintro e w2 ⟨rfl, hg⟩
  have hb' := (hg.block _ (lt_of_block HB.out) (by simp)).trans HB.out
  clear HB ht
  have HB := Lib.hid hb'
  have ht := three HB.out
  have G2 := Lib.hid (grown_trans G1.out hg)
  clear hg hb'
  go_wp2_with fail
  refine (C.out _).mono ?_
  rintro e w3 ⟨rfl, hg⟩
  have hb' := (hg.block _ (lt_of_block HB.out) (by simp)).trans HB.out
  clear HB ht
  have HB := Lib.hid hb'
  have ht := three HB.out
  have G3 := Lib.hid (grown_trans G2.out hg)
  clear hg hb'
  go_wp2
  go_ret
  exact ⟨rfl, G3.out⟩
def FitIs (k : Int) (a b c : ByteArray) (x : Bool) : Prop := ∀ w, Calls Tryz.prog 31 #[.int .i64 k, .agg #[.string a, .string b, .string c]] w (ValPost (.bool x) w)
structure Three (k : Int) (a b c : ByteArray) (u v t : Ext) : Prop where
  va : Val k a u
  vb : Val k b v
  vc : Val k c t
  ka : a.size ≤ 100
  kb : b.size ≤ 100
  kc : c.size ≤ 100
theorem fit_any (k : Int) (a b c : ByteArray) (ha : a.size ≤ maxLen) (hb : b.size ≤ maxLen) (hc : c.size ≤ maxLen) : FitIs k a b c false ∨ (FitIs k a b c true ∧ ∃ u v t, Three k a b c u v t) := by
  by_cases h1 : (a.size : Int) ≤ 100
  case neg => exact .inl fun w => fit_l1 k a b c h1 ha hb hc w
  by_cases h2 : (b.size : Int) ≤ 100
  case neg => exact .inl fun w => fit_l2 k a b c h1 h2 ha hb hc w
  by_cases h3 : (c.size : Int) ≤ 100
  case neg => exact .inl fun w => fit_l3 k a b c h1 h2 h3 ha hb hc w
  rcases val_or k a with ⟨u, hu⟩ | hn
  case inr => exact .inl fun w => fit_v1 k a b c h1 h2 h3 (Lib.hid (svalid_no hn ha)) ha hb hc w
  rcases val_or k b with ⟨v, hv⟩ | hn
  case inr => exact .inl fun w => fit_v2 k a b c h1 h2 h3 (Lib.hid (svalid_yes hu)) (Lib.hid (svalid_no hn hb)) ha hb hc w
  rcases val_or k c with ⟨t, ht⟩ | hn
  case inr => exact .inl fun w => fit_v3 k a b c h1 h2 h3 false (Lib.hid (svalid_yes hu)) (Lib.hid (svalid_yes hv)) (Lib.hid (svalid_no hn hc)) ha hb hc w
  exact .inr ⟨fun w => fit_v3 k a b c h1 h2 h3 true (Lib.hid (svalid_yes hu)) (Lib.hid (svalid_yes hv)) (Lib.hid (svalid_yes ht)) ha hb hc w, u, v, t, hu, hv, ht, by omega, by omega, by omega⟩
def HOp (F : Nat) (k : Int) (a b S : ByteArray) : Prop := ∀ w, Calls Tryz.prog F #[.int .i64 k, .string a, .string b] w (ValPost (.tuple #[.string S, .bool true]) w)
set_option maxRecDepth 100000 in
set_option maxHeartbeats 4000000 in
theorem law_plus (k : Int) (a b S : ByteArray) (P : Hid (SOp 13 k a b (.tuple #[.string S, .int .i64 0]))) : HOp 32 k a b S := fun w => by
  go_enter Tryz.func32, Tryz.ntmps32
  go_wp2_with fail
  refine (P.out _).mono ?_
  rintro e w1 ⟨rfl, hg⟩
  have G1 := Lib.hid hg
  clear hg
  go_wp2
  go_ret2
  exact ⟨rfl, G1.out⟩
set_option maxRecDepth 100000 in
set_option maxHeartbeats 4000000 in
theorem law_times (k : Int) (a b S : ByteArray) (P : Hid (SOp 10 k a b (.tuple #[.string S, .int .i64 0]))) : HOp 33 k a b S := fun w => by
  go_enter Tryz.func33, Tryz.ntmps33
  go_wp2_with fail
  refine (P.out _).mono ?_
  rintro e w1 ⟨rfl, hg⟩
  have G1 := Lib.hid hg
  clear hg
  go_wp2
  go_ret2
  exact ⟨rfl, G1.out⟩
theorem plus_fits' {k : Int} {a b : ByteArray} {u v t : Ext} (ha : Val k a u) (hb : Val k b v) (e : plusE k u v = t) {S : ByteArray} (hS : IsE S t) : SOp 13 k a b (.tuple #[.string S, .int .i64 0]) := by
  have h := splus_val ha hb
  rw [e, extV_is hS] at h
  exact h
theorem times_fits' {k : Int} {a b : ByteArray} {u v t : Ext} (ha : Val k a u) (hb : Val k b v) (e : timesE k u v = t) {S : ByteArray} (hS : IsE S t) : SOp 10 k a b (.tuple #[.string S, .int .i64 0]) := by
  have h := stimes_val ha hb
  rw [e, extV_is hS] at h
  exact h
theorem val_fits' {k : Int} {v : Ext} (f : Fits v) (h : hasE k v = true) : Val k (extT v) v := ⟨extT_is f, h⟩
end Go.Proofs.YtkekljjjomnalaaGreatDoor
