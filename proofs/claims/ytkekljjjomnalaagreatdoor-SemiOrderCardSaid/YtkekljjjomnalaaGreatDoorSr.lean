/- The exported functions of semi, over a kind whose functions are given. -/
import Derived.Test.YtkekljjjomnalaaGreatDoorSo
import Derived.Test.YtkekljjjomnalaaGreatDoorSq
set_option linter.unusedVariables false
set_option linter.unusedSimpArgs false
namespace Go.Proofs.YtkekljjjomnalaaGreatDoor
open Go.RowKit
open Go.Lib (nDigits decDigits)

/-- A kind, as of returns it. -/
structure Kind (k : Int) (z o : ByteArray) (V W : Nat) (p t s ov b : Value) : Prop where
  f : ∀ w, Calls Tryz.prog 34 #[.int .i64 k] w (ValPost (.agg #[.string z, .string o, .func (.func V) #[] #[], .func (.func W) #[] #[], p, t, s, ov, b]) w)
  ev : Enters V
  ew : Enters W
  one : (p.oneCell' && t.oneCell' && s.oneCell' && ov.oneCell' && b.oneCell') = true
def Puts (v : Value) : Prop := ∀ (a : Addr) (m : Mode) (w : World), (store a v m).run Tryz.prog w = stored Tryz.prog w a v m
theorem puts_of {v : Value} (h : v.oneCell' = true) : Puts v := fun a m w => run_store _ w a v m h
theorem puts_all {p t s ov b : Value} (h : (p.oneCell' && t.oneCell' && s.oneCell' && ov.oneCell' && b.oneCell') = true) : Puts p ∧ Puts t ∧ Puts s ∧ Puts ov ∧ Puts b := by
  simp only [Bool.and_eq_true] at h
  exact ⟨puts_of h.1.1.1.1, puts_of h.1.1.1.2, puts_of h.1.1.2, puts_of h.1.2, puts_of h.2⟩
theorem nine {w : World} {g : Nat} {z o v x p t s ov b : Value} (h : w.heap[g]? = some (.cells #[z, o, v, x, p, t, s, ov, b] 43 (0, 0))) :
    w.cell? ⟨g, 0, none⟩ = some z ∧ w.cell? ⟨g, 1, none⟩ = some o ∧ w.cell? ⟨g, 2, none⟩ = some v ∧ w.cell? ⟨g, 3, none⟩ = some x ∧ w.cell? ⟨g, 4, none⟩ = some p ∧ w.cell? ⟨g, 5, none⟩ = some t ∧ w.cell? ⟨g, 6, none⟩ = some s ∧ w.cell? ⟨g, 7, none⟩ = some ov ∧ w.cell? ⟨g, 8, none⟩ = some b :=
  ⟨by rw [cell_of_row w g 0 _ _ (0, 0) h]; rfl, by rw [cell_of_row w g 1 _ _ (0, 0) h]; rfl, by rw [cell_of_row w g 2 _ _ (0, 0) h]; rfl, by rw [cell_of_row w g 3 _ _ (0, 0) h]; rfl, by rw [cell_of_row w g 4 _ _ (0, 0) h]; rfl, by rw [cell_of_row w g 5 _ _ (0, 0) h]; rfl, by rw [cell_of_row w g 6 _ _ (0, 0) h]; rfl, by rw [cell_of_row w g 7 _ _ (0, 0) h]; rfl, by rw [cell_of_row w g 8 _ _ (0, 0) h]; rfl⟩
@[go_sem] theorem field_z (z o v x p t s ov b : Value) (w : World) : (Instr.field 43 (.agg #[z, o, v, x, p, t, s, ov, b]) 0).run Tryz.prog w = .ok z w := by kernel_rfl
@[go_sem] theorem field_o (z o v x p t s ov b : Value) (w : World) : (Instr.field 43 (.agg #[z, o, v, x, p, t, s, ov, b]) 1).run Tryz.prog w = .ok o w := by kernel_rfl
@[go_sem] theorem field_v (z o v x p t s ov b : Value) (w : World) : (Instr.field 43 (.agg #[z, o, v, x, p, t, s, ov, b]) 2).run Tryz.prog w = .ok v w := by kernel_rfl
@[go_sem] theorem field_x (z o v x p t s ov b : Value) (w : World) : (Instr.field 43 (.agg #[z, o, v, x, p, t, s, ov, b]) 3).run Tryz.prog w = .ok x w := by kernel_rfl
set_option maxRecDepth 100000 in
set_option maxHeartbeats 1000000 in
theorem svalid_walk {k : Int} {z o : ByteArray} {V W : Nat} {p t s ov b : Value} (K : Hid (Kind k z o V W p t s ov b)) (a : ByteArray) (x : Bool) (w : World) (X : Hid (ValueIs V a x)) :
    Calls Tryz.prog 16 #[.int .i64 k, .string a] w (ValPost (.bool x) w) := by
  have HE := Lib.hid K.out.ev
  go_enter Tryz.func16, Tryz.ntmps16
  obtain ⟨u1, u2, u3, u4, u5⟩ := puts_all K.out.one
  unfold Puts at u1 u2 u3 u4 u5
  go_wp2_with fail
  refine (K.out.f _).mono ?_
  rintro e w1 ⟨rfl, hg⟩
  have G1 := Lib.hid hg
  clear hg
  go_wp2_with fail
  rw [HE.out]
  refine (X.out _).mono ?_
  rintro e w2 ⟨rfl, hg⟩
  have G2 := Lib.hid (grown_trans G1.out hg)
  clear hg
  go_wp2
  go_ret
  exact ⟨rfl, G2.out⟩
set_option maxRecDepth 100000 in
set_option maxHeartbeats 1000000 in
theorem sweight_walk {k : Int} {z o : ByteArray} {V W : Nat} {p t s ov b : Value} (K : Hid (Kind k z o V W p t s ov b)) (a : ByteArray) (x : Bool) (w : World) (X : Hid (ValueIs W a x)) :
    Calls Tryz.prog 22 #[.int .i64 k, .string a] w (ValPost (.bool x) w) := by
  have HE := Lib.hid K.out.ew
  go_enter Tryz.func22, Tryz.ntmps22
  obtain ⟨u1, u2, u3, u4, u5⟩ := puts_all K.out.one
  unfold Puts at u1 u2 u3 u4 u5
  go_wp2_with fail
  refine (K.out.f _).mono ?_
  rintro e w1 ⟨rfl, hg⟩
  have G1 := Lib.hid hg
  clear hg
  go_wp2_with fail
  rw [HE.out]
  refine (X.out _).mono ?_
  rintro e w2 ⟨rfl, hg⟩
  have G2 := Lib.hid (grown_trans G1.out hg)
  clear hg
  go_wp2
  go_ret
  exact ⟨rfl, G2.out⟩
set_option maxRecDepth 100000 in
set_option maxHeartbeats 1000000 in
theorem szero_walk {k : Int} {z o : ByteArray} {V W : Nat} {p t s ov b : Value} (K : Hid (Kind k z o V W p t s ov b)) (w : World) : Calls Tryz.prog 17 #[.int .i64 k] w (ValPost (.string z) w) := by
  go_enter Tryz.func17, Tryz.ntmps17
  obtain ⟨u1, u2, u3, u4, u5⟩ := puts_all K.out.one
  unfold Puts at u1 u2 u3 u4 u5
  go_wp2_with fail
  refine (K.out.f _).mono ?_
  rintro e w1 ⟨rfl, hg⟩
  have G1 := Lib.hid hg
  clear hg
  go_wp2
  go_ret
  exact ⟨rfl, G1.out⟩
set_option maxRecDepth 100000 in
set_option maxHeartbeats 1000000 in
theorem sone_walk {k : Int} {z o : ByteArray} {V W : Nat} {p t s ov b : Value} (K : Hid (Kind k z o V W p t s ov b)) (w : World) : Calls Tryz.prog 18 #[.int .i64 k] w (ValPost (.string o) w) := by
  go_enter Tryz.func18, Tryz.ntmps18
  obtain ⟨u1, u2, u3, u4, u5⟩ := puts_all K.out.one
  unfold Puts at u1 u2 u3 u4 u5
  go_wp2_with fail
  refine (K.out.f _).mono ?_
  rintro e w1 ⟨rfl, hg⟩
  have G1 := Lib.hid hg
  clear hg
  go_wp2
  go_ret
  exact ⟨rfl, G1.out⟩
set_option maxRecDepth 100000 in
set_option maxHeartbeats 1000000 in
theorem splus_bad1 {k : Int} {z o : ByteArray} {V W : Nat} {p t s ov b : Value} (K : Hid (Kind k z o V W p t s ov b)) (a c : ByteArray) (w : World) (X : Hid (ValueIs V a false)) :
    Calls Tryz.prog 13 #[.int .i64 k, .string a, .string c] w (ValPost (errV 1) w) := by
  have HE := Lib.hid K.out.ev
  go_enter Tryz.func13, Tryz.ntmps13
  obtain ⟨u1, u2, u3, u4, u5⟩ := puts_all K.out.one
  unfold Puts at u1 u2 u3 u4 u5
  go_wp2_with fail
  refine (K.out.f _).mono ?_
  rintro e w1 ⟨rfl, hg⟩
  have G1 := Lib.hid hg
  clear hg
  go_wp2_with fail
  rw [HE.out]
  refine (X.out _).mono ?_
  rintro e w2 ⟨rfl, hg⟩
  have HB := Lib.hid (alloc_old hg)
  have hc := nine HB.out
  have G2 := Lib.hid (grown_trans G1.out (grown_trans (World.grownBy_alloc _ _ none) hg))
  clear hg
  clear HB hc
  go_wp2
  go_ret2
  exact ⟨rfl, G2.out⟩
set_option maxRecDepth 100000 in
set_option maxHeartbeats 1000000 in
theorem splus_bad2 {k : Int} {z o : ByteArray} {V W : Nat} {p t s ov b : Value} (K : Hid (Kind k z o V W p t s ov b)) (a c : ByteArray) (w : World) (X : Hid (ValueIs V a true)) (Y : Hid (ValueIs V c false)) :
    Calls Tryz.prog 13 #[.int .i64 k, .string a, .string c] w (ValPost (errV 1) w) := by
  have HE := Lib.hid K.out.ev
  go_enter Tryz.func13, Tryz.ntmps13
  obtain ⟨u1, u2, u3, u4, u5⟩ := puts_all K.out.one
  unfold Puts at u1 u2 u3 u4 u5
  go_wp2_with fail
  refine (K.out.f _).mono ?_
  rintro e w1 ⟨rfl, hg⟩
  have G1 := Lib.hid hg
  clear hg
  go_wp2_with fail
  rw [HE.out]
  refine (X.out _).mono ?_
  rintro e w2 ⟨rfl, hg⟩
  have HB := Lib.hid (alloc_old hg)
  have hc := nine HB.out
  have G2 := Lib.hid (grown_trans G1.out (grown_trans (World.grownBy_alloc _ _ none) hg))
  clear hg
  go_wp2_with fail
  rw [HE.out]
  refine (Y.out _).mono ?_
  rintro e w3 ⟨rfl, hg⟩
  have hb := (hg.block _ (lt_of_block HB.out) (by simp)).trans HB.out
  clear HB hc
  have HB := Lib.hid hb
  have hc := nine HB.out
  have G3 := Lib.hid (grown_trans G2.out hg)
  clear hg hb
  clear HB hc
  go_wp2
  go_ret2
  exact ⟨rfl, G3.out⟩
set_option maxRecDepth 100000 in
set_option maxHeartbeats 1000000 in
theorem splus_ok {k : Int} {z o : ByteArray} {V W F : Nat} {t s ov b : Value} (K : Hid (Kind k z o V W (.func (.func F) #[] #[]) t s ov b)) (EF : Hid (Enters F)) (a c : ByteArray) (S : ByteArray) (E : Int) (w : World) (X : Hid (ValueIs V a true)) (Y : Hid (ValueIs V c true)) (C : Hid (OpIs F a c (.tuple #[.string S, .int .i64 E]))) :
    Calls Tryz.prog 13 #[.int .i64 k, .string a, .string c] w (ValPost (.tuple #[.string S, .int .i64 E]) w) := by
  have HE := Lib.hid K.out.ev
  go_enter Tryz.func13, Tryz.ntmps13
  obtain ⟨u1, u2, u3, u4, u5⟩ := puts_all K.out.one
  unfold Puts at u1 u2 u3 u4 u5
  go_wp2_with fail
  refine (K.out.f _).mono ?_
  rintro e w1 ⟨rfl, hg⟩
  have G1 := Lib.hid hg
  clear hg
  go_wp2_with fail
  rw [HE.out]
  refine (X.out _).mono ?_
  rintro e w2 ⟨rfl, hg⟩
  have HB := Lib.hid (alloc_old hg)
  have hc := nine HB.out
  have G2 := Lib.hid (grown_trans G1.out (grown_trans (World.grownBy_alloc _ _ none) hg))
  clear hg
  go_wp2_with fail
  rw [HE.out]
  refine (Y.out _).mono ?_
  rintro e w3 ⟨rfl, hg⟩
  have hb := (hg.block _ (lt_of_block HB.out) (by simp)).trans HB.out
  clear HB hc
  have HB := Lib.hid hb
  have hc := nine HB.out
  have G3 := Lib.hid (grown_trans G2.out hg)
  clear hg hb
  clear HB
  go_wp2_with fail
  rw [EF.out]
  refine (C.out _).mono ?_
  rintro e w4 ⟨rfl, hg⟩
  have G4 := Lib.hid (grown_trans G3.out hg)
  clear hg hc
  go_wp2
  go_ret2
  exact ⟨rfl, G4.out⟩
set_option maxRecDepth 100000 in
set_option maxHeartbeats 1000000 in
theorem stimes_bad1 {k : Int} {z o : ByteArray} {V W : Nat} {p t s ov b : Value} (K : Hid (Kind k z o V W p t s ov b)) (a c : ByteArray) (w : World) (X : Hid (ValueIs V a false)) :
    Calls Tryz.prog 10 #[.int .i64 k, .string a, .string c] w (ValPost (errV 1) w) := by
  have HE := Lib.hid K.out.ev
  go_enter Tryz.func10, Tryz.ntmps10
  obtain ⟨u1, u2, u3, u4, u5⟩ := puts_all K.out.one
  unfold Puts at u1 u2 u3 u4 u5
  go_wp2_with fail
  refine (K.out.f _).mono ?_
  rintro e w1 ⟨rfl, hg⟩
  have G1 := Lib.hid hg
  clear hg
  go_wp2_with fail
  rw [HE.out]
  refine (X.out _).mono ?_
  rintro e w2 ⟨rfl, hg⟩
  have HB := Lib.hid (alloc_old hg)
  have hc := nine HB.out
  have G2 := Lib.hid (grown_trans G1.out (grown_trans (World.grownBy_alloc _ _ none) hg))
  clear hg
  clear HB hc
  go_wp2
  go_ret2
  exact ⟨rfl, G2.out⟩
set_option maxRecDepth 100000 in
set_option maxHeartbeats 1000000 in
theorem stimes_bad2 {k : Int} {z o : ByteArray} {V W : Nat} {p t s ov b : Value} (K : Hid (Kind k z o V W p t s ov b)) (a c : ByteArray) (w : World) (X : Hid (ValueIs V a true)) (Y : Hid (ValueIs V c false)) :
    Calls Tryz.prog 10 #[.int .i64 k, .string a, .string c] w (ValPost (errV 1) w) := by
  have HE := Lib.hid K.out.ev
  go_enter Tryz.func10, Tryz.ntmps10
  obtain ⟨u1, u2, u3, u4, u5⟩ := puts_all K.out.one
  unfold Puts at u1 u2 u3 u4 u5
  go_wp2_with fail
  refine (K.out.f _).mono ?_
  rintro e w1 ⟨rfl, hg⟩
  have G1 := Lib.hid hg
  clear hg
  go_wp2_with fail
  rw [HE.out]
  refine (X.out _).mono ?_
  rintro e w2 ⟨rfl, hg⟩
  have HB := Lib.hid (alloc_old hg)
  have hc := nine HB.out
  have G2 := Lib.hid (grown_trans G1.out (grown_trans (World.grownBy_alloc _ _ none) hg))
  clear hg
  go_wp2_with fail
  rw [HE.out]
  refine (Y.out _).mono ?_
  rintro e w3 ⟨rfl, hg⟩
  have hb := (hg.block _ (lt_of_block HB.out) (by simp)).trans HB.out
  clear HB hc
  have HB := Lib.hid hb
  have hc := nine HB.out
  have G3 := Lib.hid (grown_trans G2.out hg)
  clear hg hb
  clear HB hc
  go_wp2
  go_ret2
  exact ⟨rfl, G3.out⟩
set_option maxRecDepth 100000 in
set_option maxHeartbeats 1000000 in
theorem stimes_ok {k : Int} {z o : ByteArray} {V W F : Nat} {p s ov b : Value} (K : Hid (Kind k z o V W p (.func (.func F) #[] #[]) s ov b)) (EF : Hid (Enters F)) (a c : ByteArray) (S : ByteArray) (E : Int) (w : World) (X : Hid (ValueIs V a true)) (Y : Hid (ValueIs V c true)) (C : Hid (OpIs F a c (.tuple #[.string S, .int .i64 E]))) :
    Calls Tryz.prog 10 #[.int .i64 k, .string a, .string c] w (ValPost (.tuple #[.string S, .int .i64 E]) w) := by
  have HE := Lib.hid K.out.ev
  go_enter Tryz.func10, Tryz.ntmps10
  obtain ⟨u1, u2, u3, u4, u5⟩ := puts_all K.out.one
  unfold Puts at u1 u2 u3 u4 u5
  go_wp2_with fail
  refine (K.out.f _).mono ?_
  rintro e w1 ⟨rfl, hg⟩
  have G1 := Lib.hid hg
  clear hg
  go_wp2_with fail
  rw [HE.out]
  refine (X.out _).mono ?_
  rintro e w2 ⟨rfl, hg⟩
  have HB := Lib.hid (alloc_old hg)
  have hc := nine HB.out
  have G2 := Lib.hid (grown_trans G1.out (grown_trans (World.grownBy_alloc _ _ none) hg))
  clear hg
  go_wp2_with fail
  rw [HE.out]
  refine (Y.out _).mono ?_
  rintro e w3 ⟨rfl, hg⟩
  have hb := (hg.block _ (lt_of_block HB.out) (by simp)).trans HB.out
  clear HB hc
  have HB := Lib.hid hb
  have hc := nine HB.out
  have G3 := Lib.hid (grown_trans G2.out hg)
  clear hg hb
  clear HB
  go_wp2_with fail
  rw [EF.out]
  refine (C.out _).mono ?_
  rintro e w4 ⟨rfl, hg⟩
  have G4 := Lib.hid (grown_trans G3.out hg)
  clear hg hc
  go_wp2
  go_ret2
  exact ⟨rfl, G4.out⟩
def IntOp (F : Nat) (a b : ByteArray) (c : Int) : Prop := ∀ w, Calls Tryz.prog F #[.string a, .string b] w (ValPost (.int .i64 c) w)
set_option maxRecDepth 100000 in
set_option maxHeartbeats 1000000 in
theorem sbetter_bad1 {k : Int} {z o : ByteArray} {V W : Nat} {p t s ov b : Value} (K : Hid (Kind k z o V W p t s ov b)) (a c : ByteArray) (w : World) (X : Hid (ValueIs V a false)) :
    Calls Tryz.prog 15 #[.int .i64 k, .string a, .string c] w (ValPost (.int .i64 0) w) := by
  have HE := Lib.hid K.out.ev
  go_enter Tryz.func15, Tryz.ntmps15
  obtain ⟨u1, u2, u3, u4, u5⟩ := puts_all K.out.one
  unfold Puts at u1 u2 u3 u4 u5
  go_wp2_with fail
  refine (K.out.f _).mono ?_
  rintro e w1 ⟨rfl, hg⟩
  have G1 := Lib.hid hg
  clear hg
  go_wp2_with fail
  rw [HE.out]
  refine (X.out _).mono ?_
  rintro e w2 ⟨rfl, hg⟩
  have HB := Lib.hid (alloc_old hg)
  have hc := nine HB.out
  have G2 := Lib.hid (grown_trans G1.out (grown_trans (World.grownBy_alloc _ _ none) hg))
  clear hg
  clear HB hc
  go_wp2
  go_ret
  exact ⟨rfl, G2.out⟩
set_option maxRecDepth 100000 in
set_option maxHeartbeats 1000000 in
theorem sbetter_bad2 {k : Int} {z o : ByteArray} {V W : Nat} {p t s ov b : Value} (K : Hid (Kind k z o V W p t s ov b)) (a c : ByteArray) (w : World) (X : Hid (ValueIs V a true)) (Y : Hid (ValueIs V c false)) :
    Calls Tryz.prog 15 #[.int .i64 k, .string a, .string c] w (ValPost (.int .i64 0) w) := by
  have HE := Lib.hid K.out.ev
  go_enter Tryz.func15, Tryz.ntmps15
  obtain ⟨u1, u2, u3, u4, u5⟩ := puts_all K.out.one
  unfold Puts at u1 u2 u3 u4 u5
  go_wp2_with fail
  refine (K.out.f _).mono ?_
  rintro e w1 ⟨rfl, hg⟩
  have G1 := Lib.hid hg
  clear hg
  go_wp2_with fail
  rw [HE.out]
  refine (X.out _).mono ?_
  rintro e w2 ⟨rfl, hg⟩
  have HB := Lib.hid (alloc_old hg)
  have hc := nine HB.out
  have G2 := Lib.hid (grown_trans G1.out (grown_trans (World.grownBy_alloc _ _ none) hg))
  clear hg
  go_wp2_with fail
  rw [HE.out]
  refine (Y.out _).mono ?_
  rintro e w3 ⟨rfl, hg⟩
  have hb := (hg.block _ (lt_of_block HB.out) (by simp)).trans HB.out
  clear HB hc
  have HB := Lib.hid hb
  have hc := nine HB.out
  have G3 := Lib.hid (grown_trans G2.out hg)
  clear hg hb
  clear HB hc
  go_wp2
  go_ret
  exact ⟨rfl, G3.out⟩
set_option maxRecDepth 100000 in
set_option maxHeartbeats 1000000 in
theorem sbetter_ok {k : Int} {z o : ByteArray} {V W F : Nat} {p t s ov : Value} (K : Hid (Kind k z o V W p t s ov (.func (.func F) #[] #[]))) (EF : Hid (Enters F)) (a c : ByteArray) (E : Int) (w : World) (X : Hid (ValueIs V a true)) (Y : Hid (ValueIs V c true)) (C : Hid (IntOp F a c E)) :
    Calls Tryz.prog 15 #[.int .i64 k, .string a, .string c] w (ValPost (.int .i64 E) w) := by
  have HE := Lib.hid K.out.ev
  go_enter Tryz.func15, Tryz.ntmps15
  obtain ⟨u1, u2, u3, u4, u5⟩ := puts_all K.out.one
  unfold Puts at u1 u2 u3 u4 u5
  go_wp2_with fail
  refine (K.out.f _).mono ?_
  rintro e w1 ⟨rfl, hg⟩
  have G1 := Lib.hid hg
  clear hg
  go_wp2_with fail
  rw [HE.out]
  refine (X.out _).mono ?_
  rintro e w2 ⟨rfl, hg⟩
  have HB := Lib.hid (alloc_old hg)
  have hc := nine HB.out
  have G2 := Lib.hid (grown_trans G1.out (grown_trans (World.grownBy_alloc _ _ none) hg))
  clear hg
  go_wp2_with fail
  rw [HE.out]
  refine (Y.out _).mono ?_
  rintro e w3 ⟨rfl, hg⟩
  have hb := (hg.block _ (lt_of_block HB.out) (by simp)).trans HB.out
  clear HB hc
  have HB := Lib.hid hb
  have hc := nine HB.out
  have G3 := Lib.hid (grown_trans G2.out hg)
  clear hg hb
  clear HB
  go_wp2_with fail
  rw [EF.out]
  refine (C.out _).mono ?_
  rintro e w4 ⟨rfl, hg⟩
  have G4 := Lib.hid (grown_trans G3.out hg)
  clear hg hc
  go_wp2
  go_ret
  exact ⟨rfl, G4.out⟩
set_option maxRecDepth 100000 in
set_option maxHeartbeats 1000000 in
theorem sstar_bad {k : Int} {z o : ByteArray} {V W : Nat} {p t s ov b : Value} (K : Hid (Kind k z o V W p t s ov b)) (a : ByteArray) (w : World) (X : Hid (ValueIs V a false)) :
    Calls Tryz.prog 11 #[.int .i64 k, .string a] w (ValPost (errV 1) w) := by
  have HE := Lib.hid K.out.ev
  go_enter Tryz.func11, Tryz.ntmps11
  obtain ⟨u1, u2, u3, u4, u5⟩ := puts_all K.out.one
  unfold Puts at u1 u2 u3 u4 u5
  go_wp2_with fail
  refine (K.out.f _).mono ?_
  rintro e w1 ⟨rfl, hg⟩
  have G1 := Lib.hid hg
  clear hg
  go_wp2_with fail
  rw [HE.out]
  refine (X.out _).mono ?_
  rintro e w2 ⟨rfl, hg⟩
  have HB := Lib.hid (alloc_old hg)
  have hc := nine HB.out
  have G2 := Lib.hid (grown_trans G1.out (grown_trans (World.grownBy_alloc _ _ none) hg))
  clear hg
  clear HB hc
  go_wp2
  go_ret2
  exact ⟨rfl, G2.out⟩
set_option maxRecDepth 100000 in
set_option maxHeartbeats 1000000 in
theorem sstar_ok {k : Int} {z o : ByteArray} {V W F : Nat} {p t ov b : Value} (K : Hid (Kind k z o V W p t (.func (.func F) #[] #[]) ov b)) (EF : Hid (Enters F)) (a S : ByteArray) (E : Int) (w : World) (X : Hid (ValueIs V a true)) (C : Hid (Op1Is F a (.tuple #[.string S, .int .i64 E]))) :
    Calls Tryz.prog 11 #[.int .i64 k, .string a] w (ValPost (.tuple #[.string S, .int .i64 E]) w) := by
  have HE := Lib.hid K.out.ev
  go_enter Tryz.func11, Tryz.ntmps11
  obtain ⟨u1, u2, u3, u4, u5⟩ := puts_all K.out.one
  unfold Puts at u1 u2 u3 u4 u5
  go_wp2_with fail
  refine (K.out.f _).mono ?_
  rintro e w1 ⟨rfl, hg⟩
  have G1 := Lib.hid hg
  clear hg
  go_wp2_with fail
  rw [HE.out]
  refine (X.out _).mono ?_
  rintro e w2 ⟨rfl, hg⟩
  have HB := Lib.hid (alloc_old hg)
  have hc := nine HB.out
  have G2 := Lib.hid (grown_trans G1.out (grown_trans (World.grownBy_alloc _ _ none) hg))
  clear hg
  clear HB
  go_wp2_with fail
  rw [EF.out]
  refine (C.out _).mono ?_
  rintro e w3 ⟨rfl, hg⟩
  have G3 := Lib.hid (grown_trans G2.out hg)
  clear hg hc
  go_wp2
  go_ret2
  exact ⟨rfl, G3.out⟩
set_option maxRecDepth 100000 in
set_option maxHeartbeats 1000000 in
theorem sover_zero_bad {k : Int} {z o : ByteArray} {V W : Nat} {p t s ov b : Value} (K : Hid (Kind k z o V W p t s ov b)) (a c : ByteArray) (w : World) (f1 : (a.toList == z.toList) = true) (f2 : (a.toList != z.toList) = false) (Y : Hid (ValueIs W c false)) :
    Calls Tryz.prog 12 #[.int .i64 k, .string a, .string c] w (ValPost (errV 1) w) := by
  have HE := Lib.hid K.out.ew
  go_enter Tryz.func12, Tryz.ntmps12
  obtain ⟨u1, u2, u3, u4, u5⟩ := puts_all K.out.one
  unfold Puts at u1 u2 u3 u4 u5
  go_wp2_with fail
  refine (K.out.f _).mono ?_
  rintro e w1 ⟨rfl, hg⟩
  have G1 := Lib.hid hg
  clear hg
  go_wp2_with fail
  rw [HE.out]
  refine (Y.out _).mono ?_
  rintro e w2 ⟨rfl, hg⟩
  have HB := Lib.hid (alloc_old hg)
  have hc := nine HB.out
  have G2 := Lib.hid (grown_trans G1.out (grown_trans (World.grownBy_alloc _ _ none) hg))
  clear hg
  clear HB hc
  go_wp2
  go_ret2
  exact ⟨rfl, G2.out⟩
set_option maxRecDepth 100000 in
set_option maxHeartbeats 1000000 in
theorem sover_zero_ok {k : Int} {z o : ByteArray} {V W F : Nat} {p t s b : Value} (K : Hid (Kind k z o V W p t s (.func (.func F) #[] #[]) b)) (EF : Hid (Enters F)) (a c S : ByteArray) (E : Int) (w : World) (f1 : (a.toList == z.toList) = true) (f2 : (a.toList != z.toList) = false) (Y : Hid (ValueIs W c true)) (C : Hid (OpIs F a c (.tuple #[.string S, .int .i64 E]))) :
    Calls Tryz.prog 12 #[.int .i64 k, .string a, .string c] w (ValPost (.tuple #[.string S, .int .i64 E]) w) := by
  have HE := Lib.hid K.out.ew
  go_enter Tryz.func12, Tryz.ntmps12
  obtain ⟨u1, u2, u3, u4, u5⟩ := puts_all K.out.one
  unfold Puts at u1 u2 u3 u4 u5
  go_wp2_with fail
  refine (K.out.f _).mono ?_
  rintro e w1 ⟨rfl, hg⟩
  have G1 := Lib.hid hg
  clear hg
  go_wp2_with fail
  rw [HE.out]
  refine (Y.out _).mono ?_
  rintro e w2 ⟨rfl, hg⟩
  have HB := Lib.hid (alloc_old hg)
  have hc := nine HB.out
  have G2 := Lib.hid (grown_trans G1.out (grown_trans (World.grownBy_alloc _ _ none) hg))
  clear hg
  clear HB
  go_wp2_with fail
  rw [EF.out]
  refine (C.out _).mono ?_
  rintro e w3 ⟨rfl, hg⟩
  have G3 := Lib.hid (grown_trans G2.out hg)
  clear hg hc
  go_wp2
  go_ret2
  exact ⟨rfl, G3.out⟩
set_option maxRecDepth 100000 in
set_option maxHeartbeats 1000000 in
theorem sover_bad1 {k : Int} {z o : ByteArray} {V W : Nat} {p t s ov b : Value} (K : Hid (Kind k z o V W p t s ov b)) (a c : ByteArray) (w : World) (f1 : (a.toList == z.toList) = false) (f2 : (a.toList != z.toList) = true) (X : Hid (ValueIs W a false)) :
    Calls Tryz.prog 12 #[.int .i64 k, .string a, .string c] w (ValPost (errV 1) w) := by
  have HE := Lib.hid K.out.ew
  go_enter Tryz.func12, Tryz.ntmps12
  obtain ⟨u1, u2, u3, u4, u5⟩ := puts_all K.out.one
  unfold Puts at u1 u2 u3 u4 u5
  go_wp2_with fail
  refine (K.out.f _).mono ?_
  rintro e w1 ⟨rfl, hg⟩
  have G1 := Lib.hid hg
  clear hg
  go_wp2_with fail
  rw [HE.out]
  refine (X.out _).mono ?_
  rintro e w2 ⟨rfl, hg⟩
  have HB := Lib.hid (alloc_old hg)
  have hc := nine HB.out
  have G2 := Lib.hid (grown_trans G1.out (grown_trans (World.grownBy_alloc _ _ none) hg))
  clear hg
  clear HB hc
  go_wp2
  go_ret2
  exact ⟨rfl, G2.out⟩
set_option maxRecDepth 100000 in
set_option maxHeartbeats 1000000 in
theorem sover_bad2 {k : Int} {z o : ByteArray} {V W : Nat} {p t s ov b : Value} (K : Hid (Kind k z o V W p t s ov b)) (a c : ByteArray) (w : World) (f1 : (a.toList == z.toList) = false) (f2 : (a.toList != z.toList) = true) (X : Hid (ValueIs W a true)) (Y : Hid (ValueIs W c false)) :
    Calls Tryz.prog 12 #[.int .i64 k, .string a, .string c] w (ValPost (errV 1) w) := by
  have HE := Lib.hid K.out.ew
  go_enter Tryz.func12, Tryz.ntmps12
  obtain ⟨u1, u2, u3, u4, u5⟩ := puts_all K.out.one
  unfold Puts at u1 u2 u3 u4 u5
  go_wp2_with fail
  refine (K.out.f _).mono ?_
  rintro e w1 ⟨rfl, hg⟩
  have G1 := Lib.hid hg
  clear hg
  go_wp2_with fail
  rw [HE.out]
  refine (X.out _).mono ?_
  rintro e w2 ⟨rfl, hg⟩
  have HB := Lib.hid (alloc_old hg)
  have hc := nine HB.out
  have G2 := Lib.hid (grown_trans G1.out (grown_trans (World.grownBy_alloc _ _ none) hg))
  clear hg
  go_wp2_with fail
  rw [HE.out]
  refine (Y.out _).mono ?_
  rintro e w3 ⟨rfl, hg⟩
  have hb := (hg.block _ (lt_of_block HB.out) (by simp)).trans HB.out
  clear HB hc
  have HB := Lib.hid hb
  have hc := nine HB.out
  have G3 := Lib.hid (grown_trans G2.out hg)
  clear hg hb
  clear HB hc
  go_wp2
  go_ret2
  exact ⟨rfl, G3.out⟩
set_option maxRecDepth 100000 in
set_option maxHeartbeats 1000000 in
theorem sover_ok {k : Int} {z o : ByteArray} {V W F : Nat} {p t s b : Value} (K : Hid (Kind k z o V W p t s (.func (.func F) #[] #[]) b)) (EF : Hid (Enters F)) (a c S : ByteArray) (E : Int) (w : World) (f1 : (a.toList == z.toList) = false) (f2 : (a.toList != z.toList) = true) (X : Hid (ValueIs W a true)) (Y : Hid (ValueIs W c true)) (C : Hid (OpIs F a c (.tuple #[.string S, .int .i64 E]))) :
    Calls Tryz.prog 12 #[.int .i64 k, .string a, .string c] w (ValPost (.tuple #[.string S, .int .i64 E]) w) := by
  have HE := Lib.hid K.out.ew
  go_enter Tryz.func12, Tryz.ntmps12
  obtain ⟨u1, u2, u3, u4, u5⟩ := puts_all K.out.one
  unfold Puts at u1 u2 u3 u4 u5
  go_wp2_with fail
  refine (K.out.f _).mono ?_
  rintro e w1 ⟨rfl, hg⟩
  have G1 := Lib.hid hg
  clear hg
  go_wp2_with fail
  rw [HE.out]
  refine (X.out _).mono ?_
  rintro e w2 ⟨rfl, hg⟩
  have HB := Lib.hid (alloc_old hg)
  have hc := nine HB.out
  have G2 := Lib.hid (grown_trans G1.out (grown_trans (World.grownBy_alloc _ _ none) hg))
  clear hg
  go_wp2_with fail
  rw [HE.out]
  refine (Y.out _).mono ?_
  rintro e w3 ⟨rfl, hg⟩
  have hb := (hg.block _ (lt_of_block HB.out) (by simp)).trans HB.out
  clear HB hc
  have HB := Lib.hid hb
  have hc := nine HB.out
  have G3 := Lib.hid (grown_trans G2.out hg)
  clear hg hb
  clear HB
  go_wp2_with fail
  rw [EF.out]
  refine (C.out _).mono ?_
  rintro e w4 ⟨rfl, hg⟩
  have G4 := Lib.hid (grown_trans G3.out hg)
  clear hg hc
  go_wp2
  go_ret2
  exact ⟨rfl, G4.out⟩
end Go.Proofs.YtkekljjjomnalaaGreatDoor
