/- The exported functions of semi, over a kind whose functions are given. -/
import Derived.Test.YtbmonhnojkiapaaGreatDoorV14
set_option linter.unusedVariables false
set_option linter.unusedSimpArgs false
namespace Go.Proofs.YtbmonhnojkiapaaGreatDoor
open Go.RowKit
open Go.Lib (nDigits decDigits)

/-- A kind, as of returns it. -/
structure Kind (k : Int) (z o : ByteArray) (V W : Nat) (p t s ov b : Value) : Prop where
  f : ∀ w, Calls Tryz.prog 80 #[.int .i64 k] w (ValPost (.agg #[.string z, .string o, .func (.func V) #[] #[], .func (.func W) #[] #[], p, t, s, ov, b]) w)
  ev : Enters V
  ew : Enters W
  one : (p.oneCell' && t.oneCell' && s.oneCell' && ov.oneCell' && b.oneCell') = true
def Puts (v : Value) : Prop := ∀ (a : Addr) (m : Mode) (w : World), (store a v m).run Tryz.prog w = stored Tryz.prog w a v m
theorem puts_of {v : Value} (h : v.oneCell' = true) : Puts v := fun a m w => run_store _ w a v m h
theorem puts_all {p t s ov b : Value} (h : (p.oneCell' && t.oneCell' && s.oneCell' && ov.oneCell' && b.oneCell') = true) : Puts p ∧ Puts t ∧ Puts s ∧ Puts ov ∧ Puts b := by
  simp only [Bool.and_eq_true] at h
  exact ⟨puts_of h.1.1.1.1, puts_of h.1.1.1.2, puts_of h.1.1.2, puts_of h.1.2, puts_of h.2⟩
@[go_sem] theorem field_z (z o v x p t s ov b : Value) (w : World) : (Instr.field 79 (.agg #[z, o, v, x, p, t, s, ov, b]) 0).run Tryz.prog w = .ok z w := by kernel_rfl
@[go_sem] theorem field_o (z o v x p t s ov b : Value) (w : World) : (Instr.field 79 (.agg #[z, o, v, x, p, t, s, ov, b]) 1).run Tryz.prog w = .ok o w := by kernel_rfl
@[go_sem] theorem field_v (z o v x p t s ov b : Value) (w : World) : (Instr.field 79 (.agg #[z, o, v, x, p, t, s, ov, b]) 2).run Tryz.prog w = .ok v w := by kernel_rfl
@[go_sem] theorem field_x (z o v x p t s ov b : Value) (w : World) : (Instr.field 79 (.agg #[z, o, v, x, p, t, s, ov, b]) 3).run Tryz.prog w = .ok x w := by kernel_rfl
set_option maxRecDepth 100000 in
set_option maxHeartbeats 1000000 in
theorem sweight_walk {k : Int} {z o : ByteArray} {V W : Nat} {p t s ov b : Value} (K : Hid (Kind k z o V W p t s ov b)) (a : ByteArray) (x : Bool) (w : World) (X : Hid (ValueIs W a x)) :
    Calls Tryz.prog 65 #[.int .i64 k, .string a] w (ValPost (.bool x) w) := by
  have HE := Lib.hid K.out.ew
  go_enter Tryz.func65, Tryz.ntmps65
  obtain ⟨u1, u2, u3, u4, u5⟩ := puts_all K.out.one
  unfold Puts at u1 u2 u3 u4 u5
  go_wp2_with fail
  refine (K.out.f _).mono ?_
  rintro e w1 ⟨rfl, hg⟩
  have G1 := Lib.hid hg
  clear hg
  go_wp2_with fail
  rw [HE.out]
  refine (X.out _).mono ?_
  rintro e w2 ⟨rfl, hg⟩
  have G2 := Lib.hid (grown_trans G1.out hg)
  clear hg
  go_wp2
  go_ret
  exact ⟨rfl, G2.out⟩
set_option maxRecDepth 100000 in
set_option maxHeartbeats 1000000 in
theorem sone_walk {k : Int} {z o : ByteArray} {V W : Nat} {p t s ov b : Value} (K : Hid (Kind k z o V W p t s ov b)) (w : World) : Calls Tryz.prog 61 #[.int .i64 k] w (ValPost (.string o) w) := by
  go_enter Tryz.func61, Tryz.ntmps61
  obtain ⟨u1, u2, u3, u4, u5⟩ := puts_all K.out.one
  unfold Puts at u1 u2 u3 u4 u5
  go_wp2_with fail
  refine (K.out.f _).mono ?_
  rintro e w1 ⟨rfl, hg⟩
  have G1 := Lib.hid hg
  clear hg
  go_wp2
  go_ret
  exact ⟨rfl, G1.out⟩
end Go.Proofs.YtbmonhnojkiapaaGreatDoor
