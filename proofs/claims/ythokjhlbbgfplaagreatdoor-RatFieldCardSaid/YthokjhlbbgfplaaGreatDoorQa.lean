/- finish: what a computation returns, or the error with which it panics. -/
import Derived.Test.YthokjhlbbgfplaaGreatDoorLd
import Derived.Defers
import Derived.Recover
import Derived.Laws.Pointers
import Derived.WideLaws
set_option linter.unusedVariables false
set_option linter.unusedSimpArgs false
namespace Go.Proofs.YthokjhlbbgfplaaGreatDoor
open Go.RowKit

set_option maxRecDepth 20000 in
/-- The deferred closure, in a frame that panics with an error: it stores the error. -/
theorem caught (p : Addr) (x E : Int) (older : List PanicEntry) (w : World) (hc : w.cell? p = some (.int .i64 x)) (hz : w.frozen? p = false) :
    CallsD Tryz.prog 58 #[.pointer (some p)] (.panicking ({ v := .iface 27 (.int .i64 E), recovered := false } :: older)) w fun e u' w' =>
      e = .returned (.tuple #[]) ∧ u' = .panicking ({ v := .iface 27 (.int .i64 E), recovered := true } :: older) ∧ w' = w.setCell p (.int .i64 E) := by
  refine callsD_of_wpS Tryz.func58 rfl fun c₀ cs hu => ?_
  apply wpS_seq
  apply wpS_region
  simp [wpOpsS, go_sem, recoverD, hu, Tryz.ntmps58, Exit.thenS]
  clear hu
  obtain ⟨fs, hfs⟩ : ∃ fs : List Frame, fs = { c₀ with mode := .panicking ({ v := .iface 27 (.int .i64 E), recovered := true } :: older) } :: cs := ⟨_, rfl⟩
  have HFS := Lib.hid hfs
  rw [← hfs]
  clear hfs
  have h1 : ∀ w : World, (binOp .neq 20 (.iface 27 (.int .i64 E)) .nilIface).run Tryz.prog w = .ok (.bool true) w := fun w => run_neq_held_nil _ _ _ _ (by kernel_rfl)
  have h2 : ∀ w : World, (Instr.typeAssert (.iface 27 (.int .i64 E)) 20 27 false).run Tryz.prog w = .ok (.int .i64 E) w := fun w => by kernel_rfl
  refine wpS_of_wp ?_
  go_wp2_with fail
  clear h1 h2 hc hz
  rw [HFS.out]
  exact ⟨rfl, _, rfl, .tuple #[], by simp [results, Tryz.results58], rfl, rfl, rfl⟩

theorem idle (p : Addr) (w : World) :
    CallsD Tryz.prog 58 #[.pointer (some p)] .returning w fun e u' w' => e = .returned (.tuple #[]) ∧ u' = .returning ∧ w' = w := by
  refine callsD_of_wpS Tryz.func58 rfl fun c₀ cs hu => ?_
  apply wpS_seq
  apply wpS_region
  simp [wpOpsS, go_sem, recoverD, hu, Tryz.ntmps58, Exit.thenS]
  refine wpS_of_wp ?_
  go_wp2
  cases c₀
  simp_all [bodyPostS, results, Tryz.results58]
/-- What finish returns, where the computation returns a string. -/
def DiePost (E : Int) (w : World) (e : Ending) (w' : World) : Prop := e = .panicked [{ v := .iface 27 (.int .i64 E), recovered := false }] ∧ w.grownBy w' none

/-- Function F is entered when it is called. -/
def Enters (F : Nat) : Prop := ∀ (args : Array Value) (w : World), (callFunc F args).run Tryz.prog w = .ok (.enter F args) w
theorem new_block (w : World) (o : Obj) : (w.alloc o).heap[w.heap.size]? = some o := by show (w.heap.push o)[w.heap.size]? = some o; simp

theorem door_ret (S : ByteArray) (w w2 : World) (tmps : Array Value) (ht : tmps = #[tmps.getD 0 undef, tmps.getD 1 undef, .string S, .pointer (some ⟨w.heap.size, 0, none⟩), tmps.getD 4 undef, tmps.getD 5 undef, tmps.getD 6 undef])
    (hb : w2.heap[w.heap.size]? = some (.cells #[.int .i64 0] 27 (0, 0))) (hg : w.grownBy w2 none) :
    Leaves Tryz.prog Tryz.f37 tmps (ValPost (.tuple #[.string S, .int .i64 0]) w) [{ target := .fn (.func 58) #[.pointer (some ⟨w.heap.size, 0, none⟩)], args := #[] }] .returning w2 := by
  have hcell := cell_of_one hb
  refine leaves_cons (f := 58) (args := #[.pointer (some ⟨w.heap.size, 0, none⟩)]) (by simp) (by simp [go_sem]) ?_
  refine (idle ⟨w.heap.size, 0, none⟩ _).mono ?_
  rintro e u' w'' ⟨rfl, rfl, rfl⟩
  rw [ht]
  refine ⟨.tuple #[.string S, .int .i64 0], by simp [results, Tryz.results37, go_sem, hcell], rfl, hg⟩

theorem door_die (E : Int) (w w2 : World) (tmps : Array Value) (ht : tmps = #[tmps.getD 0 undef, tmps.getD 1 undef, .string ⟨#[]⟩, .pointer (some ⟨w.heap.size, 0, none⟩), tmps.getD 4 undef, tmps.getD 5 undef, tmps.getD 6 undef])
    (hb : w2.heap[w.heap.size]? = some (.cells #[.int .i64 0] 27 (0, 0))) (hg : w.grownBy w2 none) :
    Leaves Tryz.prog Tryz.f37 tmps (ValPost (.tuple #[.string ⟨#[]⟩, .int .i64 E]) w) [{ target := .fn (.func 58) #[.pointer (some ⟨w.heap.size, 0, none⟩)], args := #[] }] (.panicking [{ v := .iface 27 (.int .i64 E), recovered := false }]) w2 := by
  have hcell := cell_of_one (one_setCell (u := .int .i64 E) hb)
  refine leaves_cons (f := 58) (args := #[.pointer (some ⟨w.heap.size, 0, none⟩)]) (by simp) (by simp [go_sem]) ?_
  refine (caught ⟨w.heap.size, 0, none⟩ 0 E [] _ (cell_of_one hb) (free_of_one hb)).mono ?_
  rintro e u' w'' ⟨rfl, rfl, rfl⟩
  rw [ht]
  refine ⟨.tuple #[.string ⟨#[]⟩, .int .i64 E], by simp [results, Tryz.results37, go_sem, hcell], rfl, ?_⟩
  exact grown_step hg (grown_setCell w2 ⟨w.heap.size, 0, none⟩ _) (Nat.le_refl _)

theorem alloc_old {w w2 : World} {o : Obj} (hg : (w.alloc o).grownBy w2 none) : w2.heap[w.heap.size]? = some o :=
  (hg.block _ (by simp) (by simp)).trans (new_block w o)

set_option maxRecDepth 20000 in
theorem finish_ret (F : Nat) (he : Enters F) (first cap : Array Value) (S : ByteArray) (w : World)
    (h : Calls Tryz.prog F (first ++ cap) (w.alloc (.cells #[.int .i64 0] 27)) (ValPost (.string S) (w.alloc (.cells #[.int .i64 0] 27)))) :
    Calls Tryz.prog 37 #[.func (.func F) first cap] w (ValPost (.tuple #[.string S, .int .i64 0]) w) := by
  have hmf : ∀ (fn : Fn) (first cap : Array Value) (w : World), (Instr.makeFunc fn first cap).run Tryz.prog w = .ok (.func fn first cap) w := fun _ _ _ _ => rfl
  have H := Lib.hid h
  have HE := Lib.hid he
  clear h he
  go_enter_defers Tryz.func37, Tryz.ntmps37
  go_wp2_with fail
  rw [HE.out]
  refine H.out.mono ?_
  rintro e w2 ⟨rfl, hg⟩
  have hb := alloc_old hg
  have hcell := cell_of_one hb
  have hfree := free_of_one hb
  have HB := Lib.hid hb; have HG := Lib.hid hg
  clear hb hg H HE
  go_wp2
  exact door_ret S w _ _ rfl (one_setCell HB.out) (grown_step (grown_trans (World.grownBy_alloc _ _ none) HG.out) (grown_setCell w2 ⟨w.heap.size, 0, none⟩ _) (Nat.le_refl _))

set_option maxRecDepth 20000 in
theorem finish_die (F : Nat) (he : Enters F) (first cap : Array Value) (E : Int) (w : World)
    (h : Calls Tryz.prog F (first ++ cap) (w.alloc (.cells #[.int .i64 0] 27)) (DiePost E (w.alloc (.cells #[.int .i64 0] 27)))) :
    Calls Tryz.prog 37 #[.func (.func F) first cap] w (ValPost (.tuple #[.string ⟨#[]⟩, .int .i64 E]) w) := by
  have hmf : ∀ (fn : Fn) (first cap : Array Value) (w : World), (Instr.makeFunc fn first cap).run Tryz.prog w = .ok (.func fn first cap) w := fun _ _ _ _ => rfl
  have H := Lib.hid h
  have HE := Lib.hid he
  clear h he
  go_enter_defers Tryz.func37, Tryz.ntmps37
  go_wp2_with fail
  rw [HE.out]
  refine H.out.mono ?_
  rintro e w2 ⟨rfl, hg⟩
  have hb := alloc_old hg
  have HB := Lib.hid hb; have HG := Lib.hid hg
  clear hb hg H HE
  exact door_die E w _ _ rfl HB.out (grown_trans (World.grownBy_alloc _ _ none) HG.out)
end Go.Proofs.YthokjhlbbgfplaaGreatDoor
