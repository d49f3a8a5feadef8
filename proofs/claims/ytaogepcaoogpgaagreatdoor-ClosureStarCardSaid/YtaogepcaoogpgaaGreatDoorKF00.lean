/- Short names for what the other texts say often. -/
import Derived.OrdersHeld
import Derived.Deep.RegionHeld3
import Derived.Lib.Hide
namespace Go.Proofs
open Go.RowKit
abbrev zqaa := @List.getD_eq_getElem?_getD
abbrev zqab := @Nat.le_refl
abbrev zqac := @List.getElem?_eq_getElem
abbrev zqad := @Array.getElem?_eq_some_iff
abbrev zqae := @List.getElem?_eq_some_iff
abbrev zqaf := @List.take_of_length_le
abbrev zqag := @List.length_append
abbrev zqah := @IntKind.wrap_i64
abbrev zqai := @Rat.mul_le_mul_of_nonneg_left
abbrev zqaj := @List.getElem?_map
abbrev zqak := @List.mem_of_getElem?
abbrev zqal := @List.getElem?_append_left
abbrev zqam := @Nat.le_trans
abbrev zqan := @List.length_take
abbrev zqao := @List.mem_cons_of_mem
abbrev zqap := @List.getElem?_toArray
abbrev zqaq := @List.getElem?_append_right
abbrev zqar := @Rat.le_trans
abbrev zqas := @List.getElem?_eq_none
abbrev zqat := @Nat.zero_add
abbrev zqau := @List.mem_of_mem_take
abbrev zqav := @Nat.mul_assoc
abbrev zqaw := @Nat.zero_le
abbrev zqax := @List.length_replicate
abbrev zqay := @Nat.pow_le_pow_right
abbrev zqaz := @Array.getElem?_push_size
abbrev zqba := @Nat.lt_of_lt_of_le
abbrev zqbb := @Bool.and_eq_true
abbrev zqbc := @Nat.mul_comm
abbrev zqbd := @Nat.mul_le_mul_left
abbrev zqbe := @List.getElem?_range
abbrev zqbf := @List.mem_map
abbrev zqbg := @List.getElem?_replicate
abbrev zqbh := @Nat.mul_add
abbrev zqbi := @List.getElem?_set_self
abbrev zqbj := @List.append_assoc
abbrev zqbk := @List.mem_singleton
abbrev zqbl := @List.getElem?_set_ne
abbrev zqbm := @List.mem_cons_self
abbrev zqbn := @List.length_map
abbrev zqbo := @List.mem_append
abbrev zqbp := @Nat.pow_succ
abbrev zqbq := @List.length_singleton
abbrev zqbr := @Nat.sub_self
abbrev zqbs := @Array.length_toList
abbrev zqbt := @Nat.div_add_mod
abbrev zqbu := @List.length_cons
abbrev zqbv := @Array.getElem?_eq_getElem
abbrev zqbw := @cell_of_row
abbrev zqbx := @frozen_of_row
abbrev zqby := @bodyPost_ret
abbrev zqbz := @congrArg
abbrev zqca := @decide_eq_true_eq
abbrev zqcb := @decide_eq_false
abbrev zqcc := @wpAnyH_ready
abbrev zqcd := @heap_setCell_other
abbrev zqce := @heap_alloc_new
namespace YtaogepcaoogpgaaGreatDoor
theorem zMF {P : Program} (fn : Fn) (first cap : Array Value) (w : World) : (Instr.makeFunc fn first cap).run P w = .ok (.func fn first cap) w := rfl
theorem zHd {p : Prop} (h : p) : Hid p := Lib.hid h
theorem zAI {a b : Prop} (h : a) (k : b) : a ∧ b := ⟨h, k⟩
theorem zGA (w : World) (o : Obj) (r : Option Nat) : w.grownBy (w.alloc o) r := World.grownBy_alloc w o r
theorem zS.{u} : (∀ {α : Type u} {l : List α} {i : Nat} (h : i < l.toArray.size), l.toArray[i]'h = l[i]'(by simpa using h)) ∧ (∀ {α : Type u} (a : α) (l : List α) (i : Nat) (h : i + 1 < (a :: l).length), (a :: l)[i + 1]'h = l[i]'(Nat.lt_of_succ_lt_succ h)) ∧ (∀ {α : Type u} (a : α) (l : List α) (h : 0 < (a :: l).length), (a :: l)[0]'h = a) ∧ (∀ {α : Type u} (l : List α) (i : Nat) (a : α), l.toArray.setIfInBounds i a = (l.set i a).toArray) ∧ (∀ {α : Type u} {x a : α} {l : List α}, (x :: l).set 0 a = a :: l) ∧ ∀ {α : Type u} {x : α} {l : List α} {i : Nat} {a : α}, (x :: l).set (i + 1) a = x :: l.set i a :=
  ⟨fun h => List.getElem_toArray h, fun a l i h => List.getElem_cons_succ a l i h, fun a l h => List.getElem_cons_zero a l h, fun l i a => List.setIfInBounds_toArray l i a, List.set_cons_zero, List.set_cons_succ⟩
theorem zTk {P : Program} {ops : Array Oper} {Q : Exit → Act → World → Prop} {md : Region.Mode} {S : World → Prop} (i : Nat) (v : Value) {oi : Oper} {fuel : Nat} {listed : Array Bool} {a : Act} {w : World} (hi : ops[i]? = some oi) (hS : S w)
    (h : wpAnyH P md ops Q S fuel (listed.setIfInBounds i true) (a.put oi.dst v) w)
    (hb : (Region.noSelect ops && Region.free md ops listed i && (Region.ready md ops listed).contains i) = true := by kernel_rfl)
    (hQ : ∀ c a w, Q (.panic c) (a.put oi.dst v) w → Q (.panic c) a w := by exact fun _ _ _ h => h)
    (hw : Region.wanted oi (yielded ops a.tmps) = true := by rfl)
    (hy : ∀ W, S W → (execOp a.eval oi).run P W = .ok (.value v) W := by intro W h; (try dsimp only at h); first | (go_simp; done) | (go_simp; rfl)) : wpAnyH P md ops Q S (fuel + 1) listed a w := by
  simp only [Bool.and_eq_true] at hb
  exact wpAnyH_take hi hb.1.1 hb.1.2 hb.2 hQ (Or.inl ⟨hw, hy⟩) hS h
theorem zTu {P : Program} {ops : Array Oper} {Q : Exit → Act → World → Prop} {md : Region.Mode} {S : World → Prop} (i : Nat) {oi : Oper} {fuel : Nat} {listed : Array Bool} {a : Act} {w : World} (hi : ops[i]? = some oi) (hS : S w)
    (h : wpAnyH P md ops Q S fuel (listed.setIfInBounds i true) (a.put oi.dst undef) w)
    (hb : (Region.noSelect ops && Region.free md ops listed i && (Region.ready md ops listed).contains i) = true := by kernel_rfl)
    (hQ : ∀ c a w, Q (.panic c) (a.put oi.dst undef) w → Q (.panic c) a w := by exact fun _ _ _ h => h)
    (hw : Region.wanted oi (yielded ops a.tmps) = false := by rfl) : wpAnyH P md ops Q S (fuel + 1) listed a w := by
  simp only [Bool.and_eq_true] at hb
  exact wpAnyH_take hi hb.1.1 hb.1.2 hb.2 hQ (Or.inr ⟨hw, rfl⟩) hS h
end YtaogepcaoogpgaaGreatDoor
end Go.Proofs
