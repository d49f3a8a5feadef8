/- U25 -/
import Derived.Test.YtaogepcaoogpgaaGreatDoorV32
import Derived.Test.YtaogepcaoogpgaaGreatDoorV31
set_option linter.unusedVariables false
set_option linter.unusedSimpArgs false
namespace Go.Proofs.YtaogepcaoogpgaaGreatDoor
open Go.RowKit
structure StAt (w : World) (A : Option Addr) (us : List Value) (l : List MState) : Prop where
 len : us.length = l.length
 row : Reads w w.heap.size 2 A l.length ((l.zip us).flatMap stC)
 arcs : ∀ (k : Nat) (s : MState) (x : Value), l[k]? = some s → us[k]? = some x → ArcsSl w x s.arcs
theorem StAt.of {w : World} {u : Value} {l : List MState} (h : StSl w u l) : ∃ A cap us, u = .slice A l.length cap ∧ StAt w A us l := by
 obtain ⟨A, cap, us, hv, h1, h2, h3⟩ := h
 exact ⟨A, cap, us, hv, h1, h2, h3⟩
theorem StAt.below {w w' : World} {A : Option Addr} {us : List Value} {l : List MState} (h : StAt w A us l) (hb : Below w.heap.size w w') : StAt w' A us l :=
 ⟨h.len, (h.row.below hb).more hb.size, fun k s x hs hx => (h.arcs k s x hs hx).below hb⟩
theorem StAt.grown {w w' : World} {A : Option Addr} {us : List Value} {l : List MState} (h : StAt w A us l) (hg : w.grownBy w' none) : StAt w' A us l := h.below (below_of hg)
theorem StAt.at_ {w : World} {A : Option Addr} {us : List Value} {l : List MState} (h : StAt w A us l) {k : Nat} (hk : k < l.length) :
  ∃ ad s B cb, A = some ad ∧ l[k]? = some s ∧ us[k]? = some (.slice B s.arcs.length cb) ∧ StateAt w (ad.add (k * 2)) s.fin (.slice B s.arcs.length cb) ∧ Reads w w.heap.size 4 B s.arcs.length (s.arcs.flatMap arcC) := by
 obtain ⟨ad, s, u, hA, _, hs, hu, hc⟩ := row_state h.row h.len hk
 obtain ⟨B, cb, rfl, hr⟩ := h.arcs k s u hs hu
 exact ⟨ad, s, B, cb, hA, hs, hu, hc, hr⟩
theorem StAt.arcs_at {w : World} {A : Option Addr} {us : List Value} {l : List MState} (h : StAt w A us l) {k : Nat} {s : MState} {B : Option Addr} {cb : Nat} (hs : l[k]? = some s) (hu : us[k]? = some (.slice B s.arcs.length cb)) : Reads w w.heap.size 4 B s.arcs.length (s.arcs.flatMap arcC) := by
 obtain ⟨B', cb', e, hr⟩ := h.arcs k s _ hs hu
 cases e; exact hr
theorem grown_step_opt {w w1 w2 : World} {r : Option Nat} (h1 : w.grownBy w1 r) (h2 : w1.grownBy w2 r) : w.grownBy w2 r := World.grownBy.trans h1 h2
theorem grown_any {w w' : World} {r : Option Nat} (h : w.grownBy w' none) : w.grownBy w' r := ⟨h.os, h.tape, h.output, h.size, fun k hk _ => h.block k hk (by simp)⟩
def BPost (Inv : World → Prop) (r : Option Nat) (b : Bool) (w : World) (e : Ending) (w' : World) : Prop := e = .returned (.bool b) ∧ Inv w' ∧ w.grownBy w' r
def Says (Inv : World → Prop) (r : Option Nat) (F : Nat) (lb : Array Value) (m : Mach) (P : MArc → Bool) : Prop :=
 ∀ (W : World) (s : MState) (a : MArc), Inv W → s ∈ m.states → a ∈ s.arcs → Calls Tryz.prog F (#[.agg #[.int .i64 a.i, .int .i64 a.o, .string a.w, .int .i64 a.t]] ++ lb) W (BPost Inv r (P a) W)
def allB (P : MArc → Bool) (m : Mach) : Bool := m.states.all (fun s => s.arcs.all P)
theorem allB_not {P : MArc → Bool} {m : Mach} {k j : Nat} {s : MState} {a : MArc} (hs : m.states[k]? = some s) (ha : s.arcs[j]? = some a) (h : P a = false) : allB P m = false := by
 unfold allB
 cases hx : m.states.all (fun s => s.arcs.all P)
 ·rfl
 ·have := List.all_eq_true.1 (List.all_eq_true.1 hx s (List.mem_of_getElem? hs)) a (List.mem_of_getElem? ha)
  rw [this] at h; cases h
theorem allB_yes {P : MArc → Bool} {m : Mach} {k : Nat} (h : EOut P m k) (hk : ¬ k < m.states.length) : allB P m = true := by
 unfold allB
 rw [List.all_eq_true]
 intro s hs
 obtain ⟨j, hj⟩ := List.mem_iff_getElem?.1 hs
 exact h.hs j s (by have := (List.getElem?_eq_some_iff.1 hj).1; omega) hj
set_option maxRecDepth 20000 in
set_option maxHeartbeats 4000000 in
theorem all_any {w : World} {A : Option Addr} {cap : Nat} {us : List Value} {m : Mach} {Inv : World → Prop} {r : Option Nat} {F : Nat} {lb : Array Value} {P : MArc → Bool} (hE : Enters F) (hI : ∀ W W', Inv W → W.grownBy W' none → Inv W')
  (hS : ∀ W, Inv W → StAt W A us m.states) (hr : ∀ k, r = some k → k < w.heap.size) (h0 : Inv w) (hf : Says Inv r F lb m P) (hn : m.states.length ≤ 140737488355328) (hna : ∀ s ∈ m.states, s.arcs.length ≤ 140737488355328) :
  Calls Tryz.prog 125 #[.agg #[.int .i64 m.kind, .int .i64 m.start, .string m.lead, .slice A m.states.length cap], .func (.func F) #[] lb] w (BPost Inv r (allB P m) w) := by
 have HE := Lib.hid hE; have HI := Lib.hid hI; have HS := Lib.hid hS; have HR := Lib.hid hr; have HF := Lib.hid hf; have HNA := Lib.hid hna
 have hg : w.grownBy (w.alloc (.cells #[.int .i64 m.kind, .int .i64 m.start, .string m.lead, .slice A m.states.length cap] 31)) none := World.grownBy_alloc _ _ _
 have HG := Lib.hid (grown_any (r := r) hg)
 have H0 := Lib.hid (hI _ _ h0 hg)
 clear hE hI hS hr hf hna h0 hg
 go_enter Tryz.func125, Tryz.ntmps125
 go_wp2
 generalize hW : w.alloc (.cells #[.int .i64 m.kind, .int .i64 m.start, .string m.lead, .slice A m.states.length cap] 31) = W at *
 clear hW
 go_loopw [12] (fun i wr => ∃ k : Nat, i = .int .i64 k ∧ EOut P m k ∧ Inv wr ∧ W.grownBy wr r) (fun i _ => m.states.length - (intOf i).toNat)
 case atStart => exact ⟨0, rfl, ⟨by omega, fun j s hj => by omega⟩, H0.out, World.grownBy.refl _ _⟩
 case round =>
  obtain ⟨k, rfl, ho, hinv, hgr⟩ := hrel
  have HO := Lib.hid ho
  have hk := ho.hk
  have HINV := Lib.hid hinv; have HGR := Lib.hid hgr
  clear ho hgr
  by_cases hlt : k < m.states.length
  ·obtain ⟨ad, s, B, cb, hA, hs, hu, hc, hra⟩ := (HS.out wr hinv).at_ hlt
   subst hA
   obtain ⟨x0, x1⟩ := hc
   have hal := HNA.out s (List.mem_of_getElem? hs)
   have n1 : (k : Int) < (m.states.length : Int) := by omega
   have n2 : IntKind.i64.wrap ((k : Int) + 1) = (k : Int) + 1 := by rw [IntKind.wrap_i64]; omega
   have HSS := Lib.hid hs; have HU := Lib.hid hu
   have hinv2 := HI.out _ _ hinv (World.grownBy_alloc wr (.cells #[.string s.fin, .slice B s.arcs.length cb] 57) none)
   have HINV2 := Lib.hid hinv2
   have HG2 := Lib.hid (grown_step_opt HGR.out (grown_any (r := r) (World.grownBy_alloc wr (.cells #[.string s.fin, .slice B s.arcs.length cb] 57) none)))
   clear hs hu hra hinv hinv2
   go_wp2
   generalize hW2 : wr.alloc (.cells #[.string s.fin, .slice B s.arcs.length cb] 57) = W2 at *
   clear hW2 x0 x1
   generalize wr = w4 at *
   go_loopw [19] (fun i wr => ∃ j : Nat, i = .int .i64 j ∧ EIn P s j ∧ Inv wr ∧ W.grownBy wr r) (fun i _ => s.arcs.length - (intOf i).toNat)
   case atStart => exact ⟨0, rfl, ⟨by omega, fun j s hj => by omega⟩, HINV2.out, HG2.out⟩
   case round =>
    obtain ⟨j, rfl, hi, hinv, hgr⟩ := hrel
    have HIN := Lib.hid hi
    have hj := hi.hj
    have HINV3 := Lib.hid hinv; have HGR3 := Lib.hid hgr
    clear hi hgr
    by_cases hjl : j < s.arcs.length
    ·obtain ⟨ad2, a, hB, hab, haj, hat⟩ := row_arc ((HS.out wr hinv).arcs_at HSS.out HU.out) hjl
     subst hB
     obtain ⟨z0, z1, z2, z3⟩ := hat
     have n3 : (j : Int) < (s.arcs.length : Int) := by omega
     have n4 : IntKind.i64.wrap ((j : Int) + 1) = (j : Int) + 1 := by rw [IntKind.wrap_i64]; omega
     have HAJ := Lib.hid haj
     have hg4 : wr.grownBy (wr.alloc (.cells #[.int .i64 a.i, .int .i64 a.o, .string a.w, .int .i64 a.t] 59)) none := World.grownBy_alloc _ _ _
     have HG4 := Lib.hid (grown_step_opt HGR3.out (grown_any (r := r) hg4))
     have HC := Lib.hid (HF.out _ s a (HI.out _ _ hinv hg4) (List.mem_of_getElem? HSS.out) (List.mem_of_getElem? haj))
     clear haj hinv hg4
     go_wp2_with fail
     rw [HE.out]
     refine HC.out.mono ?_
     rintro e w5 ⟨rfl, hinv5, hg5⟩
     have HINV5 := Lib.hid hinv5
     have HG5 := Lib.hid (grown_step_opt HG4.out hg5)
     clear hinv5 hg5 z0 z1 z2 z3
     cases hP : P a
     ·have HNO := Lib.hid (allB_not HSS.out HAJ.out hP)
      clear hP
      go_wp2
      go_ret
      exact ⟨by rw [HNO.out]; rfl, HINV5.out, grown_step_opt HG.out HG5.out⟩
     ·have HN := Lib.hid (HIN.out.next HAJ.out hP)
      clear hP
      go_wp2
      go_roundw
      case rel => exact ⟨j + 1, by go_num, HN.out, HINV5.out, HG5.out⟩
      case measure => simp [intOf]; omega
    ·have n3 : ¬ (j : Int) < (s.arcs.length : Int) := by omega
     have HN := Lib.hid (HO.out.next HSS.out (HIN.out.all hjl))
     clear hinv
     go_wp2
     go_roundw
     case rel => exact ⟨k + 1, by go_num, HN.out, HINV3.out, HGR3.out⟩
     case measure => simp [intOf]; omega
  ·have n1 : ¬ (k : Int) < (m.states.length : Int) := by omega
   have HY := Lib.hid (allB_yes HO.out hlt)
   clear hinv
   go_wp2
   go_ret
   exact ⟨by rw [HY.out]; rfl, HINV.out, grown_step_opt HG.out HGR.out⟩
open Go.RowKit
def marksL (n : Nat) (o : List Nat) : List Bool := (List.range n).map (fun x => decide (x ∈ o))
theorem marks_len (n : Nat) (o : List Nat) : (marksL n o).length = n := by simp [marksL]
theorem marks_get {n y : Nat} {o : List Nat} (h : y < n) : (marksL n o)[y]? = some (decide (y ∈ o)) := by
 unfold marksL; rw [List.getElem?_map, List.getElem?_range h]; rfl
theorem marks_set {n y : Nat} {o : List Nat} (h : y < n) : (marksL n o).set y true = marksL n (o ++ [y]) := by
 apply List.ext_getElem?
 intro i
 by_cases e : i = y
 ·subst e
  rw [List.getElem?_set_self (by rw [marks_len]; exact h), marks_get h]
  simp
 ·rw [List.getElem?_set_ne (Ne.symm e)]
  by_cases hi : i < n
  ·rw [marks_get hi, marks_get hi]
   simp [e]
  ·rw [List.getElem?_eq_none (by rw [marks_len]; omega), List.getElem?_eq_none (by rw [marks_len]; omega)]
theorem marks_nil (n : Nat) : marksL n [] = List.replicate n false := by
 unfold marksL
 apply List.ext_getElem?
 intro i
 rw [List.getElem?_map, List.getElem?_replicate]
 by_cases hi : i < n
 ·rw [List.getElem?_range hi, if_pos hi]; simp
 ·rw [List.getElem?_eq_none (by rw [List.length_range]; omega), if_neg hi]; rfl
structure SMem (W : World) (B C s r t n : Nat) (o : List Nat) (v : Value) : Prop where
 sv : W.heap[s]? = some (.cells #[.slice (some ⟨r, 0, none⟩) n n] 166 (0, 0))
 row : CellsB W r (bv (marksL n o))
 tv : W.heap[t]? = some (.cells #[v] 51 (0, 0))
 que : QAt W C v o
 hs : B ≤ s ∧ s < C
 hr : B ≤ r ∧ r < C
 ht : B ≤ t ∧ t < C
 ne : s ≠ r ∧ s ≠ t ∧ r ≠ t
 hC : C ≤ W.heap.size
theorem SMem.next {W W' : World} {B C s r t n : Nat} {o : List Nat} {v : Value} (h : SMem W B C s r t n o v) (hg : W.grownBy W' none) : SMem W' B C s r t n o v :=
 ⟨(hg.block _ (by have := h.hs; have := h.hC; omega) (by simp)).trans h.sv, (hg.block _ (by have := h.hr; have := h.hC; omega) (by simp)).trans h.row, (hg.block _ (by have := h.ht; have := h.hC; omega) (by simp)).trans h.tv, h.que.grown hg (by simp), h.hs, h.hr, h.ht, h.ne, by have := hg.size; have := h.hC; omega⟩
theorem one_cell {W : World} {t : Nat} {v : Value} {ty : TypeId} (h : W.heap[t]? = some (.cells #[v] ty (0, 0))) : W.cell? ⟨t, 0, none⟩ = some v ∧ W.frozen? ⟨t, 0, none⟩ = false :=
 ⟨by rw [cell_of_row W t 0 _ _ (0, 0) h]; rfl, frozen_of_row W t 0 _ _ h⟩
theorem QAt.one {W : World} {B : Nat} {v : Value} {q : List Nat} (h : QAt W B v q) : v.oneCell' = true := by
 obtain ⟨a, cap, rfl, _⟩ := h; rfl
theorem QAt.off_set {W : World} {B : Nat} {v : Value} {q : List Nat} (h : QAt W B v q) {a : Addr} (ha : a.block < B) (u : Value) : QAt (W.setCell a u) B v q := by
 have hg := grown_setCell W a u
 exact h.grown hg (fun k e => by cases e; exact ha)
theorem SMem.put {W w5 : World} {B C s r t n y : Nat} {o : List Nat} {v v' : Value} (h : SMem W B C s r t n o v) (hy : y < n) (w4 : World)
  (hb4 : (W.setCell ⟨r, y, none⟩ (.bool true)).grownBy w4 none) (hq : QAt w5 C v' (o ++ [y])) (hb : Below C w4 w5) : SMem (w5.setCell ⟨t, 0, none⟩ v') B C s r t n (o ++ [y]) v' ∧ Below B W (w5.setCell ⟨t, 0, none⟩ v') := by
 have g1 := grown_setCell W ⟨r, y, none⟩ (.bool true)
 have hset := h.row.set y (.bool true)
 rw [bv_set, marks_set hy] at hset
 have e1 : (W.setCell ⟨r, y, none⟩ (.bool true)).heap.size = W.heap.size := by simp [World.setCell]
 obtain ⟨hs1, hs2⟩ := h.hs; obtain ⟨hr1, hr2⟩ := h.hr; obtain ⟨ht1, ht2⟩ := h.ht; obtain ⟨n1, n2, n3⟩ := h.ne
 have hC := h.hC
 have b1 : Below B W (W.setCell ⟨r, y, none⟩ (.bool true)) := (Below.refl B W).grown g1 (by omega) (fun k e => by cases e; exact hr1)
 have b2 : Below B W w5 := (b1.trans ((below_of hb4).mono (by rw [e1]; omega))).trans (hb.mono (by omega))
 have old : ∀ k, k < C → k ≠ r → w5.heap[k]? = W.heap[k]? := fun k hk hne => (hb.block k hk).trans ((hb4.block k (by rw [e1]; omega) (by simp)).trans (g1.block k (by omega) (by simpa using hne)))
 have g5 := grown_setCell w5 ⟨t, 0, none⟩ v'
 have hsz5 : C ≤ w5.heap.size := by have := hb.size; have := hb4.size; rw [e1] at this; omega
 have hsz : (w5.setCell ⟨t, 0, none⟩ v').heap.size = w5.heap.size := by simp [World.setCell]
 refine ⟨⟨?_, ?_, ?_, hq.off_set ht2 _, h.hs, h.hr, h.ht, h.ne, by rw [hsz]; exact hsz5⟩, b2.grown g5 (by omega) (fun k e => by cases e; exact ht1)⟩
 ·exact (g5.block s (by omega) (by simpa using n2)).trans ((old s hs2 n1).trans h.sv)
 ·refine (g5.block r (by omega) (by simpa using n3)).trans (((hb.block r hr2).trans (hb4.block r (by rw [e1]; omega) (by simp))).trans hset)
 ·have h2 : w5.heap[t]? = some (.cells #[v] 51 (0, 0)) := (old t ht2 (Ne.symm n3)).trans h.tv
  rw [heap_setCell_same w5 t 0 _ _ v' h2]
  rfl
def REnd (W : World) (B C s r t n : Nat) (o : List Nat) (e : Ending) (W' : World) : Prop := e = .returned (.tuple #[]) ∧ (∃ v, SMem W' B C s r t n o v) ∧ Below B W W'
set_option maxHeartbeats 1000000 in
theorem reach_any {W : World} {B C s r t n y : Nat} {o : List Nat} {v : Value} (h : SMem W B C s r t n o v) (hy : y < n) (hol : o.length ≤ 1000000) :
  Calls Tryz.prog 217 #[.int .i64 (y : Int), .pointer (some ⟨s, 0, none⟩), .pointer (some ⟨t, 0, none⟩)] W (REnd W B C s r t n (pushN o y)) := by
 have H := Lib.hid h
 obtain ⟨x0, _⟩ := one_cell h.sv
 have c0 : W.cell? ⟨r, y, none⟩ = some (.bool (decide (y ∈ o))) := by rw [h.row.cell]; exact bv_get _ _ _ (marks_get hy)
 have c1 := h.row.free y
 obtain ⟨x1, x2⟩ := one_cell h.tv
 have n1 : (0 : Int) ≤ (y : Int) := by omega
 have n2 : (y : Int) < (n : Int) := by omega
 have e1 : (W.setCell ⟨r, y, none⟩ (.bool true)).cell? ⟨s, 0, none⟩ = some (.slice (some ⟨r, 0, none⟩) n n) := (World.cell?_of_block ((grown_setCell W ⟨r, y, none⟩ (.bool true)).block s (by have := h.hs; have := h.hC; omega) (by have := h.ne; simpa using this.1))).trans x0
 have e2 : (W.setCell ⟨r, y, none⟩ (.bool true)).cell? ⟨t, 0, none⟩ = some v := (World.cell?_of_block ((grown_setCell W ⟨r, y, none⟩ (.bool true)).block t (by have := h.ht; have := h.hC; omega) (by have := h.ne; simpa using Ne.symm this.2.2))).trans x1
 have hone := h.que.one
 clear h
 by_cases hm : y ∈ o
 ·have hp : pushN o y = o := by unfold pushN; rw [if_pos hm]
  rw [hp]
  rw [decide_eq_true hm] at c0
  clear hm hp
  go_enter Tryz.func217, Tryz.ntmps217
  go_wp2
  go_end0
  exact ⟨rfl, ⟨v, H.out⟩, Below.refl _ _⟩
 ·have hp : pushN o y = o ++ [y] := by unfold pushN; rw [if_neg hm]
  rw [hp]
  rw [decide_eq_false hm] at c0
  clear hm hp
  have HY := Lib.hid hy
  have hq1 : QAt ((W.setCell ⟨r, y, none⟩ (.bool true)).alloc (.cells #[.int .i64 (y : Int)] 3)) C v o := (H.out.que.off_set H.out.hr.2 _).grown (World.grownBy_alloc _ _ none) (by simp)
  have HQ := Lib.hid hq1
  have e3 : (W.setCell ⟨r, y, none⟩ (.bool true)).heap.size = W.heap.size := by simp [World.setCell]
  have hC := H.out.hC
  clear hq1
  go_enter Tryz.func217, Tryz.ntmps217
  go_wp2_with (at_builtin; refine wpList_push HQ.out (by simp; omega) rfl _ _ rfl rfl _ _ y rfl ?ca hol ?_)
  case ca =>
   have := new_cell6 (W.setCell ⟨r, y, none⟩ (.bool true)) y
   rw [e3] at this
   exact this
  intro v' w5 hq5 hb5
  have P := H.out.put HY.out _ (World.grownBy_alloc _ _ none) hq5 hb5
  have y0 : w5.cell? ⟨t, 0, none⟩ = some v := by
   have h1 := hb5.block t H.out.ht.2
   refine (World.cell?_of_block h1).trans ?_
   exact World.grownBy.cell (World.grownBy_alloc _ _ none) e2 (by simp)
  have y1 : w5.frozen? ⟨t, 0, none⟩ = false := by
   have h1 := hb5.block t H.out.ht.2
   have h2 := (World.grownBy_alloc (W.setCell ⟨r, y, none⟩ (.bool true)) (.cells #[.int .i64 (y : Int)] 3) none).block t (by have := H.out.ht.2; omega) (by simp)
   have h3 := (grown_setCell W ⟨r, y, none⟩ (.bool true)).block t (by have := H.out.ht; omega) (by have := H.out.ne; simpa using Ne.symm this.2.2)
   exact (World.frozen?_of_block (h1.trans (h2.trans h3))).trans x2
  obtain ⟨a5, c5, rfl, _⟩ := hq5
  rw [show (o ++ [y]).length = o.length + 1 by simp] at P
  have HP := Lib.hid P
  clear P hb5 HQ
  go_wp2
  go_end0
  exact ⟨rfl, ⟨_, HP.out.1⟩, HP.out.2⟩
open Go.RowKit
def nvL (q : List Nat) : List Value := q.map (fun x : Nat => Value.int .i64 (x : Int))
def NSl (w : World) (v : Value) (q : List Nat) : Prop := ∃ A cap, v = .slice A q.length cap ∧ Reads w w.heap.size 1 A q.length (nvL q)
theorem nvL_get {q : List Nat} {k x : Nat} (h : q[k]? = some x) : (nvL q)[k]? = some (.int .i64 (x : Int)) := by unfold nvL; rw [List.getElem?_map, h]; rfl
theorem NSl.grown {w w' : World} {v : Value} {q : List Nat} (h : NSl w v q) (hg : w.grownBy w' none) : NSl w' v q := by
 obtain ⟨A, cap, hv, hr⟩ := h
 exact ⟨A, cap, hv, (hr.below (below_of hg)).more hg.size⟩
theorem reads_nat {w : World} {A : Option Addr} {q : List Nat} {k : Nat} (h : Reads w w.heap.size 1 A q.length (nvL q)) (hk : k < q.length) : ∃ ad x, A = some ad ∧ q[k]? = some x ∧ w.cell? (ad.add k) = some (.int .i64 (x : Int)) := by
 obtain ⟨ad, hA, hb, hc⟩ := h.2 (by omega)
 have hx : q[k]? = some q[k] := List.getElem?_eq_getElem hk
 exact ⟨ad, _, hA, hx, hc _ _ (nvL_get hx)⟩
theorem QAt.at_ {w : World} {B : Nat} {v : Value} {q : List Nat} (h : QAt w B v q) : ∃ a cap, v = .slice a q.length cap ∧ ∀ (k x : Nat), q[k]? = some x → ∃ g off, a = some ⟨g, off, none⟩ ∧ w.cell? ⟨g, off + k, none⟩ = some (.int .i64 (x : Int)) := by
 obtain ⟨a, cap, hv, ⟨h0, _⟩ | ⟨g, off, cur, ha, hB, hh, hc, ho, hq⟩⟩ := h
 ·exact ⟨a, cap, hv, fun k x hx => by rw [h0] at hx; simp at hx⟩
 ·exact ⟨a, cap, hv, fun k x hx => ⟨g, off, ha, by rw [cell_of_row w g _ _ _ (0, 0) hh]; exact hq k x hx⟩⟩
def Steps (w0 : World) (F p n : Nat) (succ : Nat → List Nat) : Prop :=
 ∀ (W : World) (B C s r t x : Nat) (o : List Nat) (v : Value), Below w0.heap.size w0 W → w0.heap.size ≤ B → SMem W B C s r t n o v → x < n → o.Nodup → (∀ y ∈ o, y < n) →
  Calls Tryz.prog F #[.int .i64 (x : Int), .func (.func 217) #[] #[.pointer (some ⟨s, 0, none⟩), .pointer (some ⟨t, 0, none⟩)], .pointer (some ⟨p, 0, none⟩)] W (REnd W B C s r t n ((succ x).foldl pushN o))
theorem SMem.deep {W : World} {B C s r t n : Nat} {o : List Nat} {v : Value} (h : SMem W B C s r t n o v) (ob : Obj) : SMem (W.alloc ob) B C s r t n o v := h.next (World.grownBy_alloc _ _ _)
theorem short_list {n : Nat} {o : List Nat} (h1 : o.Nodup) (h2 : ∀ y ∈ o, y < n) : o.length ≤ n := nodup_short h1 h2
structure Small (m : Mach) : Prop where
 wf : Wf m
 n : m.states.length ≤ 3000
 a : ∀ s ∈ m.states, s.arcs.length ≤ 30000
theorem enters_succ : Enters 218 := enters_of Tryz.func218 (by kernel_rfl) rfl
set_option maxRecDepth 20000 in
set_option maxHeartbeats 2000000 in
theorem succ_steps {w0 : World} {p : Nat} {A : Option Addr} {cap : Nat} {us : List Value} {m : Mach} (hbx : BoxAt w0 p m (.slice A m.states.length cap)) (hst : StAt w0 A us m.states) (hm : Small m) :
  Steps w0 218 p m.states.length (stepsM m) := by
 intro W B C s r t x o v hB0 hBB hmem hx hnd hlt
 have hbx2 := hbx.below hB0 hbx.lt
 have hst2 := hst.below hB0
 obtain ⟨ad, st, Br, cb, hA, hs, hu, hc, hra⟩ := hst2.at_ hx
 subst hA
 obtain ⟨x0, x1, x2, x3⟩ := hbx2.cells
 obtain ⟨y0, y1⟩ := hc
 have hal := hm.a st (List.mem_of_getElem? hs)
 have hstep := stepsM_at hs
 have n1 : (0 : Int) ≤ (x : Int) := by omega
 have n2 : (x : Int) < (m.states.length : Int) := by omega
 have HM := Lib.hid hm
 have HMEM := Lib.hid hmem; have HST := Lib.hid hst; have HSS := Lib.hid hs; have HU := Lib.hid hu; have HB0 := Lib.hid hB0; have HSTEP := Lib.hid hstep; have HND := Lib.hid hnd; have HLT := Lib.hid hlt
 have hn3 := hm.n
 clear hbx hst hbx2 hst2 hmem hs hu hra hm hstep hnd hlt hB0
 go_enter Tryz.func218, Tryz.ntmps218
 go_wp2
 clear x0 x1 x2 x3 y0 y1
 go_loopw [14] (fun i wr => ∃ (j : Nat) (v : Value), i = .int .i64 j ∧ j ≤ st.arcs.length ∧ SMem wr B C s r t m.states.length (((stepsM m x).take j).foldl pushN o) v ∧ Below B W wr) (fun i _ => st.arcs.length - (intOf i).toNat)
 case atStart => exact ⟨0, v, rfl, by omega, HMEM.out, Below.refl _ _⟩
 case round =>
  obtain ⟨j, v', rfl, hj, hmem, hb⟩ := hrel
  have HMEM2 := Lib.hid hmem; have HB := Lib.hid hb
  have hB1 : Below w0.heap.size w0 wr := HB0.out.trans (hb.mono hBB)
  clear hmem hb
  by_cases hjl : j < st.arcs.length
  ·obtain ⟨ad2, a, hBr, hab, haj, hat⟩ := row_arc ((HST.out.below hB1).arcs_at HSS.out HU.out) hjl
   subst hBr
   obtain ⟨z0, z1, z2, z3⟩ := hat
   have harc := HM.out.wf.arcs st (List.mem_of_getElem? HSS.out) a (List.mem_of_getElem? haj)
   obtain ⟨y, hy⟩ : ∃ y : Nat, a.t = (y : Int) := ⟨a.t.toNat, by omega⟩
   have hyn : y < m.states.length := by omega
   have hst : (stepsM m x)[j]? = some y := by rw [HSTEP.out, List.getElem?_map, haj]; simp [hy]
   have htk : ((stepsM m x).take (j + 1)).foldl pushN o = pushN (((stepsM m x).take j).foldl pushN o) y := by
    rw [take_one hst, folds_snoc]
   have hlen : (((stepsM m x).take j).foldl pushN o).length ≤ 1000000 := by
    have := short_list (folds_nodup (l := (stepsM m x).take j) HND.out) (folds_below (l := (stepsM m x).take j) HLT.out (fun z hz => steps_below HM.out.wf x z (List.mem_of_mem_take hz)))
    omega
   rw [hy] at z3
   have n3 : (j : Int) < (st.arcs.length : Int) := by omega
   have n4 : IntKind.i64.wrap ((j : Int) + 1) = (j : Int) + 1 := by rw [IntKind.wrap_i64]; omega
   have HTK := Lib.hid htk
   have hba : Below B W (wr.alloc (.cells #[.int .i64 a.i, .int .i64 a.o, .string a.w, .int .i64 (y : Int)] 59)) := HB.out.alloc (by have := HMEM2.out.hs; have := HMEM2.out.hC; omega) _
   have HBA := Lib.hid hba
   have HR := Lib.hid (reach_any (HMEM2.out.deep (.cells #[.int .i64 a.i, .int .i64 a.o, .string a.w, .int .i64 (y : Int)] 59)) hyn hlen)
   clear haj harc hy hst htk hba hB1
   go_wp2_with fail
   refine HR.out.mono ?_
   rintro e w5 ⟨rfl, ⟨v5, hm5⟩, hb5⟩
   have HM5 := Lib.hid hm5
   have HB5 := Lib.hid (HBA.out.trans hb5)
   clear hm5 hb5 z0 z1 z2 z3
   go_wp2
   go_roundw
   case rel => exact ⟨j + 1, v5, by go_num, by omega, by rw [HTK.out]; exact HM5.out, HB5.out⟩
   case measure => simp [intOf]; omega
  ·have n3 : ¬ (j : Int) < (st.arcs.length : Int) := by omega
   have e : (stepsM m x).take j = stepsM m x := List.take_of_length_le (by rw [HSTEP.out, List.length_map]; omega)
   rw [e] at HMEM2
   clear hB1
   go_wp2
   go_end0
   exact ⟨rfl, ⟨v', HMEM2.out⟩, HB.out⟩
def FnPost (F : Nat) (m : Mach) (u : Value) (w : World) (e : Ending) (w' : World) : Prop := e = .returned (.func (.func F) #[] #[.pointer (some ⟨w.heap.size, 0, none⟩)]) ∧ BoxAt w' w.heap.size m u ∧ w.grownBy w' none
set_option maxHeartbeats 1000000 in
theorem successors_any {w : World} {u : Value} {m : Mach} :
  Calls Tryz.prog 183 #[.agg #[.int .i64 m.kind, .int .i64 m.start, .string m.lead, u]] w (FnPost 218 m u w) := by
 have hg : w.grownBy (w.alloc (.cells #[.int .i64 m.kind, .int .i64 m.start, .string m.lead, u] 31)) none := World.grownBy_alloc _ _ _
 have hbx := BoxAt.new w m u
 have HG := Lib.hid hg; have HB := Lib.hid hbx
 clear hg hbx
 go_enter Tryz.func183, Tryz.ntmps183
 go_wp2
 go_ret
 exact ⟨rfl, HB.out, HG.out⟩
def QPost (o : List Nat) (w : World) (e : Ending) (w' : World) : Prop := ∃ v, e = .returned v ∧ QAt w' w.heap.size v o ∧ w.grownBy w' none
theorem info_bool7 : (Tryz.prog.info? 4).map (fun i => (i.zero, i.size, i.bytes)) = some (some (.bool false), 1, 1) := by kernel_rfl
theorem SMem.start {w w1 : World} {n : Nat} (hc : CellsB w1 w.heap.size (bv (List.replicate n false))) (hg : w.grownBy w1 none) :
  SMem ((w1.alloc (.cells #[.slice (some ⟨w.heap.size, 0, none⟩) n n] 166)).alloc (.cells #[.slice none 0 0] 51)) w.heap.size (w1.heap.size + 2) w1.heap.size w.heap.size (w1.heap.size + 1) n [] (.slice none 0 0) ∧
  w.grownBy ((w1.alloc (.cells #[.slice (some ⟨w.heap.size, 0, none⟩) n n] 166)).alloc (.cells #[.slice none 0 0] 51)) none := by
 have g1 := World.grownBy_alloc w1 (.cells #[.slice (some ⟨w.heap.size, 0, none⟩) n n] 166) none
 have g2 := World.grownBy_alloc (w1.alloc (.cells #[.slice (some ⟨w.heap.size, 0, none⟩) n n] 166)) (.cells #[.slice none 0 0] 51) none
 have e1 : (w1.alloc (.cells #[.slice (some ⟨w.heap.size, 0, none⟩) n n] 166)).heap.size = w1.heap.size + 1 := by simp
 have hlt := hc.lt
 have c1 : (w1.alloc (.cells #[.slice (some ⟨w.heap.size, 0, none⟩) n n] 166)).heap[w1.heap.size]? = some (.cells #[.slice (some ⟨w.heap.size, 0, none⟩) n n] 166 (0, 0)) := by
  show (w1.heap.push _)[w1.heap.size]? = _
  rw [Array.getElem?_push_size]
 have c2 : ((w1.alloc (.cells #[.slice (some ⟨w.heap.size, 0, none⟩) n n] 166)).alloc (.cells #[.slice none 0 0] 51)).heap[w1.heap.size + 1]? = some (.cells #[.slice none 0 0] 51 (0, 0)) := by
  rw [← e1]
  show (Array.push _ _)[_]? = _
  exact Array.getElem?_push_size
 refine ⟨⟨(g2.block _ (by omega) (by simp)).trans c1, ?_, c2, QAt.nil _ _, ⟨by omega, by omega⟩, ⟨by omega, by omega⟩, ⟨by omega, by omega⟩, ⟨by omega, by omega, by omega⟩, by simp⟩, grown_trans hg (grown_trans g1 g2)⟩
 rw [marks_nil]
 exact (g2.block _ (by omega) (by simp)).trans ((g1.block _ hlt (by simp)).trans hc)
set_option maxRecDepth 20000 in
set_option maxHeartbeats 4000000 in
theorem search_any {w0 w : World} {F p n : Nat} {succ : Nat → List Nat} {v : Value} {fs : List Nat} (hE : Enters F) (hs : Steps w0 F p n succ) (hw : Below w0.heap.size w0 w) (hv : NSl w v fs) (hn : n ≤ 3000) (hfs : ∀ x ∈ fs, x < n) (hsb : ∀ x, ∀ y ∈ succ x, y < n) (hfl : fs.length ≤ 3000) :
  Calls Tryz.prog 182 #[.int .i64 (n : Int), v, .func (.func F) #[] #[.pointer (some ⟨p, 0, none⟩)]] w (QPost (srch succ n 0 (fs.foldl pushN [])) w) := by
 obtain ⟨i0, hi, hz0, hz1, hz2⟩ := info_parts6 info_bool7
 obtain ⟨A, cap, rfl, hr⟩ := hv
 have HR := Lib.hid hr; have HE := Lib.hid hE; have HST := Lib.hid hs; have HW := Lib.hid hw; have HFS := Lib.hid hfs; have HSB := Lib.hid hsb
 clear hr hE hs hw hfs hsb
 go_enter Tryz.func182, Tryz.ntmps182
 go_wp2_with (at_make; refine wpList_make_full _ rfl _ _ 166 rfl w.heap.size 4 i0 (.bool false) 1 Tryz.underlying166 hi hz0 hz1 _ _ _ _ n rfl rfl rfl rfl (by rw [hz2]; omega) (by unfold maxLen; omega) (Nat.le_refl _) ?_)
 intro w1 hown hgr
 rw [bv_replicate] at hown
 obtain ⟨hm0, hg0⟩ := SMem.start (CellsB.of_full hown) hgr
 have HM0 := Lib.hid hm0; have HG0 := Lib.hid hg0
 have e0 : w.heap.size ≤ w1.heap.size := hgr.size
 clear hown hgr hm0 hg0
 go_wp2
 generalize hW : (w1.alloc (.cells #[.slice (some ⟨w.heap.size, 0, none⟩) n n] 166)).alloc (.cells #[.slice none 0 0] 51) = W at *
 clear hW
 go_loopw [18] (fun i wr => ∃ (j : Nat) (v : Value), i = .int .i64 j ∧ j ≤ fs.length ∧ SMem wr w.heap.size (w1.heap.size + 2) w1.heap.size w.heap.size (w1.heap.size + 1) n ((fs.take j).foldl pushN []) v ∧ w.grownBy wr none) (fun i _ => fs.length - (intOf i).toNat)
 case atStart => exact ⟨0, _, rfl, by omega, HM0.out, HG0.out⟩
 case round =>
  obtain ⟨j, v', rfl, hj, hmem, hg⟩ := hrel
  have HMEM := Lib.hid hmem; have HG := Lib.hid hg
  clear hmem hg
  by_cases hjl : j < fs.length
  ·obtain ⟨ad, x, hA, hx, hc⟩ := reads_nat ((HR.out.below (below_of HG.out)).more HG.out.size) hjl
   subst hA
   have hxn := HFS.out x (List.mem_of_getElem? hx)
   have htk : (fs.take (j + 1)).foldl pushN [] = pushN ((fs.take j).foldl pushN []) x := by rw [take_one hx, folds_snoc]
   have hlen : ((fs.take j).foldl pushN []).length ≤ 1000000 := by
    have := short_list (folds_nodup (l := fs.take j) (o := []) List.nodup_nil) (folds_below (n := n) (l := fs.take j) (o := []) (fun z hz => by simp at hz) (fun z hz => HFS.out z (List.mem_of_mem_take hz)))
    omega
   have n1 : (j : Int) < (fs.length : Int) := by omega
   have n2 : IntKind.i64.wrap ((j : Int) + 1) = (j : Int) + 1 := by rw [IntKind.wrap_i64]; omega
   have HTK := Lib.hid htk
   have HRC := Lib.hid (reach_any HMEM.out hxn hlen)
   clear hx htk
   go_wp2_with fail
   refine HRC.out.mono ?_
   rintro e w5 ⟨rfl, ⟨v5, hm5⟩, hb5⟩
   have HM5 := Lib.hid hm5
   have HG5 := Lib.hid (grown_below ((below_of HG.out).trans (hb5)))
   clear hm5 hb5 hc
   go_wp2
   go_roundw
   case rel => exact ⟨j + 1, v5, by go_num, by omega, by rw [HTK.out]; exact HM5.out, HG5.out⟩
   case measure => simp [intOf]; omega
  ·have n1 : ¬ (j : Int) < (fs.length : Int) := by omega
   rw [List.take_of_length_le (l := fs) (by omega)] at HMEM
   have hd0 := folds_nodup (l := fs) (o := []) List.nodup_nil
   have hb0 := folds_below (n := n) (l := fs) (o := []) (fun z hz => by simp at hz) HFS.out
   generalize fs.foldl pushN [] = o0 at *
   have HD0 := Lib.hid hd0; have HB0 := Lib.hid hb0
   clear hd0 hb0
   generalize wr = w4 at *
   go_wp2
   go_loopw [12] (fun i wr => ∃ (j : Nat) (o : List Nat) (v : Value), i = .int .i64 j ∧ j ≤ n ∧ SMem wr w.heap.size (w1.heap.size + 2) w1.heap.size w.heap.size (w1.heap.size + 1) n o v ∧ w.grownBy wr none ∧ o.Nodup ∧ (∀ x ∈ o, x < n) ∧ srch succ (n - j) j o = srch succ n 0 o0) (fun i _ => n + 1 - (intOf i).toNat)
   case atStart => exact ⟨0, o0, v', rfl, by omega, HMEM.out, HG.out, HD0.out, HB0.out, rfl⟩
   case round =>
    obtain ⟨j, o, v2, rfl, hjn, hmem, hg, hnd, hbn, hsr⟩ := hrel
    have hol := short_list hnd hbn
    have HMEM2 := Lib.hid hmem; have HG2 := Lib.hid hg; have HND := Lib.hid hnd; have HBN := Lib.hid hbn; have HSR := Lib.hid hsr
    obtain ⟨a, cap2, rfl, hat⟩ := hmem.que.at_
    obtain ⟨t0, _⟩ := one_cell hmem.tv
    clear hmem hg hnd hbn hsr
    by_cases hjl : j < o.length
    ·have hx : o[j]? = some o[j] := List.getElem?_eq_getElem hjl
     generalize o[j] = x at hx
     obtain ⟨g, off, ha, hcell⟩ := hat j x hx
     subst ha
     have hxn := HBN.out x (List.mem_of_getElem? hx)
     have hs1 : srch succ (n - j) j o = srch succ (n - (j + 1)) (j + 1) ((succ x).foldl pushN o) := by
      rw [show n - j = (n - (j + 1)) + 1 by omega, srch_next hx]
     have n1 : (j : Int) < (o.length : Int) := by omega
     have n2 : IntKind.i64.wrap ((j : Int) + 1) = (j : Int) + 1 := by rw [IntKind.wrap_i64]; omega
     have n3 : (0 : Int) ≤ (j : Int) := by omega
     have HS1 := Lib.hid hs1
     have HC := Lib.hid (HST.out wr _ _ _ _ _ x o _ (HW.out.trans ((below_of HG2.out).mono HW.out.size)) HW.out.size HMEM2.out hxn HND.out HBN.out)
     clear hs1 hx hat
     go_wp2_with fail
     rw [HE.out]
     refine HC.out.mono ?_
     rintro e w5 ⟨rfl, ⟨v5, hm5⟩, hb5⟩
     have HM5 := Lib.hid hm5
     have HG5 := Lib.hid (grown_below ((below_of HG2.out).trans hb5))
     clear hm5 hb5 t0 hcell
     go_wp2
     go_roundw
     case rel => exact ⟨j + 1, _, v5, by go_num, by omega, HM5.out, HG5.out, folds_nodup HND.out, folds_below HBN.out (HSB.out x), HS1.out.symm.trans HSR.out⟩
     case measure => simp [intOf]; omega
    ·have n1 : ¬ (j : Int) < (o.length : Int) := by omega
     have he : o = srch succ n 0 o0 := by rw [← HSR.out, srch_stop (by omega)]
     have HEQ := Lib.hid he
     clear he hat
     go_wp2
     go_ret
     refine ⟨_, rfl, ?_, HG2.out⟩
     rw [← HEQ.out]
     have := HMEM2.out.que
     obtain ⟨a3, c3, e3, h3⟩ := this
     refine ⟨a3, c3, e3, ?_⟩
     rcases h3 with h3 | ⟨g3, off3, cur3, k1, k2, k3⟩
     ·exact .inl h3
     ·exact .inr ⟨g3, off3, cur3, k1, by omega, k3⟩
end Go.Proofs.YtaogepcaoogpgaaGreatDoor
