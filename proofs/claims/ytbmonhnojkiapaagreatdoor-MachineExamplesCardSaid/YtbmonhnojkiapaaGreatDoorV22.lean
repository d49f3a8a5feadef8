/- The reference's Deterministic. · A queue of numbers: a row that is taken from at its head and appended to. · The reference's reached. -/
import Derived.Test.YtbmonhnojkiapaaGreatDoorV21
import Derived.Test.YtbmonhnojkiapaaGreatDoorV19
import Derived.Deep.AppendSrc
import Derived.Deep.LoopGhost
set_option linter.unusedVariables false
set_option linter.unusedSimpArgs false
namespace Go.Proofs.YtbmonhnojkiapaaGreatDoor
open Go.RowKit

/-- No symbol twice. -/
def oneSym (s : MState) : Bool := decide ((s.arcs.map MArc.i).Nodup)
noncomputable def detB (m : Mach) : Bool := everyB accP m && everyB quietP m && m.states.all oneSym
def bv (zs : List Bool) : List Value := zs.map Value.bool
def CellsB (w : World) (g : Nat) (l : List Value) : Prop := w.heap[g]? = some (.cells l.toArray 4 (0, 0))
theorem CellsB.cell {w : World} {g : Nat} {l : List Value} (h : CellsB w g l) (k : Nat) : w.cell? ⟨g, k, none⟩ = l[k]? := by
  rw [cell_row h]; simp
theorem CellsB.free {w : World} {g : Nat} {l : List Value} (h : CellsB w g l) (k : Nat) : w.frozen? ⟨g, k, none⟩ = false := frozen_of_row w g k _ _ h
theorem CellsB.set {w : World} {g : Nat} {l : List Value} (h : CellsB w g l) (k : Nat) (u : Value) : CellsB (w.setCell ⟨g, k, none⟩ u) g (l.set k u) := by
  unfold CellsB
  rw [heap_setCell_same w g k _ _ u h]
  simp
theorem CellsB.lt {w : World} {g : Nat} {l : List Value} (h : CellsB w g l) : g < w.heap.size := lt_of_block h
theorem CellsB.of_full {w : World} {B g n : Nat} {l : List Value} (h : w.ownsRow B 4 1 (.slice (some ⟨g, 0, none⟩) n n) n l) : CellsB w g l := by
  rcases h.2 with ⟨h', _⟩ | ⟨g', cap', cur, h', hb, hg, _, _, hs, ht⟩
  · simp at h'
  · simp only [Value.slice.injEq, Option.some.injEq, Addr.mk.injEq, and_true, true_and] at h'
    obtain ⟨rfl, rfl⟩ := h'
    rw [List.take_of_length_le (by rw [Array.length_toList, hs]; exact Nat.le_refl _)] at ht
    subst ht
    unfold CellsB; rw [hg]
theorem bv_replicate (n : Nat) : (madeCells #[Value.bool false] n).toList = bv (List.replicate n false) := by
  rw [toList_madeCells_one]
  simp [bv]
theorem bv_get (zs : List Bool) (k : Nat) (b : Bool) (h : zs[k]? = some b) : (bv zs)[k]? = some (.bool b) := by
  unfold bv; rw [List.getElem?_map, h]; rfl
theorem bv_set (zs : List Bool) (i : Nat) (b : Bool) : (bv zs).set i (.bool b) = bv (zs.set i b) := by simp [bv, List.map_set]
/-- The symbols seen so far. -/
structure DIn (s : MState) (j : Nat) (zs : List Bool) : Prop where
  hj : j ≤ s.arcs.length
  len : zs.length = 501
  nd : ((s.arcs.take j).map MArc.i).Nodup
  at_ : ∀ (x : Nat) (b : Bool), zs[x]? = some b → (b = true ↔ (x : Int) ∈ (s.arcs.take j).map MArc.i)
theorem DIn.start (s : MState) : DIn s 0 (List.replicate 501 false) :=
  ⟨by omega, List.length_replicate, by rw [List.take_zero]; exact List.nodup_nil, fun x b h => by
    rw [List.getElem?_replicate] at h
    split at h
    · cases h; simp
    · cases h⟩
theorem DIn.no {s : MState} {j x : Nat} {zs : List Bool} {a : MArc} (h : DIn s j zs) (ha : s.arcs[j]? = some a) (hx : a.i = (x : Int)) (hz : zs[x]? = some true) : oneSym s = false := by
  unfold oneSym
  rw [decide_eq_false_iff_not]
  intro hn
  have hm := (h.at_ x true hz).1 rfl
  have h1 : ((s.arcs.take (j + 1)).map MArc.i).Nodup := by
    have : (s.arcs.take (j + 1)).map MArc.i = (s.arcs.map MArc.i).take (j + 1) := by simp [List.map_take]
    rw [this]
    exact List.Nodup.sublist (List.take_sublist _ _) hn
  rw [take_one ha, List.map_append, List.nodup_append] at h1
  exact h1.2.2 (x : Int) hm a.i (by simp) hx.symm
theorem DIn.next {s : MState} {j x : Nat} {zs : List Bool} {a : MArc} (h : DIn s j zs) (ha : s.arcs[j]? = some a) (hx : a.i = (x : Int)) (hz : zs[x]? = some false) : DIn s (j + 1) (zs.set x true) := by
  refine ⟨by have := (List.getElem?_eq_some_iff.1 ha).1; omega, by rw [List.length_set, h.len], ?_, fun y b hb => ?_⟩
  · rw [take_one ha, List.map_append, List.nodup_append]
    refine ⟨h.nd, by simp, fun p hp q hq e => ?_⟩
    simp at hq
    have := (h.at_ x false hz).2 (by rw [← hx, ← hq, ← e]; exact hp)
    cases this
  · rw [take_one ha, List.map_append, List.mem_append]
    by_cases e : y = x
    · subst e
      rw [List.getElem?_set_self (List.getElem?_eq_some_iff.1 hz).1] at hb
      cases hb
      simp [hx]
    · rw [List.getElem?_set_ne (Ne.symm e)] at hb
      rw [h.at_ y b hb]
      simp [hx]
      intro e2; omega
theorem DIn.all {s : MState} {j : Nat} {zs : List Bool} (h : DIn s j zs) (hj : ¬ j < s.arcs.length) : oneSym s = true := by
  have := h.nd
  rw [List.take_of_length_le (by omega)] at this
  unfold oneSym
  exact decide_eq_true this
/-- What a round of the outer loop holds. -/
structure DOut (m : Mach) (k : Nat) : Prop where
  hk : k ≤ m.states.length
  hs : ∀ (j : Nat) (s : MState), j < k → m.states[j]? = some s → oneSym s = true
theorem DOut.next {m : Mach} {k : Nat} {s : MState} (h : DOut m k) (hs : m.states[k]? = some s) (hP : oneSym s = true) : DOut m (k + 1) :=
  ⟨by have := (List.getElem?_eq_some_iff.1 hs).1; omega, fun j t hj ht => by
    by_cases e : j = k
    · subst e; rw [hs] at ht; cases ht; exact hP
    · exact h.hs j t (by omega) ht⟩
theorem DOut.all {m : Mach} {k : Nat} (h : DOut m k) (hk : ¬ k < m.states.length) (h1 : everyB accP m = true) (h2 : everyB quietP m = true) : detB m = true := by
  unfold detB
  rw [h1, h2, Bool.true_and, Bool.true_and, List.all_eq_true]
  intro s hs
  obtain ⟨j, hj⟩ := List.mem_iff_getElem?.1 hs
  exact h.hs j s (by have := (List.getElem?_eq_some_iff.1 hj).1; omega) hj

end Go.Proofs.YtbmonhnojkiapaaGreatDoor
set_option linter.unusedVariables false
set_option linter.unusedSimpArgs false
namespace Go.Proofs.YtbmonhnojkiapaaGreatDoor
open Go.RowKit

/-- v is a slice of just these numbers, in a block of at least B. -/
def QAt (w : World) (B : Nat) (v : Value) (q : List Nat) : Prop :=
  ∃ a cap, v = .slice a q.length cap ∧ ((q = [] ∧ cap = 0) ∨ ∃ g off cur, a = some ⟨g, off, none⟩ ∧ B ≤ g ∧ w.heap[g]? = some (.cells cur 3 (0, 0)) ∧ q.length ≤ cap ∧ off + cap ≤ cur.size ∧
    ∀ (i : Nat) (x : Nat), q[i]? = some x → cur[off + i]? = some (.int .i64 (x : Int)))
theorem QAt.nil (w : World) (B : Nat) : QAt w B (.slice none 0 0) [] := ⟨none, 0, rfl, .inl ⟨rfl, rfl⟩⟩
theorem QAt.lt {w : World} {g : Nat} {c : Array Value} {t : TypeId} {f : Nat × Nat} (h : w.heap[g]? = some (.cells c t f)) : g < w.heap.size := (Array.getElem?_eq_some_iff.1 h).1
theorem QAt.grown {w w' : World} {B : Nat} {v : Value} {q : List Nat} {r : Option Nat} (h : QAt w B v q) (hg : w.grownBy w' r) (hr : ∀ k, r = some k → k < B) : QAt w' B v q := by
  obtain ⟨a, cap, hv, h | ⟨g, off, cur, ha, hB, hh, hc, ho, hx⟩⟩ := h
  · exact ⟨a, cap, hv, .inl h⟩
  · exact ⟨a, cap, hv, .inr ⟨g, off, cur, ha, hB, (hg.block g (QAt.lt hh) (fun e => by have := hr g e.symm; omega)).trans hh, hc, ho, hx⟩⟩
theorem size_zeroCells6 (z : Value) (k : Nat) : (Builtin.zeroCells #[z] k).size = k := by
  unfold Builtin.zeroCells; simp
theorem QAt.push {w : World} {B : Nat} {v : Value} {q : List Nat} (h : QAt w B v q) (hB : B ≤ w.heap.size) (ty : TypeId) (ad : Addr) (c x : Nat) (hx : w.cell? ad = some (.int .i64 (x : Int))) (hl : q.length ≤ 1000000) :
    ∃ v' w', (Builtin.append_ #[41, 41] ty #[v, .slice (some ad) 1 c]).run Tryz.prog w = .ok v' w' ∧ QAt w' B v' (q ++ [x]) ∧ Below B w w' := by
  obtain ⟨i0, hi, hz0, hz1, hz2⟩ := info_parts6 (t := 3) (z := .int .i64 0) (n := 1) (b := 8) (by kernel_rfl)
  have hsrc : Src Tryz.prog i0.size 41 (.slice (some ad) 1 c) 1 [.int .i64 (x : Int)] w :=
    Src.ofSlice w Tryz.underlying41 ad 1 c [.int .i64 (x : Int)] (by rw [hz1]; rfl) (fun j u hu => by
      match j, hu with
      | 0, hu => simp at hu; subst hu; exact hx
      | j + 1, hu => simp at hu) (by simp [Value.oneCell'])
  have grow : ∀ (base : Option Addr) (cap : Nat) (olds : List Value), v = .slice base q.length cap → cap < q.length + 1 → olds = q.map (fun y : Nat => Value.int .i64 (y : Int)) →
      (Builtin.firstCells i0.size q.length (.slice base q.length cap)).run Tryz.prog w.drew = .ok olds.toArray w.drew →
      ∃ v' w', (Builtin.append_ #[41, 41] ty #[v, .slice (some ad) 1 c]).run Tryz.prog w = .ok v' w' ∧ QAt w' B v' (q ++ [x]) ∧ Below B w w' := by
    intro base cap olds hv hcap hol hold
    have hcap2 := growslice_fits (need := q.length + 1) (old := cap) (bytes := 8) (by omega) (by omega)
    have hrun := run_append_grow_src w 41 41 ty 3 i0 _ Tryz.underlying41 hi hz0 base q.length cap olds hold _ 1 _ hsrc (by omega) (by omega) (by rw [hz2]; exact hcap2)
    rw [hv]
    refine ⟨_, _, hrun, ⟨_, _, by rw [List.length_append, List.length_singleton], .inr ⟨w.heap.size, 0, _, rfl, hB, (by show (w.drew.heap.push _)[w.heap.size]? = _; exact Array.getElem?_push_size), ?_, ?_, ?_⟩⟩, ((Below.refl B w).grown (grown_drew w none) hB (by simp)).alloc hB _⟩
    · rw [List.length_append, List.length_singleton]; exact grownCap_ge _ _ _ _
    · have h1 := grownCap_ge w (q.length + 1) cap 3
      rw [Array.size_append, List.size_toArray, List.length_append, hol, List.length_map, show (Value.int IntKind.i64 0).cells = #[.int .i64 0] from rfl, size_zeroCells6]
      simp; omega
    · intro i y hy
      rw [Nat.zero_add]
      have hlt := (List.getElem?_eq_some_iff.1 hy).1
      rw [List.length_append, List.length_singleton] at hlt
      rw [Array.getElem?_append_left (by rw [List.size_toArray, List.length_append, hol, List.length_map, List.length_singleton]; exact hlt)]
      rw [List.getElem?_toArray, hol, show [Value.int IntKind.i64 (x : Int)] = [x].map (fun y : Nat => Value.int .i64 (y : Int)) from rfl, ← List.map_append, List.getElem?_map, hy]
      rfl
  obtain ⟨a, cap, hv, ⟨rfl, rfl⟩ | ⟨g, off, cur, rfl, hgB, hh, hc, ho, hq⟩⟩ := h
  · refine grow a 0 [] hv (by simp) rfl ?_
    cases a with
    | none => exact run_firstCells_none w.drew _ _ _ _
    | some b => exact run_firstCells_some w.drew i0.size 0 b _ _ [] (by simp) (fun j u hu => by simp at hu)
  · by_cases hroom : q.length + 1 ≤ cap
    · have hk : off + q.length < cur.size := by omega
      have hrun := run_append_room_src w 41 41 ty 3 i0 Tryz.underlying41 hi g off q.length cap _ 1 _ hsrc hroom
        (fun j hj => by simp at hj; subst hj; rw [hz1, Nat.mul_one, Nat.add_zero, cell_of_row w g _ _ _ (0, 0) hh, Array.getElem?_eq_getElem hk]; rfl)
        (fun j hj => frozen_of_row w g _ _ _ hh)
      rw [hv]
      rw [hz1, Nat.mul_one] at hrun
      refine ⟨_, _, hrun, ⟨_, cap, by rw [List.length_append, List.length_singleton], .inr ⟨g, off, cur.setIfInBounds (off + q.length) (.int .i64 (x : Int)), rfl, hgB, ?_, by rw [List.length_append, List.length_singleton]; exact hroom, by simpa using ho, fun i y hy => ?_⟩⟩, ?_⟩
      · have := heap_setCell_same w g (off + q.length) _ _ (.int .i64 (x : Int)) hh
        rw [World.setCells, World.setCells, this]
      · by_cases e : i = q.length
        · subst e
          rw [List.getElem?_append_right (Nat.le_refl _), Nat.sub_self] at hy
          simp at hy
          subst hy
          rw [Array.getElem?_setIfInBounds_self_of_lt hk]
        · have hlt := (List.getElem?_eq_some_iff.1 hy).1
          rw [List.length_append, List.length_singleton] at hlt
          rw [List.getElem?_append_left (by omega)] at hy
          rw [Array.getElem?_setIfInBounds_ne (by omega)]
          exact hq i y hy
      · exact (Below.refl B w).grown (grown_setCell w ⟨g, off + q.length, none⟩ _) hB (fun k e => by cases e; exact hgB)
    · refine grow _ cap _ hv (by omega) rfl (run_firstCells_some w.drew i0.size q.length _ _ _ _ (by rw [hz1]; simp) (fun j u hu => ?_))
      rw [List.getElem?_map] at hu
      obtain ⟨y, hy, rfl⟩ := Option.map_eq_some_iff.1 hu
      have hlt := (List.getElem?_eq_some_iff.1 hy).1
      have h1 : Addr.add ⟨g, off, none⟩ j = ⟨g, off + j, none⟩ := by unfold Addr.add; split <;> simp_all
      rw [h1]
      show w.cell? _ = _
      rw [cell_of_row w g _ _ _ (0, 0) hh]
      exact hq j y hy
end Go.Proofs.YtbmonhnojkiapaaGreatDoor
set_option linter.unusedVariables false
set_option linter.unusedSimpArgs false
namespace Go.Proofs.YtbmonhnojkiapaaGreatDoor
open Go.RowKit

theorem wpList_push {w : World} {B : Nat} {v : Value} {q : List Nat} (h : QAt w B v q) (hB : B ≤ w.heap.size) {ops : Array Oper} {rest : List Oper} {o : Oper} {a : Act} {Q : Exit → Act → World → Prop} (hgd : o.guard = none) (s x : Operand)
    (ho : o.op = .call { callee := .builtin .append, args := #[s, x], argTypes := #[41, 41] }) (hs : a.eval s = v) (ad : Addr) (c y : Nat) (hx : a.eval x = .slice (some ad) 1 c) (hc : w.cell? ad = some (.int .i64 (y : Int))) (hl : q.length ≤ 1000000)
    (k : ∀ v' w', QAt w' B v' (q ++ [y]) → Below B w w' → wpList Tryz.prog ops Q rest (a.put o.dst v') w') : wpList Tryz.prog ops Q (o :: rest) a w := by
  refine wpList_plain hgd fun K hK => ?_
  obtain ⟨v', w', hrun, h1, h2⟩ := h.push hB o.type ad c y hc hl
  unfold Oper.wp
  simp [execOp, ho, resolve, invoke, builtin, hs, hx, hrun, Result.andThen]
  exact hK _ _ (k v' w' h1 h2)
/-- What a round of the search holds of the memory. -/
structure RMem (w : World) (m : Mach) (u : Value) (W : World) (todo : Value) (zs : List Bool) (q : List Nat) : Prop where
  box : BoxAt W w.heap.size m u
  row : CellsB W (w.heap.size + 1) (bv zs)
  que : QAt W (w.heap.size + 2) todo q
  g : w.grownBy W none
  size : w.heap.size + 2 ≤ W.heap.size

theorem RMem.next {w W W' : World} {m : Mach} {u todo todo' : Value} {zs : List Bool} {q q' : List Nat} (h : RMem w m u W todo zs q) (hb : Below (w.heap.size + 2) W W') (hq : QAt W' (w.heap.size + 2) todo' q') : RMem w m u W' todo' zs q' :=
  ⟨h.box.below hb (by omega), (hb.block _ (by omega)).trans h.row, hq, grown_below ((below_of h.g).trans (hb.mono (by omega))), by have := hb.size; have := h.size; omega⟩
theorem RMem.alloc {w W : World} {m : Mach} {u todo : Value} {zs : List Bool} {q : List Nat} (h : RMem w m u W todo zs q) (o : Obj) : RMem w m u (W.alloc o) todo zs q :=
  h.next ((Below.refl _ W).alloc h.size o) (h.que.grown (World.grownBy_alloc W o none) (by simp))

theorem new_cell6 (w : World) (y : Nat) : (w.alloc (.cells #[.int .i64 (y : Int)] 3)).cell? ⟨w.heap.size, 0, none⟩ = some (.int .i64 (y : Int)) := by
  have h : (w.alloc (.cells #[.int .i64 (y : Int)] 3)).heap[w.heap.size]? = some (.cells #[.int .i64 (y : Int)] 3 (0, 0)) := by
    show (w.heap.push _)[w.heap.size]? = _
    rw [Array.getElem?_push_size]
  rw [cell_of_row _ w.heap.size 0 _ _ (0, 0) h]; rfl
end Go.Proofs.YtbmonhnojkiapaaGreatDoor
