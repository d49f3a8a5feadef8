/- The reference's Deterministic. · A queue of numbers: a row that is taken from at its head and appended to. · The reference's reached. -/
import Derived.Test.YtbmonhnojkiapaaGreatDoorU21
import Derived.Test.YtbmonhnojkiapaaGreatDoorU19
import Derived.Deep.AppendSrc
import Derived.Deep.LoopGhost
set_option linter.unusedVariables false
set_option linter.unusedSimpArgs false
namespace Go.Proofs.YtbmonhnojkiapaaGreatDoor
open Go.RowKit

/-- No symbol twice. -/
def oneSym (s : MState) : Bool := decide ((s.arcs.map MArc.i).Nodup)
noncomputable def detB (m : Mach) : Bool := everyB accP m && everyB quietP m && m.states.all oneSym
def bv (zs : List Bool) : List Value := zs.map Value.bool
def CellsB (w : World) (g : Nat) (l : List Value) : Prop := w.heap[g]? = some (.cells l.toArray 4 (0, 0))
theorem CellsB.cell {w : World} {g : Nat} {l : List Value} (h : CellsB w g l) (k : Nat) : w.cell? ⟨g, k, none⟩ = l[k]? := by
  rw [cell_row h]; simp
theorem CellsB.free {w : World} {g : Nat} {l : List Value} (h : CellsB w g l) (k : Nat) : w.frozen? ⟨g, k, none⟩ = false := frozen_of_row w g k _ _ h
theorem CellsB.set {w : World} {g : Nat} {l : List Value} (h : CellsB w g l) (k : Nat) (u : Value) : CellsB (w.setCell ⟨g, k, none⟩ u) g (l.set k u) := by
  unfold CellsB
  rw [heap_setCell_same w g k _ _ u h]
  simp
theorem CellsB.lt {w : World} {g : Nat} {l : List Value} (h : CellsB w g l) : g < w.heap.size := lt_of_block h
theorem CellsB.of_full {w : World} {B g n : Nat} {l : List Value} (h : w.ownsRow B 4 1 (.slice (some ⟨g, 0, none⟩) n n) n l) : CellsB w g l := by
  rcases h.2 with ⟨h', _⟩ | ⟨g', cap', cur, h', hb, hg, _, _, hs, ht⟩
  · simp at h'
  · simp only [Value.slice.injEq, Option.some.injEq, Addr.mk.injEq, and_true, true_and] at h'
    obtain ⟨rfl, rfl⟩ := h'
    rw [List.take_of_length_le (by rw [Array.length_toList, hs]; exact Nat.le_refl _)] at ht
    subst ht
    unfold CellsB; rw [hg]
theorem bv_replicate (n : Nat) : (madeCells #[Value.bool false] n).toList = bv (List.replicate n false) := by
  rw [toList_madeCells_one]
  simp [bv]
theorem bv_get (zs : List Bool) (k : Nat) (b : Bool) (h : zs[k]? = some b) : (bv zs)[k]? = some (.bool b) := by
  unfold bv; rw [List.getElem?_map, h]; rfl
theorem bv_set (zs : List Bool) (i : Nat) (b : Bool) : (bv zs).set i (.bool b) = bv (zs.set i b) := by simp [bv, List.map_set]
theorem info_bool6 : (Tryz.prog.info? 4).map (fun i => (i.zero, i.size, i.bytes)) = some (some (.bool false), 1, 1) := by kernel_rfl
/-- The symbols seen so far. -/
structure DIn (s : MState) (j : Nat) (zs : List Bool) : Prop where
  hj : j ≤ s.arcs.length
  len : zs.length = 501
  nd : ((s.arcs.take j).map MArc.i).Nodup
  at_ : ∀ (x : Nat) (b : Bool), zs[x]? = some b → (b = true ↔ (x : Int) ∈ (s.arcs.take j).map MArc.i)
theorem DIn.start (s : MState) : DIn s 0 (List.replicate 501 false) :=
  ⟨by omega, List.length_replicate, by rw [List.take_zero]; exact List.nodup_nil, fun x b h => by
    rw [List.getElem?_replicate] at h
    split at h
    · cases h; simp
    · cases h⟩
theorem DIn.no {s : MState} {j x : Nat} {zs : List Bool} {a : MArc} (h : DIn s j zs) (ha : s.arcs[j]? = some a) (hx : a.i = (x : Int)) (hz : zs[x]? = some true) : oneSym s = false := by
  unfold oneSym
  rw [decide_eq_false_iff_not]
  intro hn
  have hm := (h.at_ x true hz).1 rfl
  have h1 : ((s.arcs.take (j + 1)).map MArc.i).Nodup := by
    have : (s.arcs.take (j + 1)).map MArc.i = (s.arcs.map MArc.i).take (j + 1) := by simp [List.map_take]
    rw [this]
    exact List.Nodup.sublist (List.take_sublist _ _) hn
  rw [take_one ha, List.map_append, List.nodup_append] at h1
  exact h1.2.2 (x : Int) hm a.i (by simp) hx.symm
theorem DIn.next {s : MState} {j x : Nat} {zs : List Bool} {a : MArc} (h : DIn s j zs) (ha : s.arcs[j]? = some a) (hx : a.i = (x : Int)) (hz : zs[x]? = some false) : DIn s (j + 1) (zs.set x true) := by
  refine ⟨by have := (List.getElem?_eq_some_iff.1 ha).1; omega, by rw [List.length_set, h.len], ?_, fun y b hb => ?_⟩
  · rw [take_one ha, List.map_append, List.nodup_append]
    refine ⟨h.nd, by simp, fun p hp q hq e => ?_⟩
    simp at hq
    have := (h.at_ x false hz).2 (by rw [← hx, ← hq, ← e]; exact hp)
    cases this
  · rw [take_one ha, List.map_append, List.mem_append]
    by_cases e : y = x
    · subst e
      rw [List.getElem?_set_self (List.getElem?_eq_some_iff.1 hz).1] at hb
      cases hb
      simp [hx]
    · rw [List.getElem?_set_ne (Ne.symm e)] at hb
      rw [h.at_ y b hb]
      simp [hx]
      intro e2; omega
theorem DIn.all {s : MState} {j : Nat} {zs : List Bool} (h : DIn s j zs) (hj : ¬ j < s.arcs.length) : oneSym s = true := by
  have := h.nd
  rw [List.take_of_length_le (by omega)] at this
  unfold oneSym
  exact decide_eq_true this
/-- What a round of the outer loop holds. -/
structure DOut (m : Mach) (k : Nat) : Prop where
  hk : k ≤ m.states.length
  hs : ∀ (j : Nat) (s : MState), j < k → m.states[j]? = some s → oneSym s = true
theorem DOut.next {m : Mach} {k : Nat} {s : MState} (h : DOut m k) (hs : m.states[k]? = some s) (hP : oneSym s = true) : DOut m (k + 1) :=
  ⟨by have := (List.getElem?_eq_some_iff.1 hs).1; omega, fun j t hj ht => by
    by_cases e : j = k
    · subst e; rw [hs] at ht; cases ht; exact hP
    · exact h.hs j t (by omega) ht⟩
theorem DOut.all {m : Mach} {k : Nat} (h : DOut m k) (hk : ¬ k < m.states.length) (h1 : everyB accP m = true) (h2 : everyB quietP m = true) : detB m = true := by
  unfold detB
  rw [h1, h2, Bool.true_and, Bool.true_and, List.all_eq_true]
  intro s hs
  obtain ⟨j, hj⟩ := List.mem_iff_getElem?.1 hs
  exact h.hs j s (by have := (List.getElem?_eq_some_iff.1 hj).1; omega) hj

end Go.Proofs.YtbmonhnojkiapaaGreatDoor
set_option linter.unusedVariables false
set_option linter.unusedSimpArgs false
namespace Go.Proofs.YtbmonhnojkiapaaGreatDoor
open Go.RowKit

/-- v is a slice of just these numbers, in a block of at least B. -/
def QAt (w : World) (B : Nat) (v : Value) (q : List Nat) : Prop :=
  ∃ a cap, v = .slice a q.length cap ∧ ((q = [] ∧ cap = 0) ∨ ∃ g off cur, a = some ⟨g, off, none⟩ ∧ B ≤ g ∧ w.heap[g]? = some (.cells cur 3 (0, 0)) ∧ q.length ≤ cap ∧ off + cap ≤ cur.size ∧
    ∀ (i : Nat) (x : Nat), q[i]? = some x → cur[off + i]? = some (.int .i64 (x : Int)))
theorem QAt.nil (w : World) (B : Nat) : QAt w B (.slice none 0 0) [] := ⟨none, 0, rfl, .inl ⟨rfl, rfl⟩⟩
theorem QAt.lt {w : World} {g : Nat} {c : Array Value} {t : TypeId} {f : Nat × Nat} (h : w.heap[g]? = some (.cells c t f)) : g < w.heap.size := (Array.getElem?_eq_some_iff.1 h).1
theorem QAt.grown {w w' : World} {B : Nat} {v : Value} {q : List Nat} {r : Option Nat} (h : QAt w B v q) (hg : w.grownBy w' r) (hr : ∀ k, r = some k → k < B) : QAt w' B v q := by
  obtain ⟨a, cap, hv, h | ⟨g, off, cur, ha, hB, hh, hc, ho, hx⟩⟩ := h
  · exact ⟨a, cap, hv, .inl h⟩
  · exact ⟨a, cap, hv, .inr ⟨g, off, cur, ha, hB, (hg.block g (QAt.lt hh) (fun e => by have := hr g e.symm; omega)).trans hh, hc, ho, hx⟩⟩
theorem size_zeroCells6 (z : Value) (k : Nat) : (Builtin.zeroCells #[z] k).size = k := by
  unfold Builtin.zeroCells; simp
theorem QAt.push {w : World} {B : Nat} {v : Value} {q : List Nat} (h : QAt w B v q) (hB : B ≤ w.heap.size) (ty : TypeId) (ad : Addr) (c x : Nat) (hx : w.cell? ad = some (.int .i64 (x : Int))) (hl : q.length ≤ 1000000) :
    ∃ v' w', (Builtin.append_ #[41, 41] ty #[v, .slice (some ad) 1 c]).run Tryz.prog w = .ok v' w' ∧ QAt w' B v' (q ++ [x]) ∧ Below B w w' := by
  obtain ⟨i0, hi, hz0, hz1, hz2⟩ := info_parts6 (t := 3) (z := .int .i64 0) (n := 1) (b := 8) (by kernel_rfl)
  have hsrc : Src Tryz.prog i0.size 41 (.slice (some ad) 1 c) 1 [.int .i64 (x : Int)] w :=
    Src.ofSlice w Tryz.underlying41 ad 1 c [.int .i64 (x : Int)] (by rw [hz1]; rfl) (fun j u hu => by
      match j, hu with
      | 0, hu => simp at hu; subst hu; exact hx
      | j + 1, hu => simp at hu) (by simp [Value.oneCell'])
  have grow : ∀ (base : Option Addr) (cap : Nat) (olds : List Value), v = .slice base q.length cap → cap < q.length + 1 → olds = q.map (fun y : Nat => Value.int .i64 (y : Int)) →
      (Builtin.firstCells i0.size q.length (.slice base q.length cap)).run Tryz.prog w.drew = .ok olds.toArray w.drew →
      ∃ v' w', (Builtin.append_ #[41, 41] ty #[v, .slice (some ad) 1 c]).run Tryz.prog w = .ok v' w' ∧ QAt w' B v' (q ++ [x]) ∧ Below B w w' := by
    intro base cap olds hv hcap hol hold
    have hcap2 := growslice_fits (need := q.length + 1) (old := cap) (bytes := 8) (by omega) (by omega)
    have hrun := run_append_grow_src w 41 41 ty 3 i0 _ Tryz.underlying41 hi hz0 base q.length cap olds hold _ 1 _ hsrc (by omega) (by omega) (by rw [hz2]; exact hcap2)
    rw [hv]
    refine ⟨_, _, hrun, ⟨_, _, by rw [List.length_append, List.length_singleton], .inr ⟨w.heap.size, 0, _, rfl, hB, (by show (w.drew.heap.push _)[w.heap.size]? = _; exact Array.getElem?_push_size), ?_, ?_, ?_⟩⟩, ((Below.refl B w).grown (grown_drew w none) hB (by simp)).alloc hB _⟩
    · rw [List.length_append, List.length_singleton]; exact grownCap_ge _ _ _ _
    · have h1 := grownCap_ge w (q.length + 1) cap 3
      rw [Array.size_append, List.size_toArray, List.length_append, hol, List.length_map, show (Value.int IntKind.i64 0).cells = #[.int .i64 0] from rfl, size_zeroCells6]
      simp; omega
    · intro i y hy
      rw [Nat.zero_add]
      have hlt := (List.getElem?_eq_some_iff.1 hy).1
      rw [List.length_append, List.length_singleton] at hlt
      rw [Array.getElem?_append_left (by rw [List.size_toArray, List.length_append, hol, List.length_map, List.length_singleton]; exact hlt)]
      rw [List.getElem?_toArray, hol, show [Value.int IntKind.i64 (x : Int)] = [x].map (fun y : Nat => Value.int .i64 (y : Int)) from rfl, ← List.map_append, List.getElem?_map, hy]
      rfl
  obtain ⟨a, cap, hv, ⟨rfl, rfl⟩ | ⟨g, off, cur, rfl, hgB, hh, hc, ho, hq⟩⟩ := h
  · refine grow a 0 [] hv (by simp) rfl ?_
    cases a with
    | none => exact run_firstCells_none w.drew _ _ _ _
    | some b => exact run_firstCells_some w.drew i0.size 0 b _ _ [] (by simp) (fun j u hu => by simp at hu)
  · by_cases hroom : q.length + 1 ≤ cap
    · have hk : off + q.length < cur.size := by omega
      have hrun := run_append_room_src w 41 41 ty 3 i0 Tryz.underlying41 hi g off q.length cap _ 1 _ hsrc hroom
        (fun j hj => by simp at hj; subst hj; rw [hz1, Nat.mul_one, Nat.add_zero, cell_of_row w g _ _ _ (0, 0) hh, Array.getElem?_eq_getElem hk]; rfl)
        (fun j hj => frozen_of_row w g _ _ _ hh)
      rw [hv]
      rw [hz1, Nat.mul_one] at hrun
      refine ⟨_, _, hrun, ⟨_, cap, by rw [List.length_append, List.length_singleton], .inr ⟨g, off, cur.setIfInBounds (off + q.length) (.int .i64 (x : Int)), rfl, hgB, ?_, by rw [List.length_append, List.length_singleton]; exact hroom, by simpa using ho, fun i y hy => ?_⟩⟩, ?_⟩
      · have := heap_setCell_same w g (off + q.length) _ _ (.int .i64 (x : Int)) hh
        rw [World.setCells, World.setCells, this]
      · by_cases e : i = q.length
        · subst e
          rw [List.getElem?_append_right (Nat.le_refl _), Nat.sub_self] at hy
          simp at hy
          subst hy
          rw [Array.getElem?_setIfInBounds_self_of_lt hk]
        · have hlt := (List.getElem?_eq_some_iff.1 hy).1
          rw [List.length_append, List.length_singleton] at hlt
          rw [List.getElem?_append_left (by omega)] at hy
          rw [Array.getElem?_setIfInBounds_ne (by omega)]
          exact hq i y hy
      · exact (Below.refl B w).grown (grown_setCell w ⟨g, off + q.length, none⟩ _) hB (fun k e => by cases e; exact hgB)
    · refine grow _ cap _ hv (by omega) rfl (run_firstCells_some w.drew i0.size q.length _ _ _ _ (by rw [hz1]; simp) (fun j u hu => ?_))
      rw [List.getElem?_map] at hu
      obtain ⟨y, hy, rfl⟩ := Option.map_eq_some_iff.1 hu
      have hlt := (List.getElem?_eq_some_iff.1 hy).1
      have h1 : Addr.add ⟨g, off, none⟩ j = ⟨g, off + j, none⟩ := by unfold Addr.add; split <;> simp_all
      rw [h1]
      show w.cell? _ = _
      rw [cell_of_row w g _ _ _ (0, 0) hh]
      exact hq j y hy
/-- The head, and what is left behind it. -/
theorem QAt.head {w : World} {B : Nat} {v : Value} {x : Nat} {q : List Nat} (h : QAt w B v (x :: q)) :
    ∃ g off cap, v = .slice (some ⟨g, off, none⟩) (q.length + 1) cap ∧ B ≤ g ∧ g < w.heap.size ∧ w.cell? ⟨g, off, none⟩ = some (.int .i64 (x : Int)) ∧ q.length + 1 ≤ cap ∧
      ∀ a', (cap = 1 ∨ a' = some ⟨g, off + 1, none⟩) → QAt w B (.slice a' q.length (cap - 1)) q := by
  obtain ⟨a, cap, rfl, ⟨h0, _⟩ | ⟨g, off, cur, rfl, hgB, hh, hc, ho, hq⟩⟩ := h
  · cases h0
  · rw [List.length_cons] at hc
    refine ⟨g, off, cap, by rw [List.length_cons], hgB, QAt.lt hh, ?_, hc, fun a' ha => ?_⟩
    · rw [cell_of_row w g _ _ _ (0, 0) hh]
      exact hq 0 x rfl
    · refine ⟨a', cap - 1, rfl, ?_⟩
      rcases ha with rfl | rfl
      · left
        refine ⟨List.eq_nil_of_length_eq_zero (by omega), rfl⟩
      · right
        refine ⟨g, off + 1, cur, rfl, hgB, hh, by omega, by omega, fun i y hy => ?_⟩
        rw [show off + 1 + i = off + (i + 1) by omega]
        exact hq (i + 1) y (by rw [List.getElem?_cons_succ]; exact hy)
end Go.Proofs.YtbmonhnojkiapaaGreatDoor
set_option linter.unusedVariables false
set_option linter.unusedSimpArgs false
namespace Go.Proofs.YtbmonhnojkiapaaGreatDoor
open Go.RowKit

/-- A row of marks: which places are so. -/
def MarksAt (w : World) (g n : Nat) (R : Nat → Prop) : Prop := ∃ zs, CellsB w g (bv zs) ∧ zs.length = n ∧ ∀ x, zs[x]? = some true ↔ R x
def MarksPost (n : Nat) (R : Nat → Prop) (w : World) (e : Ending) (w' : World) : Prop := ∃ g, e = .returned (.slice (some ⟨g, 0, none⟩) n n) ∧ w.heap.size ≤ g ∧ MarksAt w' g n R ∧ w.grownBy w' none
theorem wpList_push {w : World} {B : Nat} {v : Value} {q : List Nat} (h : QAt w B v q) (hB : B ≤ w.heap.size) {ops : Array Oper} {rest : List Oper} {o : Oper} {a : Act} {Q : Exit → Act → World → Prop} (hgd : o.guard = none) (s x : Operand)
    (ho : o.op = .call { callee := .builtin .append, args := #[s, x], argTypes := #[41, 41] }) (hs : a.eval s = v) (ad : Addr) (c y : Nat) (hx : a.eval x = .slice (some ad) 1 c) (hc : w.cell? ad = some (.int .i64 (y : Int))) (hl : q.length ≤ 1000000)
    (k : ∀ v' w', QAt w' B v' (q ++ [y]) → Below B w w' → wpList Tryz.prog ops Q rest (a.put o.dst v') w') : wpList Tryz.prog ops Q (o :: rest) a w := by
  refine wpList_plain hgd fun K hK => ?_
  obtain ⟨v', w', hrun, h1, h2⟩ := h.push hB o.type ad c y hc hl
  unfold Oper.wp
  simp [execOp, ho, resolve, invoke, builtin, hs, hx, hrun, Result.andThen]
  exact hK _ _ (k v' w' h1 h2)
/-- What a round of the search holds of the memory. -/
structure RMem (w : World) (m : Mach) (u : Value) (W : World) (todo : Value) (zs : List Bool) (q : List Nat) : Prop where
  box : BoxAt W w.heap.size m u
  row : CellsB W (w.heap.size + 1) (bv zs)
  que : QAt W (w.heap.size + 2) todo q
  g : w.grownBy W none
  size : w.heap.size + 2 ≤ W.heap.size

theorem RMem.mark {w W : World} {m : Mach} {u todo : Value} {zs : List Bool} {q : List Nat} (h : RMem w m u W todo zs q) (y : Nat) : RMem w m u (W.setCell ⟨w.heap.size + 1, y, none⟩ (.bool true)) todo (zs.set y true) q := by
  have g1 := grown_setCell W ⟨w.heap.size + 1, y, none⟩ (.bool true)
  have hset := h.row.set y (.bool true)
  rw [bv_set] at hset
  exact ⟨(g1.block _ h.box.lt (by simp)).trans h.box, hset, h.que.grown g1 (fun k e => by cases e; show w.heap.size + 1 < w.heap.size + 2; omega), grown_step (g := w.heap.size + 1) h.g g1 (by omega), by have := g1.size; have := h.size; omega⟩
theorem RMem.next {w W W' : World} {m : Mach} {u todo todo' : Value} {zs : List Bool} {q q' : List Nat} (h : RMem w m u W todo zs q) (hb : Below (w.heap.size + 2) W W') (hq : QAt W' (w.heap.size + 2) todo' q') : RMem w m u W' todo' zs q' :=
  ⟨h.box.below hb (by omega), (hb.block _ (by omega)).trans h.row, hq, grown_below ((below_of h.g).trans (hb.mono (by omega))), by have := hb.size; have := h.size; omega⟩
theorem RMem.alloc {w W : World} {m : Mach} {u todo : Value} {zs : List Bool} {q : List Nat} (h : RMem w m u W todo zs q) (o : Obj) : RMem w m u (W.alloc o) todo zs q :=
  h.next ((Below.refl _ W).alloc h.size o) (h.que.grown (World.grownBy_alloc W o none) (by simp))

theorem new_cell6 (w : World) (y : Nat) : (w.alloc (.cells #[.int .i64 (y : Int)] 3)).cell? ⟨w.heap.size, 0, none⟩ = some (.int .i64 (y : Int)) := by
  have h : (w.alloc (.cells #[.int .i64 (y : Int)] 3)).heap[w.heap.size]? = some (.cells #[.int .i64 (y : Int)] 3 (0, 0)) := by
    show (w.heap.push _)[w.heap.size]? = _
    rw [Array.getElem?_push_size]
  rw [cell_of_row _ w.heap.size 0 _ _ (0, 0) h]; rfl
set_option maxRecDepth 20000 in
set_option maxHeartbeats 4000000 in
theorem rreached_any {w : World} {v : Value} {m : Mach} (hv : MachV w v m) (hB : validB m = true) :
    Calls Tryz.prog 72 #[v] w (MarksPost m.states.length (RFrom (stepsM m) (fun x => x = m.start.toNat)) w) := by
  obtain ⟨i0, hi, hz0, hz1, hz2⟩ := info_parts6 info_bool6
  obtain ⟨_, hp1, hp2, hp3, hp4, _⟩ := head_parts (valid_head hB)
  obtain ⟨s0, hs0⟩ : ∃ s0 : Nat, m.start = (s0 : Int) := ⟨m.start.toNat, by omega⟩
  have hsl : s0 < m.states.length := by omega
  rw [show m.start.toNat = s0 by omega]
  obtain ⟨u, rfl, hst0⟩ := hv
  have HST := Lib.hid hst0
  have hg : w.grownBy (w.alloc (.cells #[.int .i64 m.kind, .int .i64 m.start, .string m.lead, u] 24)) none := World.grownBy_alloc _ _ _
  have hbx := BoxAt.new w m u
  obtain ⟨A, cap, us, rfl, hul, hr, ha⟩ := hst0
  have HBX := Lib.hid hbx; have HG := Lib.hid hg; have HB := Lib.hid hB
  obtain ⟨x0, x1, x2, x3⟩ := hbx.cells
  have HS0 := Lib.hid hs0
  clear hbx hg hr ha hul hB hs0 x1
  go_enter Tryz.func72, Tryz.ntmps72
  go_wp2_with (at_make; refine wpList_make_full _ rfl _ _ 53 rfl (w.heap.size + 1) 4 i0 (.bool false) 1 Tryz.underlying53 hi hz0 hz1 _ _ _ _ m.states.length rfl rfl ?c0 ?c1 ?c2 (by unfold maxLen; omega) ?c3 ?_)
  case c0 => rfl
  case c1 => rfl
  case c2 => rw [hz2]; omega
  case c3 => simp
  intro w1 hown hgr
  rw [bv_replicate] at hown
  have HC0 := Lib.hid (CellsB.of_full hown)
  have hbx1 := HBX.out.grown hgr
  have hsz : w.heap.size + 2 ≤ w1.heap.size := by have := (CellsB.of_full hown).lt; omega
  have HG1 := Lib.hid (grown_trans HG.out hgr)
  have HB1 := Lib.hid hbx1
  clear x0 x2 x3 hown hgr
  obtain ⟨x0, x1, x2, x3⟩ := hbx1.cells
  rw [HS0.out] at x1
  have c0 : w1.cell? ⟨w.heap.size + 1, s0, none⟩ = some (.bool false) := by rw [HC0.out.cell]; exact bv_get _ _ _ (by rw [List.getElem?_replicate, if_pos hsl])
  have c1 := HC0.out.free s0
  have n1 : (0 : Int) ≤ (s0 : Int) := by omega
  have n2 : (s0 : Int) < (m.states.length : Int) := by omega
  clear hbx1
  go_wp2
  have hm0 : RMem w m (.slice A m.states.length cap) ((w1.setCell ⟨w.heap.size + 1, s0, none⟩ (.bool true)).alloc (.cells #[.int .i64 (s0 : Int)] 3)) (.slice (some ⟨w1.heap.size, 0, none⟩) 1 1) ((List.replicate m.states.length false).set s0 true) [s0] := by
    have hset := HC0.out.set s0 (.bool true)
    rw [bv_set] at hset
    have g1 := grown_setCell w1 ⟨w.heap.size + 1, s0, none⟩ (.bool true)
    have g2 : (w1.setCell ⟨w.heap.size + 1, s0, none⟩ (.bool true)).grownBy ((w1.setCell ⟨w.heap.size + 1, s0, none⟩ (.bool true)).alloc (.cells #[.int .i64 (s0 : Int)] 3)) none := World.grownBy_alloc _ _ _
    have e1 : (w1.setCell ⟨w.heap.size + 1, s0, none⟩ (.bool true)).heap.size = w1.heap.size := by simp [World.setCell]
    refine ⟨(g2.block _ (by rw [e1]; omega) (by simp)).trans ((g1.block _ (by omega) (by simp)).trans HB1.out), (g2.block _ (by rw [e1]; omega) (by simp)).trans hset, ⟨_, 1, rfl, .inr ⟨w1.heap.size, 0, #[.int .i64 (s0 : Int)], rfl, hsz, ?_, by simp, by simp, fun i x hx => ?_⟩⟩, grown_trans (grown_step (g := w.heap.size + 1) HG1.out g1 (by omega)) g2, by have := g2.size; rw [e1] at this; omega⟩
    · rw [← e1]; show (Array.push _ _)[_]? = _; exact Array.getElem?_push_size
    · match i, hx with
      | 0, hx => simp at hx; subst hx; rfl
      | i + 1, hx => simp at hx
  have HM := Lib.hid hm0
  have HI := Lib.hid (BInv.one (n := m.states.length) (succ := stepsM m) hsl)
  clear hm0 c0 c1 x0 x1 x2 x3
  generalize (List.replicate m.states.length false).set s0 true = zs0 at *
  go_loopg [4] (leftQ zs0 [s0]) (fun g todo wr => ∃ zs q, RMem w m (.slice A m.states.length cap) wr todo zs q ∧ BInv m.states.length (stepsM m) (fun x => x = s0) zs q none 0 ∧ leftQ zs q = g ∧ leftQ zs q ≤ m.states.length + 1)
  case atStart => exact ⟨_, _, HM.out, HI.out, rfl, by unfold leftQ; have := List.count_le_length (a := false) (l := zs0); have := HI.out.len; simp; omega⟩
  case round =>
    obtain ⟨zs, q, hmem, hinv, hgk, hlq⟩ := hrel
    have HMEM := Lib.hid hmem; have HINV := Lib.hid hinv; have HGK := Lib.hid hgk
    clear hgk
    cases q with
    | nil =>
      obtain ⟨a0, cap0, rfl, _⟩ := hmem.que
      clear hmem hinv
      have n3 : ¬ (0 : Int) < ((([] : List Nat).length : Nat) : Int) := by simp
      go_wp2
      go_ret
      exact ⟨_, rfl, by omega, ⟨zs, HMEM.out.row, HINV.out.len, fun x => HINV.out.fin x⟩, HMEM.out.g⟩
    | cons c q =>
      obtain ⟨gq, off, capq, rfl, hgq, hgl, hcell, hcap, hpop⟩ := hmem.que.head
      have HPOP := Lib.hid hpop
      obtain ⟨x0, x1, x2, x3⟩ := hmem.box.cells
      have hcn : c < m.states.length := by
        have := (List.getElem?_eq_some_iff.1 (hinv.qin c (List.mem_cons_self ..))).1
        rw [hinv.len] at this; exact this
      have hql : q.length ≤ 3000 := by unfold leftQ at hlq; rw [List.length_cons] at hlq; omega
      have HLQ := Lib.hid hlq
      clear hpop hmem hinv hlq
      have n3 : (0 : Int) < ((q.length + 1 : Nat) : Int) := by omega
      have n4 : (0 : Int) < (q.length : Int) + 1 := by omega
      go_upto_region 6 with (fail)
      go_cut [4] from 25 to 26 (fun t wx => QAt wx (w.heap.size + 2) t q ∧ wx = wr)
      case first =>
        by_cases hc1 : capq = 1
        · have HC1 := Lib.hid hc1
          go_wp2
          go_meet
          case rel => exact ⟨by have := HPOP.out (some ⟨gq, off, none⟩) (.inl HC1.out); simpa [HC1.out] using this, rfl⟩
        · go_wp2
          go_meet
          case rel => exact ⟨HPOP.out _ (.inr rfl), rfl⟩
      case rest =>
        obtain ⟨hq, rfl⟩ := hcut
        have hm1 := HMEM.out
        have hm2 : RMem w m (.slice A m.states.length cap) wc _ zs q := ⟨hm1.box, hm1.row, hq, hm1.g, hm1.size⟩
        have hi2 := HINV.out.pop
        have HM2 := Lib.hid hm2; have HI2 := Lib.hid hi2
        have HL2 := Lib.hid (leftQ_pop zs c q)
        clear hm1 hm2 hi2 hq HPOP hgq hgl hcell hcap x0 x1 x2 x3
        generalize hL : leftQ zs q = L at *
        have HLL := Lib.hid hL
        clear hL
        obtain ⟨s, hs⟩ : ∃ s, m.states[c]? = some s := ⟨_, List.getElem?_eq_getElem hcn⟩
        have hal := valid_row HB.out (List.mem_of_getElem? hs)
        have n5 : (c : Int) < (m.states.length : Int) := by omega
        have n6 : (0 : Int) ≤ (c : Int) := by omega
        have HS := Lib.hid hs
        clear hs
        go_wp2
        go_loopw [4, 6] (fun todo i wr => ∃ j zs q, i = .int .i64 (j : Nat) ∧ j ≤ s.arcs.length ∧ RMem w m (.slice A m.states.length cap) wr todo zs q ∧ BInv m.states.length (stepsM m) (fun x => x = s0) zs q (some c) j ∧ leftQ zs q = L) (fun _ i _ => s.arcs.length - (intOf i).toNat)
        case atStart => exact ⟨0, zs, q, rfl, by omega, HM2.out, HI2.out, HLL.out⟩
        case round =>
          obtain ⟨j, ys, p, rfl, hj, hmem, hinv, hlp⟩ := hrel
          have HMEM3 := Lib.hid hmem; have HINV3 := Lib.hid hinv; have HLP := Lib.hid hlp
          obtain ⟨x0, x1, x2, x3⟩ := hmem.box.cells
          obtain ⟨A', cap', us', hA', hul, hr, ha⟩ := HST.out.grown hmem.g
          injection hA' with h1 h2 h3
          subst h1
          obtain ⟨ad, s', us1, hA, hadb, hs', hu, hc⟩ := row_state hr hul hcn
          subst hA
          rw [HS.out] at hs'
          cases hs'
          obtain ⟨B, cb, hB, hra⟩ := ha c s us1 HS.out hu
          subst hB
          obtain ⟨y0, y1⟩ := hc
          have HRA := Lib.hid hra
          have hpl : p.length ≤ 3001 := by
            have h1 := HLP.out; have h2 := HLQ.out; have h3 := HL2.out; have h4 := HLL.out
            unfold leftQ at h1
            omega
          clear hmem hinv hlp hul hr ha hu hra h2 h3
          by_cases hjl : j < s.arcs.length
          · obtain ⟨ad2, a, hB, hab, haj, hat⟩ := row_arc HRA.out hjl
            subst hB
            obtain ⟨z0, z1, z2, z3⟩ := hat
            have harc := arc_parts ((state_parts (valid_states HB.out HS.out)).2 a (List.mem_of_getElem? haj))
            obtain ⟨y, hy⟩ : ∃ y : Nat, a.t = (y : Int) := ⟨a.t.toNat, by omega⟩
            have hyn : y < m.states.length := by omega
            obtain ⟨b, hb⟩ : ∃ b, ys[y]? = some b := ⟨_, List.getElem?_eq_getElem (by rw [HINV3.out.len]; exact hyn)⟩
            have hst : (stepsM m c)[j]? = some y := by rw [stepsM_at HS.out, List.getElem?_map, haj]; simp [hy]
            rw [hy] at z3
            have l0 : wr.cell? ⟨w.heap.size + 1, y, none⟩ = some (.bool b) := by rw [HMEM3.out.row.cell]; exact bv_get _ _ _ hb
            have l1 := HMEM3.out.row.free y
            have n7 : (j : Int) < (s.arcs.length : Int) := by omega
            have n8 : IntKind.i64.wrap ((j : Int) + 1) = (j : Int) + 1 := by rw [IntKind.wrap_i64]; omega
            have n9 : (0 : Int) ≤ (j : Int) := by omega
            have n10 : (0 : Int) ≤ (y : Int) := by omega
            have n11 : (y : Int) < (m.states.length : Int) := by omega
            have HY := Lib.hid hst; have HZ := Lib.hid hb; have HYN := Lib.hid hyn
            clear haj harc hy hb hst
            cases b
            · have hn := HINV3.out.mark HY.out HYN.out
              have HN := Lib.hid hn
              have HL5 := Lib.hid ((leftQ_mark (q := p) HZ.out).trans HLP.out)
              have HM5 := Lib.hid ((HMEM3.out.mark y).alloc (.cells #[.int .i64 (y : Int)] 3))
              clear hn
              go_wp2_with (at_builtin; refine wpList_push HM5.out.que HM5.out.size rfl _ _ rfl rfl _ _ y rfl ?ca (by omega) ?_)
              case ca =>
                have := new_cell6 (wr.setCell ⟨w.heap.size + 1, y, none⟩ (.bool true)) y
                rw [show (wr.setCell ⟨w.heap.size + 1, y, none⟩ (.bool true)).heap.size = wr.heap.size by simp [World.setCell]] at this
                exact this
              intro v' w5 hq5 hb5
              have HM6 := Lib.hid (HM5.out.next hb5 hq5)
              clear hq5 hb5
              go_wp2
              go_roundw
              case rel => exact ⟨j + 1, _, _, by go_num, by omega, HM6.out, HN.out, HL5.out⟩
              case measure => simp [intOf]; omega
            · have hn := HINV3.out.skip HY.out HZ.out
              have HN := Lib.hid hn
              clear hn
              go_wp2
              go_roundw
              case rel => exact ⟨j + 1, ys, p, by go_num, by omega, HMEM3.out, HN.out, HLP.out⟩
              case measure => simp [intOf]; omega
          · have n7 : ¬ (j : Int) < (s.arcs.length : Int) := by omega
            have hn := HINV3.out.close (by rw [stepsM_at HS.out, List.length_map]; omega)
            have HN := Lib.hid hn
            clear hn
            go_wp2
            go_roundg L
            case rel => exact ⟨ys, p, HMEM3.out, HN.out, HLP.out, by have h1 := HLP.out; have h2 := HLQ.out; have h3 := HL2.out; omega⟩
            case measure => have h2 := HGK.out; have h3 := HL2.out; omega
end Go.Proofs.YtbmonhnojkiapaaGreatDoor
