/- The reference's ending: what it holds in memory. · The reference's ending. · The reference's Useful and Empty. -/
import Derived.Test.YtbmonhnojkiapaaGreatDoorU22
import Derived.Test.YtbmonhnojkiapaaGreatDoorU29
import Derived.Test.YtbmonhnojkiapaaGreatDoorU25
import Derived.Test.YtbmonhnojkiapaaGreatDoorU32
import Derived.Test.YtbmonhnojkiapaaGreatDoorU28
import Derived.Test.YtbmonhnojkiapaaGreatDoorU34
set_option linter.unusedVariables false
set_option linter.unusedSimpArgs false
namespace Go.Proofs.YtbmonhnojkiapaaGreatDoor
open Go.RowKit

theorem grown_wide6 {w w' : World} {r : Option Nat} (h : w.grownBy w' none) : w.grownBy w' r := ⟨h.os, h.tape, h.output, h.size, fun k hk _ => h.block k hk (by simp)⟩
theorem grown_many {a b c : World} {r : Option Nat} (h : a.grownBy b none) (k : b.grownBy c r) (hr : ∀ g, r = some g → a.heap.size ≤ g) : a.grownBy c none := by
  cases r with
  | none => exact grown_trans h k
  | some g => exact grown_step h k (hr g rfl)
theorem QAt.push2 {w : World} {B : Nat} {v : Value} {q : List Nat} (h : QAt w B v q) (hB : B ≤ w.heap.size) (ty : TypeId) (ad : Addr) (c x : Nat) (hx : w.cell? ad = some (.int .i64 (x : Int))) (hl : q.length ≤ 1000000) :
    ∃ v' w', (Builtin.append_ #[41, 41] ty #[v, .slice (some ad) 1 c]).run Tryz.prog w = .ok v' w' ∧ QAt w' B v' (q ++ [x]) ∧ Below B w w' ∧ w.grownBy w' v.ownBlock ∧ (v'.ownBlock = v.ownBlock ∨ v'.ownBlock = some w.heap.size) := by
  obtain ⟨i0, hi, hz0, hz1, hz2⟩ := info_parts6 (t := 3) (z := .int .i64 0) (n := 1) (b := 8) (by kernel_rfl)
  have hsrc : Src Tryz.prog i0.size 41 (.slice (some ad) 1 c) 1 [.int .i64 (x : Int)] w :=
    Src.ofSlice w Tryz.underlying41 ad 1 c [.int .i64 (x : Int)] (by rw [hz1]; rfl) (fun j u hu => by
      match j, hu with
      | 0, hu => simp at hu; subst hu; exact hx
      | j + 1, hu => simp at hu) (by simp [Value.oneCell'])
  have grow : ∀ (base : Option Addr) (cap : Nat) (olds : List Value), v = .slice base q.length cap → cap < q.length + 1 → olds = q.map (fun y : Nat => Value.int .i64 (y : Int)) →
      (Builtin.firstCells i0.size q.length (.slice base q.length cap)).run Tryz.prog w.drew = .ok olds.toArray w.drew →
      ∃ v' w', (Builtin.append_ #[41, 41] ty #[v, .slice (some ad) 1 c]).run Tryz.prog w = .ok v' w' ∧ QAt w' B v' (q ++ [x]) ∧ Below B w w' ∧ w.grownBy w' v.ownBlock ∧ (v'.ownBlock = v.ownBlock ∨ v'.ownBlock = some w.heap.size) := by
    intro base cap olds hv hcap hol hold
    have hcap2 := growslice_fits (need := q.length + 1) (old := cap) (bytes := 8) (by omega) (by omega)
    have hrun := run_append_grow_src w 41 41 ty 3 i0 _ Tryz.underlying41 hi hz0 base q.length cap olds hold _ 1 _ hsrc (by omega) (by omega) (by rw [hz2]; exact hcap2)
    rw [hv]
    refine ⟨_, _, hrun, ⟨_, _, by rw [List.length_append, List.length_singleton], .inr ⟨w.heap.size, 0, _, rfl, hB, (by show (w.drew.heap.push _)[w.heap.size]? = _; exact Array.getElem?_push_size), ?_, ?_, ?_⟩⟩, ((Below.refl B w).grown (grown_drew w none) hB (by simp)).alloc hB _, grown_wide6 (grown_trans (grown_drew w none) (World.grownBy_alloc _ _ _)), .inr rfl⟩
    · rw [List.length_append, List.length_singleton]; exact grownCap_ge _ _ _ _
    · have h1 := grownCap_ge w (q.length + 1) cap 3
      rw [Array.size_append, List.size_toArray, List.length_append, hol, List.length_map, show (Value.int IntKind.i64 0).cells = #[.int .i64 0] from rfl, size_zeroCells6]
      simp; omega
    · intro i y hy
      rw [Nat.zero_add]
      have hlt := (List.getElem?_eq_some_iff.1 hy).1
      rw [List.length_append, List.length_singleton] at hlt
      rw [Array.getElem?_append_left (by rw [List.size_toArray, List.length_append, hol, List.length_map, List.length_singleton]; exact hlt)]
      rw [List.getElem?_toArray, hol, show [Value.int IntKind.i64 (x : Int)] = [x].map (fun y : Nat => Value.int .i64 (y : Int)) from rfl, ← List.map_append, List.getElem?_map, hy]
      rfl
  obtain ⟨a, cap, hv, ⟨rfl, rfl⟩ | ⟨g, off, cur, rfl, hgB, hh, hc, ho, hq⟩⟩ := h
  · refine grow a 0 [] hv (by simp) rfl ?_
    cases a with
    | none => exact run_firstCells_none w.drew _ _ _ _
    | some b => exact run_firstCells_some w.drew i0.size 0 b _ _ [] (by simp) (fun j u hu => by simp at hu)
  · by_cases hroom : q.length + 1 ≤ cap
    · have hk : off + q.length < cur.size := by omega
      have hrun := run_append_room_src w 41 41 ty 3 i0 Tryz.underlying41 hi g off q.length cap _ 1 _ hsrc hroom
        (fun j hj => by simp at hj; subst hj; rw [hz1, Nat.mul_one, Nat.add_zero, cell_of_row w g _ _ _ (0, 0) hh, Array.getElem?_eq_getElem hk]; rfl)
        (fun j hj => frozen_of_row w g _ _ _ hh)
      rw [hv]
      rw [hz1, Nat.mul_one] at hrun
      refine ⟨_, _, hrun, ⟨_, cap, by rw [List.length_append, List.length_singleton], .inr ⟨g, off, cur.setIfInBounds (off + q.length) (.int .i64 (x : Int)), rfl, hgB, ?_, by rw [List.length_append, List.length_singleton]; exact hroom, by simpa using ho, fun i y hy => ?_⟩⟩, ?_⟩
      · have := heap_setCell_same w g (off + q.length) _ _ (.int .i64 (x : Int)) hh
        rw [World.setCells, World.setCells, this]
      · by_cases e : i = q.length
        · subst e
          rw [List.getElem?_append_right (Nat.le_refl _), Nat.sub_self] at hy
          simp at hy
          subst hy
          rw [Array.getElem?_setIfInBounds_self_of_lt hk]
        · have hlt := (List.getElem?_eq_some_iff.1 hy).1
          rw [List.length_append, List.length_singleton] at hlt
          rw [List.getElem?_append_left (by omega)] at hy
          rw [Array.getElem?_setIfInBounds_ne (by omega)]
          exact hq i y hy
      · exact ⟨(Below.refl B w).grown (grown_setCell w ⟨g, off + q.length, none⟩ _) hB (fun k e => by cases e; exact hgB), grown_setCell w ⟨g, off + q.length, none⟩ _, .inl rfl⟩
    · refine grow _ cap _ hv (by omega) rfl (run_firstCells_some w.drew i0.size q.length _ _ _ _ (by rw [hz1]; simp) (fun j u hu => ?_))
      rw [List.getElem?_map] at hu
      obtain ⟨y, hy, rfl⟩ := Option.map_eq_some_iff.1 hu
      have hlt := (List.getElem?_eq_some_iff.1 hy).1
      have h1 : Addr.add ⟨g, off, none⟩ j = ⟨g, off + j, none⟩ := by unfold Addr.add; split <;> simp_all
      rw [h1]
      show w.cell? _ = _
      rw [cell_of_row w g _ _ _ (0, 0) hh]
      exact hq j y hy
theorem wpList_push2 {w : World} {B : Nat} {v : Value} {q : List Nat} (h : QAt w B v q) (hB : B ≤ w.heap.size) {ops : Array Oper} {rest : List Oper} {o : Oper} {a : Act} {Q : Exit → Act → World → Prop} (hgd : o.guard = none) (s x : Operand)
    (ho : o.op = .call { callee := .builtin .append, args := #[s, x], argTypes := #[41, 41] }) (hs : a.eval s = v) (ad : Addr) (c y : Nat) (hx : a.eval x = .slice (some ad) 1 c) (hc : w.cell? ad = some (.int .i64 (y : Int))) (hl : q.length ≤ 1000000)
    (k : ∀ v' w', QAt w' B v' (q ++ [y]) → w.grownBy w' v.ownBlock → (v'.ownBlock = v.ownBlock ∨ v'.ownBlock = some w.heap.size) → wpList Tryz.prog ops Q rest (a.put o.dst v') w') : wpList Tryz.prog ops Q (o :: rest) a w := by
  refine wpList_plain hgd fun K hK => ?_
  obtain ⟨v', w', hrun, h1, h2, h3, h4⟩ := h.push2 hB o.type ad c y hc hl
  unfold Oper.wp
  simp [execOp, ho, resolve, invoke, builtin, hs, hx, hrun, Result.andThen]
  exact hK _ _ (k v' w' h1 h3 h4)
theorem QAt.keptBy {w w' : World} {B : Nat} {v : Value} {q : List Nat} {r : Option Nat} (h : QAt w B v q) (hg : w.grownBy w' r) (hr : v.ownBlock = none ∨ v.ownBlock ≠ r) : QAt w' B v q := by
  obtain ⟨a, cap, hv, h | ⟨g, off, cur, ha, hB, hh, hc, ho, hx⟩⟩ := h
  · exact ⟨a, cap, hv, .inl h⟩
  · subst ha
    subst hv
    have hne : some g ≠ r := fun e => by
      rcases hr with h1 | h1
      · cases h1
      · exact h1 e
    exact ⟨_, cap, rfl, .inr ⟨g, off, cur, rfl, hB, (hg.block g (QAt.lt hh) hne).trans hh, hc, ho, hx⟩⟩
theorem QAt.owns {w : World} {B b : Nat} {v : Value} {q : List Nat} (h : QAt w B v q) (hq : q ≠ []) (hb : v.ownBlock = some b) : B ≤ b ∧ b < w.heap.size := by
  obtain ⟨a, cap, hv, ⟨h0, _⟩ | ⟨g, off, cur, ha, hB, hh, hc, ho, hx⟩⟩ := h
  · exact absurd h0 hq
  · subst ha; subst hv
    cases hb
    exact ⟨hB, QAt.lt hh⟩
theorem NRows.keptBy {W W' : World} {C r n : Nat} {vals : List Value} {rows : List (List Nat)} {o : Option Nat} (h : NRows W C r n vals rows) (hg : W.grownBy W' o) (hr : some r ≠ o) (ho : ∀ (i : Nat) (v : Value), vals[i]? = some v → v.ownBlock = none ∨ v.ownBlock ≠ o) : NRows W' C r n vals rows :=
  ⟨(hg.block r (by have := h.hr; have := h.hC; omega) hr).trans h.row, h.vl, h.rl, fun k v q hv hq => (h.own k v q hv hq).kept hg (ho k v hv), h.dis, h.hr, by have := hg.size; have := h.hC; omega⟩
theorem NRows.lt_at {W : World} {C r n i b : Nat} {vals : List Value} {rows : List (List Nat)} {v : Value} (h : NRows W C r n vals rows) (hv : vals[i]? = some v) (hb : v.ownBlock = some b) : C ≤ b ∧ b < W.heap.size := by
  have hi := (List.getElem?_eq_some_iff.1 hv).1
  have hr : rows[i]? = some (rows[i]'(by rw [h.rl, ← h.vl]; exact hi)) := List.getElem?_eq_getElem (by rw [h.rl, ← h.vl]; exact hi)
  exact (h.own i v _ hv hr).lt b hb
/-- What ending holds in memory. -/
structure EMem (w : World) (m : Mach) (u : Value) (W : World) (r C n : Nat) (zs : List Bool) (vals : List Value) (rows : List (List Nat)) (todo : Value) (q : List Nat) : Prop where
  box : BoxAt W w.heap.size m u
  row : CellsB W (w.heap.size + 1) (bv zs)
  rows : NRows W C r n vals rows
  que : QAt W C todo q
  apart : ∀ (i : Nat) (v : Value), vals[i]? = some v → v.ownBlock = none ∨ v.ownBlock ≠ todo.ownBlock
  tb : ∀ b, todo.ownBlock = some b → C ≤ b ∧ b < W.heap.size
  g : w.grownBy W none
  hw : w.heap.size + 1 < r
theorem EMem.next {w W W' : World} {m : Mach} {u todo : Value} {r C n : Nat} {zs : List Bool} {vals : List Value} {rows : List (List Nat)} {q : List Nat} (h : EMem w m u W r C n zs vals rows todo q) (hg : W.grownBy W' none) : EMem w m u W' r C n zs vals rows todo q :=
  ⟨h.box.grown hg, (hg.block _ h.row.lt (by simp)).trans h.row, h.rows.next hg, h.que.grown hg (by simp), h.apart, fun b hb => ⟨(h.tb b hb).1, Nat.lt_of_lt_of_le (h.tb b hb).2 hg.size⟩, grown_trans h.g hg, h.hw⟩
theorem EMem.mark {w W : World} {m : Mach} {u todo : Value} {r C n : Nat} {zs : List Bool} {vals : List Value} {rows : List (List Nat)} {q : List Nat} (h : EMem w m u W r C n zs vals rows todo q) (y : Nat) :
    EMem w m u (W.setCell ⟨w.heap.size + 1, y, none⟩ (.bool true)) r C n (zs.set y true) vals rows todo q := by
  have g1 := grown_setCell W ⟨w.heap.size + 1, y, none⟩ (.bool true)
  have hset := h.row.set y (.bool true)
  rw [bv_set] at hset
  have hr := h.rows.hr
  have hw2 := h.hw
  exact ⟨(g1.block _ h.box.lt (by simp)).trans h.box, hset, h.rows.keptBy g1 (by simp; omega) (fun i v hv => by
    cases e : v.ownBlock with
    | none => exact .inl rfl
    | some b => exact .inr (by have := (h.rows.lt_at hv e).1; show some b ≠ some (w.heap.size + 1); intro e2; cases e2; omega)), h.que.keptBy g1 (by
    cases e : todo.ownBlock with
    | none => exact .inl rfl
    | some b => exact .inr (by have := (h.tb b e).1; show some b ≠ some (w.heap.size + 1); intro e2; cases e2; omega)), h.apart, fun b hb => ⟨(h.tb b hb).1, Nat.lt_of_lt_of_le (h.tb b hb).2 g1.size⟩, grown_step (g := w.heap.size + 1) h.g g1 (by omega), h.hw⟩
/-- The queue is another one, in the same block or a new one. -/
theorem EMem.queue {w W W' : World} {m : Mach} {u todo todo' : Value} {r C n : Nat} {zs : List Bool} {vals : List Value} {rows : List (List Nat)} {q q' : List Nat} (h : EMem w m u W r C n zs vals rows todo q) (hg : W.grownBy W' todo.ownBlock) (hq : QAt W' C todo' q') (hq0 : q' ≠ []) (hb : todo'.ownBlock = todo.ownBlock ∨ todo'.ownBlock = some W.heap.size) :
    EMem w m u W' r C n zs vals rows todo' q' := by
  have hr := h.rows.hr
  have hw2 := h.hw
  have hne : ∀ b, b < C → some b ≠ todo.ownBlock := fun b hb2 e => by have := (h.tb b e.symm).1; omega
  refine ⟨(hg.block _ h.box.lt (hne _ (by omega))).trans h.box, (hg.block _ h.row.lt (hne _ (by omega))).trans h.row, h.rows.keptBy hg (hne _ (by omega)) h.apart, hq, fun i v hv => ?_, fun b hb2 => hq.owns hq0 hb2, grown_many h.g hg (fun b e => by have := (h.tb b e).1; omega), h.hw⟩
  rcases hb with e | e
  · rw [e]; exact h.apart i v hv
  · cases e2 : v.ownBlock with
    | none => exact .inl rfl
    | some b => exact .inr (by rw [e]; have := (h.rows.lt_at hv e2).2; intro e3; cases e3; omega)
/-- The queue's head is taken. -/
theorem EMem.pop {w W : World} {m : Mach} {u todo todo' : Value} {r C n : Nat} {zs : List Bool} {vals : List Value} {rows : List (List Nat)} {q q' : List Nat} (h : EMem w m u W r C n zs vals rows todo q) (hq : QAt W C todo' q') (hb : todo'.ownBlock = todo.ownBlock) :
    EMem w m u W r C n zs vals rows todo' q' :=
  ⟨h.box, h.row, h.rows, hq, by rw [hb]; exact h.apart, by rw [hb]; exact h.tb, h.g, h.hw⟩
/-- A number is put behind a row. -/
theorem EMem.back {w W w1 : World} {m : Mach} {u todo v : Value} {r C n y i gg c : Nat} {zs : List Bool} {vals : List Value} {rows : List (List Nat)} {q p : List Nat} (h : EMem w m u W r C n zs vals rows todo q) (hv : vals[y]? = some v) (hp : rows[y]? = some p)
    (hown : w1.ownsRow C 3 1 (.slice (some ⟨gg, 0, none⟩) (p.length + 1) c) (p.length + 1) (nvL p ++ [.int .i64 (i : Int)])) (hg : W.grownBy w1 v.ownBlock) (hat : v.ownBlock = some gg ∨ gg = W.heap.size) :
    EMem w m u (w1.setCell ⟨r, y, none⟩ (.slice (some ⟨gg, 0, none⟩) (p.length + 1) c)) r C n zs (vals.set y (.slice (some ⟨gg, 0, none⟩) (p.length + 1) c)) (rows.set y (p ++ [i])) todo q := by
  have hr := h.rows.hr
  have hw2 := h.hw
  have hvo : ∀ b, v.ownBlock = some b → C ≤ b ∧ b < W.heap.size := fun b hb => h.rows.lt_at hv hb
  have gs := grown_setCell w1 ⟨r, y, none⟩ (.slice (some ⟨gg, 0, none⟩) (p.length + 1) c)
  have hne : ∀ b, b < C → some b ≠ v.ownBlock := fun b hb2 e => by have := (hvo b e.symm).1; omega
  have hgw := grown_many h.g hg (fun b e => by have := (hvo b e).1; omega)
  refine ⟨(gs.block _ (Nat.lt_of_lt_of_le h.box.lt hg.size) (by simp; omega)).trans ((hg.block _ h.box.lt (hne _ (by omega))).trans h.box), (gs.block _ (Nat.lt_of_lt_of_le h.row.lt hg.size) (by simp; omega)).trans ((hg.block _ h.row.lt (hne _ (by omega))).trans h.row), h.rows.push hv hp hown hg hat, ?_, fun k x hx => ?_, fun b hb => ⟨(h.tb b hb).1, by have := (h.tb b hb).2; have := hg.size; have := gs.size; omega⟩, grown_step (g := r) hgw gs (by omega), h.hw⟩
  · refine (h.que.keptBy hg ?_).keptBy gs ?_
    · cases e : todo.ownBlock with
      | none => exact .inl rfl
      | some b =>
        rcases h.apart y v hv with h1 | h1
        · exact .inr (by rw [h1]; simp)
        · exact .inr (by rw [← e]; exact Ne.symm h1)
    · cases e : todo.ownBlock with
      | none => exact .inl rfl
      | some b => exact .inr (by have := (h.tb b e).1; show some b ≠ some r; intro e2; cases e2; omega)
  · by_cases e : k = y
    · subst e
      rw [List.getElem?_set_self (List.getElem?_eq_some_iff.1 hv).1] at hx
      cases hx
      right
      show some gg ≠ todo.ownBlock
      rcases hat with e | e
      · rcases h.apart k v hv with h1 | h1
        · rw [e] at h1; cases h1
        · rw [← e]; exact h1
      · intro e2
        have := (h.tb gg e2.symm).2
        omega
    · rw [List.getElem?_set_ne (Ne.symm e)] at hx
      exact h.apart k x hx
theorem BInv.many {n : Nat} {succ : Nat → List Nat} {S : Nat → Prop} {zs : List Bool} {q : List Nat} (hl : zs.length = n) (h : ∀ x, zs[x]? = some true ↔ S x) (hq : ∀ x, x ∈ q ↔ S x) : BInv n succ S zs q none 0 :=
  ⟨hl, fun x hx => (h x).2 ((hq x).1 hx), fun x hx => (h x).2 hx, fun x hx => .start ((h x).1 hx), fun x y hx hxq _ _ => absurd ((hq x).2 ((h x).1 hx)) hxq, fun x e => by cases e⟩
end Go.Proofs.YtbmonhnojkiapaaGreatDoor
set_option linter.unusedVariables false
set_option linter.unusedSimpArgs false
namespace Go.Proofs.YtbmonhnojkiapaaGreatDoor
open Go.RowKit

set_option maxRecDepth 20000 in
set_option maxHeartbeats 8000000 in
theorem rending_any {w : World} {v : Value} {m : Mach} (hv : MachV w v m) (hm : Small m) :
    Calls Tryz.prog 73 #[v] w (MarksPost m.states.length (RFrom (backM m) (isFin m)) w) := by
  obtain ⟨i0, hi, hz0, hz1, hz2⟩ := info_parts6 info_bool6
  obtain ⟨i1, hj, hy0, hy1, hy2⟩ := info_parts6 info_row6
  obtain ⟨i2, hk2, hx0, hx1, hx2⟩ := info_parts6 info_int6
  obtain ⟨u, rfl, hst0⟩ := hv
  obtain ⟨A, cap, us, rfl, hS0⟩ := StAt.of hst0
  have hg : w.grownBy (w.alloc (.cells #[.int .i64 m.kind, .int .i64 m.start, .string m.lead, .slice A m.states.length cap] 24)) none := World.grownBy_alloc _ _ _
  have hbx := BoxAt.new w m (.slice A m.states.length cap)
  have HS := Lib.hid hS0; have HBX := Lib.hid hbx; have HG := Lib.hid hg; have HM := Lib.hid hm
  have hn3 := hm.n
  obtain ⟨x0, x1, x2, x3⟩ := hbx.cells
  clear hbx hg hst0 hS0 hm
  go_enter Tryz.func73, Tryz.ntmps73
  go_wp2_with (at_make; refine wpList_make_full _ rfl _ _ 53 rfl (w.heap.size + 1) 4 i0 (.bool false) 1 Tryz.underlying53 hi hz0 hz1 _ _ _ _ m.states.length rfl rfl rfl rfl (by rw [hz2]; omega) (by unfold maxLen; omega) (by simp) ?_)
  intro w1 hown hgr
  rw [bv_replicate] at hown
  have hc1 := CellsB.of_full hown
  have HC := Lib.hid hc1
  have hl1 : w.heap.size + 1 < w1.heap.size := hc1.lt
  have HG1 := Lib.hid (grown_trans HG.out hgr)
  have HBX1 := Lib.hid (HBX.out.grown hgr)
  clear x0 x1 x2 x3 hown hc1 hgr
  obtain ⟨x0, x1, x2, x3⟩ := BoxAt.cells HBX1.out
  go_wp2_with (at_make; refine wpList_make_full _ rfl _ _ 81 rfl w1.heap.size 41 i1 (.slice none 0 0) 1 Tryz.underlying81 hj hy0 hy1 _ _ _ _ m.states.length rfl rfl rfl rfl (by rw [hy2]; omega) (by unfold maxLen; omega) (by simp) ?_)
  intro w2 hown2 hgr2
  have hrow := full_row hown2
  rw [toList_madeCells_one] at hrow
  have hr1 := NRows.start (B := 0) (l := []) hrow
  rw [← rowsP_start m] at hr1
  have hm0 : EMem w m (.slice A m.states.length cap) w2 w1.heap.size w2.heap.size m.states.length (marksL m.states.length (finsL m 0)) (List.replicate m.states.length (.slice none 0 0)) (rowsP m m.states.length 0 0) (.slice none 0 0) (finsL m 0) :=
    ⟨HBX1.out.grown hgr2, by rw [show finsL m 0 = [] from rfl, marks_nil]; exact (hgr2.block _ HC.out.lt (by simp)).trans HC.out, hr1, QAt.nil _ _, (fun i v hv => by rw [List.getElem?_replicate] at hv; split at hv <;> cases hv; exact .inl rfl), (fun b hb => by cases hb), grown_trans HG1.out hgr2, hl1⟩
  have HM0 := Lib.hid hm0
  have hCw : w.heap.size + 2 ≤ w2.heap.size := by have := hgr2.size; omega
  clear x0 x1 x2 x3 hown2 hgr2 hrow hr1 hm0
  go_wp2
  go_loopg [5, 6] (m.states.length) (fun g todo i wr => ∃ (k : Nat) (vals : List Value), i = .int .i64 k ∧ k ≤ m.states.length ∧ m.states.length - k = g ∧ EMem w m (.slice A m.states.length cap) wr w1.heap.size w2.heap.size m.states.length (marksL m.states.length (finsL m k)) vals (rowsP m m.states.length k 0) todo (finsL m k))
  case atStart => exact ⟨0, _, rfl, by omega, by omega, HM0.out⟩
  case round =>
    obtain ⟨k, vals, rfl, hk, hgk, hmem⟩ := hrel
    have HMEM := Lib.hid hmem; have HGK := Lib.hid hgk
    clear hgk
    obtain ⟨x0, x1, x2, x3⟩ := hmem.box.cells
    have hbel := below_of hmem.g
    clear hmem
    by_cases hlt : k < m.states.length
    · obtain ⟨ad, s, B, cb, hA, hs, hu, hc, hra⟩ := (HS.out.below hbel).at_ hlt
      subst hA
      obtain ⟨z0, z1⟩ := hc
      have hal := HM.out.a s (List.mem_of_getElem? hs)
      have n1 : (k : Int) < (m.states.length : Int) := by omega
      have n2 : IntKind.i64.wrap ((k : Int) + 1) = (k : Int) + 1 := by rw [IntKind.wrap_i64]; omega
      have n3 : (0 : Int) ≤ (k : Int) := by omega
      have hfb : hasF m k = (s.fin.size != 0) := by unfold hasF; rw [stOf_at hs]
      have hnx := fins_next m k
      have hfl := fins_len m k
      have HSS := Lib.hid hs; have HU := Lib.hid hu
      clear hs hu hra hbel
      go_upto_if 33 with (fail)
      go_cut [5] from 20 to 71 (fun t wx => EMem w m (.slice (some ad) m.states.length cap) wx w1.heap.size w2.heap.size m.states.length (marksL m.states.length (finsL m (k + 1))) vals (rowsP m m.states.length k 0) t (finsL m (k + 1)))
      case first =>
        by_cases hf0 : s.fin.size = 0
        · have b1 : (s.fin.toList == []) = true := by rw [Lib.toList_data, beq_iff_eq, ← List.length_eq_zero_iff, Array.length_toList]; exact hf0
          have b2 : (s.fin.toList != []) = false := flip_t b1
          have b3 : s.fin.toList.isEmpty = true := by rw [List.isEmpty_iff]; exact beq_iff_eq.1 b1
          have he : finsL m (k + 1) = finsL m k := by rw [hnx, hfb]; simp [hf0]
          have HE := Lib.hid he
          clear he hnx hfb
          rw [b3, Bool.not_true]
          go_wp2_with (fail)
          go_meet
          case rel => rw [HE.out]; exact HMEM.out
        · have b1 : (s.fin.toList == []) = false := by
            cases h : (s.fin.toList == [])
            · rfl
            · rw [Lib.toList_data, beq_iff_eq, ← List.length_eq_zero_iff, Array.length_toList] at h; exact absurd h hf0
          have b2 : (s.fin.toList != []) = true := flip_f b1
          have b3 : s.fin.toList.isEmpty = false := by cases h : s.fin.toList with
            | nil => rw [h] at b1; simp at b1
            | cons a l => rfl
          have he : finsL m (k + 1) = finsL m k ++ [k] := by rw [hnx, hfb]; simp [hf0]
          have HE := Lib.hid he
          have l0 : wr.cell? ⟨w.heap.size + 1, k, none⟩ = some (.bool (decide (k ∈ finsL m k))) := by rw [HMEM.out.row.cell]; exact bv_get _ _ _ (marks_get hlt)
          have l1 := HMEM.out.row.free k
          have hmk := (HMEM.out.mark k).next (World.grownBy_alloc _ (.cells #[.int .i64 (k : Int)] 3) none)
          rw [marks_set hlt, ← he] at hmk
          have HMK := Lib.hid hmk
          clear he hnx hfb hmk
          rw [b3, Bool.not_false]
          go_wp2_with (at_builtin; refine wpList_push2 HMK.out.que HMK.out.rows.hC rfl _ _ rfl rfl _ _ k rfl ?ca (by omega) ?_)
          case ca =>
            have := new_cell6 (wr.setCell ⟨w.heap.size + 1, k, none⟩ (.bool true)) k
            rw [show (wr.setCell ⟨w.heap.size + 1, k, none⟩ (.bool true)).heap.size = wr.heap.size by simp [World.setCell]] at this
            exact this
          intro v' w5 hq5 hg5 hb5
          rw [← HE.out] at hq5
          have HM5 := Lib.hid (HMK.out.queue hg5 hq5 (by rw [HE.out]; simp) (hb5.imp id (fun e => e.trans (by simp [World.setCell]))))
          clear hq5 hg5 hb5 l0 l1
          go_wp2_with (fail)
          go_meet
          case rel => exact HM5.out
      case rest =>
        have HMC := Lib.hid hcut
        clear hcut hnx hfb x0 x1 x2 x3 z0 z1
        obtain ⟨x0, x1, x2, x3⟩ := BoxAt.cells HMC.out.box
        generalize u5 = todo0 at *
        go_wp2
        generalize wc = w4 at *
        go_loopw [7] (fun i wr => ∃ (j : Nat) (vals : List Value), i = .int .i64 j ∧ j ≤ s.arcs.length ∧ EMem w m (.slice (some ad) m.states.length cap) wr w1.heap.size w2.heap.size m.states.length (marksL m.states.length (finsL m (k + 1))) vals (rowsP m m.states.length k j) todo0 (finsL m (k + 1))) (fun i _ => s.arcs.length - (intOf i).toNat)
        case atStart => exact ⟨0, vals, rfl, by omega, HMC.out⟩
        case round =>
          obtain ⟨j, vals2, rfl, hj2, hmem⟩ := hrel
          have HMEM3 := Lib.hid hmem
          clear x0 x1 x2 x3
          obtain ⟨x0, x1, x2, x3⟩ := hmem.box.cells
          have hS3 := HS.out.below (below_of hmem.g)
          obtain ⟨ad', s', B', cb', hA', hs', hu', hc', hra'⟩ := hS3.at_ hlt
          cases hA'
          rw [HSS.out] at hs'
          cases hs'
          rw [HU.out] at hu'
          cases hu'
          obtain ⟨z0, z1⟩ := hc'
          clear hmem
          by_cases hjl : j < s.arcs.length
          · obtain ⟨ad2, a, hBr, hab, haj, hat⟩ := row_arc (hS3.arcs_at HSS.out HU.out) hjl
            subst hBr
            obtain ⟨y0, y1, y2, y3⟩ := hat
            have harc := HM.out.wf.arcs s (List.mem_of_getElem? HSS.out) a (List.mem_of_getElem? haj)
            obtain ⟨y, hy⟩ : ∃ y : Nat, a.t = (y : Int) := ⟨a.t.toNat, by omega⟩
            have hyn : y < m.states.length := by omega
            have hst : (stepsM m k)[j]? = some y := by rw [stepsM_at HSS.out, List.getElem?_map, haj]; simp [hy]
            have hnx := rowsP_next hst hyn
            rw [hy] at y3
            have n4 : (j : Int) < (s.arcs.length : Int) := by omega
            have n5 : IntKind.i64.wrap ((j : Int) + 1) = (j : Int) + 1 := by rw [IntKind.wrap_i64]; omega
            have n6 : (0 : Int) ≤ (y : Int) := by omega
            have n7 : (y : Int) < (m.states.length : Int) := by omega
            have n8 : (0 : Int) ≤ (j : Int) := by omega
            have hga := World.grownBy_alloc wr (.cells #[.int .i64 (k : Int)] 3) none
            have hm4 := HMEM3.out.next hga
            obtain ⟨vy, q, hvy, hq, c3, f3, hown⟩ := HMEM3.out.rows.at_ hyn
            have hqe : q = backP m k j y := by rw [rowsP_get hyn] at hq; exact (Option.some.inj hq).symm
            have hql : q.length ≤ 3001 * 30000 := by rw [hqe]; exact Nat.le_trans (back_len HM.out k j y) (Nat.mul_le_mul_right _ (by omega))
            have HNX := Lib.hid (by rw [hqe]; exact hnx : (rowsP m m.states.length k j).set y (q ++ [k]) = rowsP m m.states.length k (j + 1))
            have HM4 := Lib.hid hm4; have HVY := Lib.hid hvy; have HQ := Lib.hid hq
            have hown4 := hm4.rows.own y vy q hvy hq
            have HOWN := Lib.hid hown4
            have hC4 := hm4.rows.hC
            clear haj harc hy hst hnx hm4 hvy hq hqe hga hown hown4 hra' hS3
            go_wp2_with (at_builtin; refine wpList_append_own_at _ rfl _ _ 41 rfl w2.heap.size 3 i2 (.int .i64 0) 1 8 Tryz.underlying41 hk2 hx0 hx1 hx2 rfl (by omega) vy q.length (nvL q) rfl HOWN.out ⟨wr.heap.size, 0, none⟩ 1 1 [.int .i64 (k : Int)] rfl rfl ?cd (by simp [Value.oneCell']) (by unfold maxLen; omega) (by omega) hC4 ?_)
            case cd =>
              intro i x hx
              match i, hx with
              | 0, hx => simp at hx; subst hx; exact new_cell6 wr k
              | i + 1, hx => simp at hx
            intro v' w5 k1 k2 _ k4
            obtain ⟨gg, cc, rfl, hgg, _⟩ := k1.form (by omega)
            have hne : some w1.heap.size ≠ vy.ownBlock := fun e => by have := (HM4.out.rows.lt_at HVY.out e.symm).1; have := HM4.out.rows.hr; omega
            have hlt5 : w1.heap.size < wr.heap.size := by have := HMEM3.out.rows.hr; have := HMEM3.out.rows.hC; omega
            have s3 := k2.cell ((World.grownBy_alloc wr (.cells #[.int .i64 (k : Int)] 3) none).cell c3 (by simp)) hne
            have s4 := (World.frozen?_of_block ((k2.block w1.heap.size (by simp; omega) hne).trans ((World.grownBy_alloc wr (.cells #[.int .i64 (k : Int)] 3) none).block w1.heap.size hlt5 (by simp)))).trans f3
            have hmb := HM4.out.back HVY.out HQ.out k1 k2 (k4.imp (fun e => e.symm) (fun e => by cases e; simp))
            rw [HNX.out] at hmb
            have HMB := Lib.hid hmb
            clear hmb k1 k2 k4 hne hgg c3 f3 x0 x1 x2 x3 y0 y1 y2 y3 z0 z1
            go_wp2
            go_roundw
            case rel => exact ⟨j + 1, _, by go_num, by omega, HMB.out⟩
            case measure => simp [intOf]; omega
          · have n4 : ¬ (j : Int) < (s.arcs.length : Int) := by omega
            have he := rowsP_turn m m.states.length k (j := j) (by rw [stepsM_at HSS.out, List.length_map]; omega)
            have hm5 := HMEM3.out
            rw [he] at hm5
            have HM5 := Lib.hid hm5
            clear he hm5 hra' hS3
            go_wp2
            go_roundg (m.states.length - (k + 1))
            case rel => exact ⟨k + 1, vals2, by go_num, by omega, rfl, HM5.out⟩
            case measure => have := HGK.out; omega
    · have n1 : ¬ (k : Int) < (m.states.length : Int) := by omega
      have hke : k = m.states.length := by omega
      have hm1 := HMEM.out
      rw [hke, show rowsP m m.states.length m.states.length 0 = (List.range m.states.length).map (backM m) by unfold rowsP; apply List.map_congr_left; intro x _; exact backP_end m x] at hm1
      have HM1 := Lib.hid hm1
      have HI := Lib.hid (BInv.many (n := m.states.length) (succ := backM m) (S := isFin m) (zs := marksL m.states.length (finsL m m.states.length)) (q := finsL m m.states.length) (marks_len _ _) (fun x => by
        rw [fin_iff]
        constructor
        · intro h
          have hx := (List.getElem?_eq_some_iff.1 h).1
          rw [marks_len] at hx
          rw [marks_get hx] at h
          exact ⟨hx, (fins_mem.1 (by simpa using h)).2⟩
        · rintro ⟨hx, hb⟩
          rw [marks_get hx]
          simp [fins_mem, hx, hb]) (fun x => by rw [fin_iff]; exact fins_mem))
      have HL0 : Hid (leftQ (marksL m.states.length (finsL m m.states.length)) (finsL m m.states.length) ≤ 6000) := Lib.hid (by
        unfold leftQ
        have h1 := List.count_le_length (a := false) (l := marksL m.states.length (finsL m m.states.length))
        rw [marks_len] at h1
        have h2 := fins_len m m.states.length
        omega)
      clear hke hm1 hbel
      go_wp2
      clear x0 x1 x2 x3
      generalize wr = w4 at *
      go_loopg [5] (leftQ (marksL m.states.length (finsL m m.states.length)) (finsL m m.states.length)) (fun g todo wr => ∃ zs q, EMem w m (.slice A m.states.length cap) wr w1.heap.size w2.heap.size m.states.length zs vals ((List.range m.states.length).map (backM m)) todo q ∧ BInv m.states.length (backM m) (isFin m) zs q none 0 ∧ leftQ zs q = g ∧ leftQ zs q ≤ 6000)
      case atStart => exact ⟨_, _, HM1.out, HI.out, rfl, HL0.out⟩
      case round =>
        obtain ⟨zs, q, hmem, hinv, hgk, hlq⟩ := hrel
        have HMEM2 := Lib.hid hmem; have HINV := Lib.hid hinv; have HGK2 := Lib.hid hgk
        clear hgk
        cases q with
        | nil =>
          obtain ⟨a0, cap0, hv0, _⟩ := hmem.que
          subst hv0
          clear hmem hinv
          have n3 : ¬ (0 : Int) < ((([] : List Nat).length : Nat) : Int) := by simp
          go_wp2
          go_ret
          exact ⟨_, rfl, by omega, ⟨zs, HMEM2.out.row, HINV.out.len, fun x => HINV.out.fin x⟩, HMEM2.out.g⟩
        | cons c q =>
          obtain ⟨gq, off, capq, hvq, hgq, hgl, hcell, hcap, hpop⟩ := hmem.que.head
          subst hvq
          have HPOP := Lib.hid hpop
          have hcn : c < m.states.length := by
            have := (List.getElem?_eq_some_iff.1 (hinv.qin c (List.mem_cons_self ..))).1
            rw [hinv.len] at this; exact this
          have hql : q.length ≤ 6000 := by unfold leftQ at hlq; rw [List.length_cons] at hlq; omega
          have HLQ := Lib.hid hlq
          clear hpop hmem hinv hlq
          have n3 : (0 : Int) < ((q.length + 1 : Nat) : Int) := by omega
          have n4 : (0 : Int) < (q.length : Int) + 1 := by omega
          go_upto_region 17 with (fail)
          go_cut [5] from 78 to 79 (fun t wx => QAt wx w2.heap.size t q ∧ t.ownBlock = some gq ∧ wx = wr)
          case first =>
            by_cases hc1 : capq = 1
            · have HC1 := Lib.hid hc1
              go_wp2
              go_meet
              case rel => exact ⟨by have := HPOP.out (some ⟨gq, off, none⟩) (.inl HC1.out); simpa [HC1.out] using this, rfl, rfl⟩
            · go_wp2
              go_meet
              case rel => exact ⟨HPOP.out _ (.inr rfl), rfl, rfl⟩
          case rest =>
            obtain ⟨hq, hqo, rfl⟩ := hcut
            have hm2 := HMEM2.out.pop hq (hqo.trans rfl)
            have hi2 := HINV.out.pop
            have HM2 := Lib.hid hm2; have HI2 := Lib.hid hi2
            have HL2 := Lib.hid (leftQ_pop zs c q)
            clear hm2 hi2 hq hqo HPOP hgq hgl hcell hcap
            generalize hL : leftQ zs q = L at *
            have HLL := Lib.hid hL
            clear hL
            have n5 : (c : Int) < (m.states.length : Int) := by omega
            have n6 : (0 : Int) ≤ (c : Int) := by omega
            go_wp2
            go_loopw [5, 10] (fun todo i wr => ∃ j zs q, i = .int .i64 (j : Nat) ∧ j ≤ (backM m c).length ∧ EMem w m (.slice A m.states.length cap) wr w1.heap.size w2.heap.size m.states.length zs vals ((List.range m.states.length).map (backM m)) todo q ∧ BInv m.states.length (backM m) (isFin m) zs q (some c) j ∧ leftQ zs q = L) (fun _ i _ => (backM m c).length - (intOf i).toNat)
            case atStart => exact ⟨0, zs, q, rfl, by omega, HM2.out, HI2.out, HLL.out⟩
            case round =>
              obtain ⟨j, ys, p, rfl, hj, hmem, hinv, hlp⟩ := hrel
              have HMEM3 := Lib.hid hmem; have HINV3 := Lib.hid hinv; have HLP := Lib.hid hlp
              obtain ⟨vc, qc, hvc, hqc, b3, _, hownc⟩ := hmem.rows.at_ hcn
              have hqe : qc = backM m c := by rw [List.getElem?_map, List.getElem?_range hcn] at hqc; exact (Option.some.inj hqc).symm
              subst hqe
              obtain ⟨Ab, cb, hvb, hrb⟩ := reads_own1 hownc
              subst hvb
              have HRB := Lib.hid hrb
              have hbl : (backM m c).length ≤ 3001 * 30000 := by rw [← backP_end]; exact Nat.le_trans (back_len HM.out _ 0 c) (Nat.mul_le_mul_right _ (by omega))
              have hpl : p.length ≤ 6000 := by
                have h1 := HLP.out; have h2 := HLQ.out; have h3 := HL2.out; have h4 := HLL.out
                unfold leftQ at h1
                omega
              clear hmem hinv hlp hvc hqc hownc hrb
              by_cases hjl : j < (backM m c).length
              · obtain ⟨ad2, y, hB, hst, hat⟩ := reads_nat HRB.out hjl
                subst hB
                have hyn : y < m.states.length := back_below c y (List.mem_of_getElem? hst)
                obtain ⟨b, hb⟩ : ∃ b, ys[y]? = some b := ⟨_, List.getElem?_eq_getElem (by rw [HINV3.out.len]; exact hyn)⟩
                have l0 : wr.cell? ⟨w.heap.size + 1, y, none⟩ = some (.bool b) := by rw [HMEM3.out.row.cell]; exact bv_get _ _ _ hb
                have l1 := HMEM3.out.row.free y
                have n7 : (j : Int) < ((backM m c).length : Int) := by omega
                have n8 : IntKind.i64.wrap ((j : Int) + 1) = (j : Int) + 1 := by rw [IntKind.wrap_i64]; omega
                have n9 : (0 : Int) ≤ (j : Int) := by omega
                have n10 : (0 : Int) ≤ (y : Int) := by omega
                have n11 : (y : Int) < (m.states.length : Int) := by omega
                have HY := Lib.hid hst; have HZ := Lib.hid hb; have HYN := Lib.hid hyn
                clear hb hst
                cases b
                · have hn := HINV3.out.mark HY.out HYN.out
                  have HN := Lib.hid hn
                  have HL5 := Lib.hid ((leftQ_mark (q := p) HZ.out).trans HLP.out)
                  have HM5 := Lib.hid ((HMEM3.out.mark y).next (World.grownBy_alloc _ (.cells #[.int .i64 (y : Int)] 3) none))
                  clear hn
                  go_wp2_with (at_builtin; refine wpList_push2 HM5.out.que HM5.out.rows.hC rfl _ _ rfl rfl _ _ y rfl ?ce (by omega) ?_)
                  case ce =>
                    have := new_cell6 (wr.setCell ⟨w.heap.size + 1, y, none⟩ (.bool true)) y
                    rw [show (wr.setCell ⟨w.heap.size + 1, y, none⟩ (.bool true)).heap.size = wr.heap.size by simp [World.setCell]] at this
                    exact this
                  intro v' w5 hq5 hg5 hb5
                  have HM6 := Lib.hid (HM5.out.queue hg5 hq5 (by simp) (hb5.imp id (fun e => e.trans (by simp [World.setCell]))))
                  clear hq5 hg5 hb5
                  go_wp2
                  go_roundw
                  case rel => exact ⟨j + 1, _, _, by go_num, by omega, HM6.out, HN.out, HL5.out⟩
                  case measure => simp [intOf]; omega
                · have hn := HINV3.out.skip HY.out HZ.out
                  have HN := Lib.hid hn
                  clear hn
                  go_wp2
                  go_roundw
                  case rel => exact ⟨j + 1, ys, p, by go_num, by omega, HMEM3.out, HN.out, HLP.out⟩
                  case measure => simp [intOf]; omega
              · have n7 : ¬ (j : Int) < ((backM m c).length : Int) := by omega
                have hn := HINV3.out.close (by omega)
                have HN := Lib.hid hn
                clear hn
                go_wp2
                go_roundg L
                case rel => exact ⟨ys, p, HMEM3.out, HN.out, HLP.out, by have h1 := HLP.out; have h2 := HLQ.out; have h3 := HL2.out; omega⟩
                case measure => have h2 := HGK2.out; have h3 := HL2.out; omega
end Go.Proofs.YtbmonhnojkiapaaGreatDoor
set_option linter.unusedVariables false
set_option linter.unusedSimpArgs false
namespace Go.Proofs.YtbmonhnojkiapaaGreatDoor
open Go.RowKit

open Classical in
/-- A row of marks. -/
noncomputable def marksC (n : Nat) (R : Nat → Prop) : List Bool := (List.range n).map (fun x => decide (R x))
theorem marksC_len (n : Nat) (R : Nat → Prop) : (marksC n R).length = n := by simp [marksC]
open Classical in
theorem marksC_get {n x : Nat} {R : Nat → Prop} (h : x < n) : (marksC n R)[x]? = some (decide (R x)) := by
  unfold marksC
  rw [List.getElem?_map, List.getElem?_range h]; rfl
open Classical in
theorem marksC_yes {n x : Nat} {R : Nat → Prop} (h : x < n) : (marksC n R)[x]? = some true ↔ R x := by rw [marksC_get h]; simp
theorem marks_is {n : Nat} {R : Nat → Prop} {zs : List Bool} (hl : zs.length = n) (h : ∀ x, zs[x]? = some true ↔ R x) : zs = marksC n R := by
  apply List.ext_getElem?
  intro i
  by_cases hi : i < n
  · have hz : zs[i]? = some (zs[i]'(by omega)) := List.getElem?_eq_getElem (by omega)
    rw [marksC_get hi, hz]
    have := h i
    rw [hz] at this
    congr 1
    cases hb : (zs[i]'(by omega))
    · rw [hb] at this; simp at this; simp [this]
    · rw [hb] at this; simp at this; simp [this]
  · rw [List.getElem?_eq_none (by omega), List.getElem?_eq_none (by rw [marksC_len]; omega)]
open Classical in
theorem marksC_set {n x : Nat} {R R' : Nat → Prop} (b : Bool) (h : x < n) (hb : b = true ↔ R' x) (ho : ∀ y, y ≠ x → (R' y ↔ R y)) : (marksC n R).set x b = marksC n R' := by
  apply List.ext_getElem?
  intro i
  by_cases hi : i < n
  · by_cases e : i = x
    · subst e
      rw [List.getElem?_set_self (by rw [marksC_len]; exact hi), marksC_get hi]
      congr 1
      cases b
      · simp at hb; simp [hb]
      · simp at hb; simp [hb]
    · rw [List.getElem?_set_ne (Ne.symm e), marksC_get hi, marksC_get hi]
      congr 1
      simp [ho i e]
  · rw [List.getElem?_eq_none (by rw [List.length_set, marksC_len]; omega), List.getElem?_eq_none (by rw [marksC_len]; omega)]
def AndTo (R S : Nat → Prop) (k x : Nat) : Prop := R x ∧ (x < k → S x)
theorem andTo_end {m : Mach} (x : Nat) {k : Nat} (hk : m.states.length ≤ k) (hx : x < m.states.length) : AndTo (RFrom (stepsM m) (fun y => y = m.start.toNat)) (RFrom (backM m) (isFin m)) k x ↔ Useful m x := by
  unfold AndTo Useful
  constructor
  · rintro ⟨h1, h2⟩; exact ⟨h1, h2 (by omega)⟩
  · rintro ⟨h1, h2⟩; exact ⟨h1, fun _ => h2⟩
open Classical in
set_option maxRecDepth 20000 in
set_option maxHeartbeats 4000000 in
theorem ruseful_any {w : World} {v : Value} {m : Mach} (hv : MachV w v m) (hB : validB m = true) :
    Calls Tryz.prog 50 #[v] w (MarksPost m.states.length (Useful m) w) := by
  have hw := valid_wf hB
  have hn3 := valid_len hB
  have h1 := fun w' (h : w.grownBy w' none) => rreached_any (hv.grown h) hB
  have h2 := fun w' (h : w.grownBy w' none) => rending_any (hv.grown h) (valid_small hB)
  obtain ⟨u, rfl, hst0⟩ := hv
  have hg : w.grownBy (w.alloc (.cells #[.int .i64 m.kind, .int .i64 m.start, .string m.lead, u] 24)) none := World.grownBy_alloc _ _ _
  have hbx := BoxAt.new w m u
  have H1 := Lib.hid h1; have H2 := Lib.hid h2; have HG := Lib.hid hg; have HBX := Lib.hid hbx; have HW := Lib.hid hw
  obtain ⟨x0, x1, x2, x3⟩ := hbx.cells
  clear h1 h2 hg hbx hst0 hw
  go_enter Tryz.func50, Tryz.ntmps50
  go_upto_region 1 with (fail)
  generalize hW : w.alloc (.cells #[.int .i64 m.kind, .int .i64 m.start, .string m.lead, u] 24) = W at *
  clear hW
  have d0 : W.drew.cell? ⟨w.heap.size, 0, none⟩ = some (.int .i64 m.kind) := x0
  have d1 : W.drew.cell? ⟨w.heap.size, 1, none⟩ = some (.int .i64 m.start) := x1
  have d2 : W.drew.cell? ⟨w.heap.size, 2, none⟩ = some (.string m.lead) := x2
  have d3 : W.drew.cell? ⟨w.heap.size, 3, none⟩ = some u := x3
  go_region_held3 (fun W' => W'.cell? ⟨w.heap.size, 0, none⟩ = some (.int .i64 m.kind) ∧ W'.cell? ⟨w.heap.size, 1, none⟩ = some (.int .i64 m.start) ∧ W'.cell? ⟨w.heap.size, 2, none⟩ = some (.string m.lead) ∧ W'.cell? ⟨w.heap.size, 3, none⟩ = some u) (go_keep)
    (first
      | (go_at_call 72; refine (H1.out _ (grown_trans HG.out (grown_drew W none))).mono ?_; rintro e w5 ⟨g1, rfl, hB1, hm1, hg5⟩; have s0 := hg5.cell d0 (by simp); have s1 := hg5.cell d1 (by simp); have s2 := hg5.cell d2 (by simp); have s3 := hg5.cell d3 (by simp))
      | (go_at_call 73; refine (H2.out _ (grown_trans (grown_trans HG.out (grown_drew W none)) hg5)).mono ?_; rintro e w6 ⟨g2, rfl, hB2, hm2, hg6⟩; have p0 := hg6.cell s0 (by simp); have p1 := hg6.cell s1 (by simp); have p2 := hg6.cell s2 (by simp); have p3 := hg6.cell s3 (by simp)))
  obtain ⟨zs1, hc1, hl1, hz1⟩ := hm1
  obtain ⟨zs2, hc2, hl2, hz2⟩ := hm2
  have e1 := marks_is hl1 hz1
  have e2 := marks_is hl2 hz2
  subst e1 e2
  have hlt1 := hc1.lt
  have HC1 : Hid (CellsB w6 g1 (bv (marksC m.states.length (AndTo (RFrom (stepsM m) (fun y => y = m.start.toNat)) (RFrom (backM m) (isFin m)) 0)))) := Lib.hid (by
    rw [show AndTo (RFrom (stepsM m) (fun y => y = m.start.toNat)) (RFrom (backM m) (isFin m)) 0 = RFrom (stepsM m) (fun y => y = m.start.toNat) from funext fun x => by simp [AndTo]]
    exact (hg6.block g1 hlt1 (by simp)).trans hc1)
  have HC2 := Lib.hid hc2
  have HG6 := Lib.hid (grown_trans (grown_trans (grown_trans HG.out (grown_drew W none)) hg5) hg6)
  have hlw : w.heap.size ≤ g1 := by have := HG.out.size; have : W.heap.size ≤ W.drew.heap.size := (grown_drew W none).size; omega
  have hne : g1 ≠ g2 := by have := hg6.size; omega
  have hlt6 : g1 < w6.heap.size := by have := hg6.size; omega
  have hlt2 := hc2.lt
  clear d0 d1 d2 d3 s0 s1 s2 s3 p0 p1 p2 p3 x0 x1 x2 x3 hc1 hc2 hl1 hl2 hz1 hz2 hg5 hg6 hlt1 hB1 hB2
  go_wp2
  go_loopw [5] (fun i wr => ∃ k : Nat, i = .int .i64 k ∧ k ≤ m.states.length ∧ CellsB wr g1 (bv (marksC m.states.length (AndTo (RFrom (stepsM m) (fun y => y = m.start.toNat)) (RFrom (backM m) (isFin m)) k))) ∧ CellsB wr g2 (bv (marksC m.states.length (RFrom (backM m) (isFin m)))) ∧ w6.grownBy wr (some g1)) (fun i _ => m.states.length - (intOf i).toNat)
  case atStart => exact ⟨0, rfl, by omega, HC1.out, HC2.out, World.grownBy.refl _ _⟩
  case round =>
    obtain ⟨k, rfl, hk, hc1, hc2, hgr⟩ := hrel
    have HC3 := Lib.hid hc1; have HC4 := Lib.hid hc2; have HGR := Lib.hid hgr
    clear hc1 hc2 hgr
    by_cases hlt : k < m.states.length
    · have n1 : (k : Int) < (m.states.length : Int) := by omega
      have n2 : IntKind.i64.wrap ((k : Int) + 1) = (k : Int) + 1 := by rw [IntKind.wrap_i64]; omega
      have n3 : (0 : Int) ≤ (k : Int) := by omega
      have l0 := HC3.out.cell k
      rw [bv_get _ _ _ (marksC_get hlt)] at l0
      have l1 := HC4.out.cell k
      rw [bv_get _ _ _ (marksC_get hlt)] at l1
      have l2 := HC3.out.free k
      have hset : ∀ b : Bool, (b = true ↔ (RFrom (stepsM m) (fun y => y = m.start.toNat) k ∧ RFrom (backM m) (isFin m) k)) → Hid (CellsB (wr.setCell ⟨g1, k, none⟩ (.bool b)) g1 (bv (marksC m.states.length (AndTo (RFrom (stepsM m) (fun y => y = m.start.toNat)) (RFrom (backM m) (isFin m)) (k + 1)))) ∧ CellsB (wr.setCell ⟨g1, k, none⟩ (.bool b)) g2 (bv (marksC m.states.length (RFrom (backM m) (isFin m)))) ∧ w6.grownBy (wr.setCell ⟨g1, k, none⟩ (.bool b)) (some g1)) := fun b hb => by
        have gs := grown_setCell wr ⟨g1, k, none⟩ (.bool b)
        have hs := HC3.out.set k (.bool b)
        rw [bv_set, marksC_set (R' := AndTo (RFrom (stepsM m) (fun y => y = m.start.toNat)) (RFrom (backM m) (isFin m)) (k + 1)) b hlt (by rw [hb]; unfold AndTo; exact ⟨fun ⟨h1, h2⟩ => ⟨h1, fun _ => h2⟩, fun ⟨h1, h2⟩ => ⟨h1, h2 (by omega)⟩⟩) (fun y hy => by unfold AndTo; exact ⟨fun ⟨h1, h2⟩ => ⟨h1, fun h3 => h2 (by omega)⟩, fun ⟨h1, h2⟩ => ⟨h1, fun h3 => h2 (by omega)⟩⟩)] at hs
        exact Lib.hid ⟨hs, (gs.block g2 HC4.out.lt (by simp; omega)).trans HC4.out, World.grownBy.trans HGR.out gs⟩
      have HSET := Lib.hid hset
      clear hset
      by_cases h1 : RFrom (stepsM m) (fun y => y = m.start.toNat) k
      · have e1 : AndTo (RFrom (stepsM m) (fun y => y = m.start.toNat)) (RFrom (backM m) (isFin m)) k k := ⟨h1, fun h => absurd h (by omega)⟩
        rw [decide_eq_true e1] at l0
        by_cases h2 : RFrom (backM m) (isFin m) k
        · rw [decide_eq_true h2] at l1
          have HS1 := HSET.out true ⟨fun _ => ⟨h1, h2⟩, fun _ => rfl⟩
          clear h1 h2 e1
          go_wp2
          go_roundw
          case rel => exact ⟨k + 1, by go_num, by omega, HS1.out.1, HS1.out.2.1, HS1.out.2.2⟩
          case measure => simp [intOf]; omega
        · rw [decide_eq_false h2] at l1
          have HS1 := HSET.out false ⟨fun h => (by cases h), fun h => absurd h.2 h2⟩
          clear h1 h2 e1
          go_wp2
          go_roundw
          case rel => exact ⟨k + 1, by go_num, by omega, HS1.out.1, HS1.out.2.1, HS1.out.2.2⟩
          case measure => simp [intOf]; omega
      · have e1 : ¬ AndTo (RFrom (stepsM m) (fun y => y = m.start.toNat)) (RFrom (backM m) (isFin m)) k k := fun h => h1 h.1
        rw [decide_eq_false e1] at l0
        have HS1 := HSET.out false ⟨fun h => (by cases h), fun h => absurd h.1 h1⟩
        clear h1 e1 l1
        go_wp2
        go_roundw
        case rel => exact ⟨k + 1, by go_num, by omega, HS1.out.1, HS1.out.2.1, HS1.out.2.2⟩
        case measure => simp [intOf]; omega
    · have n1 : ¬ (k : Int) < (m.states.length : Int) := by omega
      go_wp2
      go_ret
      refine ⟨_, rfl, hlw, ⟨_, HC3.out, marksC_len _ _, fun x => ?_⟩, grown_step (g := g1) HG6.out HGR.out hlw⟩
      by_cases hx : x < m.states.length
      · rw [marksC_yes hx, andTo_end x (by omega) hx]
      · rw [List.getElem?_eq_none (by rw [marksC_len]; omega)]
        exact ⟨fun h => (by cases h), fun h => absurd (reach_lt HW.out h.1) hx⟩
theorem MarksAt.read {w : World} {g n x : Nat} {R : Nat → Prop} (h : MarksAt w g n R) (hx : x < n) : (R x → w.cell? ⟨g, x, none⟩ = some (.bool true)) ∧ (¬ R x → w.cell? ⟨g, x, none⟩ = some (.bool false)) := by
  obtain ⟨zs, hc, hl, hz⟩ := h
  have hg : zs[x]? = some (zs[x]'(by omega)) := List.getElem?_eq_getElem (by omega)
  have h0 := hc.cell x
  rw [bv_get _ _ _ hg] at h0
  have hzx := hz x
  rw [hg] at hzx
  constructor
  · intro hr
    rw [h0]
    have := hzx.2 hr
    simp only [Option.some.injEq] at this
    rw [this]
  · intro hr
    rw [h0]
    cases hb : (zs[x]'(by omega))
    · rfl
    · exact absurd (hzx.1 (by rw [hb])) hr
end Go.Proofs.YtbmonhnojkiapaaGreatDoor
