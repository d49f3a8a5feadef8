/- U21 U22 -/
import Derived.Test.YtaogepcaoogpgaaGreatDoorV31
import Derived.Deep.QuietTactic
import Derived.BigQuiet
import Derived.Deep.RegionHeld3
import Derived.Laws.StructEq
import Derived.Test.YtaogepcaoogpgaaGreatDoorV22
import Derived.Deep.AppendSrc
import Derived.Deep.LoopGhost
set_option linter.unusedVariables false
set_option linter.unusedSimpArgs false
namespace Go.Proofs.YtaogepcaoogpgaaGreatDoor
open Go.RowKit
structure EOut (P : MArc → Bool) (m : Mach) (k : Nat) : Prop where
 hk : k ≤ m.states.length
 hs : ∀ (j : Nat) (s : MState), j < k → m.states[j]? = some s → s.arcs.all P = true
theorem EOut.next {P : MArc → Bool} {m : Mach} {k : Nat} {s : MState} (h : EOut P m k) (hs : m.states[k]? = some s) (hP : s.arcs.all P = true) : EOut P m (k + 1) :=
 ⟨by have := (List.getElem?_eq_some_iff.1 hs).1; omega, fun j t hj ht => by
  by_cases e : j = k
  ·subst e; rw [hs] at ht; cases ht; exact hP
  ·exact h.hs j t (by omega) ht⟩
structure EIn (P : MArc → Bool) (s : MState) (j : Nat) : Prop where
 hj : j ≤ s.arcs.length
 ha : ∀ (i : Nat) (a : MArc), i < j → s.arcs[i]? = some a → P a = true
theorem EIn.next {P : MArc → Bool} {s : MState} {j : Nat} {a : MArc} (h : EIn P s j) (ha : s.arcs[j]? = some a) (hP : P a = true) : EIn P s (j + 1) :=
 ⟨by have := (List.getElem?_eq_some_iff.1 ha).1; omega, fun i b hi hb => by
  by_cases e : i = j
  ·subst e; rw [ha] at hb; cases hb; exact hP
  ·exact h.ha i b (by omega) hb⟩
theorem EIn.all {P : MArc → Bool} {s : MState} {j : Nat} (h : EIn P s j) (hj : ¬ j < s.arcs.length) : s.arcs.all P = true := by
 rw [List.all_eq_true]
 intro a ha
 obtain ⟨i, hi⟩ := List.mem_iff_getElem?.1 ha
 exact h.ha i a (by have := (List.getElem?_eq_some_iff.1 hi).1; omega) hi
theorem valid_len {m : Mach} (h : validB m = true) : m.states.length ≤ 3000 := (head_parts (valid_head h)).2.2.1
theorem valid_row {m : Mach} (h : validB m = true) {s : MState} (hs : s ∈ m.states) : s.arcs.length ≤ 30000 := Nat.le_trans (nArcs_mem hs) (valid_arcs h)
open Go.RowKit
open Go.RowKit
structure Kept (B : Nat) (W W' : World) : Prop where
 size : W.heap.size ≤ W'.heap.size
 block : ∀ b, B ≤ b → b < W.heap.size → W'.heap[b]? = W.heap[b]?
theorem kept_step {W W' : World} {b B : Nat} (h : W.grownBy W' (some b)) (hb : b < B) : Kept B W W' := ⟨h.size, fun c hc hl => h.block c hl (by simp; omega)⟩
theorem reads_kept {W W' : World} {B k n : Nat} {A : Option Addr} {xs : List Value} (h : Reads W W.heap.size k A n xs) (hB : 0 < n → ∀ ad, A = some ad → B ≤ ad.block) (hk : Kept B W W') : Reads W' W'.heap.size k A n xs :=
 ⟨h.1, fun h0 => by
  obtain ⟨ad, hA, hb, hc⟩ := h.2 h0
  exact ⟨ad, hA, Nat.lt_of_lt_of_le hb hk.size, fun j u hu => (World.cell?_of_block (by rw [block_of_add]; exact hk.block _ (hB h0 ad hA) hb)).trans (hc j u hu)⟩⟩
theorem ArcsSl.keptN {W W' : World} {B : Nat} {v : Value} {l : List MArc} (h : ArcsSl W v l) (hB : 0 < l.length → ∀ b, v.ownBlock = some b → B ≤ b) (hk : Kept B W W') : ArcsSl W' v l := by
 obtain ⟨A, cap, rfl, hr⟩ := h
 exact ⟨A, cap, rfl, reads_kept hr (fun h0 ad hA => by subst hA; exact hB h0 _ rfl) hk⟩
def StN (W : World) (B : Nat) (u : Value) (l : List MState) : Prop := ∃ A cap us, u = .slice A l.length cap ∧ us.length = l.length ∧ Reads W W.heap.size 2 A l.length ((l.zip us).flatMap stC) ∧ (0 < l.length → ∀ ad, A = some ad → B ≤ ad.block) ∧
 ∀ (k : Nat) (s : MState) (x : Value), l[k]? = some s → us[k]? = some x → ArcsSl W x s.arcs ∧ (0 < s.arcs.length → ∀ b, x.ownBlock = some b → B ≤ b)
theorem StN.sl {W : World} {B : Nat} {u : Value} {l : List MState} (h : StN W B u l) : StSl W u l := by
 obtain ⟨A, cap, us, hu, hl, hr, _, ha⟩ := h
 exact ⟨A, cap, us, hu, hl, hr, fun k s x hs hx => (ha k s x hs hx).1⟩
theorem StN.kept {W W' : World} {B : Nat} {u : Value} {l : List MState} (h : StN W B u l) (hk : Kept B W W') : StN W' B u l := by
 obtain ⟨A, cap, us, hu, hl, hr, hb, ha⟩ := h
 exact ⟨A, cap, us, hu, hl, reads_kept hr hb hk, hb, fun k s x hs hx => ⟨(ha k s x hs hx).1.keptN (ha k s x hs hx).2 hk, (ha k s x hs hx).2⟩⟩
theorem StN.mono {W : World} {B C : Nat} {u : Value} {l : List MState} (h : StN W B u l) (hC : C ≤ B) : StN W C u l := by
 obtain ⟨A, cap, us, hu, hl, hr, hb, ha⟩ := h
 exact ⟨A, cap, us, hu, hl, hr, fun h0 ad hA => Nat.le_trans hC (hb h0 ad hA), fun k s x hs hx => ⟨(ha k s x hs hx).1, fun h0 b hx2 => Nat.le_trans hC ((ha k s x hs hx).2 h0 b hx2)⟩⟩
theorem StN.nil (W : World) (B : Nat) : StN W B (.slice none 0 0) [] := ⟨none, 0, [], rfl, rfl, Reads.none_, fun h => by simp at h, fun k s x hs => by simp at hs⟩
def MN (W : World) (B : Nat) (v : Value) (m : Mach) : Prop := ∃ u, v = .agg #[.int .i64 m.kind, .int .i64 m.start, .string m.lead, u] ∧ StN W B u m.states
def MNPost (m : Mach) (w : World) (e : Ending) (w' : World) : Prop := ∃ v, e = .returned v ∧ MN w' w.heap.size v m ∧ w.grownBy w' none
def MPost (r : Mach × Int) (w : World) (e : Ending) (w' : World) : Prop := ∃ v, e = .returned (.tuple #[v, .int .i64 r.2]) ∧ MN w' w.heap.size v r.1 ∧ w.grownBy w' none
theorem MNPost.open6 {m : Mach} {w : World} {e : Ending} {w' : World} (h : MNPost m w e w') : ∃ A c, e = .returned (.agg #[.int .i64 m.kind, .int .i64 m.start, .string m.lead, .slice A m.states.length c]) ∧ StN w' w.heap.size (.slice A m.states.length c) m.states ∧ w.grownBy w' none := by
 obtain ⟨v, rfl, ⟨u, rfl, hst⟩, hg⟩ := h
 obtain ⟨A, c, us, hv, _⟩ := id hst
 subst hv
 exact ⟨A, c, rfl, hst, hg⟩
theorem MPost.open6 {m : Mach} {k : Int} {w : World} {e : Ending} {w' : World} (h : MPost (m, k) w e w') : ∃ A c, e = .returned (.tuple #[.agg #[.int .i64 m.kind, .int .i64 m.start, .string m.lead, .slice A m.states.length c], .int .i64 k]) ∧ StN w' w.heap.size (.slice A m.states.length c) m.states ∧ w.grownBy w' none := by
 obtain ⟨v, rfl, ⟨u, rfl, hst⟩, hg⟩ := h
 obtain ⟨A, c, us, hv, _⟩ := id hst
 subst hv
 exact ⟨A, c, rfl, hst, hg⟩
open Go.RowKit
def mach0 : Mach := ⟨0, 0, ByteArray.empty, []⟩
def noneM (k : Int) : Mach := ⟨k, 0, oneT k, [⟨ByteArray.empty, []⟩]⟩
theorem info_st : (Tryz.prog.info? 57).map (fun i => (i.zero, i.size, i.bytes)) = some (some (.agg #[.string ByteArray.empty, .slice none 0 0]), 2, 40) := by kernel_rfl
theorem info_parts6 {t : TypeId} {z : Value} {n b : Nat} (h : (Tryz.prog.info? t).map (fun i => (i.zero, i.size, i.bytes)) = some (some z, n, b)) :
  ∃ i, Tryz.prog.info? t = some i ∧ i.zero = some z ∧ i.size = n ∧ i.bytes = b := by
 obtain ⟨i, hi, he⟩ := Option.map_eq_some_iff.1 h
 simp only [Prod.mk.injEq] at he
 exact ⟨i, hi, he.1, he.2.1, he.2.2⟩
theorem made_st : madeCells (Value.agg #[.string ByteArray.empty, .slice none 0 0]).cells (Int.toNat 1 * 2) = #[.string ByteArray.empty, .slice none 0 0] := by
 first
 | kernel_rfl
 | simp [madeCells, Value.cells]
 | decide
theorem BoxAt.free {w : World} {g : Nat} {m : Mach} {u : Value} (h : BoxAt w g m u) (k : Nat) : w.frozen? ⟨g, k, none⟩ = false := frozen_of_row w g k _ _ h
theorem BoxAt.set {w : World} {g : Nat} {m n : Mach} {u v : Value} (h : BoxAt w g m u) :
  BoxAt ((((w.setCell ⟨g, 0, none⟩ (.int .i64 n.kind)).setCell ⟨g, 1, none⟩ (.int .i64 n.start)).setCell ⟨g, 2, none⟩ (.string n.lead)).setCell ⟨g, 3, none⟩ v) g n v := by
 unfold BoxAt at h ⊢
 have h1 := heap_setCell_same w g 0 _ _ (.int .i64 n.kind) h
 have h2 := heap_setCell_same _ g 1 _ _ (.int .i64 n.start) h1
 have h3 := heap_setCell_same _ g 2 _ _ (.string n.lead) h2
 have h4 := heap_setCell_same _ g 3 _ _ v h3
 rw [h4]
 rfl
def Place (W0 W' : World) (g : Nat) : Prop := (W'.cell? ⟨g, 0, none⟩ = some (.int .i64 0) ∧ W'.cell? ⟨g, 1, none⟩ = some (.int .i64 0) ∧ W'.cell? ⟨g, 2, none⟩ = some (.string ByteArray.empty) ∧ W'.cell? ⟨g, 3, none⟩ = some (.slice none 0 0) ∧
  W'.frozen? ⟨g, 0, none⟩ = false ∧ W'.frozen? ⟨g, 1, none⟩ = false ∧ W'.frozen? ⟨g, 2, none⟩ = false ∧ W'.frozen? ⟨g, 3, none⟩ = false) ∧ Hid (BoxAt W' g mach0 (.slice none 0 0) ∧ W0.grownBy W' none)
theorem place_of {W0 W' : World} {g : Nat} (hb : BoxAt W' g mach0 (.slice none 0 0)) (hg : W0.grownBy W' none) : Place W0 W' g :=
 ⟨⟨hb.cells.c0, hb.cells.c1, hb.cells.c2, hb.cells.c3, hb.free 0, hb.free 1, hb.free 2, hb.free 3⟩, Lib.hid ⟨hb, hg⟩⟩
theorem Place.next_drew {W0 W : World} {g : Nat} (h : Place W0 W g) : Place W0 W.drew g :=
 place_of (h.2.out.1.grown (grown_drew _ _)) (grown_trans h.2.out.2 (grown_drew _ _))
theorem one_state {W : World} {b B : Nat} (h : W.heap[b]? = some (.cells #[.string ByteArray.empty, .slice none 0 0] 57 (0, 0))) (hB : B ≤ b) : StN W B (.slice (some ⟨b, 0, none⟩) 1 1) [⟨ByteArray.empty, []⟩] := by
 have hb : b < W.heap.size := (Array.getElem?_eq_some_iff.1 h).1
 have h0 : W.cell? ⟨b, 0, none⟩ = some (.string ByteArray.empty) := by rw [cell_of_row _ b 0 _ _ (0, 0) h]; rfl
 have h1 : W.cell? ⟨b, 0 + 1, none⟩ = some (.slice none 0 0) := by show World.cell? _ ⟨b, 1, none⟩ = _; rw [cell_of_row _ b 1 _ _ (0, 0) h]; rfl
 refine ⟨some ⟨b, 0, none⟩, 1, [.slice none 0 0], rfl, rfl, ⟨rfl, fun _ => ⟨_, rfl, hb, fun j u hu => ?_⟩⟩, fun _ ad hA => by cases hA; exact hB, fun k s u hs hu => ?_⟩
 ·match j, hu with
  | 0, hu => simp [stC] at hu; subst hu; exact h0
  | 1, hu => simp [stC] at hu; subst hu; exact h1
  | j + 2, hu => simp [stC] at hu
 ·match k, hs, hu with
  | 0, hs, hu => simp at hs hu; subst hs hu; exact ⟨ArcsSl.nil _, fun h => by simp at h⟩
  | k + 1, hs, hu => simp at hs
theorem place_next (w : World) {W W' : World} (hg : W.grownBy W' none) (h : (W.cell? ⟨w.heap.size, 0, none⟩ = some (.int .i64 0) ∧ W.cell? ⟨w.heap.size, 1, none⟩ = some (.int .i64 0) ∧ W.cell? ⟨w.heap.size, 2, none⟩ = some (.string ByteArray.empty) ∧ W.cell? ⟨w.heap.size, 3, none⟩ = some (.slice none 0 0) ∧ W.frozen? ⟨w.heap.size, 0, none⟩ = false ∧ W.frozen? ⟨w.heap.size, 1, none⟩ = false ∧ W.frozen? ⟨w.heap.size, 2, none⟩ = false ∧ W.frozen? ⟨w.heap.size, 3, none⟩ = false) ∧ Hid (BoxAt W w.heap.size mach0 (.slice none 0 0) ∧ w.grownBy W none)) : (W'.cell? ⟨w.heap.size, 0, none⟩ = some (.int .i64 0) ∧ W'.cell? ⟨w.heap.size, 1, none⟩ = some (.int .i64 0) ∧ W'.cell? ⟨w.heap.size, 2, none⟩ = some (.string ByteArray.empty) ∧ W'.cell? ⟨w.heap.size, 3, none⟩ = some (.slice none 0 0) ∧ W'.frozen? ⟨w.heap.size, 0, none⟩ = false ∧ W'.frozen? ⟨w.heap.size, 1, none⟩ = false ∧ W'.frozen? ⟨w.heap.size, 2, none⟩ = false ∧ W'.frozen? ⟨w.heap.size, 3, none⟩ = false) ∧ Hid (BoxAt W' w.heap.size mach0 (.slice none 0 0) ∧ w.grownBy W' none) :=
 place_of (h.2.out.1.grown hg) (grown_trans h.2.out.2 hg)
theorem place_fill {w W : World} {n : Mach} {v : Value} (h : Place w W w.heap.size) :
  BoxAt ((((W.setCell ⟨w.heap.size, 0, none⟩ (.int .i64 n.kind)).setCell ⟨w.heap.size, 1, none⟩ (.int .i64 n.start)).setCell ⟨w.heap.size, 2, none⟩ (.string n.lead)).setCell ⟨w.heap.size, 3, none⟩ v) w.heap.size n v ∧
  w.grownBy ((((W.setCell ⟨w.heap.size, 0, none⟩ (.int .i64 n.kind)).setCell ⟨w.heap.size, 1, none⟩ (.int .i64 n.start)).setCell ⟨w.heap.size, 2, none⟩ (.string n.lead)).setCell ⟨w.heap.size, 3, none⟩ v) none ∧
  ∀ b, b ≠ w.heap.size → b < W.heap.size → ((((W.setCell ⟨w.heap.size, 0, none⟩ (.int .i64 n.kind)).setCell ⟨w.heap.size, 1, none⟩ (.int .i64 n.start)).setCell ⟨w.heap.size, 2, none⟩ (.string n.lead)).setCell ⟨w.heap.size, 3, none⟩ v).heap[b]? = W.heap[b]? := by
 have g1 := grown_setCell W ⟨w.heap.size, 0, none⟩ (.int .i64 n.kind)
 have g2 := grown_setCell (W.setCell ⟨w.heap.size, 0, none⟩ (.int .i64 n.kind)) ⟨w.heap.size, 1, none⟩ (.int .i64 n.start)
 have g3 := grown_setCell ((W.setCell ⟨w.heap.size, 0, none⟩ (.int .i64 n.kind)).setCell ⟨w.heap.size, 1, none⟩ (.int .i64 n.start)) ⟨w.heap.size, 2, none⟩ (.string n.lead)
 have g4 := grown_setCell (((W.setCell ⟨w.heap.size, 0, none⟩ (.int .i64 n.kind)).setCell ⟨w.heap.size, 1, none⟩ (.int .i64 n.start)).setCell ⟨w.heap.size, 2, none⟩ (.string n.lead)) ⟨w.heap.size, 3, none⟩ v
 have gg := grown_trans g1 (grown_trans g2 (grown_trans g3 g4))
 exact ⟨h.2.out.1.set, grown_step (g := w.heap.size) h.2.out.2 gg (Nat.le_refl _), fun b hb hl => gg.block b hl (by simpa using hb)⟩
open Go.RowKit
def bv (zs : List Bool) : List Value := zs.map Value.bool
def CellsB (w : World) (g : Nat) (l : List Value) : Prop := w.heap[g]? = some (.cells l.toArray 4 (0, 0))
theorem CellsB.cell {w : World} {g : Nat} {l : List Value} (h : CellsB w g l) (k : Nat) : w.cell? ⟨g, k, none⟩ = l[k]? := by
 rw [cell_row h]; simp
theorem CellsB.free {w : World} {g : Nat} {l : List Value} (h : CellsB w g l) (k : Nat) : w.frozen? ⟨g, k, none⟩ = false := frozen_of_row w g k _ _ h
theorem CellsB.set {w : World} {g : Nat} {l : List Value} (h : CellsB w g l) (k : Nat) (u : Value) : CellsB (w.setCell ⟨g, k, none⟩ u) g (l.set k u) := by
 unfold CellsB
 rw [heap_setCell_same w g k _ _ u h]
 simp
theorem CellsB.lt {w : World} {g : Nat} {l : List Value} (h : CellsB w g l) : g < w.heap.size := lt_of_block h
theorem CellsB.of_full {w : World} {B g n : Nat} {l : List Value} (h : w.ownsRow B 4 1 (.slice (some ⟨g, 0, none⟩) n n) n l) : CellsB w g l := by
 rcases h.2 with ⟨h', _⟩ | ⟨g', cap', cur, h', hb, hg, _, _, hs, ht⟩
 ·simp at h'
 ·simp only [Value.slice.injEq, Option.some.injEq, Addr.mk.injEq, and_true, true_and] at h'
  obtain ⟨rfl, rfl⟩ := h'
  rw [List.take_of_length_le (by rw [Array.length_toList, hs]; exact Nat.le_refl _)] at ht
  subst ht
  unfold CellsB; rw [hg]
theorem bv_replicate (n : Nat) : (madeCells #[Value.bool false] n).toList = bv (List.replicate n false) := by
 rw [toList_madeCells_one]
 simp [bv]
theorem bv_get (zs : List Bool) (k : Nat) (b : Bool) (h : zs[k]? = some b) : (bv zs)[k]? = some (.bool b) := by
 unfold bv; rw [List.getElem?_map, h]; rfl
theorem bv_set (zs : List Bool) (i : Nat) (b : Bool) : (bv zs).set i (.bool b) = bv (zs.set i b) := by simp [bv, List.map_set]
open Go.RowKit
def QAt (w : World) (B : Nat) (v : Value) (q : List Nat) : Prop :=
 ∃ a cap, v = .slice a q.length cap ∧ ((q = [] ∧ cap = 0) ∨ ∃ g off cur, a = some ⟨g, off, none⟩ ∧ B ≤ g ∧ w.heap[g]? = some (.cells cur 3 (0, 0)) ∧ q.length ≤ cap ∧ off + cap ≤ cur.size ∧
  ∀ (i : Nat) (x : Nat), q[i]? = some x → cur[off + i]? = some (.int .i64 (x : Int)))
theorem QAt.nil (w : World) (B : Nat) : QAt w B (.slice none 0 0) [] := ⟨none, 0, rfl, .inl ⟨rfl, rfl⟩⟩
theorem QAt.lt {w : World} {g : Nat} {c : Array Value} {t : TypeId} {f : Nat × Nat} (h : w.heap[g]? = some (.cells c t f)) : g < w.heap.size := (Array.getElem?_eq_some_iff.1 h).1
theorem QAt.grown {w w' : World} {B : Nat} {v : Value} {q : List Nat} {r : Option Nat} (h : QAt w B v q) (hg : w.grownBy w' r) (hr : ∀ k, r = some k → k < B) : QAt w' B v q := by
 obtain ⟨a, cap, hv, h | ⟨g, off, cur, ha, hB, hh, hc, ho, hx⟩⟩ := h
 ·exact ⟨a, cap, hv, .inl h⟩
 ·exact ⟨a, cap, hv, .inr ⟨g, off, cur, ha, hB, (hg.block g (QAt.lt hh) (fun e => by have := hr g e.symm; omega)).trans hh, hc, ho, hx⟩⟩
theorem size_zeroCells6 (z : Value) (k : Nat) : (Builtin.zeroCells #[z] k).size = k := by
 unfold Builtin.zeroCells; simp
theorem QAt.push {w : World} {B : Nat} {v : Value} {q : List Nat} (h : QAt w B v q) (hB : B ≤ w.heap.size) (ty : TypeId) (ad : Addr) (c x : Nat) (hx : w.cell? ad = some (.int .i64 (x : Int))) (hl : q.length ≤ 1000000) :
  ∃ v' w', (Builtin.append_ #[51, 51] ty #[v, .slice (some ad) 1 c]).run Tryz.prog w = .ok v' w' ∧ QAt w' B v' (q ++ [x]) ∧ Below B w w' := by
 obtain ⟨i0, hi, hz0, hz1, hz2⟩ := info_parts6 (t := 3) (z := .int .i64 0) (n := 1) (b := 8) (by kernel_rfl)
 have hsrc : Src Tryz.prog i0.size 51 (.slice (some ad) 1 c) 1 [.int .i64 (x : Int)] w :=
  Src.ofSlice w Tryz.underlying51 ad 1 c [.int .i64 (x : Int)] (by rw [hz1]; rfl) (fun j u hu => by
   match j, hu with
   | 0, hu => simp at hu; subst hu; exact hx
   | j + 1, hu => simp at hu) (by simp [Value.oneCell'])
 have grow : ∀ (base : Option Addr) (cap : Nat) (olds : List Value), v = .slice base q.length cap → cap < q.length + 1 → olds = q.map (fun y : Nat => Value.int .i64 (y : Int)) →
   (Builtin.firstCells i0.size q.length (.slice base q.length cap)).run Tryz.prog w.drew = .ok olds.toArray w.drew →
   ∃ v' w', (Builtin.append_ #[51, 51] ty #[v, .slice (some ad) 1 c]).run Tryz.prog w = .ok v' w' ∧ QAt w' B v' (q ++ [x]) ∧ Below B w w' := by
  intro base cap olds hv hcap hol hold
  have hcap2 := growslice_fits (need := q.length + 1) (old := cap) (bytes := 8) (by omega) (by omega)
  have hrun := run_append_grow_src w 51 51 ty 3 i0 _ Tryz.underlying51 hi hz0 base q.length cap olds hold _ 1 _ hsrc (by omega) (by omega) (by rw [hz2]; exact hcap2)
  rw [hv]
  refine ⟨_, _, hrun, ⟨_, _, by rw [List.length_append, List.length_singleton], .inr ⟨w.heap.size, 0, _, rfl, hB, (by show (w.drew.heap.push _)[w.heap.size]? = _; exact Array.getElem?_push_size), ?_, ?_, ?_⟩⟩, ((Below.refl B w).grown (grown_drew w none) hB (by simp)).alloc hB _⟩
  ·rw [List.length_append, List.length_singleton]; exact grownCap_ge _ _ _ _
  ·have h1 := grownCap_ge w (q.length + 1) cap 3
   rw [Array.size_append, List.size_toArray, List.length_append, hol, List.length_map, show (Value.int IntKind.i64 0).cells = #[.int .i64 0] from rfl, size_zeroCells6]
   simp; omega
  ·intro i y hy
   rw [Nat.zero_add]
   have hlt := (List.getElem?_eq_some_iff.1 hy).1
   rw [List.length_append, List.length_singleton] at hlt
   rw [Array.getElem?_append_left (by rw [List.size_toArray, List.length_append, hol, List.length_map, List.length_singleton]; exact hlt)]
   rw [List.getElem?_toArray, hol, show [Value.int IntKind.i64 (x : Int)] = [x].map (fun y : Nat => Value.int .i64 (y : Int)) from rfl, ← List.map_append, List.getElem?_map, hy]
   rfl
 obtain ⟨a, cap, hv, ⟨rfl, rfl⟩ | ⟨g, off, cur, rfl, hgB, hh, hc, ho, hq⟩⟩ := h
 ·refine grow a 0 [] hv (by simp) rfl ?_
  cases a with
  | none => exact run_firstCells_none w.drew _ _ _ _
  | some b => exact run_firstCells_some w.drew i0.size 0 b _ _ [] (by simp) (fun j u hu => by simp at hu)
 ·by_cases hroom : q.length + 1 ≤ cap
  ·have hk : off + q.length < cur.size := by omega
   have hrun := run_append_room_src w 51 51 ty 3 i0 Tryz.underlying51 hi g off q.length cap _ 1 _ hsrc hroom
    (fun j hj => by simp at hj; subst hj; rw [hz1, Nat.mul_one, Nat.add_zero, cell_of_row w g _ _ _ (0, 0) hh, Array.getElem?_eq_getElem hk]; rfl)
    (fun j hj => frozen_of_row w g _ _ _ hh)
   rw [hv]
   rw [hz1, Nat.mul_one] at hrun
   refine ⟨_, _, hrun, ⟨_, cap, by rw [List.length_append, List.length_singleton], .inr ⟨g, off, cur.setIfInBounds (off + q.length) (.int .i64 (x : Int)), rfl, hgB, ?_, by rw [List.length_append, List.length_singleton]; exact hroom, by simpa using ho, fun i y hy => ?_⟩⟩, ?_⟩
   ·have := heap_setCell_same w g (off + q.length) _ _ (.int .i64 (x : Int)) hh
    rw [World.setCells, World.setCells, this]
   ·by_cases e : i = q.length
    ·subst e
     rw [List.getElem?_append_right (Nat.le_refl _), Nat.sub_self] at hy
     simp at hy
     subst hy
     rw [Array.getElem?_setIfInBounds_self_of_lt hk]
    ·have hlt := (List.getElem?_eq_some_iff.1 hy).1
     rw [List.length_append, List.length_singleton] at hlt
     rw [List.getElem?_append_left (by omega)] at hy
     rw [Array.getElem?_setIfInBounds_ne (by omega)]
     exact hq i y hy
   ·exact (Below.refl B w).grown (grown_setCell w ⟨g, off + q.length, none⟩ _) hB (fun k e => by cases e; exact hgB)
  ·refine grow _ cap _ hv (by omega) rfl (run_firstCells_some w.drew i0.size q.length _ _ _ _ (by rw [hz1]; simp) (fun j u hu => ?_))
   rw [List.getElem?_map] at hu
   obtain ⟨y, hy, rfl⟩ := Option.map_eq_some_iff.1 hu
   have hlt := (List.getElem?_eq_some_iff.1 hy).1
   have h1 : Addr.add ⟨g, off, none⟩ j = ⟨g, off + j, none⟩ := by unfold Addr.add; split <;> simp_all
   rw [h1]
   show w.cell? _ = _
   rw [cell_of_row w g _ _ _ (0, 0) hh]
   exact hq j y hy
open Go.RowKit
theorem wpList_push {w : World} {B : Nat} {v : Value} {q : List Nat} (h : QAt w B v q) (hB : B ≤ w.heap.size) {ops : Array Oper} {rest : List Oper} {o : Oper} {a : Act} {Q : Exit → Act → World → Prop} (hgd : o.guard = none) (s x : Operand)
  (ho : o.op = .call { callee := .builtin .append, args := #[s, x], argTypes := #[51, 51] }) (hs : a.eval s = v) (ad : Addr) (c y : Nat) (hx : a.eval x = .slice (some ad) 1 c) (hc : w.cell? ad = some (.int .i64 (y : Int))) (hl : q.length ≤ 1000000)
  (k : ∀ v' w', QAt w' B v' (q ++ [y]) → Below B w w' → wpList Tryz.prog ops Q rest (a.put o.dst v') w') : wpList Tryz.prog ops Q (o :: rest) a w := by
 refine wpList_plain hgd fun K hK => ?_
 obtain ⟨v', w', hrun, h1, h2⟩ := h.push hB o.type ad c y hc hl
 unfold Oper.wp
 simp [execOp, ho, resolve, invoke, builtin, hs, hx, hrun, Result.andThen]
 exact hK _ _ (k v' w' h1 h2)
theorem new_cell6 (w : World) (y : Nat) : (w.alloc (.cells #[.int .i64 (y : Int)] 3)).cell? ⟨w.heap.size, 0, none⟩ = some (.int .i64 (y : Int)) := by
 have h : (w.alloc (.cells #[.int .i64 (y : Int)] 3)).heap[w.heap.size]? = some (.cells #[.int .i64 (y : Int)] 3 (0, 0)) := by
  show (w.heap.push _)[w.heap.size]? = _
  rw [Array.getElem?_push_size]
 rw [cell_of_row _ w.heap.size 0 _ _ (0, 0) h]; rfl
end Go.Proofs.YtaogepcaoogpgaaGreatDoor
