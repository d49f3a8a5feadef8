/- U19 U98 -/
import Derived.Test.YtaogepcaoogpgaaGreatDoorV21
import Derived.Deep.Draws
import Derived.Test.YtaogepcaoogpgaaGreatDoorV18
import Derived.Lib.AppendZerosOnto
import Derived.Lib.JoinLaws
import Derived.Deep.AppendLies
set_option linter.unusedVariables false
set_option linter.unusedSimpArgs false
namespace Go.Proofs.YtaogepcaoogpgaaGreatDoor
open Go.RowKit
structure MArc where
 i : Int
 o : Int
 w : ByteArray
 t : Int
deriving DecidableEq
structure MState where
 fin : ByteArray
 arcs : List MArc
deriving DecidableEq
structure Mach where
 kind : Int
 start : Int
 lead : ByteArray
 states : List MState
deriving DecidableEq
theorem flat_get {α β : Type} (f : α → List β) (n : Nat) (hn : ∀ a, (f a).length = n) : ∀ (l : List α) (k j : Nat) (a : α), l[k]? = some a → j < n → (l.flatMap f)[k * n + j]? = (f a)[j]?
 | [], k, j, a, h, _ => by simp at h
 | x :: l, 0, j, a, h, hj => by
  simp only [List.getElem?_cons_zero, Option.some.injEq] at h
  subst h
  rw [List.flatMap_cons, Nat.zero_mul, Nat.zero_add, List.getElem?_append_left (by rw [hn]; exact hj)]
 | x :: l, k + 1, j, a, h, hj => by
  rw [List.getElem?_cons_succ] at h
  rw [List.flatMap_cons, List.getElem?_append_right (by rw [hn, Nat.succ_mul]; omega), hn, show (k + 1) * n + j - n = k * n + j by rw [Nat.succ_mul]; omega]
  exact flat_get f n hn l k j a h hj
def arcC (a : MArc) : List Value := [.int .i64 a.i, .int .i64 a.o, .string a.w, .int .i64 a.t]
def stC (p : MState × Value) : List Value := [.string p.1.fin, p.2]
theorem arcC_len (a : MArc) : (arcC a).length = 4 := rfl
theorem stC_len (p : MState × Value) : (stC p).length = 2 := rfl
def ArcsSl (w : World) (v : Value) (l : List MArc) : Prop := ∃ A cap, v = .slice A l.length cap ∧ Reads w w.heap.size 4 A l.length (l.flatMap arcC)
def StSl (w : World) (v : Value) (l : List MState) : Prop := ∃ A cap us, v = .slice A l.length cap ∧ us.length = l.length ∧ Reads w w.heap.size 2 A l.length ((l.zip us).flatMap stC) ∧ ∀ (k : Nat) (s : MState) (u : Value), l[k]? = some s → us[k]? = some u → ArcsSl w u s.arcs
def MachV (w : World) (v : Value) (m : Mach) : Prop := ∃ u, v = .agg #[.int .i64 m.kind, .int .i64 m.start, .string m.lead, u] ∧ StSl w u m.states
theorem ArcsSl.below {w w' : World} {v : Value} {l : List MArc} (h : ArcsSl w v l) (hb : Below w.heap.size w w') : ArcsSl w' v l := by
 obtain ⟨A, cap, hv, hr⟩ := h
 exact ⟨A, cap, hv, (hr.below hb).more hb.size⟩
theorem StSl.below {w w' : World} {v : Value} {l : List MState} (h : StSl w v l) (hb : Below w.heap.size w w') : StSl w' v l := by
 obtain ⟨A, cap, us, hv, hl, hr, ha⟩ := h
 exact ⟨A, cap, us, hv, hl, (hr.below hb).more hb.size, fun k s u hs hu => (ha k s u hs hu).below hb⟩
theorem MachV.below {w w' : World} {v : Value} {m : Mach} (h : MachV w v m) (hb : Below w.heap.size w w') : MachV w' v m := by
 obtain ⟨u, hv, hs⟩ := h
 exact ⟨u, hv, hs.below hb⟩
theorem ArcsSl.nil (w : World) : ArcsSl w (.slice none 0 0) [] := ⟨none, 0, rfl, Reads.none_⟩
theorem add_field (ad : Addr) (n j : Nat) (hj : 0 < j) : ad.add (n + j) = { block := (ad.add n).block, off := (ad.add n).off + j, spot := none } := by
 unfold Addr.add
 rw [if_neg (by omega)]
 by_cases h : n = 0
 ·simp [h]
 ·simp [h, Nat.add_assoc]
theorem cell_field {w : World} {ad : Addr} {n j : Nat} {v : Value} (h : w.cell? (ad.add (n + j)) = some v) (hj : 0 < j) : w.cell? { block := (ad.add n).block, off := (ad.add n).off + j, spot := none } = some v := by
 rw [← add_field ad n j hj]; exact h
structure ArcAt (w : World) (p : Addr) (a : MArc) : Prop where
 c0 : w.cell? p = some (.int .i64 a.i)
 c1 : w.cell? { block := p.block, off := p.off + 1, spot := none } = some (.int .i64 a.o)
 c2 : w.cell? { block := p.block, off := p.off + 2, spot := none } = some (.string a.w)
 c3 : w.cell? { block := p.block, off := p.off + 3, spot := none } = some (.int .i64 a.t)
structure StateAt (w : World) (p : Addr) (f : ByteArray) (u : Value) : Prop where
 c0 : w.cell? p = some (.string f)
 c1 : w.cell? { block := p.block, off := p.off + 1, spot := none } = some u
theorem StateAt.below {w w' : World} {B : Nat} {p : Addr} {f : ByteArray} {u : Value} (h : StateAt w p f u) (hb : Below B w w') (hp : p.block < B) : StateAt w' p f u :=
 ⟨(hb.cell hp).trans h.c0, (hb.cell (p := ⟨p.block, p.off + 1, none⟩) hp).trans h.c1⟩
theorem row_arc {w : World} {A : Option Addr} {l : List MArc} {k : Nat} (h : Reads w w.heap.size 4 A l.length (l.flatMap arcC)) (hk : k < l.length) :
  ∃ ad a, A = some ad ∧ ad.block < w.heap.size ∧ l[k]? = some a ∧ ArcAt w (ad.add (k * 4)) a := by
 obtain ⟨ad, hA, hb, hc⟩ := h.2 (by omega)
 have hx : l[k]? = some l[k] := List.getElem?_eq_getElem hk
 exact ⟨ad, l[k], hA, hb, hx, hc _ _ (flat_get arcC 4 arcC_len l k 0 _ hx (by omega)), cell_field (hc _ _ (flat_get arcC 4 arcC_len l k 1 _ hx (by omega))) (by omega), cell_field (hc _ _ (flat_get arcC 4 arcC_len l k 2 _ hx (by omega))) (by omega), cell_field (hc _ _ (flat_get arcC 4 arcC_len l k 3 _ hx (by omega))) (by omega)⟩
theorem row_state {w : World} {A : Option Addr} {l : List MState} {us : List Value} {k : Nat} (h : Reads w w.heap.size 2 A l.length ((l.zip us).flatMap stC)) (hl : us.length = l.length) (hk : k < l.length) :
  ∃ ad s u, A = some ad ∧ ad.block < w.heap.size ∧ l[k]? = some s ∧ us[k]? = some u ∧ StateAt w (ad.add (k * 2)) s.fin u := by
 obtain ⟨ad, hA, hb, hc⟩ := h.2 (by omega)
 have hx : l[k]? = some l[k] := List.getElem?_eq_getElem hk
 have hu : us[k]? = some (us[k]'(by omega)) := List.getElem?_eq_getElem (by omega)
 have hz : (l.zip us)[k]? = some (l[k], us[k]'(by omega)) := by rw [List.getElem?_zip_eq_some]; exact ⟨hx, hu⟩
 exact ⟨ad, _, _, hA, hb, hx, hu, hc _ _ (flat_get stC 2 stC_len _ k 0 _ hz (by omega)), cell_field (hc _ _ (flat_get stC 2 stC_len _ k 1 _ hz (by omega))) (by omega)⟩
def BoxAt (w : World) (g : Nat) (m : Mach) (u : Value) : Prop := w.heap[g]? = some (.cells #[.int .i64 m.kind, .int .i64 m.start, .string m.lead, u] 31 (0, 0))
structure BoxC (w : World) (g : Nat) (m : Mach) (u : Value) : Prop where
 c0 : w.cell? ⟨g, 0, none⟩ = some (.int .i64 m.kind)
 c1 : w.cell? ⟨g, 1, none⟩ = some (.int .i64 m.start)
 c2 : w.cell? ⟨g, 2, none⟩ = some (.string m.lead)
 c3 : w.cell? ⟨g, 3, none⟩ = some u
theorem BoxAt.cells {w : World} {g : Nat} {m : Mach} {u : Value} (h : BoxAt w g m u) : BoxC w g m u :=
 ⟨by rw [cell_of_row w g 0 _ _ (0, 0) h]; rfl, by rw [cell_of_row w g 1 _ _ (0, 0) h]; rfl, by rw [cell_of_row w g 2 _ _ (0, 0) h]; rfl, by rw [cell_of_row w g 3 _ _ (0, 0) h]; rfl⟩
theorem BoxAt.new (w : World) (m : Mach) (u : Value) : BoxAt (w.alloc (.cells #[.int .i64 m.kind, .int .i64 m.start, .string m.lead, u] 31)) w.heap.size m u := by
 show (w.heap.push _)[w.heap.size]? = _
 rw [Array.getElem?_push_size]
theorem BoxAt.below {w w' : World} {g B : Nat} {m : Mach} {u : Value} (h : BoxAt w g m u) (hb : Below B w w') (hg : g < B) : BoxAt w' g m u := (hb.block g hg).trans h
theorem BoxAt.lt {w : World} {g : Nat} {m : Mach} {u : Value} (h : BoxAt w g m u) : g < w.heap.size := (Array.getElem?_eq_some_iff.1 h).1
def nArcs (l : List MState) : Nat := (l.map (fun s => s.arcs.length)).sum
theorem nArcs_snoc (l : List MState) (s : MState) : nArcs (l ++ [s]) = nArcs l + s.arcs.length := by unfold nArcs; simp
theorem nArcs_append (l k : List MState) : nArcs (l ++ k) = nArcs l + nArcs k := by unfold nArcs; simp
theorem nArcs_take (l : List MState) {k : Nat} (hk : k ≤ l.length) : nArcs (l.take k) ≤ nArcs l := by
 have := nArcs_append (l.take k) (l.drop k)
 rw [List.take_append_drop] at this
 omega
theorem take_one {α : Type} {L : List α} {k : Nat} {x : α} (h : L[k]? = some x) : L.take (k + 1) = L.take k ++ [x] := by
 rw [List.take_add_one, h]; rfl
open Go.RowKit
open Classical in
noncomputable def wgtB (k : Int) (a : ByteArray) : Bool := decide (∃ v, Wgt k a v)
theorem wgtB_yes {k : Int} {a : ByteArray} {v : Ext} (h : Wgt k a v) : wgtB k a = true := by unfold wgtB; simp; exact ⟨v, h⟩
theorem wgtB_val {k : Int} {a : ByteArray} (h : wgtB k a = true) : ∃ v, Wgt k a v := by unfold wgtB at h; simpa using h
theorem kindB_iff (k : Int) : kindB k = true ↔ (k = 1 ∨ k = 2 ∨ k = 3) := by unfold kindB; simp
noncomputable def arcB (k : Int) (n : Nat) (a : MArc) : Bool := decide (0 ≤ a.i ∧ a.i ≤ 500 ∧ 0 ≤ a.o ∧ a.o ≤ 500 ∧ 0 ≤ a.t ∧ a.t < (n : Int)) && wgtB k a.w
noncomputable def finB (k : Int) (f : ByteArray) : Bool := decide (f.size = 0) || wgtB k f
noncomputable def stB6 (k : Int) (n : Nat) (s : MState) : Bool := finB k s.fin && s.arcs.all (arcB k n)
noncomputable def headB (m : Mach) : Bool := kindB m.kind && decide (1 ≤ m.states.length ∧ m.states.length ≤ 3000 ∧ 0 ≤ m.start ∧ m.start < (m.states.length : Int)) && wgtB m.kind m.lead
noncomputable def validB (m : Mach) : Bool := headB m && decide (nArcs m.states ≤ 30000) && m.states.all (stB6 m.kind m.states.length)
structure MFits (m : Mach) : Prop where
 n : m.states.length ≤ 140737488355328
 lead : m.lead.size ≤ maxLen
 fin : ∀ s ∈ m.states, s.fin.size ≤ maxLen
 arcs : ∀ s ∈ m.states, s.arcs.length ≤ 140737488355328
 w : ∀ s ∈ m.states, ∀ a ∈ s.arcs, a.w.size ≤ maxLen
theorem valid_states {m : Mach} (h : validB m = true) {k : Nat} {s : MState} (hs : m.states[k]? = some s) : stB6 m.kind m.states.length s = true := by
 unfold validB at h
 simp only [Bool.and_eq_true, List.all_eq_true] at h
 exact h.2 s (List.mem_of_getElem? hs)
theorem valid_arcs {m : Mach} (h : validB m = true) : nArcs m.states ≤ 30000 := by
 unfold validB at h
 simp only [Bool.and_eq_true, decide_eq_true_eq] at h
 exact h.1.2
theorem valid_head {m : Mach} (h : validB m = true) : headB m = true := by
 unfold validB at h
 simp only [Bool.and_eq_true] at h
 exact h.1.1
theorem head_parts {m : Mach} (h : headB m = true) : kindB m.kind = true ∧ 1 ≤ m.states.length ∧ m.states.length ≤ 3000 ∧ 0 ≤ m.start ∧ m.start < (m.states.length : Int) ∧ wgtB m.kind m.lead = true := by
 unfold headB at h
 simp only [Bool.and_eq_true, decide_eq_true_eq] at h
 exact ⟨h.1.1, h.1.2.1, h.1.2.2.1, h.1.2.2.2.1, h.1.2.2.2.2, h.2⟩
theorem state_parts {k : Int} {n : Nat} {s : MState} (h : stB6 k n s = true) : finB k s.fin = true ∧ ∀ a ∈ s.arcs, arcB k n a = true := by
 unfold stB6 at h
 simpa using h
theorem arc_parts {k : Int} {n : Nat} {a : MArc} (h : arcB k n a = true) : 0 ≤ a.i ∧ a.i ≤ 500 ∧ 0 ≤ a.o ∧ a.o ≤ 500 ∧ 0 ≤ a.t ∧ a.t < (n : Int) ∧ wgtB k a.w = true := by
 unfold arcB at h
 simp only [Bool.and_eq_true, decide_eq_true_eq] at h
 exact ⟨h.1.1, h.1.2.1, h.1.2.2.1, h.1.2.2.2.1, h.1.2.2.2.2.1, h.1.2.2.2.2.2, h.2⟩
theorem nArcs_mem {l : List MState} {s : MState} (h : s ∈ l) : s.arcs.length ≤ nArcs l := by
 obtain ⟨k, hk⟩ := List.mem_iff_getElem?.1 h
 have h1 := nArcs_take l (show k + 1 ≤ l.length by have := (List.getElem?_eq_some_iff.1 hk).1; omega)
 rw [take_one hk, nArcs_snoc] at h1
 omega
theorem below_of {w w' : World} (h : w.grownBy w' none) : Below w.heap.size w w' := below_grown h (Nat.le_refl _) (by simp)
theorem MachV.grown {w w' : World} {v : Value} {m : Mach} (h : MachV w v m) (hg : w.grownBy w' none) : MachV w' v m := h.below (below_of hg)
theorem BoxAt.grown {w w' : World} {g : Nat} {m : Mach} {u : Value} (h : BoxAt w g m u) (hg : w.grownBy w' none) : BoxAt w' g m u := (hg.block g h.lt (by simp)).trans h
inductive RFrom (succ : Nat → List Nat) (S : Nat → Prop) : Nat → Prop
 | start {x : Nat} : S x → RFrom succ S x
 | step {x y : Nat} : RFrom succ S x → y ∈ succ x → RFrom succ S y
def stepsM (m : Mach) (x : Nat) : List Nat := match m.states[x]? with
 | some s => s.arcs.map (fun a => a.t.toNat)
 | none => []
theorem stepsM_at {m : Mach} {x : Nat} {s : MState} (h : m.states[x]? = some s) : stepsM m x = s.arcs.map (fun a => a.t.toNat) := by unfold stepsM; rw [h]
open Go.RowKit
theorem zeroCells_one7 (z : Value) (n : Nat) : (Builtin.zeroCells #[z] n).toList = List.replicate n z := by
 have h : ∀ i : Nat, [z][i % 1]?.getD default = z := fun i => by rw [Nat.mod_one]; rfl
 simp [Builtin.zeroCells, h]
 rw [List.map_const', List.length_range]
set_option maxRecDepth 20000 in
set_option maxHeartbeats 2000000 in
theorem grow_nil7 (n : Nat) (w : World) (hn0 : 0 < n) (hn : n ≤ 20000) :
  Calls Tryz.prog 170 #[.slice none 0 0, .int .i64 (n : Int)] w fun e w' => ∃ v, e = .returned v ∧ (∃ g c, v = .slice (some ⟨g, 0, none⟩) 0 c ∧ n ≤ c) ∧ w'.ownsRow w.heap.size 9 1 v 0 [] ∧ w.grownBy w' none := by
 obtain ⟨i0, hi0, hz0, hzs, hzb⟩ := info_parts info_str
 have hold : (Builtin.firstCells i0.size 0 (.slice none 0 0)).run Tryz.prog w.drew = .ok ([] : List Value).toArray w.drew := by
  rw [hzs]
  exact run_firstCells_none w.drew 1 0 0 0
 obtain ⟨G, hG⟩ : ∃ G, G = grownCap w n 0 9 := ⟨_, rfl⟩
 have hGn : n ≤ G := by rw [hG]; exact grownCap_ge w _ _ _
 have hG63 : G ≤ maxLen := by
  rw [hG]
  exact grownCap_le_maxLen w n 0 9 (by unfold maxLen; omega)
 have hrz : ∀ ty, (Builtin.append_ #[33, 3] ty #[.slice none 0 0, .int .i64 (n : Int)]).run Tryz.prog w =
   .ok (.slice (some ⟨w.heap.size, 0, none⟩) n G) (w.drew.alloc (.cells (List.replicate G (.string ⟨#[]⟩)).toArray 9)) := fun ty => by
  have h := Lib.run_append_grow_zeros w 33 3 ty 9 i0 _ .i64 .i64 Tryz.underlying33 Tryz.underlying3 hi0 hz0 none 0 0 [] hold n (by omega) (by omega) (by omega) (by omega) (by rw [hzb]; omega) (by rw [hzb, Nat.zero_add]; exact growslice_fits (by omega) (by omega))
  rw [Nat.zero_add, ← hG] at h
  rw [h]
  congr 3
  apply Array.toList_inj.1
  show ((#[] ++ Builtin.zeroCells #[Value.string ⟨#[]⟩] n ++ Builtin.zeroCells #[Value.string ⟨#[]⟩] (G - n)) : Array Value).toList = _
  rw [Array.toList_append, Array.toList_append, zeroCells_one7, zeroCells_one7]
  simp [hGn]
 have hi1 : ¬ (n : Int) < 0 := by omega
 have hi2 : (0 : Int) < (n : Int) := by omega
 have hi3 : ¬ n = 0 := by omega
 have hw1 : IntKind.i64.wrap (n : Int) = (n : Int) := by rw [IntKind.wrap_i64]; omega
 have hi6 : (0 : Int) ≤ (G : Int) := by omega
 have HP := Lib.hid (And.intro hGn hG63)
 clear hold hG hGn hG63 hn
 go_enter Tryz.func170, Tryz.ntmps170
 go_wp2_with (at_builtin; refine Lib.wpList_append_run _ rfl _ _ _ _ rfl _ _ rfl rfl _ _ (hrz _) ?_)
 go_ret
 obtain ⟨hGn, hG63⟩ := HP.out
 refine ⟨_, rfl, ⟨_, G, rfl, hGn⟩, ⟨rfl, .inr ⟨w.heap.size, G, _, rfl, Nat.le_refl _, new_block w.drew _, Nat.zero_le _, hG63, by simp, rfl⟩⟩, grown_trans (grown_drew w none) (World.grownBy_alloc _ _ none)⟩
def preN (n m : Nat) : Nat → Nat
 | 0 => 0
 | 1 => n
 | _ => n + m
def preL (n m : Nat) (X Y : Nat → ByteArray) (t : Nat) : List Value := (List.range (preN n m t)).map (fun j => .string (if j < n then X j else Y (j - n)))
def rowL (n : Nat) (X : Nat → ByteArray) : List Value := (List.range n).map (fun j => .string (X j))
theorem rowL_len (n : Nat) (X : Nat → ByteArray) : (rowL n X).length = n := by unfold rowL; simp
theorem rowL_get {n j : Nat} {X : Nat → ByteArray} {v : Value} (h : (rowL n X)[j]? = some v) : j < n ∧ v = .string (X j) := by
 unfold rowL at h
 obtain ⟨h1, h2⟩ := List.getElem?_eq_some_iff.1 h
 simp at h1 h2
 exact ⟨h1, h2.symm⟩
theorem rowL_one (n : Nat) (X : Nat → ByteArray) : ∀ v ∈ rowL n X, v.oneCell' = true := fun v hv => by
 unfold rowL at hv
 obtain ⟨j, _, rfl⟩ := List.mem_map.1 hv
 rfl
theorem preL_one (n m : Nat) (X Y : Nat → ByteArray) : preL n m X Y 0 ++ rowL n X = preL n m X Y 1 := by
 unfold preL rowL preN
 simp only [List.range_zero, List.map_nil, List.nil_append]
 apply List.map_congr_left
 intro j hj
 rw [if_pos (List.mem_range.1 hj)]
theorem preL_two (n m : Nat) (X Y : Nat → ByteArray) : preL n m X Y 1 ++ rowL m Y = preL n m X Y 2 := by
 unfold preL rowL preN
 simp only [List.range_add, List.map_append, List.map_map]
 congr 1
 apply List.map_congr_left
 intro j hj
 show _ = Value.string _
 dsimp only
 rw [if_neg (by omega), Nat.add_sub_cancel_left]
set_option maxRecDepth 20000 in
set_option maxHeartbeats 4000000 in
theorem concat_any7 (n m gx : Nat) (ax ay : Addr) (cx cy : Nat) (X Y : Nat → ByteArray) (w : World) (hn0 : 0 < n) (hn : n ≤ 10000) (hm0 : 0 < m) (hm : m ≤ 10000) (hgx : gx < w.heap.size)
  (h0 : w.cell? ⟨gx, 0, none⟩ = some (.slice (some ax) n cx)) (h1 : w.cell? ⟨gx, 1, none⟩ = some (.slice (some ay) m cy))
  (hX : ∀ j, j < n → w.cell? (ax.add j) = some (.string (X j))) (hY : ∀ j, j < m → w.cell? (ay.add j) = some (.string (Y j))) (hbx : ax.block < w.heap.size) (hby : ay.block < w.heap.size) :
  Calls Tryz.prog 134 #[.slice (some ⟨gx, 0, none⟩) 2 2] w fun e w' => ∃ v, e = .returned v ∧ w'.ownsRow w.heap.size 9 1 v (n + m) (preL n m X Y 2) ∧ w.grownBy w' none := by
 obtain ⟨i0, hi0, hz0, hzs, hzb⟩ := info_parts info_str
 have hgrow := fun w' => grow_nil7 (n + m) w' (by omega) (by omega)
 have HG := Lib.hid hgrow; have HX := Lib.hid hX; have HY := Lib.hid hY; have HB := Lib.hid (And.intro hbx (And.intro hby hgx)); have HN := Lib.hid (And.intro hn0 (And.intro hn (And.intro hm0 hm)))
 have H01 := Lib.hid (And.intro h0 h1)
 clear hgrow hX hY hbx hby hgx hn0 hn hm0 hm h0 h1
 go_enter Tryz.func134, Tryz.ntmps134
 go_wp2
 go_loopw [3, 11] (fun sv iv wr => ∃ t : Nat, t ≤ 2 ∧ iv = .int .i64 (t : Int) ∧ sv = .int .i64 ((preN n m t : Nat) : Int) ∧ w = wr) (fun _ iv _ => 2 - (intOf iv).toNat)
 case atStart => exact ⟨0, by omega, rfl, rfl, rfl⟩
 case round =>
  obtain ⟨t, ht, rfl, rfl, rfl⟩ := hrel
  obtain ⟨hn0, hn, hm0, hm⟩ := HN.out
  rcases (show t = 0 ∨ t = 1 ∨ t = 2 by omega) with rfl | rfl | rfl
  ·have c0 := H01.out.1
   have n1 : IntKind.i64.wrap (n : Int) = (n : Int) := by rw [IntKind.wrap_i64]; omega
   have n2 : ¬ (n : Int) < 0 := by omega
   clear hn0 hn hm0 hm ht
   simp only [preN]
   go_wp2
   exact ⟨⟨1, by omega, by first | rfl | trivial, by first | rfl | trivial, by first | rfl | trivial⟩, by simp [intOf]⟩
  ·have c1 := H01.out.2
   have n1 : IntKind.i64.wrap ((n : Int) + (m : Int)) = (n : Int) + (m : Int) := by rw [IntKind.wrap_i64]; omega
   have n2 : ¬ (n : Int) + (m : Int) < 0 := by omega
   clear hn0 hn hm0 hm ht
   simp only [preN]
   go_wp2
   exact ⟨⟨2, by omega, by first | rfl | trivial, by simp [preN], by first | rfl | trivial⟩, by simp [intOf]⟩
  ·clear hn0 hn hm0 hm ht
   simp only [preN]
   go_wp2_with fail
   refine (HG.out _).mono ?_
   rintro e w1 ⟨v, rfl, ⟨g, c, rfl, hc⟩, hown, hg⟩
   have HO := Lib.hid hown; have HC := Lib.hid (And.intro hc hg)
   clear hown hc hg
   go_wp2
   go_loopw [6, 27] (fun sv iv wr => ∃ t : Nat, t ≤ 2 ∧ iv = .int .i64 (t : Int) ∧ wr.ownsRow w.heap.size 9 1 sv (preN n m t) (preL n m X Y t) ∧ w.grownBy wr none) (fun _ iv _ => 2 - (intOf iv).toNat)
   case atStart => exact ⟨0, by omega, rfl, HO.out, HC.out.2⟩
   case round =>
    obtain ⟨t, ht, rfl, hown, hg⟩ := hrel
    obtain ⟨hn0, hn, hm0, hm⟩ := HN.out
    rcases (show t = 0 ∨ t = 1 ∨ t = 2 by omega) with rfl | rfl | rfl
    ·have c0 := hg.cell H01.out.1 (by simp)
     have HOW := Lib.hid (And.intro hown hg); have HNN := Lib.hid (And.intro hn0 (And.intro hn (And.intro hm0 hm)))
     clear hown hg hn0 hn hm0 hm ht
     go_wp2_with (at_builtin; refine wpList_append_lies _ rfl _ _ 33 rfl w.heap.size 9 i0 (.string ⟨#[]⟩) 1 16 Tryz.underlying33 hi0 hz0 hzs hzb rfl (by decide) _ _ _ rfl HOW.out.1 ax n cx (rowL n X) rfl (by rw [rowL_len]; omega) ?c1 (rowL_one n X) HNN.out.1 ?c3 ?c4 HOW.out.2.size _ rfl ?_)
     case c1 =>
      intro j u hu
      obtain ⟨hj, rfl⟩ := rowL_get hu
      exact (cell_same (ad := ax.add j) (by rw [add_block7]; exact HOW.out.2.block _ HB.out.1 (by simp))).trans (HX.out j hj)
     case c3 => have := HNN.out; unfold maxLen; simp only [preN]; omega
     case c4 => have := HNN.out; simp only [preN]; omega
     intro g5 cap5 w5 hown5 hg5 hat5 hlt5
     have hg6 : w.grownBy w5 none := by
      rcases hat5 with h | h
      ·rw [h] at hg5
       exact grown_step HOW.out.2 hg5 (by have := HOW.out.1.lt g5 h; omega)
      ·rcases HOW.out.1.2 with ⟨e, _⟩ | ⟨g6, _, _, e, hb6, _⟩
       ·subst e; exact grown_trans HOW.out.2 hg5
       ·subst e; exact grown_step HOW.out.2 hg5 hb6
     have HF := Lib.hid (And.intro hown5 hg6)
     clear hown5 hg5 hat5 hlt5 hg6
     go_wp2
     refine ⟨⟨1, by omega, rfl, ?_, HF.out.2⟩, by simp [intOf]⟩
     rw [← preL_one]
     simpa [preN] using HF.out.1
    ·have c0 := hg.cell H01.out.2 (by simp)
     have HOW := Lib.hid (And.intro hown hg); have HNN := Lib.hid (And.intro hn0 (And.intro hn (And.intro hm0 hm)))
     clear hown hg hn0 hn hm0 hm ht
     go_wp2_with (at_builtin; refine wpList_append_lies _ rfl _ _ 33 rfl w.heap.size 9 i0 (.string ⟨#[]⟩) 1 16 Tryz.underlying33 hi0 hz0 hzs hzb rfl (by decide) _ _ _ rfl HOW.out.1 ay m cy (rowL m Y) rfl (by rw [rowL_len]; omega) ?c1 (rowL_one m Y) HNN.out.2.2.1 ?c3 ?c4 HOW.out.2.size _ rfl ?_)
     case c1 =>
      intro j u hu
      obtain ⟨hj, rfl⟩ := rowL_get hu
      exact (cell_same (ad := ay.add j) (by rw [add_block7]; exact HOW.out.2.block _ HB.out.2.1 (by simp))).trans (HY.out j hj)
     case c3 => have := HNN.out; unfold maxLen; simp only [preN]; omega
     case c4 => have := HNN.out; simp only [preN]; omega
     intro g5 cap5 w5 hown5 hg5 hat5 hlt5
     have hg6 : w.grownBy w5 none := by
      rcases HOW.out.1.2 with ⟨e, _⟩ | ⟨g6, _, _, e, hb6, _⟩
      ·subst e; exact grown_trans HOW.out.2 hg5
      ·subst e; exact grown_step HOW.out.2 hg5 hb6
     have HF := Lib.hid (And.intro hown5 hg6)
     clear hown5 hg5 hat5 hlt5 hg6
     go_wp2
     refine ⟨⟨2, by omega, rfl, ?_, HF.out.2⟩, by simp [intOf]⟩
     rw [← preL_two]
     simpa [preN] using HF.out.1
    ·have HOW := Lib.hid (And.intro hown hg)
     clear hown hg hn0 hn hm0 hm ht
     go_wp2
     go_ret
     exact ⟨_, rfl, HOW.out.1, HOW.out.2⟩
theorem own_rowAt7 {w : World} {B n : Nat} {v : Value} {xs : List Value} (h : w.ownsRow B 9 1 v n xs) (hn : 0 < n) : ∃ g c, v = .slice (some ⟨g, 0, none⟩) n c ∧ n ≤ c ∧ c ≤ maxLen ∧ B ≤ g ∧ RowAt w g 0 n (fun j => xs.getD j (.string ⟨#[]⟩)) := by
 obtain ⟨hl, ⟨_, h0⟩ | ⟨g, c, cur, rfl, hb, hg, h1, h2, hs, ht⟩⟩ := h
 ·omega
 ·refine ⟨g, c, rfl, h1, h2, hb, (Array.getElem?_eq_some_iff.1 hg).1, fun j hj => ?_⟩
  rw [Nat.zero_add, cell_of_row w g j _ _ (0, 0) hg, ← Array.getElem?_toList]
  dsimp only
  rw [← ht, List.getD_eq_getElem?_getD, List.getElem?_take_of_lt (by omega), List.getElem?_eq_getElem (by simp; omega)]
  rfl
set_option maxRecDepth 20000 in
set_option maxHeartbeats 2000000 in
theorem joined_any7 (n m : Nat) (xv yv : Value) (X Y : Nat → ByteArray) (w : World) (hn0 : 0 < n) (hn : n ≤ 10000) (hm0 : 0 < m) (hm : m ≤ 10000) (hx : RowR w xv n (fun j => .string (X j))) (hy : RowR w yv m (fun j => .string (Y j))) :
  Calls Tryz.prog 77 #[xv, yv] w fun e w' => ∃ g c, e = .returned (.slice (some ⟨g, 0, none⟩) (n + m) c) ∧ n + m ≤ c ∧ c ≤ maxLen ∧ w.heap.size ≤ g ∧ RowAt w' g 0 (n + m) (fun j => .string (if j < n then X j else Y (j - n))) ∧ w.grownBy w' none := by
 obtain ⟨Ax, cx, rfl, hx1, hx2, hx3⟩ := hx
 obtain ⟨Ay, cy, rfl, hy1, hy2, hy3⟩ := hy
 obtain ⟨ax, rfl, hbx, _⟩ := hx3 0 hn0
 obtain ⟨ay, rfl, hby, _⟩ := hy3 0 hm0
 have hcall := fun (w1 : World) (hg : w.grownBy w1 none) gx hgx c0 c1 => concat_any7 n m gx ax ay cx cy X Y w1 hn0 hn hm0 hm hgx c0 c1
  (fun j hj => by obtain ⟨_, e, _, hc⟩ := hx3 j hj; cases e; exact (cell_same (ad := ax.add j) (by rw [add_block7]; exact hg.block _ hbx (by simp))).trans hc)
  (fun j hj => by obtain ⟨_, e, _, hc⟩ := hy3 j hj; cases e; exact (cell_same (ad := ay.add j) (by rw [add_block7]; exact hg.block _ hby (by simp))).trans hc)
  (Nat.lt_of_lt_of_le hbx hg.size) (Nat.lt_of_lt_of_le hby hg.size)
 have HC := Lib.hid hcall; have HN := Lib.hid hn0
 clear hcall hx1 hx2 hx3 hy1 hy2 hy3 hn0 hn hm0 hm
 go_enter Tryz.func77, Tryz.ntmps77
 go_wp2_with fail
 refine (HC.out (w.alloc (.cells #[.slice (some ax) n cx, .slice (some ay) m cy] 33)) (World.grownBy_alloc _ _ none) w.heap.size (by simp) (box_cell w _ _ rfl) (box_cell w _ _ rfl)).mono ?_
 rintro e w1 ⟨v, rfl, hown, hg⟩
 have HP := Lib.hid (And.intro hown hg)
 clear hown hg
 go_wp2
 go_ret
 obtain ⟨hown, hg⟩ := HP.out
 obtain ⟨g, c, rfl, h1, h2, h3, h4⟩ := own_rowAt7 hown (by have := HN.out; omega)
 refine ⟨g, c, rfl, h1, h2, by simp at h3; omega, ⟨h4.1, fun j hj => (h4.2 j hj).trans ?_⟩, grown_trans (World.grownBy_alloc _ _ none) hg⟩
 congr 1
 unfold preL
 dsimp only
 rw [List.getD_eq_getElem?_getD, List.getElem?_map, List.getElem?_range (by show j < preN n m 2; exact hj)]
 rfl
end Go.Proofs.YtaogepcaoogpgaaGreatDoor
