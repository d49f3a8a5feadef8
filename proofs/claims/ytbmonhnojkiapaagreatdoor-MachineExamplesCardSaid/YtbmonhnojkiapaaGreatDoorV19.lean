/- Machines as values, and how they lie in memory. · Valid machines: plain; the reference's Kind and Weight, by contract. · A search by marks and a queue, plain. -/
import Derived.Test.YtbmonhnojkiapaaGreatDoorV17
import Derived.Test.YtbmonhnojkiapaaGreatDoorV18
import Derived.Deep.Draws
set_option linter.unusedVariables false
set_option linter.unusedSimpArgs false
namespace Go.Proofs.YtbmonhnojkiapaaGreatDoor
open Go.RowKit

structure MArc where
  i : Int
  o : Int
  w : ByteArray
  t : Int
deriving DecidableEq
structure MState where
  fin : ByteArray
  arcs : List MArc
deriving DecidableEq
structure Mach where
  kind : Int
  start : Int
  lead : ByteArray
  states : List MState
deriving DecidableEq

theorem flat_get {α β : Type} (f : α → List β) (n : Nat) (hn : ∀ a, (f a).length = n) : ∀ (l : List α) (k j : Nat) (a : α), l[k]? = some a → j < n → (l.flatMap f)[k * n + j]? = (f a)[j]?
  | [], k, j, a, h, _ => by simp at h
  | x :: l, 0, j, a, h, hj => by
    simp only [List.getElem?_cons_zero, Option.some.injEq] at h
    subst h
    rw [List.flatMap_cons, Nat.zero_mul, Nat.zero_add, List.getElem?_append_left (by rw [hn]; exact hj)]
  | x :: l, k + 1, j, a, h, hj => by
    rw [List.getElem?_cons_succ] at h
    rw [List.flatMap_cons, List.getElem?_append_right (by rw [hn, Nat.succ_mul]; omega), hn, show (k + 1) * n + j - n = k * n + j by rw [Nat.succ_mul]; omega]
    exact flat_get f n hn l k j a h hj
theorem flat_len {α β : Type} (f : α → List β) (n : Nat) (hn : ∀ a, (f a).length = n) : ∀ l : List α, (l.flatMap f).length = l.length * n
  | [] => by simp
  | x :: l => by rw [List.flatMap_cons, List.length_append, hn, flat_len f n hn l, List.length_cons, Nat.succ_mul]; omega

def arcC (a : MArc) : List Value := [.int .i64 a.i, .int .i64 a.o, .string a.w, .int .i64 a.t]
def stC (p : MState × Value) : List Value := [.string p.1.fin, p.2]
theorem arcC_len (a : MArc) : (arcC a).length = 4 := rfl
theorem stC_len (p : MState × Value) : (stC p).length = 2 := rfl
/-- The value is a slice of just these arcs. -/
def ArcsSl (w : World) (v : Value) (l : List MArc) : Prop := ∃ A cap, v = .slice A l.length cap ∧ Reads w w.heap.size 4 A l.length (l.flatMap arcC)
/-- The value is a slice of just these states. -/
def StSl (w : World) (v : Value) (l : List MState) : Prop := ∃ A cap us, v = .slice A l.length cap ∧ us.length = l.length ∧ Reads w w.heap.size 2 A l.length ((l.zip us).flatMap stC) ∧ ∀ (k : Nat) (s : MState) (u : Value), l[k]? = some s → us[k]? = some u → ArcsSl w u s.arcs
/-- The value is just this machine. -/
def MachV (w : World) (v : Value) (m : Mach) : Prop := ∃ u, v = .agg #[.int .i64 m.kind, .int .i64 m.start, .string m.lead, u] ∧ StSl w u m.states
theorem ArcsSl.below {w w' : World} {v : Value} {l : List MArc} (h : ArcsSl w v l) (hb : Below w.heap.size w w') : ArcsSl w' v l := by
  obtain ⟨A, cap, hv, hr⟩ := h
  exact ⟨A, cap, hv, (hr.below hb).more hb.size⟩
theorem StSl.below {w w' : World} {v : Value} {l : List MState} (h : StSl w v l) (hb : Below w.heap.size w w') : StSl w' v l := by
  obtain ⟨A, cap, us, hv, hl, hr, ha⟩ := h
  exact ⟨A, cap, us, hv, hl, (hr.below hb).more hb.size, fun k s u hs hu => (ha k s u hs hu).below hb⟩
theorem MachV.below {w w' : World} {v : Value} {m : Mach} (h : MachV w v m) (hb : Below w.heap.size w w') : MachV w' v m := by
  obtain ⟨u, hv, hs⟩ := h
  exact ⟨u, hv, hs.below hb⟩
theorem ArcsSl.nil (w : World) : ArcsSl w (.slice none 0 0) [] := ⟨none, 0, rfl, Reads.none_⟩
theorem StSl.nil (w : World) : StSl w (.slice none 0 0) [] := ⟨none, 0, [], rfl, rfl, Reads.none_, fun k s u hs => by simp at hs⟩
theorem add_field (ad : Addr) (n j : Nat) (hj : 0 < j) : ad.add (n + j) = { block := (ad.add n).block, off := (ad.add n).off + j, spot := none } := by
  unfold Addr.add
  rw [if_neg (by omega)]
  by_cases h : n = 0
  · simp [h]
  · simp [h, Nat.add_assoc]
theorem cell_field {w : World} {ad : Addr} {n j : Nat} {v : Value} (h : w.cell? (ad.add (n + j)) = some v) (hj : 0 < j) : w.cell? { block := (ad.add n).block, off := (ad.add n).off + j, spot := none } = some v := by
  rw [← add_field ad n j hj]; exact h
/-- The cells of an arc. -/
structure ArcAt (w : World) (p : Addr) (a : MArc) : Prop where
  c0 : w.cell? p = some (.int .i64 a.i)
  c1 : w.cell? { block := p.block, off := p.off + 1, spot := none } = some (.int .i64 a.o)
  c2 : w.cell? { block := p.block, off := p.off + 2, spot := none } = some (.string a.w)
  c3 : w.cell? { block := p.block, off := p.off + 3, spot := none } = some (.int .i64 a.t)
theorem ArcAt.below {w w' : World} {B : Nat} {p : Addr} {a : MArc} (h : ArcAt w p a) (hb : Below B w w') (hp : p.block < B) : ArcAt w' p a :=
  ⟨(hb.cell hp).trans h.c0, (hb.cell (p := ⟨p.block, p.off + 1, none⟩) hp).trans h.c1, (hb.cell (p := ⟨p.block, p.off + 2, none⟩) hp).trans h.c2, (hb.cell (p := ⟨p.block, p.off + 3, none⟩) hp).trans h.c3⟩
/-- The cells of a state. -/
structure StateAt (w : World) (p : Addr) (f : ByteArray) (u : Value) : Prop where
  c0 : w.cell? p = some (.string f)
  c1 : w.cell? { block := p.block, off := p.off + 1, spot := none } = some u
theorem StateAt.below {w w' : World} {B : Nat} {p : Addr} {f : ByteArray} {u : Value} (h : StateAt w p f u) (hb : Below B w w') (hp : p.block < B) : StateAt w' p f u :=
  ⟨(hb.cell hp).trans h.c0, (hb.cell (p := ⟨p.block, p.off + 1, none⟩) hp).trans h.c1⟩
theorem row_arc {w : World} {A : Option Addr} {l : List MArc} {k : Nat} (h : Reads w w.heap.size 4 A l.length (l.flatMap arcC)) (hk : k < l.length) :
    ∃ ad a, A = some ad ∧ ad.block < w.heap.size ∧ l[k]? = some a ∧ ArcAt w (ad.add (k * 4)) a := by
  obtain ⟨ad, hA, hb, hc⟩ := h.2 (by omega)
  have hx : l[k]? = some l[k] := List.getElem?_eq_getElem hk
  exact ⟨ad, l[k], hA, hb, hx, hc _ _ (flat_get arcC 4 arcC_len l k 0 _ hx (by omega)), cell_field (hc _ _ (flat_get arcC 4 arcC_len l k 1 _ hx (by omega))) (by omega), cell_field (hc _ _ (flat_get arcC 4 arcC_len l k 2 _ hx (by omega))) (by omega), cell_field (hc _ _ (flat_get arcC 4 arcC_len l k 3 _ hx (by omega))) (by omega)⟩
theorem row_state {w : World} {A : Option Addr} {l : List MState} {us : List Value} {k : Nat} (h : Reads w w.heap.size 2 A l.length ((l.zip us).flatMap stC)) (hl : us.length = l.length) (hk : k < l.length) :
    ∃ ad s u, A = some ad ∧ ad.block < w.heap.size ∧ l[k]? = some s ∧ us[k]? = some u ∧ StateAt w (ad.add (k * 2)) s.fin u := by
  obtain ⟨ad, hA, hb, hc⟩ := h.2 (by omega)
  have hx : l[k]? = some l[k] := List.getElem?_eq_getElem hk
  have hu : us[k]? = some (us[k]'(by omega)) := List.getElem?_eq_getElem (by omega)
  have hz : (l.zip us)[k]? = some (l[k], us[k]'(by omega)) := by rw [List.getElem?_zip_eq_some]; exact ⟨hx, hu⟩
  exact ⟨ad, _, _, hA, hb, hx, hu, hc _ _ (flat_get stC 2 stC_len _ k 0 _ hz (by omega)), cell_field (hc _ _ (flat_get stC 2 stC_len _ k 1 _ hz (by omega))) (by omega)⟩
/-- A struct machine in memory. -/
def BoxAt (w : World) (g : Nat) (m : Mach) (u : Value) : Prop := w.heap[g]? = some (.cells #[.int .i64 m.kind, .int .i64 m.start, .string m.lead, u] 24 (0, 0))
structure BoxC (w : World) (g : Nat) (m : Mach) (u : Value) : Prop where
  c0 : w.cell? ⟨g, 0, none⟩ = some (.int .i64 m.kind)
  c1 : w.cell? ⟨g, 1, none⟩ = some (.int .i64 m.start)
  c2 : w.cell? ⟨g, 2, none⟩ = some (.string m.lead)
  c3 : w.cell? ⟨g, 3, none⟩ = some u
theorem BoxAt.cells {w : World} {g : Nat} {m : Mach} {u : Value} (h : BoxAt w g m u) : BoxC w g m u :=
  ⟨by rw [cell_of_row w g 0 _ _ (0, 0) h]; rfl, by rw [cell_of_row w g 1 _ _ (0, 0) h]; rfl, by rw [cell_of_row w g 2 _ _ (0, 0) h]; rfl, by rw [cell_of_row w g 3 _ _ (0, 0) h]; rfl⟩
theorem BoxAt.new (w : World) (m : Mach) (u : Value) : BoxAt (w.alloc (.cells #[.int .i64 m.kind, .int .i64 m.start, .string m.lead, u] 24)) w.heap.size m u := by
  show (w.heap.push _)[w.heap.size]? = _
  rw [Array.getElem?_push_size]
theorem BoxAt.below {w w' : World} {g B : Nat} {m : Mach} {u : Value} (h : BoxAt w g m u) (hb : Below B w w') (hg : g < B) : BoxAt w' g m u := (hb.block g hg).trans h
theorem BoxAt.lt {w : World} {g : Nat} {m : Mach} {u : Value} (h : BoxAt w g m u) : g < w.heap.size := (Array.getElem?_eq_some_iff.1 h).1
/-- How many arcs. -/
def nArcs (l : List MState) : Nat := (l.map (fun s => s.arcs.length)).sum
theorem nArcs_snoc (l : List MState) (s : MState) : nArcs (l ++ [s]) = nArcs l + s.arcs.length := by unfold nArcs; simp
theorem nArcs_append (l k : List MState) : nArcs (l ++ k) = nArcs l + nArcs k := by unfold nArcs; simp
theorem nArcs_take (l : List MState) {k : Nat} (hk : k ≤ l.length) : nArcs (l.take k) ≤ nArcs l := by
  have := nArcs_append (l.take k) (l.drop k)
  rw [List.take_append_drop] at this
  omega
theorem take_one {α : Type} {L : List α} {k : Nat} {x : α} (h : L[k]? = some x) : L.take (k + 1) = L.take k ++ [x] := by
  rw [List.take_add_one, h]; rfl
end Go.Proofs.YtbmonhnojkiapaaGreatDoor
set_option linter.unusedVariables false
set_option linter.unusedSimpArgs false
namespace Go.Proofs.YtbmonhnojkiapaaGreatDoor
open Go.RowKit

open Classical in
/-- A weight of a kind. -/
noncomputable def wgtB (k : Int) (a : ByteArray) : Bool := decide (∃ v, Wgt k a v)
theorem wgtB_yes {k : Int} {a : ByteArray} {v : Ext} (h : Wgt k a v) : wgtB k a = true := by unfold wgtB; simp; exact ⟨v, h⟩
theorem wgtB_val {k : Int} {a : ByteArray} (h : wgtB k a = true) : ∃ v, Wgt k a v := by unfold wgtB at h; simpa using h
theorem kindB_iff (k : Int) : kindB k = true ↔ (k = 1 ∨ k = 2 ∨ k = 3) := by unfold kindB; simp
theorem rkind_any (k : Int) : RK k (kindB k) := by
  by_cases h : k = 1 ∨ k = 2 ∨ k = 3
  · rw [(kindB_iff k).2 h]; exact rk_kind h
  · rw [show kindB k = false by cases hk : kindB k; rfl; exact absurd ((kindB_iff k).1 hk) h]; exact rk_none h
noncomputable def arcB (k : Int) (n : Nat) (a : MArc) : Bool := decide (0 ≤ a.i ∧ a.i ≤ 500 ∧ 0 ≤ a.o ∧ a.o ≤ 500 ∧ 0 ≤ a.t ∧ a.t < (n : Int)) && wgtB k a.w
noncomputable def finB (k : Int) (f : ByteArray) : Bool := decide (f.size = 0) || wgtB k f
noncomputable def stB6 (k : Int) (n : Nat) (s : MState) : Bool := finB k s.fin && s.arcs.all (arcB k n)
noncomputable def headB (m : Mach) : Bool := kindB m.kind && decide (1 ≤ m.states.length ∧ m.states.length ≤ 3000 ∧ 0 ≤ m.start ∧ m.start < (m.states.length : Int)) && wgtB m.kind m.lead
noncomputable def validB (m : Mach) : Bool := headB m && decide (nArcs m.states ≤ 30000) && m.states.all (stB6 m.kind m.states.length)
/-- The sizes that any machine that came in has. -/
structure Fits (m : Mach) : Prop where
  n : m.states.length ≤ 140737488355328
  lead : m.lead.size ≤ maxLen
  fin : ∀ s ∈ m.states, s.fin.size ≤ maxLen
  arcs : ∀ s ∈ m.states, s.arcs.length ≤ 140737488355328
  w : ∀ s ∈ m.states, ∀ a ∈ s.arcs, a.w.size ≤ maxLen
theorem valid_states {m : Mach} (h : validB m = true) {k : Nat} {s : MState} (hs : m.states[k]? = some s) : stB6 m.kind m.states.length s = true := by
  unfold validB at h
  simp only [Bool.and_eq_true, List.all_eq_true] at h
  exact h.2 s (List.mem_of_getElem? hs)
theorem valid_arcs {m : Mach} (h : validB m = true) : nArcs m.states ≤ 30000 := by
  unfold validB at h
  simp only [Bool.and_eq_true, decide_eq_true_eq] at h
  exact h.1.2
theorem valid_head {m : Mach} (h : validB m = true) : headB m = true := by
  unfold validB at h
  simp only [Bool.and_eq_true] at h
  exact h.1.1
theorem head_parts {m : Mach} (h : headB m = true) : kindB m.kind = true ∧ 1 ≤ m.states.length ∧ m.states.length ≤ 3000 ∧ 0 ≤ m.start ∧ m.start < (m.states.length : Int) ∧ wgtB m.kind m.lead = true := by
  unfold headB at h
  simp only [Bool.and_eq_true, decide_eq_true_eq] at h
  exact ⟨h.1.1, h.1.2.1, h.1.2.2.1, h.1.2.2.2.1, h.1.2.2.2.2, h.2⟩
theorem state_parts {k : Int} {n : Nat} {s : MState} (h : stB6 k n s = true) : finB k s.fin = true ∧ ∀ a ∈ s.arcs, arcB k n a = true := by
  unfold stB6 at h
  simpa using h
theorem arc_parts {k : Int} {n : Nat} {a : MArc} (h : arcB k n a = true) : 0 ≤ a.i ∧ a.i ≤ 500 ∧ 0 ≤ a.o ∧ a.o ≤ 500 ∧ 0 ≤ a.t ∧ a.t < (n : Int) ∧ wgtB k a.w = true := by
  unfold arcB at h
  simp only [Bool.and_eq_true, decide_eq_true_eq] at h
  exact ⟨h.1.1, h.1.2.1, h.1.2.2.1, h.1.2.2.2.1, h.1.2.2.2.2.1, h.1.2.2.2.2.2, h.2⟩
theorem nArcs_mem {l : List MState} {s : MState} (h : s ∈ l) : s.arcs.length ≤ nArcs l := by
  obtain ⟨k, hk⟩ := List.mem_iff_getElem?.1 h
  have h1 := nArcs_take l (show k + 1 ≤ l.length by have := (List.getElem?_eq_some_iff.1 hk).1; omega)
  rw [take_one hk, nArcs_snoc] at h1
  omega
/-- The world has grown, nothing older has turned. -/
theorem below_of {w w' : World} (h : w.grownBy w' none) : Below w.heap.size w w' := below_grown h (Nat.le_refl _) (by simp)
theorem MachV.grown {w w' : World} {v : Value} {m : Mach} (h : MachV w v m) (hg : w.grownBy w' none) : MachV w' v m := h.below (below_of hg)
theorem StSl.grown {w w' : World} {v : Value} {l : List MState} (h : StSl w v l) (hg : w.grownBy w' none) : StSl w' v l := h.below (below_of hg)
theorem ArcsSl.grown {w w' : World} {v : Value} {l : List MArc} (h : ArcsSl w v l) (hg : w.grownBy w' none) : ArcsSl w' v l := h.below (below_of hg)
theorem BoxAt.grown {w w' : World} {g : Nat} {m : Mach} {u : Value} (h : BoxAt w g m u) (hg : w.grownBy w' none) : BoxAt w' g m u := (hg.block g h.lt (by simp)).trans h
theorem StateAt.grown {w w' : World} {p : Addr} {f : ByteArray} {u : Value} (h : StateAt w p f u) (hg : w.grownBy w' none) (hp : p.block < w.heap.size) : StateAt w' p f u := h.below (below_of hg) hp
theorem ArcAt.grown {w w' : World} {p : Addr} {a : MArc} (h : ArcAt w p a) (hg : w.grownBy w' none) (hp : p.block < w.heap.size) : ArcAt w' p a := h.below (below_of hg) hp
end Go.Proofs.YtbmonhnojkiapaaGreatDoor
set_option linter.unusedVariables false
set_option linter.unusedSimpArgs false
namespace Go.Proofs.YtbmonhnojkiapaaGreatDoor

/-- What is reached from the places in S by the steps succ. -/
inductive RFrom (succ : Nat → List Nat) (S : Nat → Prop) : Nat → Prop
  | start {x : Nat} : S x → RFrom succ S x
  | step {x y : Nat} : RFrom succ S x → y ∈ succ x → RFrom succ S y
/-- The search: zs the marks, q the queue, cur the place whose first k steps are done. -/
structure BInv (n : Nat) (succ : Nat → List Nat) (S : Nat → Prop) (zs : List Bool) (q : List Nat) (cur : Option Nat) (k : Nat) : Prop where
  len : zs.length = n
  qin : ∀ x ∈ q, zs[x]? = some true
  start : ∀ x, S x → zs[x]? = some true
  sound : ∀ x, zs[x]? = some true → RFrom succ S x
  done : ∀ x y, zs[x]? = some true → x ∉ q → (cur = some x → y ∈ (succ x).take k) → y ∈ succ x → zs[y]? = some true
  at_ : ∀ x, cur = some x → zs[x]? = some true
theorem get_set_true {zs : List Bool} {x y : Nat} (h : x < zs.length) : (zs.set x true)[y]? = some true ↔ (y = x ∨ zs[y]? = some true) := by
  by_cases e : y = x
  · subst e
    rw [List.getElem?_set_self h]; simp
  · rw [List.getElem?_set_ne (Ne.symm e)]; simp [e]
theorem BInv.one {n : Nat} {succ : Nat → List Nat} {s : Nat} (hs : s < n) : BInv n succ (fun x => x = s) ((List.replicate n false).set s true) [s] none 0 := by
  have hl : s < (List.replicate n false).length := by rw [List.length_replicate]; exact hs
  have hf : ∀ x, (List.replicate n false)[x]? ≠ some true := fun x h => by
    rw [List.getElem?_replicate] at h
    split at h <;> simp at h
  refine ⟨by simp, fun x hx => ?_, fun x hx => ?_, fun x hx => ?_, fun x y hx hq _ _ => ?_, fun x h => by cases h⟩
  · simp at hx; subst hx; exact (get_set_true hl).2 (.inl rfl)
  · exact (get_set_true hl).2 (.inl hx)
  · rcases (get_set_true hl).1 hx with h | h
    · exact .start h
    · exact absurd h (hf x)
  · rcases (get_set_true hl).1 hx with h | h
    · exact absurd (by simp [h]) hq
    · exact absurd h (hf x)
/-- At the end the marks are just what is reached. -/
theorem BInv.fin {n : Nat} {succ : Nat → List Nat} {S : Nat → Prop} {zs : List Bool} {k : Nat} (h : BInv n succ S zs [] none k) (x : Nat) : zs[x]? = some true ↔ RFrom succ S x := by
  refine ⟨h.sound x, fun hr => ?_⟩
  induction hr with
  | start hs => exact h.start _ hs
  | step _ hy ih => exact h.done _ _ ih (by simp) (fun e => by cases e) hy
/-- The steps from a state. -/
def stepsM (m : Mach) (x : Nat) : List Nat := match m.states[x]? with
  | some s => s.arcs.map (fun a => a.t.toNat)
  | none => []
theorem stepsM_at {m : Mach} {x : Nat} {s : MState} (h : m.states[x]? = some s) : stepsM m x = s.arcs.map (fun a => a.t.toNat) := by unfold stepsM; rw [h]
end Go.Proofs.YtbmonhnojkiapaaGreatDoor
