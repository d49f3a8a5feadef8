/- Machines that the call builds. · Copies of rows; the order of arcs. · The program's order of arcs; sorted. -/
import Derived.Test.YtbmonhnojkiapaaGreatDoorV21
import Derived.Test.YtbmonhnojkiapaaGreatDoorV23
import Derived.Test.YtbmonhnojkiapaaGreatDoorV02
import Derived.Deep.AppendLies
import Derived.Laws.CopyRow
import Derived.Laws.OwnMore
import Derived.Deep.RegionHeld3
import Derived.Sort.Grow
import Derived.Shelf.SlSortCmp.NoneTotal
import Derived.Shelf.Lay
import Derived.Shelf.SlGeneric
import Derived.Ground.SlsfProg
import Derived.Sort.Walk0
set_option linter.unusedVariables false
set_option linter.unusedSimpArgs false
namespace Go.Proofs.YtbmonhnojkiapaaGreatDoor
open Go.RowKit

/-- A slice of just these arcs, that lies in another block than r. -/
def ArcsOff (w : World) (r : Option Nat) (x : Value) (l : List MArc) : Prop := ArcsSl w x l ∧ (0 < l.length → x.ownBlock ≠ r)
theorem ArcsOff.grown {w w' : World} {r : Option Nat} {x : Value} {l : List MArc} (h : ArcsOff w r x l) (hg : w.grownBy w' r) : ArcsOff w' r x l := by
  obtain ⟨⟨A, cap, rfl, hr⟩, ho⟩ := h
  refine ⟨⟨A, cap, rfl, hr.1, fun hl => ?_⟩, ho⟩
  obtain ⟨ad, rfl, hb, hc⟩ := hr.2 hl
  have hne := ho hl
  refine ⟨ad, rfl, Nat.lt_of_lt_of_le hb hg.size, fun j u hu => hg.cell (hc j u hu) ?_⟩
  rw [block_of_add]; exact hne
theorem ArcsOff.grown_none {w w' : World} {r : Option Nat} {x : Value} {l : List MArc} (h : ArcsOff w r x l) (hg : w.grownBy w' none) : ArcsOff w' r x l := ⟨h.1.grown hg, h.2⟩
theorem ArcsOff.nil (w : World) (r : Option Nat) : ArcsOff w r (.slice none 0 0) [] := ⟨ArcsSl.nil w, fun h => by simp at h⟩
theorem ArcsSl.block {w : World} {x : Value} {l : List MArc} (h : ArcsSl w x l) (hl : 0 < l.length) : ∃ b, x.ownBlock = some b ∧ b < w.heap.size := by
  obtain ⟨A, cap, rfl, hr⟩ := h
  obtain ⟨ad, rfl, hb, _⟩ := hr.2 hl
  exact ⟨_, rfl, hb⟩
/-- A row that the call owns, read. -/
theorem reads_of_own {w : World} {B n k : Nat} {e : TypeId} {v : Value} {xs : List Value} (h : w.ownsRow B e k v n xs) : ∃ A cap, v = .slice A n cap ∧ Reads w w.heap.size k A n xs := by
  have hlt := h.lt
  rcases h.2 with ⟨rfl, rfl⟩ | ⟨g, cap, cur, rfl, hb, hg, hnc, hcm, hcs, ht⟩
  · exact ⟨none, 0, rfl, h.1, fun h0 => absurd h0 (by omega)⟩
  · exact ⟨_, cap, rfl, h.1, fun h0 => ⟨_, rfl, (hlt g rfl).2, fun j u hu => h.cells (g := g) rfl j u hu⟩⟩
theorem arcs_of_own {w : World} {B : Nat} {v : Value} {l : List MArc} (h : w.ownsRow B 35 4 v l.length (l.flatMap arcC)) : ArcsSl w v l := by
  obtain ⟨A, cap, hv, hr⟩ := reads_of_own h
  exact ⟨A, cap, hv, hr⟩
/-- A slice of just these states in a row of the call's own, the arcs elsewhere. -/
def StOwn (w : World) (B : Nat) (P : Nat → Prop) (u : Value) (l : List MState) : Prop := ∃ us, us.length = l.length ∧ w.ownsRow B 29 2 u l.length ((l.zip us).flatMap stC) ∧ ∀ (k : Nat) (s : MState) (x : Value), l[k]? = some s → us[k]? = some x → ArcsOff w u.ownBlock x s.arcs ∧ (0 < s.arcs.length → ∀ b, x.ownBlock = some b → P b)
theorem StOwn.sl {w : World} {B : Nat} {P : Nat → Prop} {u : Value} {l : List MState} (h : StOwn w B P u l) : StSl w u l := by
  obtain ⟨us, hl, ho, ha⟩ := h
  obtain ⟨A, cap, hv, hr⟩ := reads_of_own ho
  exact ⟨A, cap, us, hv, hl, hr, fun k s x hs hx => (ha k s x hs hx).1.1⟩
theorem StOwn.nil (w : World) (B : Nat) (P : Nat → Prop) : StOwn w B P (.slice none 0 0) [] := ⟨[], rfl, World.ownsRow_nil w B _ _, fun k s x hs => by simp at hs⟩
theorem StOwn.grown {w w' : World} {B : Nat} {P : Nat → Prop} {u : Value} {l : List MState} (h : StOwn w B P u l) (hg : w.grownBy w' none) : StOwn w' B P u l := by
  obtain ⟨us, hl, ho, ha⟩ := h
  refine ⟨us, hl, ho.kept hg ?_, fun k s x hs hx => ⟨(ha k s x hs hx).1.grown_none hg, (ha k s x hs hx).2⟩⟩
  cases hb : u.ownBlock
  · exact .inl rfl
  · exact .inr (by simp)
theorem StOwn.mono {w : World} {B B' : Nat} {P P' : Nat → Prop} {u : Value} {l : List MState} (h : StOwn w B P u l) (hb : B' ≤ B) (hP : ∀ b, P b → P' b) : StOwn w B' P' u l := by
  obtain ⟨us, hl, ho, ha⟩ := h
  refine ⟨us, hl, ⟨ho.1, ?_⟩, fun k s x hs hx => ⟨(ha k s x hs hx).1, fun h0 b hb => hP b ((ha k s x hs hx).2 h0 b hb)⟩⟩
  rcases ho.2 with h | ⟨g, cap, cur, h1, h2, h3⟩
  · exact .inl h
  · exact .inr ⟨g, cap, cur, h1, by omega, h3⟩
/-- Another block turns. -/
theorem StOwn.other {w w' : World} {B b : Nat} {P : Nat → Prop} {u : Value} {l : List MState} (h : StOwn w B P u l) (hg : w.grownBy w' (some b)) (hu : u.ownBlock ≠ some b) (hP : ¬ P b) : StOwn w' B P u l := by
  obtain ⟨us, hl, ho, ha⟩ := h
  refine ⟨us, hl, ho.kept hg (.inr hu), fun k s x hs hx => ⟨?_, (ha k s x hs hx).2⟩⟩
  obtain ⟨⟨⟨A, cap, rfl, hr⟩, ho1⟩, h2⟩ := ha k s x hs hx
  refine ⟨⟨A, cap, rfl, hr.1, fun h0 => ?_⟩, ho1⟩
  obtain ⟨ad, rfl, hb1, hc⟩ := hr.2 h0
  have hPb := h2 h0 ad.block rfl
  refine ⟨ad, rfl, Nat.lt_of_lt_of_le hb1 hg.size, fun j v hv => hg.cell (hc j v hv) ?_⟩
  rw [block_of_add]
  intro e; cases e
  exact hP hPb
/-- The value is just this machine, its states in a row of the call's own. -/
def MOwn (w : World) (B : Nat) (v : Value) (m : Mach) : Prop := ∃ u, v = .agg #[.int .i64 m.kind, .int .i64 m.start, .string m.lead, u] ∧ StOwn w B (fun b => B ≤ b) u m.states
theorem MOwn.v {w : World} {B : Nat} {v : Value} {m : Mach} (h : MOwn w B v m) : MachV w v m := by
  obtain ⟨u, hv, hs⟩ := h
  exact ⟨u, hv, hs.sl⟩
theorem MOwn.grown {w w' : World} {B : Nat} {v : Value} {m : Mach} (h : MOwn w B v m) (hg : w.grownBy w' none) : MOwn w' B v m := by
  obtain ⟨u, hv, hs⟩ := h
  exact ⟨u, hv, hs.grown hg⟩
theorem StOwn.stN {w : World} {B C : Nat} {u : Value} {l : List MState} (h : StOwn w B (fun b => C ≤ b) u l) (hC : C ≤ B) : StN w C u l := by
  obtain ⟨us, hl, ho, ha⟩ := h
  obtain ⟨A, cap, rfl, hr⟩ := reads_of_own ho
  refine ⟨A, cap, us, rfl, hl, hr, fun h0 ad hA => ?_, fun k s x hs hx => ⟨(ha k s x hs hx).1.1, (ha k s x hs hx).2⟩⟩
  subst hA
  exact Nat.le_trans hC (ho.lt ad.block rfl).1
/-- .. its states in a row of its own, the arcs in new memory. -/
def MOPost (m : Mach) (w : World) (e : Ending) (w' : World) : Prop := ∃ v, e = .returned v ∧ MOwn w' w.heap.size v m ∧ w.grownBy w' none

/-! Rows of cells: an element is changed. -/
theorem flat_set {α β : Type} (f : α → List β) (n : Nat) (hn : ∀ a, (f a).length = n) : ∀ (l : List α) (k j : Nat) (a a' : α) (b : β), l[k]? = some a → j < n → f a' = (f a).set j b → (l.set k a').flatMap f = (l.flatMap f).set (k * n + j) b
  | [], k, j, a, a', b, h, _, _ => by simp at h
  | x :: l, 0, j, a, a', b, h, hj, hf => by
    simp only [List.getElem?_cons_zero, Option.some.injEq] at h
    subst h
    rw [List.set_cons_zero, List.flatMap_cons, List.flatMap_cons, Nat.zero_mul, Nat.zero_add, hf, List.set_append_left _ _ (by rw [hn]; exact hj)]
  | x :: l, k + 1, j, a, a', b, h, hj, hf => by
    rw [List.getElem?_cons_succ] at h
    rw [List.set_cons_succ, List.flatMap_cons, List.flatMap_cons, List.set_append_right _ _ (by rw [hn, Nat.succ_mul]; omega), hn, show (k + 1) * n + j - n = k * n + j by rw [Nat.succ_mul]; omega]
    rw [flat_set f n hn l k j a a' b h hj hf]
theorem zip_set {α β : Type} : ∀ (l : List α) (us : List β) (k : Nat) (a : α) (b : β), (l.set k a).zip (us.set k b) = (l.zip us).set k (a, b)
  | [], us, k, a, b => by simp
  | x :: l, [], k, a, b => by cases k <;> simp
  | x :: l, u :: us, 0, a, b => by simp
  | x :: l, u :: us, k + 1, a, b => by simp [zip_set l us k a b]
theorem grown_cell_row {w : World} {g j : Nat} {v : Value} : w.grownBy (w.setCell ⟨g, j, none⟩ v) (some g) := grown_setCell w ⟨g, j, none⟩ v
/-- The arcs of a state are replaced. -/
theorem StOwn.set_arcs {w : World} {B g k cap : Nat} {P : Nat → Prop} {l : List MState} {s : MState} {x' : Value} {al : List MArc} (h : StOwn w B P (.slice (some ⟨g, 0, none⟩) l.length cap) l) (hs : l[k]? = some s) (hx : ArcsOff w (some g) x' al) (hxP : 0 < al.length → ∀ b, x'.ownBlock = some b → P b) :
    StOwn (w.setCell ⟨g, k * 2 + 1, none⟩ x') B P (.slice (some ⟨g, 0, none⟩) (l.set k ⟨s.fin, al⟩).length cap) (l.set k ⟨s.fin, al⟩) := by
  obtain ⟨us, hl, ho, ha⟩ := h
  have hk := (List.getElem?_eq_some_iff.1 hs).1
  have hu : us[k]? = some (us[k]'(by omega)) := List.getElem?_eq_getElem (by omega)
  have hz : (l.zip us)[k]? = some (s, us[k]'(by omega)) := by rw [List.getElem?_zip_eq_some]; exact ⟨hs, hu⟩
  have hst := (ho.stored (k * 2 + 1) x').1
  rw [← flat_set stC 2 stC_len (l.zip us) k 1 _ (⟨s.fin, al⟩, x') x' hz (by omega) rfl, ← zip_set] at hst
  refine ⟨us.set k x', by simp [hl], by rw [List.length_set]; exact hst, fun i t x hi hx2 => ?_⟩
  show ArcsOff _ (some g) x t.arcs ∧ _
  by_cases e : i = k
  · subst e
    rw [List.getElem?_set_self hk] at hi
    rw [List.getElem?_set_self (by omega)] at hx2
    cases hi; cases hx2
    exact ⟨hx.grown grown_cell_row, hxP⟩
  · rw [List.getElem?_set_ne (Ne.symm e)] at hi hx2
    exact ⟨(ha i t x hi hx2).1.grown grown_cell_row, (ha i t x hi hx2).2⟩
theorem StOwn.set_fin {w : World} {B g k cap : Nat} {P : Nat → Prop} {l : List MState} {s : MState} {f : ByteArray} (h : StOwn w B P (.slice (some ⟨g, 0, none⟩) l.length cap) l) (hs : l[k]? = some s) :
    StOwn (w.setCell ⟨g, k * 2, none⟩ (.string f)) B P (.slice (some ⟨g, 0, none⟩) (l.set k ⟨f, s.arcs⟩).length cap) (l.set k ⟨f, s.arcs⟩) := by
  obtain ⟨us, hl, ho, ha⟩ := h
  have hk := (List.getElem?_eq_some_iff.1 hs).1
  have hu : us[k]? = some (us[k]'(by omega)) := List.getElem?_eq_getElem (by omega)
  have hz : (l.zip us)[k]? = some (s, us[k]'(by omega)) := by rw [List.getElem?_zip_eq_some]; exact ⟨hs, hu⟩
  have hst := (ho.stored (k * 2) (.string f)).1
  have hself : us.set k (us[k]'(by omega)) = us := by simp
  have hfl := flat_set stC 2 stC_len (l.zip us) k 0 _ (⟨f, s.arcs⟩, us[k]'(by omega)) (.string f) hz (by omega) rfl
  rw [Nat.add_zero] at hfl
  rw [← hfl, ← zip_set, hself] at hst
  refine ⟨us, by simp [hl], by rw [List.length_set]; exact hst, fun i t x hi hx2 => ?_⟩
  show ArcsOff _ (some g) x t.arcs ∧ _
  by_cases e : i = k
  · subst e
    rw [List.getElem?_set_self hk] at hi
    cases hi
    exact ⟨(ha i s x hs hx2).1.grown grown_cell_row, (ha i s x hs hx2).2⟩
  · rw [List.getElem?_set_ne (Ne.symm e)] at hi
    exact ⟨(ha i t x hi hx2).1.grown grown_cell_row, (ha i t x hi hx2).2⟩
theorem StOwn.form {w : World} {B : Nat} {P : Nat → Prop} {u : Value} {l : List MState} (h : StOwn w B P u l) (hl : 0 < l.length) : ∃ g cap, u = .slice (some ⟨g, 0, none⟩) l.length cap ∧ B ≤ g ∧ g < w.heap.size := by
  obtain ⟨us, _, ho, _⟩ := h
  exact ho.form hl
/-- The cells of a state in the row, as a walk reads them. -/
theorem StOwn.at_ {w : World} {B g cap k : Nat} {P : Nat → Prop} {l : List MState} {s : MState} (h : StOwn w B P (.slice (some ⟨g, 0, none⟩) l.length cap) l) (hs : l[k]? = some s) :
    ∃ x, w.cell? ⟨g, k * 2, none⟩ = some (.string s.fin) ∧ w.cell? ⟨g, k * 2 + 1, none⟩ = some x ∧ ArcsOff w (some g) x s.arcs ∧ ∀ j, w.frozen? ⟨g, j, none⟩ = false := by
  obtain ⟨us, hl, ho, ha⟩ := h
  have hk := (List.getElem?_eq_some_iff.1 hs).1
  have hu : us[k]? = some (us[k]'(by omega)) := List.getElem?_eq_getElem (by omega)
  have hz : (l.zip us)[k]? = some (s, us[k]'(by omega)) := by rw [List.getElem?_zip_eq_some]; exact ⟨hs, hu⟩
  have h0 := flat_get stC 2 stC_len (l.zip us) k 0 _ hz (by omega)
  have h1 := flat_get stC 2 stC_len (l.zip us) k 1 _ hz (by omega)
  rw [Nat.add_zero] at h0
  exact ⟨_, (ho.cellAt (k * 2) (by omega)).trans h0, (ho.cellAt (k * 2 + 1) (by omega)).trans h1, (ha k s _ hs hu).1, ho.frozenAt⟩
/-- A state is put behind. -/
theorem StOwn.push {w w' : World} {B : Nat} {P : Nat → Prop} {u u' x : Value} {l : List MState} {s : MState} (h : StOwn w B P u l) (hx : ArcsSl w x s.arcs) (hxo : 0 < s.arcs.length → x.ownBlock ≠ u.ownBlock) (hxP : 0 < s.arcs.length → ∀ b, x.ownBlock = some b → P b)
    (hown : ∀ us : List Value, us.length = l.length → w.ownsRow B 29 2 u l.length ((l.zip us).flatMap stC) → w'.ownsRow B 29 2 u' (l.length + 1) ((l.zip us).flatMap stC ++ [.string s.fin, x])) (hg : w.grownBy w' u.ownBlock) (hb : u'.ownBlock = u.ownBlock ∨ u'.ownBlock = some w.heap.size) : StOwn w' B P u' (l ++ [s]) := by
  obtain ⟨us, hl, ho, ha⟩ := h
  have hz : (l ++ [s]).zip (us ++ [x]) = l.zip us ++ [(s, x)] := by rw [List.zip_append hl.symm]; rfl
  have off : ∀ {y : Value} {al : List MArc}, ArcsOff w u.ownBlock y al → ArcsOff w' u'.ownBlock y al := fun {y al} hy => by
    refine ⟨(hy.grown hg).1, fun h0 => ?_⟩
    rcases hb with e | e
    · rw [e]; exact hy.2 h0
    · rw [e]
      obtain ⟨c, hc, hlt⟩ := hy.1.block h0
      rw [hc]; intro e2; cases e2; omega
  refine ⟨us ++ [x], by simp [hl], by rw [hz, List.flatMap_append, List.length_append]; exact hown us hl ho, fun k t y hk hy => ?_⟩
  by_cases e : k < l.length
  · rw [List.getElem?_append_left e] at hk
    rw [List.getElem?_append_left (by omega)] at hy
    exact ⟨off (ha k t y hk hy).1, (ha k t y hk hy).2⟩
  · have h1 := (List.getElem?_eq_some_iff.1 hk).1
    rw [List.length_append, List.length_singleton] at h1
    obtain rfl : k = l.length := by omega
    rw [List.getElem?_append_right (Nat.le_refl _), Nat.sub_self] at hk
    rw [List.getElem?_append_right (by omega), hl, Nat.sub_self] at hy
    simp at hk hy
    subst hk hy
    exact ⟨off ⟨hx, hxo⟩, hxP⟩

/-! copy, append: elements of more cells; nil sources. -/
theorem run_copy_k (P : Program) (w : World) (dT sT ty elem : TypeId) (g o dLen dCap : Nat) (a : Addr) (sLen sCap k : Nat) (cur : Array Value) (t : TypeId) (cs : List Value)
    (hu : P.underlying dT = some (.slice elem)) (hs : (P.info? elem).map (·.size) = some k)
    (hg : w.heap[g]? = some (.cells cur t (0, 0))) (hn : cs.length = Nat.min sLen dLen * k)
    (hsrc : ∀ j v, cs[j]? = some v → w.cell? (a.add j) = some v) (hfit : o + cs.length ≤ cur.size) (h1 : ∀ v ∈ cs, v.oneCell' = true) :
    (Builtin.copy_ #[dT, sT] ty #[.slice (some ⟨g, o, none⟩) dLen dCap, .slice (some a) sLen sCap]).run P w =
      .ok (goInt (Nat.min sLen dLen)) (w.setRow g (cur.toList.take o ++ cs ++ cur.toList.drop (o + cs.length)).toArray) := by
  have hl := run_loadCells_list (P := P) w a cs hsrc
  have hst := run_storeCells_at P g o t cs 0 cur w hg (by simpa using hfit) h1
  cases hq : P.info? elem with
  | none => simp [hq] at hs
  | some i =>
    have hi : i.size = k := by simpa [hq] using hs
    rw [hn] at hl
    simp [Builtin.copy_, run_underlying hu, Builtin.lenOf, Builtin.firstCells, sizeOf, typeInfo, hq, hi, hl, hst]
theorem run_copy_zero (P : Program) (w : World) (dT sT ty elem : TypeId) (d a : Option Addr) (dLen dCap sLen sCap : Nat) (hu : P.underlying dT = some (.slice elem)) (hs : ((P.info? elem).map (·.size)).isSome = true) (hn : Nat.min sLen dLen = 0) :
    (Builtin.copy_ #[dT, sT] ty #[.slice d dLen dCap, .slice a sLen sCap]).run P w = .ok (goInt 0) w := by
  have hl := fun a => run_loadCells_list (P := P) w a [] (fun j v h => by simp at h)
  simp only [List.length_nil] at hl
  cases hq : P.info? elem with
  | none => simp [hq] at hs
  | some i => cases d <;> cases a <;> simp [Builtin.copy_, run_underlying hu, Builtin.lenOf, Builtin.firstCells, sizeOf, typeInfo, hq, storeCells, hn, hl]
theorem arcC_one (l : List MArc) : ∀ u ∈ l.flatMap arcC, u.oneCell' = true := by
  intro u hu
  obtain ⟨a, _, ha⟩ := List.mem_flatMap.1 hu
  simp [arcC] at ha
  rcases ha with rfl | rfl | rfl | rfl <;> rfl
theorem info_arc : (Tryz.prog.info? 35).map (fun i => (i.zero, i.size, i.bytes)) = some (some (.agg #[.int .i64 0, .int .i64 0, .string ByteArray.empty, .int .i64 0]), 4, 40) := by kernel_rfl
end Go.Proofs.YtbmonhnojkiapaaGreatDoor
set_option linter.unusedVariables false
set_option linter.unusedSimpArgs false
namespace Go.Proofs.YtbmonhnojkiapaaGreatDoor
open Go.RowKit

/-- copy(all of a new row, all of a slice of that length). -/
theorem run_copy_full {P : Program} {w : World} (dT sT ty elem : TypeId) (k : Nat) (hu : P.underlying dT = some (.slice elem)) (hsz : (P.info? elem).map (·.size) = some k)
    (B g n c : Nat) (A : Option Addr) (old news : List Value) (hown : w.ownsRow B elem k (.slice (some ⟨g, 0, none⟩) n n) n old) (hr : Reads w w.heap.size k A n news) (h1 : ∀ v ∈ news, v.oneCell' = true) :
    ∃ w', (Builtin.copy_ #[dT, sT] ty #[.slice (some ⟨g, 0, none⟩) n n, .slice A n c]).run P w = .ok (.int .i64 (n : Int)) w' ∧ w'.ownsRow B elem k (.slice (some ⟨g, 0, none⟩) n n) n news ∧ w.grownBy w' (some g) := by
  have hmin : Nat.min n n = n := Nat.min_self n
  by_cases h0 : 0 < n
  · obtain ⟨ad, rfl, hb, hc⟩ := hr.2 h0
    rcases hown.2 with ⟨e, _⟩ | ⟨g', cap', cur, e, hbg, hg, hnc, hcm, hcs, ht⟩
    · cases e
    · simp only [Value.slice.injEq, Option.some.injEq, Addr.mk.injEq, and_true, true_and] at e
      obtain ⟨rfl, rfl⟩ := e
      have hl := hr.1
      have hrun := run_copy_k P w dT sT ty elem g 0 n n ad n c k cur elem news hu hsz hg (by rw [hmin]; exact hl) hc (by rw [hcs, hl]; omega) h1
      rw [hmin] at hrun
      refine ⟨_, hrun, ⟨hl, .inr ⟨g, n, _, rfl, hbg, setRow_heap w g cur _ elem _ hg, Nat.le_refl _, hcm, ?_, ?_⟩⟩, ⟨rfl, rfl, rfl, by simp, fun j _ hj => setRow_other w g j _ (fun e => hj (by simp [e]))⟩⟩
      · simp [hl, hcs]
      · simp [hl, hcs, List.drop_of_length_le]
        rw [← hl]; exact List.take_length
  · obtain rfl : n = 0 := by omega
    have hrun := run_copy_zero P w dT sT ty elem (some ⟨g, 0, none⟩) A 0 0 0 c hu (by rw [hsz]; rfl) (by simp)
    have e1 : news = [] := List.eq_nil_of_length_eq_zero (by simpa using hr.1)
    have e2 : old = [] := List.eq_nil_of_length_eq_zero (by simpa using hown.1)
    subst e1 e2
    exact ⟨w, hrun, hown, World.grownBy.refl _ _⟩
/-- A copy, in a row of its own. -/
def CopyPost (e0 : TypeId) (k n : Nat) (cells : List Value) (w : World) (e : Ending) (w' : World) : Prop := ∃ g, e = .returned (.slice (some ⟨g, 0, none⟩) n n) ∧ w'.ownsRow w.heap.size e0 k (.slice (some ⟨g, 0, none⟩) n n) n cells ∧ w.grownBy w' none
theorem size_arc : (Tryz.prog.info? 35).map (·.size) = some 4 := by kernel_rfl
theorem size_st : (Tryz.prog.info? 29).map (·.size) = some 2 := by kernel_rfl
theorem reads_grown {w w' : World} {k n : Nat} {A : Option Addr} {xs : List Value} (h : Reads w w.heap.size k A n xs) (hg : w.grownBy w' none) : Reads w' w'.heap.size k A n xs := (h.below (below_of hg)).more hg.size
set_option maxRecDepth 20000 in
set_option maxHeartbeats 1000000 in
theorem copiedA_any {w : World} {A : Option Addr} {n cap : Nat} {cells : List Value} (hr : Reads w w.heap.size 4 A n cells) (h1 : ∀ u ∈ cells, u.oneCell' = true) (hn : n ≤ 1000000) :
    Calls Tryz.prog 56 #[.slice A n cap] w (CopyPost 35 4 n cells w) := by
  obtain ⟨i0, hi, hz0, hz1, hz2⟩ := info_parts6 info_arc
  have HR := Lib.hid hr
  have hc0 : ((n : Nat) : Int) = (n : Int) := rfl
  clear hr hc0
  go_enter Tryz.func56, Tryz.ntmps56
  go_wp2_with (at_make; refine wpList_make_full _ rfl _ _ 27 rfl w.heap.size 35 i0 (.agg #[.int .i64 0, .int .i64 0, .string ByteArray.empty, .int .i64 0]) 4 Tryz.underlying27 hi hz0 hz1 _ _ _ _ n rfl rfl rfl rfl (by rw [hz2]; omega) (by unfold maxLen; omega) (Nat.le_refl _) ?_)
  intro w1 hown hgr
  have HG := Lib.hid hgr
  have HO := Lib.hid hown
  clear hgr hown
  obtain ⟨w2, hcp, hown2, hg2⟩ := run_copy_full (P := Tryz.prog) 27 27 3 35 4 Tryz.underlying27 size_arc w.heap.size w.heap.size n cap A _ cells HO.out (reads_grown HR.out HG.out) h1
  have HO2 := Lib.hid hown2
  have HG2 := Lib.hid (grown_step (g := w.heap.size) HG.out hg2 (Nat.le_refl _))
  clear hown2 hg2
  go_wp2
  go_ret
  exact ⟨_, rfl, HO2.out, HG2.out⟩
set_option maxRecDepth 20000 in
set_option maxHeartbeats 1000000 in
theorem copiedS_any {w : World} {A : Option Addr} {n cap : Nat} {cells : List Value} (hr : Reads w w.heap.size 2 A n cells) (h1 : ∀ u ∈ cells, u.oneCell' = true) (hn : n ≤ 1000000) :
    Calls Tryz.prog 55 #[.slice A n cap] w (CopyPost 29 2 n cells w) := by
  obtain ⟨i0, hi, hz0, hz1, hz2⟩ := info_parts6 info_st
  have HR := Lib.hid hr
  clear hr
  go_enter Tryz.func55, Tryz.ntmps55
  go_wp2_with (at_make; refine wpList_make_full _ rfl _ _ 22 rfl w.heap.size 29 i0 (.agg #[.string ByteArray.empty, .slice none 0 0]) 2 Tryz.underlying22 hi hz0 hz1 _ _ _ _ n rfl rfl rfl rfl (by rw [hz2]; omega) (by unfold maxLen; omega) (Nat.le_refl _) ?_)
  intro w1 hown hgr
  have HG := Lib.hid hgr
  have HO := Lib.hid hown
  clear hgr hown
  obtain ⟨w2, hcp, hown2, hg2⟩ := run_copy_full (P := Tryz.prog) 22 22 3 29 2 Tryz.underlying22 size_st w.heap.size w.heap.size n cap A _ cells HO.out (reads_grown HR.out HG.out) h1
  have HO2 := Lib.hid hown2
  have HG2 := Lib.hid (grown_step (g := w.heap.size) HG.out hg2 (Nat.le_refl _))
  clear hown2 hg2
  go_wp2
  go_ret
  exact ⟨_, rfl, HO2.out, HG2.out⟩
end Go.Proofs.YtbmonhnojkiapaaGreatDoor
set_option linter.unusedVariables false
set_option linter.unusedSimpArgs false
namespace Go.Proofs.YtbmonhnojkiapaaGreatDoor
open Go.RowKit

def orZ : List Int → Int
  | [] => 0
  | x :: xs => if x ≠ 0 then x else orZ xs
theorem orZ_next {xs : List Int} {k : Nat} (h : xs[k]? = some 0) : orZ (xs.drop (k + 1)) = orZ (xs.drop k) := by
  conv => rhs; rw [List.drop_eq_getElem?_toList_append, h]
  simp [orZ]
theorem orZ_hit {xs : List Int} {k : Nat} {x : Int} (h : xs[k]? = some x) (hx : x ≠ 0) : orZ (xs.drop k) = x := by
  rw [List.drop_eq_getElem?_toList_append, h]; simp [orZ, hx]
def intC (xs : List Int) : List Value := xs.map (fun x => Value.int .i64 x)
set_option maxHeartbeats 1000000 in
theorem orAll_any {w : World} {g : Nat} {xs : List Int} (h : w.heap[g]? = some (.cells (intC xs).toArray 3 (0, 0))) (hl : xs.length ≤ 1000) :
    Calls Tryz.prog 77 #[.slice (some ⟨g, 0, none⟩) xs.length xs.length] w fun e w' => e = .returned (.int .i64 (orZ xs)) ∧ w' = w := by
  have hc : ∀ (k : Nat) (x : Int), xs[k]? = some x → w.cell? ⟨g, k, none⟩ = some (.int .i64 x) := fun k x hx => by
    rw [cell_of_row w g k _ _ (0, 0) h]; simp [intC, hx]
  have HC := Lib.hid hc
  clear h hc
  go_enter Tryz.func77, Tryz.ntmps77
  go_wp2
  go_loop [8] (fun i => ∃ k : Nat, i = .int .i64 k ∧ k ≤ xs.length ∧ orZ (xs.drop k) = orZ xs) (fun i => xs.length - (intOf i).toNat)
  case atStart => exact ⟨0, rfl, by omega, rfl⟩
  case round =>
    obtain ⟨k, rfl, hk, ho⟩ := hrel
    by_cases hlt : k < xs.length
    · have hx : xs[k]? = some xs[k] := List.getElem?_eq_getElem hlt
      generalize xs[k] = x at hx
      have c0 := HC.out k x hx
      have n1 : (k : Int) < (xs.length : Int) := by omega
      have n2 : IntKind.i64.wrap ((k : Int) + 1) = (k : Int) + 1 := by rw [IntKind.wrap_i64]; omega
      have HX := Lib.hid hx; have HO := Lib.hid ho
      clear hx ho
      by_cases h0 : x = 0
      · subst h0
        go_wp2
        go_round
        case rel => exact ⟨k + 1, by go_num, by omega, (orZ_next HX.out).trans HO.out⟩
        case measure => simp [intOf]; omega
      · have b1 : (x != 0) = true := by simpa using h0
        have e : orZ xs = x := HO.out.symm.trans (orZ_hit HX.out h0)
        have E := Lib.hid e
        clear h0 e
        go_wp2
        go_ret
        exact ⟨by rw [E.out]; rfl, rfl⟩
    · have n1 : ¬ (k : Int) < (xs.length : Int) := by omega
      have e : orZ xs = 0 := by rw [← ho, List.drop_of_length_le (by omega)]; rfl
      have E := Lib.hid e
      clear e
      go_wp2
      go_ret
      exact ⟨by rw [E.out]; rfl, rfl⟩
theorem less_text (x y : ByteArray) : Op.bytesLess x.toList y.toList = decide (x.data.toList < y.data.toList) := by
  rw [bytesLess_eq, Lib.toList_data, Lib.toList_data]
set_option maxHeartbeats 1000000 in
theorem cmpStr_any (x y : ByteArray) (w : World) :
    Calls Tryz.prog 79 #[.string x, .string y] w fun e w' => e = .returned (.int .i64 (strZ x y)) ∧ w' = w := by
  have e1 : (x.toList != x.toList) = false := by simp
  have e2 : (y.toList != y.toList) = false := by simp
  by_cases h1 : x.data.toList < y.data.toList
  · have b1 : Op.bytesLess x.toList y.toList = true := by rw [less_text]; simpa using h1
    have e : strZ x y = -1 := by unfold strZ; rw [if_pos h1]
    rw [e]
    clear h1 e
    go_enter Tryz.func79, Tryz.ntmps79
    go_wp2
    go_ret
    exact ⟨rfl, rfl⟩
  · have b1 : Op.bytesLess x.toList y.toList = false := by rw [less_text]; simpa using h1
    by_cases h2 : y.data.toList < x.data.toList
    · have b2 : (x.toList == y.toList) = false := text_ne (fun e => by subst e; exact h1 h2)
      have e : strZ x y = 1 := by unfold strZ; rw [if_neg h1, if_pos h2]
      rw [e]
      clear h1 h2 e
      go_enter Tryz.func79, Tryz.ntmps79
      go_wp2
      go_ret
      exact ⟨rfl, rfl⟩
    · have b2 : (x.toList == y.toList) = true := by rw [str_anti h1 h2]; simp
      have e : strZ x y = 0 := by unfold strZ; rw [if_neg h1, if_neg h2]
      rw [e]
      clear h1 h2 e
      go_enter Tryz.func79, Tryz.ntmps79
      go_wp2
      go_ret
      exact ⟨rfl, rfl⟩
theorem cmpZ_compare (x y : Int) : Lib.compareInt x y = cmpZ x y := by unfold Lib.compareInt cmpZ; rfl
def arcKeys (a b : MArc) : List Int := [cmpZ a.i b.i, cmpZ a.o b.o, strZ a.w b.w, cmpZ a.t b.t]
theorem arcCmp_or (a b : MArc) : orZ (arcKeys a b) = arcCmp a b := by
  unfold arcKeys arcCmp orZ orZ orZ orZ orZ
  split <;> try rfl
  split <;> try rfl
  split <;> try rfl
  split
  · rfl
  · rename_i h; simp at h; exact h.symm
/-- So far from w: draws, new blocks. -/
def Grew (w w' : World) : Prop := ∃ q os, w' = Go.Sort.grow (w.drewN q) os
theorem Grew.alloc {w w' : World} (h : Grew w w') (o : Obj) : Grew w (w'.alloc o) := by
  obtain ⟨q, os, rfl⟩ := h
  exact ⟨q, os ++ #[o], by rw [Go.Sort.alloc_eq_grow, Go.Sort.grow_grow]⟩
theorem Grew.drew {w w' : World} (h : Grew w w') : Grew w w'.drew := by
  obtain ⟨q, os, rfl⟩ := h
  exact ⟨q + 1, os, rfl⟩
theorem Grew.refl (w : World) : Grew w w := ⟨0, #[], by rw [Go.Sort.grow_empty]; rfl⟩
set_option maxRecDepth 20000 in
set_option maxHeartbeats 2000000 in
theorem compareArcs_any (a b : MArc) (w : World) :
    Calls Tryz.prog 58 #[.agg #[.int .i64 a.i, .int .i64 a.o, .string a.w, .int .i64 a.t], .agg #[.int .i64 b.i, .int .i64 b.o, .string b.w, .int .i64 b.t]] w (fun e w' => e = .returned (.int .i64 (arcCmp a b)) ∧ Grew w w') := by
  have hI := fun x y w => Tryz.cmp_Compare_int x y w
  simp only [cmpZ_compare] at hI
  have hS := cmpStr_any
  have hO : ∀ W : World, Calls Tryz.prog 77 #[.slice (some ⟨W.heap.size, 0, none⟩) 4 4] (W.alloc (.cells #[.int .i64 (cmpZ a.i b.i), .int .i64 (cmpZ a.o b.o), .int .i64 (strZ a.w b.w), .int .i64 (cmpZ a.t b.t)] 3)).drew fun e w' => e = .returned (.int .i64 (arcCmp a b)) ∧ w' = (W.alloc (.cells #[.int .i64 (cmpZ a.i b.i), .int .i64 (cmpZ a.o b.o), .int .i64 (strZ a.w b.w), .int .i64 (cmpZ a.t b.t)] 3)).drew := fun W => by
    have h := orAll_any (w := (W.alloc (.cells #[.int .i64 (cmpZ a.i b.i), .int .i64 (cmpZ a.o b.o), .int .i64 (strZ a.w b.w), .int .i64 (cmpZ a.t b.t)] 3)).drew) (g := W.heap.size) (xs := arcKeys a b) (by show (W.heap.push _)[W.heap.size]? = _; rw [Array.getElem?_push_size]; rfl) (by simp [arcKeys])
    rw [arcCmp_or] at h
    exact h
  generalize arcCmp a b = r at *
  have hA := arc_new w a
  have hB := arc_new (w.alloc (.cells #[.int .i64 a.i, .int .i64 a.o, .string a.w, .int .i64 a.t] 35)) b
  have hA2 := hA.grown (World.grownBy_alloc _ (.cells #[.int .i64 b.i, .int .i64 b.o, .string b.w, .int .i64 b.t] 35) none) (by simp)
  rw [show (w.alloc (.cells #[.int .i64 a.i, .int .i64 a.o, .string a.w, .int .i64 a.t] 35)).heap.size = w.heap.size + 1 by simp] at hB
  obtain ⟨x0, x1, x2, x3⟩ := hA2
  obtain ⟨y0, y1, y2, y3⟩ := hB
  simp only [Nat.zero_add] at x1 x2 x3 y1 y2 y3
  go_enter Tryz.func58, Tryz.ntmps58
  go_wp2_with fail
  have hgr : Grew w ((w.alloc (.cells #[.int .i64 a.i, .int .i64 a.o, .string a.w, .int .i64 a.t] 35)).alloc (.cells #[.int .i64 b.i, .int .i64 b.o, .string b.w, .int .i64 b.t] 35)) := ((Grew.refl w).alloc _).alloc _
  generalize (w.alloc (.cells #[.int .i64 a.i, .int .i64 a.o, .string a.w, .int .i64 a.t] 35)).alloc (.cells #[.int .i64 b.i, .int .i64 b.o, .string b.w, .int .i64 b.t] 35) = W2 at *
  clear hA
  have HGR := Lib.hid hgr
  clear hgr
  go_region_held3 (fun W' => (W'.cell? ⟨w.heap.size, 0, none⟩ = some (.int .i64 a.i) ∧ W'.cell? ⟨w.heap.size, 1, none⟩ = some (.int .i64 a.o) ∧ W'.cell? ⟨w.heap.size, 2, none⟩ = some (.string a.w) ∧ W'.cell? ⟨w.heap.size, 3, none⟩ = some (.int .i64 a.t)) ∧
      W'.cell? ⟨w.heap.size + 1, 0, none⟩ = some (.int .i64 b.i) ∧ W'.cell? ⟨w.heap.size + 1, 1, none⟩ = some (.int .i64 b.o) ∧ W'.cell? ⟨w.heap.size + 1, 2, none⟩ = some (.string b.w) ∧ W'.cell? ⟨w.heap.size + 1, 3, none⟩ = some (.int .i64 b.t)) (go_keep)
    (first
      | (go_at_call 78; refine (hI _ _ _).mono ?_; rintro e w' ⟨rfl, rfl⟩)
      | (go_at_call 79; refine (hS _ _ _).mono ?_; rintro e w' ⟨rfl, rfl⟩)
      | (go_at_call 77; refine (hO _).mono ?_; rintro e w' ⟨rfl, rfl⟩))
  go_wp2
  go_ret
  exact ⟨rfl, (HGR.out.alloc _).drew⟩
end Go.Proofs.YtbmonhnojkiapaaGreatDoor
