/- MachineExamples: three copies in one statement, in whatever order: what holds in each state. -/
import Derived.Test.YtbmonhnojkiapaaGreatDoorV35
import Derived.Test.YtbmonhnojkiapaaGreatDoorV39
import Derived.Test.YtbmonhnojkiapaaGreatDoorV21
set_option linter.unusedVariables false
set_option linter.unusedSimpArgs false
namespace Go.Proofs.YtbmonhnojkiapaaGreatDoor
open Go.RowKit

theorem ownsRow_keptN {W W' : World} {B n k : Nat} {e : TypeId} {v : Value} {xs : List Value} (h : W.ownsRow B e k v n xs) (hk : Kept B W W') : W'.ownsRow B e k v n xs := by
  refine ⟨h.1, ?_⟩
  rcases h.2 with h0 | ⟨g, cap, cur, hv, hb, hg, hr⟩
  · exact .inl h0
  · exact .inr ⟨g, cap, cur, hv, hb, (hk.block g hb (Array.getElem?_eq_some_iff.1 hg).1).trans hg, hr⟩
theorem StOwn.keptN {W W' : World} {B : Nat} {u : Value} {l : List MState} (h : StOwn W B (fun b => B ≤ b) u l) (hk : Kept B W W') : StOwn W' B (fun b => B ≤ b) u l := by
  obtain ⟨us, hl, ho, ha⟩ := h
  exact ⟨us, hl, ownsRow_keptN ho hk, fun k s x hs hx => ⟨⟨(ha k s x hs hx).1.1.keptN (ha k s x hs hx).2 hk, (ha k s x hs hx).1.2⟩, (ha k s x hs hx).2⟩⟩
/-- A machine's states that were laid in the blocks from lo on and below hi. -/
def CIv (W : World) (lo hi : Nat) (u : Value) (l : List MState) : Prop := ∃ W0 : World, W0.heap.size = hi ∧ StOwn W0 lo (fun b => lo ≤ b) u l ∧ ∀ b, lo ≤ b → b < hi → W.heap[b]? = W0.heap[b]?
theorem CIv.next {W W' : World} {lo hi : Nat} {u : Value} {l : List MState} (h : CIv W lo hi u l) (hk : ∀ b, lo ≤ b → b < hi → W'.heap[b]? = W.heap[b]?) : CIv W' lo hi u l := by
  obtain ⟨W0, h1, h2, h3⟩ := h
  exact ⟨W0, h1, h2, fun b hb hl => (hk b hb hl).trans (h3 b hb hl)⟩
theorem CIv.own {W : World} {lo hi : Nat} {u : Value} {l : List MState} (h : CIv W lo hi u l) (hs : hi ≤ W.heap.size) : StOwn W lo (fun b => lo ≤ b) u l := by
  obtain ⟨W0, h1, h2, h3⟩ := h
  exact h2.keptN ⟨by omega, fun b hb hl => h3 b hb (by omega)⟩
/-- What is known on the way: the copies that are made (their blocks, the value of their states), the boxes that are laid. -/
structure Fct (w0 W : World) (cs : List (Nat × Nat × Value)) (bs : List Nat) : Prop where
  g : w0.grownBy W none
  cl : ∀ x ∈ cs, w0.heap.size ≤ x.1 ∧ x.1 ≤ x.2.1 ∧ x.2.1 ≤ W.heap.size ∧ CIv W x.1 x.2.1 x.2.2 exM.states
  ord : cs.Pairwise (fun x y => x.2.1 ≤ y.1)
  bx : ∀ b ∈ bs, w0.heap.size ≤ b ∧ b < W.heap.size ∧ BoxAt W b mach0 (.slice none 0 0)
  nd : bs.Nodup
  ap : ∀ x ∈ cs, ∀ b ∈ bs, b < x.1 ∨ x.2.1 ≤ b
theorem Fct.drew {w0 : World} : Fct w0 w0.drew [] [] := ⟨grown_drew w0 none, by simp, List.Pairwise.nil, by simp, List.nodup_nil, by simp⟩
theorem Fct.perm {w0 W : World} {cs : List (Nat × Nat × Value)} {bs bs' : List Nat} (h : Fct w0 W cs bs) (p : bs.Perm bs') : Fct w0 W cs bs' :=
  ⟨h.g, h.cl, h.ord, fun b hb => h.bx b (p.mem_iff.2 hb), p.nodup_iff.1 h.nd, fun x hx b hb => h.ap x hx b (p.mem_iff.2 hb)⟩
theorem Fct.alloc {w0 W : World} {cs : List (Nat × Nat × Value)} {bs : List Nat} (h : Fct w0 W cs bs) : Fct w0 (W.alloc (.cells #[.int .i64 0, .int .i64 0, .string ⟨#[]⟩, .slice none 0 0] 24)) cs (W.heap.size :: bs) := by
  have hga := World.grownBy_alloc W (.cells #[.int .i64 0, .int .i64 0, .string ⟨#[]⟩, .slice none 0 0] 24) none
  have hs : (W.alloc (.cells #[.int .i64 0, .int .i64 0, .string ⟨#[]⟩, .slice none 0 0] 24)).heap.size = W.heap.size + 1 := by simp
  have hg0 := h.g.size
  refine ⟨grown_trans h.g hga, fun x hx => ?_, h.ord, fun b hb => ?_, ?_, fun x hx b hb => ?_⟩
  · obtain ⟨h1, h2, h3, h4⟩ := h.cl x hx
    exact ⟨h1, h2, by omega, h4.next (fun b hb hl => hga.block b (by omega) (by simp))⟩
  · rcases List.mem_cons.1 hb with rfl | hb
    · exact ⟨hg0, by omega, BoxAt.new W mach0 (.slice none 0 0)⟩
    · obtain ⟨h1, h2, h3⟩ := h.bx b hb
      exact ⟨h1, by omega, h3.grown hga⟩
  · exact List.nodup_cons.2 ⟨fun hb => by have := (h.bx _ hb).2.1; omega, h.nd⟩
  · rcases List.mem_cons.1 hb with rfl | hb
    · exact .inr (h.cl x hx).2.2.1
    · exact h.ap x hx b hb
theorem Fct.call {w0 W W' : World} {cs : List (Nat × Nat × Value)} {bs : List Nat} {u : Value} (h : Fct w0 W cs bs) (hso : StOwn W' W.heap.size (fun b => W.heap.size ≤ b) u exM.states) (hg : W.grownBy W' none) : Fct w0 W' (cs ++ [(W.heap.size, W'.heap.size, u)]) bs := by
  have hs := hg.size
  have hg0 := h.g.size
  refine ⟨grown_trans h.g hg, fun x hx => ?_, ?_, fun b hb => ?_, h.nd, fun x hx b hb => ?_⟩
  · rcases List.mem_append.1 hx with hx | hx
    · obtain ⟨h1, h2, h3, h4⟩ := h.cl x hx
      exact ⟨h1, h2, by omega, h4.next (fun b hb hl => hg.block b (by omega) (by simp))⟩
    · rw [List.mem_singleton] at hx
      subst hx
      exact ⟨hg0, hs, Nat.le_refl _, ⟨W', rfl, hso, fun b _ _ => rfl⟩⟩
  · rw [List.pairwise_append]
    refine ⟨h.ord, List.pairwise_singleton _ _, fun x hx y hy => ?_⟩
    rw [List.mem_singleton] at hy
    subst hy
    exact (h.cl x hx).2.2.1
  · obtain ⟨h1, h2, h3⟩ := h.bx b hb
    exact ⟨h1, by omega, h3.grown hg⟩
  · rcases List.mem_append.1 hx with hx | hx
    · exact h.ap x hx b hb
    · rw [List.mem_singleton] at hx
      subst hx
      exact .inl (h.bx b hb).2.1
/-- The three copies in their boxes. -/
structure Trio (w0 W : World) (u1 u2 u3 : Value) (g2 g3 g4 : Nat) (l1 h1 l2 h2 l3 h3 : Nat) : Prop where
  g : w0.grownBy W none
  b2 : BoxAt W g2 exM u1
  b3 : BoxAt W g3 exM u2
  b4 : BoxAt W g4 exM u3
  c1 : CIv W l1 h1 u1 exM.states
  c2 : CIv W l2 h2 u2 exM.states
  c3 : CIv W l3 h3 u3 exM.states
  nums : w0.heap.size ≤ l1 ∧ l1 ≤ h1 ∧ h1 ≤ l2 ∧ l2 ≤ h2 ∧ h2 ≤ l3 ∧ l3 ≤ h3 ∧ h3 ≤ W.heap.size ∧ w0.heap.size ≤ g2 ∧ w0.heap.size ≤ g3 ∧ w0.heap.size ≤ g4 ∧ g2 ≠ g3 ∧ g2 ≠ g4 ∧ g3 ≠ g4
  far : (g2 < l1 ∨ h1 ≤ g2) ∧ (g2 < l2 ∨ h2 ≤ g2) ∧ (g2 < l3 ∨ h3 ≤ g2) ∧ (g3 < l1 ∨ h1 ≤ g3) ∧ (g3 < l2 ∨ h2 ≤ g3) ∧ (g3 < l3 ∨ h3 ≤ g3) ∧ (g4 < l1 ∨ h1 ≤ g4) ∧ (g4 < l2 ∨ h2 ≤ g4) ∧ (g4 < l3 ∨ h3 ≤ g4)
abbrev opsX : Array Oper := #[{ dst := some 16, op := Op.load 24 (Operand.tmp 1), type := 24, pos := "law.go:26", after := #[], guard := none },
  { dst := some 17, op := Op.call { callee := Callee.value (Operand.func 9), args := #[Operand.tmp 16], argTypes := #[24] }, type := 24, pos := "law.go:26", after := #[{ on := 0, ground := Ground.data }], guard := none },
  { dst := some 18, op := Op.load 24 (Operand.tmp 1), type := 24, pos := "law.go:26", after := #[], guard := none },
  { dst := some 19, op := Op.call { callee := Callee.value (Operand.func 9), args := #[Operand.tmp 18], argTypes := #[24] }, type := 24, pos := "law.go:26", after := #[{ on := 2, ground := Ground.data }, { on := 1, ground := Ground.chain }], guard := none },
  { dst := some 20, op := Op.load 24 (Operand.tmp 1), type := 24, pos := "law.go:26", after := #[], guard := none },
  { dst := some 21, op := Op.call { callee := Callee.value (Operand.func 9), args := #[Operand.tmp 20], argTypes := #[24] }, type := 24, pos := "law.go:26", after := #[{ on := 4, ground := Ground.data }, { on := 3, ground := Ground.chain }], guard := none },
  { dst := some 2, op := Op.alloc 24, type := 0, pos := "law.go:26", after := #[], guard := none },
  { dst := some 3, op := Op.alloc 24, type := 0, pos := "law.go:26", after := #[], guard := none },
  { dst := some 4, op := Op.alloc 24, type := 0, pos := "law.go:26", after := #[], guard := none },
  { dst := none, op := Op.store 24 (Operand.tmp 2) (Operand.tmp 17), type := 0, pos := "law.go:26", after := #[{ on := 6, ground := Ground.data }, { on := 1, ground := Ground.data }, { on := 5, ground := Ground.chain }, { on := 0, ground := Ground.phase }, { on := 1, ground := Ground.phase }, { on := 2, ground := Ground.textOnly Departure.lateStores }, { on := 3, ground := Ground.textOnly Departure.lateStoresUnsure }, { on := 4, ground := Ground.textOnly Departure.lateStores }, { on := 5, ground := Ground.textOnly Departure.lateStoresUnsure }, { on := 6, ground := Ground.phase }, { on := 7, ground := Ground.phase }, { on := 8, ground := Ground.phase }], guard := none },
  { dst := none, op := Op.store 24 (Operand.tmp 3) (Operand.tmp 19), type := 0, pos := "law.go:26", after := #[{ on := 7, ground := Ground.data }, { on := 3, ground := Ground.data }, { on := 9, ground := Ground.chain }, { on := 0, ground := Ground.phase }, { on := 1, ground := Ground.phase }, { on := 2, ground := Ground.phase }, { on := 3, ground := Ground.phase }, { on := 4, ground := Ground.textOnly Departure.lateStores }, { on := 5, ground := Ground.textOnly Departure.lateStoresUnsure }, { on := 6, ground := Ground.phase }, { on := 7, ground := Ground.phase }, { on := 8, ground := Ground.phase }, { on := 9, ground := Ground.phase }], guard := none },
  { dst := none, op := Op.store 24 (Operand.tmp 4) (Operand.tmp 21), type := 0, pos := "law.go:26", after := #[{ on := 8, ground := Ground.data }, { on := 5, ground := Ground.data }, { on := 10, ground := Ground.chain }, { on := 0, ground := Ground.phase }, { on := 1, ground := Ground.phase }, { on := 2, ground := Ground.phase }, { on := 3, ground := Ground.phase }, { on := 4, ground := Ground.phase }, { on := 5, ground := Ground.phase }, { on := 6, ground := Ground.phase }, { on := 7, ground := Ground.phase }, { on := 8, ground := Ground.phase }, { on := 9, ground := Ground.phase }, { on := 10, ground := Ground.phase }], guard := none }]
def frX (gm : Nat) (um v2 v3 v4 v17 v19 v21 : Value) : Act := { tmps := #[.bool false, .pointer (some ⟨gm, 0, none⟩), v2, v3, v4, undef, undef, undef, undef, undef, undef, undef, undef, undef, undef, .agg #[.int .i64 exM.kind, .int .i64 exM.start, .string exM.lead, um], .agg #[.int .i64 exM.kind, .int .i64 exM.start, .string exM.lead, um], v17, .agg #[.int .i64 exM.kind, .int .i64 exM.start, .string exM.lead, um], v19, .agg #[.int .i64 exM.kind, .int .i64 exM.start, .string exM.lead, um], v21, undef, undef, undef, undef, undef, undef, undef, undef, undef, undef, undef, undef, undef, undef, undef, undef, undef, undef, undef, undef, undef, undef, undef, undef, undef, undef, undef, undef, undef, undef, undef, undef, undef, undef, undef, undef, undef, undef, undef, undef, undef, undef, undef, undef, undef, undef, undef, undef, undef, undef, undef, undef, undef, undef, undef, undef, undef, undef, undef, undef, undef, undef, undef, undef, undef, undef, undef, undef, undef, undef, undef, undef, undef, undef, undef, undef, undef, undef, undef, undef, undef, undef, undef, undef, undef, undef, undef, undef, undef, undef, undef, undef, undef, undef, undef, undef, undef, undef, undef, undef, undef, undef, undef, undef, undef, undef, undef, undef, undef, undef, undef, undef, undef, undef, undef, undef, undef, undef, undef, undef, undef], defers := [] }
abbrev cpX (u : Value) : Value := .agg #[.int .i64 exM.kind, .int .i64 exM.start, .string exM.lead, u]
abbrev ptX (g : Nat) : Value := .pointer (some ⟨g, 0, none⟩)
theorem to_listed {P : Program} {md : Region.Mode} {ops : Array Oper} {Q : Exit → Act → World → Prop} {S : World → Prop} {fuel : Nat} {l l' : Array Bool} {a a' : Act} {w : World} (e : l = l') (ea : a = a') (h : wpAnyH P md ops Q S fuel l' a' w) : wpAnyH P md ops Q S fuel l a w := by subst e; subst ea; exact h
theorem held_of {w0 W : World} {gm : Nat} {um : Value} (hm : BoxAt w0 gm exM um) (h : w0.grownBy W none) : W.cell? ⟨gm, 0, none⟩ = some (.int .i64 exM.kind) ∧ W.cell? ⟨gm, 1, none⟩ = some (.int .i64 exM.start) ∧ W.cell? ⟨gm, 2, none⟩ = some (.string exM.lead) ∧ W.cell? ⟨gm, 3, none⟩ = some um := by
  obtain ⟨x0, x1, x2, x3⟩ := (hm.grown h).cells
  exact ⟨x0, x1, x2, x3⟩
theorem MachV.fillU {W : World} {u : Value} {t : Mach} (h : StSl W u t.states) : MachV W (.agg #[.int .i64 t.kind, .int .i64 t.start, .string t.lead, u]) t := ⟨_, rfl, h⟩
set_option maxRecDepth 20000 in
set_option maxHeartbeats 4000000 in
theorem st_3_7 {Q : Exit → Act → World → Prop} {w0 : World} {gm : Nat} {um : Value} (hm : BoxAt w0 gm exM um) (hs : StSl w0 um exM.states) (hfin : ∀ (W : World) (u1 u2 u3 : Value) (g2 g3 g4 l1 h1 l2 h2 l3 h3 : Nat), Trio w0 W u1 u2 u3 g2 g3 g4 l1 h1 l2 h2 l3 h3 → Q .normal (frX gm um (ptX g2) (ptX g3) (ptX g4) (cpX u1) (cpX u2) (cpX u3)) W) {W : World} {l1 h1 l2 h2 l3 h3 : Nat} {u1 u2 u3 : Value} {g2 g3 g4 : Nat} (h : Fct w0 W [(l1, h1, u1), (l2, h2, u2), (l3, h3, u3)] [g2, g3, g4]) :
    wpAnyH Tryz.prog .any opsX Q (fun W' : World => W'.cell? ⟨gm, 0, none⟩ = some (.int .i64 exM.kind) ∧ W'.cell? ⟨gm, 1, none⟩ = some (.int .i64 exM.start) ∧ W'.cell? ⟨gm, 2, none⟩ = some (.string exM.lead) ∧ W'.cell? ⟨gm, 3, none⟩ = some um) 3 #[true, true, true, true, true, true, true, true, true, false, false, false] (frX gm um (ptX g2) (ptX g3) (ptX g4) (cpX u1) (cpX u2) (cpX u3)) W := by
  obtain ⟨n1, n2, n3, n4⟩ := h.cl _ (List.mem_cons_self ..)
  obtain ⟨m1, m2, m3, m4⟩ := h.cl (l2, h2, u2) (by simp)
  obtain ⟨k1, k2, k3, k4⟩ := h.cl (l3, h3, u3) (by simp)
  have ho := h.ord
  simp only [List.pairwise_cons, List.mem_cons, List.mem_singleton, forall_eq_or_imp, forall_eq, List.not_mem_nil, false_implies, implies_true, List.Pairwise.nil, and_true] at ho
  obtain ⟨p1, p2, p3⟩ := h.bx g2 (by simp)
  obtain ⟨q1, q2, q3⟩ := h.bx g3 (by simp)
  obtain ⟨r1, r2, r3⟩ := h.bx g4 (by simp)
  have hn := h.nd
  simp only [List.nodup_cons, List.mem_cons, List.mem_singleton, List.not_mem_nil, or_false, not_or, not_false_eq_true, List.nodup_nil, and_true] at hn
  have a11 := h.ap (l1, h1, u1) (by simp) g2 (by simp); have a12 := h.ap (l1, h1, u1) (by simp) g3 (by simp); have a13 := h.ap (l1, h1, u1) (by simp) g4 (by simp)
  have a21 := h.ap (l2, h2, u2) (by simp) g2 (by simp); have a22 := h.ap (l2, h2, u2) (by simp) g3 (by simp); have a23 := h.ap (l2, h2, u2) (by simp) g4 (by simp)
  have a31 := h.ap (l3, h3, u3) (by simp) g2 (by simp); have a32 := h.ap (l3, h3, u3) (by simp) g3 (by simp); have a33 := h.ap (l3, h3, u3) (by simp) g4 (by simp)
  obtain ⟨z1, e1, rfl, _, _⟩ := (n4.own n3).form (by decide)
  obtain ⟨z2, e2, rfl, _, _⟩ := (m4.own m3).form (by decide)
  obtain ⟨z3, e3, rfl, _, _⟩ := (k4.own k3).form (by decide)
  have hG := h.g
  have hgm := hm.lt
  simp only [] at n1 n2 n3 n4 m1 m2 m3 m4 k1 k2 k3 k4 ho a11 a12 a13 a21 a22 a23 a31 a32 a33
  obtain ⟨hbf2, hgf2⟩ := box_fill (n := exM) (v := (.slice (some ⟨z1, 0, none⟩) exM.states.length e1)) p3
  obtain ⟨x20, x21, x22, x23⟩ := p3.cells
  simp only [mach0] at x20 x21 x22
  have f20 := p3.free 0
  have f21 := p3.free 1
  have f22 := p3.free 2
  have f23 := p3.free 3
  have hG1 := grown_step (g := g2) hG hgf2 (by omega)
  have q3_1 : BoxAt _ g3 mach0 (.slice none 0 0) := (hgf2.block g3 q3.lt (by simp; omega)).trans q3
  have r3_1 : BoxAt _ g4 mach0 (.slice none 0 0) := (hgf2.block g4 r3.lt (by simp; omega)).trans r3
  have d2_1 := hbf2
  have n4_1 := n4.next (fun b hb hl => hgf2.block b (by have := hgf2.size; first | omega | (simp; omega)) (by simp; omega))
  have m4_1 := m4.next (fun b hb hl => hgf2.block b (by have := hgf2.size; first | omega | (simp; omega)) (by simp; omega))
  have k4_1 := k4.next (fun b hb hl => hgf2.block b (by have := hgf2.size; first | omega | (simp; omega)) (by simp; omega))
  obtain ⟨hbf3, hgf3⟩ := box_fill (n := exM) (v := (.slice (some ⟨z2, 0, none⟩) exM.states.length e2)) q3_1
  obtain ⟨x30, x31, x32, x33⟩ := q3_1.cells
  simp only [mach0] at x30 x31 x32
  have f30 := q3_1.free 0
  have f31 := q3_1.free 1
  have f32 := q3_1.free 2
  have f33 := q3_1.free 3
  have hG2 := grown_step (g := g3) hG1 hgf3 (by omega)
  have r3_2 : BoxAt _ g4 mach0 (.slice none 0 0) := (hgf3.block g4 r3_1.lt (by simp; omega)).trans r3_1
  have d2_2 : BoxAt _ g2 exM (.slice (some ⟨z1, 0, none⟩) exM.states.length e1) := (hgf3.block g2 d2_1.lt (by simp; omega)).trans d2_1
  have d3_2 := hbf3
  have n4_2 := n4_1.next (fun b hb hl => hgf3.block b (by have := hgf3.size; first | omega | (simp; omega)) (by simp; omega))
  have m4_2 := m4_1.next (fun b hb hl => hgf3.block b (by have := hgf3.size; first | omega | (simp; omega)) (by simp; omega))
  have k4_2 := k4_1.next (fun b hb hl => hgf3.block b (by have := hgf3.size; first | omega | (simp; omega)) (by simp; omega))
  obtain ⟨hbf4, hgf4⟩ := box_fill (n := exM) (v := (.slice (some ⟨z3, 0, none⟩) exM.states.length e3)) r3_2
  obtain ⟨x40, x41, x42, x43⟩ := r3_2.cells
  simp only [mach0] at x40 x41 x42
  have f40 := r3_2.free 0
  have f41 := r3_2.free 1
  have f42 := r3_2.free 2
  have f43 := r3_2.free 3
  have hG3 := grown_step (g := g4) hG2 hgf4 (by omega)
  have d2_3 : BoxAt _ g2 exM (.slice (some ⟨z1, 0, none⟩) exM.states.length e1) := (hgf4.block g2 d2_2.lt (by simp; omega)).trans d2_2
  have d3_3 : BoxAt _ g3 exM (.slice (some ⟨z2, 0, none⟩) exM.states.length e2) := (hgf4.block g3 d3_2.lt (by simp; omega)).trans d3_2
  have d4_3 := hbf4
  have n4_3 := n4_2.next (fun b hb hl => hgf4.block b (by have := hgf4.size; first | omega | (simp; omega)) (by simp; omega))
  have m4_3 := m4_2.next (fun b hb hl => hgf4.block b (by have := hgf4.size; first | omega | (simp; omega)) (by simp; omega))
  have k4_3 := k4_2.next (fun b hb hl => hgf4.block b (by have := hgf4.size; first | omega | (simp; omega)) (by simp; omega))
  have hsz1 := hgf2.size; have hsz2 := hgf3.size; have hsz3 := hgf4.size
  have HT := Lib.hid (hfin _ _ _ _ g2 g3 g4 l1 h1 l2 h2 l3 h3 ⟨hG3, d2_3, d3_3, d4_3, n4_3, m4_3, k4_3, ⟨by omega, by omega, by omega, by omega, by omega, by omega, by omega, by omega, by omega, by omega, by omega, by omega, by omega⟩, ⟨a11, a21, a31, a12, a22, a32, a13, a23, a33⟩⟩)
  have H1 := Lib.hid (held_of hm hG1); have H2 := Lib.hid (held_of hm hG2); have H3 := Lib.hid (held_of hm hG3)
  clear hG hG1 hG2 hG3 hgm ho hn n1 n2 n3 n4 m1 m2 m3 m4 k1 k2 k3 k4 p1 p2 p3 q1 q2 q3 r1 r2 r3 a11 a12 a13 a21 a22 a23 a31 a32 a33 q3_1 r3_1 r3_2 d2_1 d2_2 d3_2 d2_3 d3_3 d4_3 n4_1 n4_2 n4_3 m4_1 m4_2 m4_3 k4_1 k4_2 k4_3 hsz1 hsz2 hsz3 hbf2 hgf2 hbf3 hgf3 hbf4 hgf4 h hs hm hfin
  refine wpAnyH_ready (rs := [9]) (by kernel_rfl) (by simp) ?_
  refine AllReadyH.cons (o := { dst := none, op := Op.store 24 (Operand.tmp 2) (Operand.tmp 17), type := 0, pos := "law.go:26", after := #[{ on := 6, ground := Ground.data }, { on := 1, ground := Ground.data }, { on := 5, ground := Ground.chain }, { on := 0, ground := Ground.phase }, { on := 1, ground := Ground.phase }, { on := 2, ground := Ground.textOnly Departure.lateStores }, { on := 3, ground := Ground.textOnly Departure.lateStoresUnsure }, { on := 4, ground := Ground.textOnly Departure.lateStores }, { on := 5, ground := Ground.textOnly Departure.lateStoresUnsure }, { on := 6, ground := Ground.phase }, { on := 7, ground := Ground.phase }, { on := 8, ground := Ground.phase }], guard := none }) rfl (fun K hK => ?_) AllReadyH.nil
  simp only [frX]
  go_simp
  refine hK.out _ _ H1.out (fun _ => ?_)
  clear hK K
  refine wpAnyH_ready (rs := [10]) (by kernel_rfl) (by simp) ?_
  refine AllReadyH.cons (o := { dst := none, op := Op.store 24 (Operand.tmp 3) (Operand.tmp 19), type := 0, pos := "law.go:26", after := #[{ on := 7, ground := Ground.data }, { on := 3, ground := Ground.data }, { on := 9, ground := Ground.chain }, { on := 0, ground := Ground.phase }, { on := 1, ground := Ground.phase }, { on := 2, ground := Ground.phase }, { on := 3, ground := Ground.phase }, { on := 4, ground := Ground.textOnly Departure.lateStores }, { on := 5, ground := Ground.textOnly Departure.lateStoresUnsure }, { on := 6, ground := Ground.phase }, { on := 7, ground := Ground.phase }, { on := 8, ground := Ground.phase }, { on := 9, ground := Ground.phase }], guard := none }) rfl (fun K hK => ?_) AllReadyH.nil
  go_simp
  refine hK.out _ _ H2.out (fun _ => ?_)
  clear hK K
  refine wpAnyH_ready (rs := [11]) (by kernel_rfl) (by simp) ?_
  refine AllReadyH.cons (o := { dst := none, op := Op.store 24 (Operand.tmp 4) (Operand.tmp 21), type := 0, pos := "law.go:26", after := #[{ on := 8, ground := Ground.data }, { on := 5, ground := Ground.data }, { on := 10, ground := Ground.chain }, { on := 0, ground := Ground.phase }, { on := 1, ground := Ground.phase }, { on := 2, ground := Ground.phase }, { on := 3, ground := Ground.phase }, { on := 4, ground := Ground.phase }, { on := 5, ground := Ground.phase }, { on := 6, ground := Ground.phase }, { on := 7, ground := Ground.phase }, { on := 8, ground := Ground.phase }, { on := 9, ground := Ground.phase }, { on := 10, ground := Ground.phase }], guard := none }) rfl (fun K hK => ?_) AllReadyH.nil
  go_simp
  refine hK.out _ _ H3.out (fun _ => ?_)
  clear hK K
  refine wpAnyH_done (by kernel_rfl) ?_ _
  exact HT.out
set_option maxRecDepth 20000 in
set_option maxHeartbeats 4000000 in
theorem st_2_7 {Q : Exit → Act → World → Prop} {w0 : World} {gm : Nat} {um : Value} (hm : BoxAt w0 gm exM um) (hs : StSl w0 um exM.states) (hfin : ∀ (W : World) (u1 u2 u3 : Value) (g2 g3 g4 l1 h1 l2 h2 l3 h3 : Nat), Trio w0 W u1 u2 u3 g2 g3 g4 l1 h1 l2 h2 l3 h3 → Q .normal (frX gm um (ptX g2) (ptX g3) (ptX g4) (cpX u1) (cpX u2) (cpX u3)) W) {W : World} {l1 h1 l2 h2 : Nat} {u1 u2 : Value} {g2 g3 g4 : Nat} (h : Fct w0 W [(l1, h1, u1), (l2, h2, u2)] [g2, g3, g4]) :
    wpAnyH Tryz.prog .any opsX Q (fun W' : World => W'.cell? ⟨gm, 0, none⟩ = some (.int .i64 exM.kind) ∧ W'.cell? ⟨gm, 1, none⟩ = some (.int .i64 exM.start) ∧ W'.cell? ⟨gm, 2, none⟩ = some (.string exM.lead) ∧ W'.cell? ⟨gm, 3, none⟩ = some um) 4 #[true, true, true, true, true, false, true, true, true, false, false, false] (frX gm um (ptX g2) (ptX g3) (ptX g4) (cpX u1) (cpX u2) undef) W := by
  refine wpAnyH_ready (rs := [5]) (by kernel_rfl) (by simp) ?_
  refine AllReadyH.cons (o := { dst := some 21, op := Op.call { callee := Callee.value (Operand.func 9), args := #[Operand.tmp 20], argTypes := #[24] }, type := 24, pos := "law.go:26", after := #[{ on := 4, ground := Ground.data }, { on := 3, ground := Ground.chain }], guard := none }) rfl (fun K hK => ?_) ?_
  · simp only [frX]
    have HC := Lib.hid (rclone_any (MachV.fillU (hs.grown h.g)) (by decide) (by decide +kernel))
    go_simp
    refine HC.out.mono ?_
    rintro e W' ⟨v', rfl, ⟨u', rfl, hso⟩, hg⟩
    have h' := h.call hso hg
    refine hK.out _ _ (held_of hm h'.g) (fun _ => ?_)
    refine to_listed (l' := #[true, true, true, true, true, true, true, true, true, false, false, false]) (by kernel_rfl) rfl (st_3_7 hm hs hfin h')
  exact AllReadyH.nil
set_option maxRecDepth 20000 in
set_option maxHeartbeats 4000000 in
theorem st_3_3 {Q : Exit → Act → World → Prop} {w0 : World} {gm : Nat} {um : Value} (hm : BoxAt w0 gm exM um) (hs : StSl w0 um exM.states) (hfin : ∀ (W : World) (u1 u2 u3 : Value) (g2 g3 g4 l1 h1 l2 h2 l3 h3 : Nat), Trio w0 W u1 u2 u3 g2 g3 g4 l1 h1 l2 h2 l3 h3 → Q .normal (frX gm um (ptX g2) (ptX g3) (ptX g4) (cpX u1) (cpX u2) (cpX u3)) W) {W : World} {l1 h1 l2 h2 l3 h3 : Nat} {u1 u2 u3 : Value} {g2 g3 : Nat} (h : Fct w0 W [(l1, h1, u1), (l2, h2, u2), (l3, h3, u3)] [g2, g3]) :
    wpAnyH Tryz.prog .any opsX Q (fun W' : World => W'.cell? ⟨gm, 0, none⟩ = some (.int .i64 exM.kind) ∧ W'.cell? ⟨gm, 1, none⟩ = some (.int .i64 exM.start) ∧ W'.cell? ⟨gm, 2, none⟩ = some (.string exM.lead) ∧ W'.cell? ⟨gm, 3, none⟩ = some um) 4 #[true, true, true, true, true, true, true, true, false, false, false, false] (frX gm um (ptX g2) (ptX g3) undef (cpX u1) (cpX u2) (cpX u3)) W := by
  refine wpAnyH_ready (rs := [8]) (by kernel_rfl) (by simp) ?_
  refine AllReadyH.cons (o := { dst := some 4, op := Op.alloc 24, type := 0, pos := "law.go:26", after := #[], guard := none }) rfl (fun K hK => ?_) ?_
  · simp only [frX]
    have h' := h.alloc.perm (bs' := [g2, g3, W.heap.size]) ((List.perm_append_comm (l₁ := [_]) (l₂ := [_, _])))
    go_simp
    refine hK.out _ _ (held_of hm h'.g) (fun _ => ?_)
    refine to_listed (l' := #[true, true, true, true, true, true, true, true, true, false, false, false]) (by kernel_rfl) rfl (st_3_7 hm hs hfin h')
  exact AllReadyH.nil
set_option maxRecDepth 20000 in
set_option maxHeartbeats 4000000 in
theorem st_3_5 {Q : Exit → Act → World → Prop} {w0 : World} {gm : Nat} {um : Value} (hm : BoxAt w0 gm exM um) (hs : StSl w0 um exM.states) (hfin : ∀ (W : World) (u1 u2 u3 : Value) (g2 g3 g4 l1 h1 l2 h2 l3 h3 : Nat), Trio w0 W u1 u2 u3 g2 g3 g4 l1 h1 l2 h2 l3 h3 → Q .normal (frX gm um (ptX g2) (ptX g3) (ptX g4) (cpX u1) (cpX u2) (cpX u3)) W) {W : World} {l1 h1 l2 h2 l3 h3 : Nat} {u1 u2 u3 : Value} {g2 g4 : Nat} (h : Fct w0 W [(l1, h1, u1), (l2, h2, u2), (l3, h3, u3)] [g2, g4]) :
    wpAnyH Tryz.prog .any opsX Q (fun W' : World => W'.cell? ⟨gm, 0, none⟩ = some (.int .i64 exM.kind) ∧ W'.cell? ⟨gm, 1, none⟩ = some (.int .i64 exM.start) ∧ W'.cell? ⟨gm, 2, none⟩ = some (.string exM.lead) ∧ W'.cell? ⟨gm, 3, none⟩ = some um) 4 #[true, true, true, true, true, true, true, false, true, false, false, false] (frX gm um (ptX g2) undef (ptX g4) (cpX u1) (cpX u2) (cpX u3)) W := by
  refine wpAnyH_ready (rs := [7]) (by kernel_rfl) (by simp) ?_
  refine AllReadyH.cons (o := { dst := some 3, op := Op.alloc 24, type := 0, pos := "law.go:26", after := #[], guard := none }) rfl (fun K hK => ?_) ?_
  · simp only [frX]
    have h' := h.alloc.perm (bs' := [g2, W.heap.size, g4]) (List.Perm.swap _ _ _)
    go_simp
    refine hK.out _ _ (held_of hm h'.g) (fun _ => ?_)
    refine to_listed (l' := #[true, true, true, true, true, true, true, true, true, false, false, false]) (by kernel_rfl) rfl (st_3_7 hm hs hfin h')
  exact AllReadyH.nil
set_option maxRecDepth 20000 in
set_option maxHeartbeats 4000000 in
theorem st_3_6 {Q : Exit → Act → World → Prop} {w0 : World} {gm : Nat} {um : Value} (hm : BoxAt w0 gm exM um) (hs : StSl w0 um exM.states) (hfin : ∀ (W : World) (u1 u2 u3 : Value) (g2 g3 g4 l1 h1 l2 h2 l3 h3 : Nat), Trio w0 W u1 u2 u3 g2 g3 g4 l1 h1 l2 h2 l3 h3 → Q .normal (frX gm um (ptX g2) (ptX g3) (ptX g4) (cpX u1) (cpX u2) (cpX u3)) W) {W : World} {l1 h1 l2 h2 l3 h3 : Nat} {u1 u2 u3 : Value} {g3 g4 : Nat} (h : Fct w0 W [(l1, h1, u1), (l2, h2, u2), (l3, h3, u3)] [g3, g4]) :
    wpAnyH Tryz.prog .any opsX Q (fun W' : World => W'.cell? ⟨gm, 0, none⟩ = some (.int .i64 exM.kind) ∧ W'.cell? ⟨gm, 1, none⟩ = some (.int .i64 exM.start) ∧ W'.cell? ⟨gm, 2, none⟩ = some (.string exM.lead) ∧ W'.cell? ⟨gm, 3, none⟩ = some um) 4 #[true, true, true, true, true, true, false, true, true, false, false, false] (frX gm um undef (ptX g3) (ptX g4) (cpX u1) (cpX u2) (cpX u3)) W := by
  refine wpAnyH_ready (rs := [6]) (by kernel_rfl) (by simp) ?_
  refine AllReadyH.cons (o := { dst := some 2, op := Op.alloc 24, type := 0, pos := "law.go:26", after := #[], guard := none }) rfl (fun K hK => ?_) ?_
  · simp only [frX]
    have h' := h.alloc.perm (bs' := [W.heap.size, g3, g4]) (.refl _)
    go_simp
    refine hK.out _ _ (held_of hm h'.g) (fun _ => ?_)
    refine to_listed (l' := #[true, true, true, true, true, true, true, true, true, false, false, false]) (by kernel_rfl) rfl (st_3_7 hm hs hfin h')
  exact AllReadyH.nil
set_option maxRecDepth 20000 in
set_option maxHeartbeats 4000000 in
theorem st_1_7 {Q : Exit → Act → World → Prop} {w0 : World} {gm : Nat} {um : Value} (hm : BoxAt w0 gm exM um) (hs : StSl w0 um exM.states) (hfin : ∀ (W : World) (u1 u2 u3 : Value) (g2 g3 g4 l1 h1 l2 h2 l3 h3 : Nat), Trio w0 W u1 u2 u3 g2 g3 g4 l1 h1 l2 h2 l3 h3 → Q .normal (frX gm um (ptX g2) (ptX g3) (ptX g4) (cpX u1) (cpX u2) (cpX u3)) W) {W : World} {l1 h1 : Nat} {u1 : Value} {g2 g3 g4 : Nat} (h : Fct w0 W [(l1, h1, u1)] [g2, g3, g4]) :
    wpAnyH Tryz.prog .any opsX Q (fun W' : World => W'.cell? ⟨gm, 0, none⟩ = some (.int .i64 exM.kind) ∧ W'.cell? ⟨gm, 1, none⟩ = some (.int .i64 exM.start) ∧ W'.cell? ⟨gm, 2, none⟩ = some (.string exM.lead) ∧ W'.cell? ⟨gm, 3, none⟩ = some um) 5 #[true, true, true, false, true, false, true, true, true, false, false, false] (frX gm um (ptX g2) (ptX g3) (ptX g4) (cpX u1) undef undef) W := by
  refine wpAnyH_ready (rs := [3]) (by kernel_rfl) (by simp) ?_
  refine AllReadyH.cons (o := { dst := some 19, op := Op.call { callee := Callee.value (Operand.func 9), args := #[Operand.tmp 18], argTypes := #[24] }, type := 24, pos := "law.go:26", after := #[{ on := 2, ground := Ground.data }, { on := 1, ground := Ground.chain }], guard := none }) rfl (fun K hK => ?_) ?_
  · simp only [frX]
    have HC := Lib.hid (rclone_any (MachV.fillU (hs.grown h.g)) (by decide) (by decide +kernel))
    go_simp
    refine HC.out.mono ?_
    rintro e W' ⟨v', rfl, ⟨u', rfl, hso⟩, hg⟩
    have h' := h.call hso hg
    refine hK.out _ _ (held_of hm h'.g) (fun _ => ?_)
    refine to_listed (l' := #[true, true, true, true, true, false, true, true, true, false, false, false]) (by kernel_rfl) rfl (st_2_7 hm hs hfin h')
  exact AllReadyH.nil
set_option maxRecDepth 20000 in
set_option maxHeartbeats 4000000 in
theorem st_2_3 {Q : Exit → Act → World → Prop} {w0 : World} {gm : Nat} {um : Value} (hm : BoxAt w0 gm exM um) (hs : StSl w0 um exM.states) (hfin : ∀ (W : World) (u1 u2 u3 : Value) (g2 g3 g4 l1 h1 l2 h2 l3 h3 : Nat), Trio w0 W u1 u2 u3 g2 g3 g4 l1 h1 l2 h2 l3 h3 → Q .normal (frX gm um (ptX g2) (ptX g3) (ptX g4) (cpX u1) (cpX u2) (cpX u3)) W) {W : World} {l1 h1 l2 h2 : Nat} {u1 u2 : Value} {g2 g3 : Nat} (h : Fct w0 W [(l1, h1, u1), (l2, h2, u2)] [g2, g3]) :
    wpAnyH Tryz.prog .any opsX Q (fun W' : World => W'.cell? ⟨gm, 0, none⟩ = some (.int .i64 exM.kind) ∧ W'.cell? ⟨gm, 1, none⟩ = some (.int .i64 exM.start) ∧ W'.cell? ⟨gm, 2, none⟩ = some (.string exM.lead) ∧ W'.cell? ⟨gm, 3, none⟩ = some um) 5 #[true, true, true, true, true, false, true, true, false, false, false, false] (frX gm um (ptX g2) (ptX g3) undef (cpX u1) (cpX u2) undef) W := by
  refine wpAnyH_ready (rs := [5, 8]) (by kernel_rfl) (by simp) ?_
  refine AllReadyH.cons (o := { dst := some 21, op := Op.call { callee := Callee.value (Operand.func 9), args := #[Operand.tmp 20], argTypes := #[24] }, type := 24, pos := "law.go:26", after := #[{ on := 4, ground := Ground.data }, { on := 3, ground := Ground.chain }], guard := none }) rfl (fun K hK => ?_) ?_
  · simp only [frX]
    have HC := Lib.hid (rclone_any (MachV.fillU (hs.grown h.g)) (by decide) (by decide +kernel))
    go_simp
    refine HC.out.mono ?_
    rintro e W' ⟨v', rfl, ⟨u', rfl, hso⟩, hg⟩
    have h' := h.call hso hg
    refine hK.out _ _ (held_of hm h'.g) (fun _ => ?_)
    refine to_listed (l' := #[true, true, true, true, true, true, true, true, false, false, false, false]) (by kernel_rfl) rfl (st_3_3 hm hs hfin h')
  refine AllReadyH.cons (o := { dst := some 4, op := Op.alloc 24, type := 0, pos := "law.go:26", after := #[], guard := none }) rfl (fun K hK => ?_) ?_
  · simp only [frX]
    have h' := h.alloc.perm (bs' := [g2, g3, W.heap.size]) ((List.perm_append_comm (l₁ := [_]) (l₂ := [_, _])))
    go_simp
    refine hK.out _ _ (held_of hm h'.g) (fun _ => ?_)
    refine to_listed (l' := #[true, true, true, true, true, false, true, true, true, false, false, false]) (by kernel_rfl) rfl (st_2_7 hm hs hfin h')
  exact AllReadyH.nil
set_option maxRecDepth 20000 in
set_option maxHeartbeats 4000000 in
theorem st_2_5 {Q : Exit → Act → World → Prop} {w0 : World} {gm : Nat} {um : Value} (hm : BoxAt w0 gm exM um) (hs : StSl w0 um exM.states) (hfin : ∀ (W : World) (u1 u2 u3 : Value) (g2 g3 g4 l1 h1 l2 h2 l3 h3 : Nat), Trio w0 W u1 u2 u3 g2 g3 g4 l1 h1 l2 h2 l3 h3 → Q .normal (frX gm um (ptX g2) (ptX g3) (ptX g4) (cpX u1) (cpX u2) (cpX u3)) W) {W : World} {l1 h1 l2 h2 : Nat} {u1 u2 : Value} {g2 g4 : Nat} (h : Fct w0 W [(l1, h1, u1), (l2, h2, u2)] [g2, g4]) :
    wpAnyH Tryz.prog .any opsX Q (fun W' : World => W'.cell? ⟨gm, 0, none⟩ = some (.int .i64 exM.kind) ∧ W'.cell? ⟨gm, 1, none⟩ = some (.int .i64 exM.start) ∧ W'.cell? ⟨gm, 2, none⟩ = some (.string exM.lead) ∧ W'.cell? ⟨gm, 3, none⟩ = some um) 5 #[true, true, true, true, true, false, true, false, true, false, false, false] (frX gm um (ptX g2) undef (ptX g4) (cpX u1) (cpX u2) undef) W := by
  refine wpAnyH_ready (rs := [5, 7]) (by kernel_rfl) (by simp) ?_
  refine AllReadyH.cons (o := { dst := some 21, op := Op.call { callee := Callee.value (Operand.func 9), args := #[Operand.tmp 20], argTypes := #[24] }, type := 24, pos := "law.go:26", after := #[{ on := 4, ground := Ground.data }, { on := 3, ground := Ground.chain }], guard := none }) rfl (fun K hK => ?_) ?_
  · simp only [frX]
    have HC := Lib.hid (rclone_any (MachV.fillU (hs.grown h.g)) (by decide) (by decide +kernel))
    go_simp
    refine HC.out.mono ?_
    rintro e W' ⟨v', rfl, ⟨u', rfl, hso⟩, hg⟩
    have h' := h.call hso hg
    refine hK.out _ _ (held_of hm h'.g) (fun _ => ?_)
    refine to_listed (l' := #[true, true, true, true, true, true, true, false, true, false, false, false]) (by kernel_rfl) rfl (st_3_5 hm hs hfin h')
  refine AllReadyH.cons (o := { dst := some 3, op := Op.alloc 24, type := 0, pos := "law.go:26", after := #[], guard := none }) rfl (fun K hK => ?_) ?_
  · simp only [frX]
    have h' := h.alloc.perm (bs' := [g2, W.heap.size, g4]) (List.Perm.swap _ _ _)
    go_simp
    refine hK.out _ _ (held_of hm h'.g) (fun _ => ?_)
    refine to_listed (l' := #[true, true, true, true, true, false, true, true, true, false, false, false]) (by kernel_rfl) rfl (st_2_7 hm hs hfin h')
  exact AllReadyH.nil
set_option maxRecDepth 20000 in
set_option maxHeartbeats 4000000 in
theorem st_2_6 {Q : Exit → Act → World → Prop} {w0 : World} {gm : Nat} {um : Value} (hm : BoxAt w0 gm exM um) (hs : StSl w0 um exM.states) (hfin : ∀ (W : World) (u1 u2 u3 : Value) (g2 g3 g4 l1 h1 l2 h2 l3 h3 : Nat), Trio w0 W u1 u2 u3 g2 g3 g4 l1 h1 l2 h2 l3 h3 → Q .normal (frX gm um (ptX g2) (ptX g3) (ptX g4) (cpX u1) (cpX u2) (cpX u3)) W) {W : World} {l1 h1 l2 h2 : Nat} {u1 u2 : Value} {g3 g4 : Nat} (h : Fct w0 W [(l1, h1, u1), (l2, h2, u2)] [g3, g4]) :
    wpAnyH Tryz.prog .any opsX Q (fun W' : World => W'.cell? ⟨gm, 0, none⟩ = some (.int .i64 exM.kind) ∧ W'.cell? ⟨gm, 1, none⟩ = some (.int .i64 exM.start) ∧ W'.cell? ⟨gm, 2, none⟩ = some (.string exM.lead) ∧ W'.cell? ⟨gm, 3, none⟩ = some um) 5 #[true, true, true, true, true, false, false, true, true, false, false, false] (frX gm um undef (ptX g3) (ptX g4) (cpX u1) (cpX u2) undef) W := by
  refine wpAnyH_ready (rs := [5, 6]) (by kernel_rfl) (by simp) ?_
  refine AllReadyH.cons (o := { dst := some 21, op := Op.call { callee := Callee.value (Operand.func 9), args := #[Operand.tmp 20], argTypes := #[24] }, type := 24, pos := "law.go:26", after := #[{ on := 4, ground := Ground.data }, { on := 3, ground := Ground.chain }], guard := none }) rfl (fun K hK => ?_) ?_
  · simp only [frX]
    have HC := Lib.hid (rclone_any (MachV.fillU (hs.grown h.g)) (by decide) (by decide +kernel))
    go_simp
    refine HC.out.mono ?_
    rintro e W' ⟨v', rfl, ⟨u', rfl, hso⟩, hg⟩
    have h' := h.call hso hg
    refine hK.out _ _ (held_of hm h'.g) (fun _ => ?_)
    refine to_listed (l' := #[true, true, true, true, true, true, false, true, true, false, false, false]) (by kernel_rfl) rfl (st_3_6 hm hs hfin h')
  refine AllReadyH.cons (o := { dst := some 2, op := Op.alloc 24, type := 0, pos := "law.go:26", after := #[], guard := none }) rfl (fun K hK => ?_) ?_
  · simp only [frX]
    have h' := h.alloc.perm (bs' := [W.heap.size, g3, g4]) (.refl _)
    go_simp
    refine hK.out _ _ (held_of hm h'.g) (fun _ => ?_)
    refine to_listed (l' := #[true, true, true, true, true, false, true, true, true, false, false, false]) (by kernel_rfl) rfl (st_2_7 hm hs hfin h')
  exact AllReadyH.nil
set_option maxRecDepth 20000 in
set_option maxHeartbeats 4000000 in
theorem st_3_1 {Q : Exit → Act → World → Prop} {w0 : World} {gm : Nat} {um : Value} (hm : BoxAt w0 gm exM um) (hs : StSl w0 um exM.states) (hfin : ∀ (W : World) (u1 u2 u3 : Value) (g2 g3 g4 l1 h1 l2 h2 l3 h3 : Nat), Trio w0 W u1 u2 u3 g2 g3 g4 l1 h1 l2 h2 l3 h3 → Q .normal (frX gm um (ptX g2) (ptX g3) (ptX g4) (cpX u1) (cpX u2) (cpX u3)) W) {W : World} {l1 h1 l2 h2 l3 h3 : Nat} {u1 u2 u3 : Value} {g2 : Nat} (h : Fct w0 W [(l1, h1, u1), (l2, h2, u2), (l3, h3, u3)] [g2]) :
    wpAnyH Tryz.prog .any opsX Q (fun W' : World => W'.cell? ⟨gm, 0, none⟩ = some (.int .i64 exM.kind) ∧ W'.cell? ⟨gm, 1, none⟩ = some (.int .i64 exM.start) ∧ W'.cell? ⟨gm, 2, none⟩ = some (.string exM.lead) ∧ W'.cell? ⟨gm, 3, none⟩ = some um) 5 #[true, true, true, true, true, true, true, false, false, false, false, false] (frX gm um (ptX g2) undef undef (cpX u1) (cpX u2) (cpX u3)) W := by
  refine wpAnyH_ready (rs := [7, 8]) (by kernel_rfl) (by simp) ?_
  refine AllReadyH.cons (o := { dst := some 3, op := Op.alloc 24, type := 0, pos := "law.go:26", after := #[], guard := none }) rfl (fun K hK => ?_) ?_
  · simp only [frX]
    have h' := h.alloc.perm (bs' := [g2, W.heap.size]) (List.Perm.swap _ _ _)
    go_simp
    refine hK.out _ _ (held_of hm h'.g) (fun _ => ?_)
    refine to_listed (l' := #[true, true, true, true, true, true, true, true, false, false, false, false]) (by kernel_rfl) rfl (st_3_3 hm hs hfin h')
  refine AllReadyH.cons (o := { dst := some 4, op := Op.alloc 24, type := 0, pos := "law.go:26", after := #[], guard := none }) rfl (fun K hK => ?_) ?_
  · simp only [frX]
    have h' := h.alloc.perm (bs' := [g2, W.heap.size]) (List.Perm.swap _ _ _)
    go_simp
    refine hK.out _ _ (held_of hm h'.g) (fun _ => ?_)
    refine to_listed (l' := #[true, true, true, true, true, true, true, false, true, false, false, false]) (by kernel_rfl) rfl (st_3_5 hm hs hfin h')
  exact AllReadyH.nil
set_option maxRecDepth 20000 in
set_option maxHeartbeats 4000000 in
theorem st_3_2 {Q : Exit → Act → World → Prop} {w0 : World} {gm : Nat} {um : Value} (hm : BoxAt w0 gm exM um) (hs : StSl w0 um exM.states) (hfin : ∀ (W : World) (u1 u2 u3 : Value) (g2 g3 g4 l1 h1 l2 h2 l3 h3 : Nat), Trio w0 W u1 u2 u3 g2 g3 g4 l1 h1 l2 h2 l3 h3 → Q .normal (frX gm um (ptX g2) (ptX g3) (ptX g4) (cpX u1) (cpX u2) (cpX u3)) W) {W : World} {l1 h1 l2 h2 l3 h3 : Nat} {u1 u2 u3 : Value} {g3 : Nat} (h : Fct w0 W [(l1, h1, u1), (l2, h2, u2), (l3, h3, u3)] [g3]) :
    wpAnyH Tryz.prog .any opsX Q (fun W' : World => W'.cell? ⟨gm, 0, none⟩ = some (.int .i64 exM.kind) ∧ W'.cell? ⟨gm, 1, none⟩ = some (.int .i64 exM.start) ∧ W'.cell? ⟨gm, 2, none⟩ = some (.string exM.lead) ∧ W'.cell? ⟨gm, 3, none⟩ = some um) 5 #[true, true, true, true, true, true, false, true, false, false, false, false] (frX gm um undef (ptX g3) undef (cpX u1) (cpX u2) (cpX u3)) W := by
  refine wpAnyH_ready (rs := [6, 8]) (by kernel_rfl) (by simp) ?_
  refine AllReadyH.cons (o := { dst := some 2, op := Op.alloc 24, type := 0, pos := "law.go:26", after := #[], guard := none }) rfl (fun K hK => ?_) ?_
  · simp only [frX]
    have h' := h.alloc.perm (bs' := [W.heap.size, g3]) (.refl _)
    go_simp
    refine hK.out _ _ (held_of hm h'.g) (fun _ => ?_)
    refine to_listed (l' := #[true, true, true, true, true, true, true, true, false, false, false, false]) (by kernel_rfl) rfl (st_3_3 hm hs hfin h')
  refine AllReadyH.cons (o := { dst := some 4, op := Op.alloc 24, type := 0, pos := "law.go:26", after := #[], guard := none }) rfl (fun K hK => ?_) ?_
  · simp only [frX]
    have h' := h.alloc.perm (bs' := [g3, W.heap.size]) (List.Perm.swap _ _ _)
    go_simp
    refine hK.out _ _ (held_of hm h'.g) (fun _ => ?_)
    refine to_listed (l' := #[true, true, true, true, true, true, false, true, true, false, false, false]) (by kernel_rfl) rfl (st_3_6 hm hs hfin h')
  exact AllReadyH.nil
set_option maxRecDepth 20000 in
set_option maxHeartbeats 4000000 in
theorem st_3_4 {Q : Exit → Act → World → Prop} {w0 : World} {gm : Nat} {um : Value} (hm : BoxAt w0 gm exM um) (hs : StSl w0 um exM.states) (hfin : ∀ (W : World) (u1 u2 u3 : Value) (g2 g3 g4 l1 h1 l2 h2 l3 h3 : Nat), Trio w0 W u1 u2 u3 g2 g3 g4 l1 h1 l2 h2 l3 h3 → Q .normal (frX gm um (ptX g2) (ptX g3) (ptX g4) (cpX u1) (cpX u2) (cpX u3)) W) {W : World} {l1 h1 l2 h2 l3 h3 : Nat} {u1 u2 u3 : Value} {g4 : Nat} (h : Fct w0 W [(l1, h1, u1), (l2, h2, u2), (l3, h3, u3)] [g4]) :
    wpAnyH Tryz.prog .any opsX Q (fun W' : World => W'.cell? ⟨gm, 0, none⟩ = some (.int .i64 exM.kind) ∧ W'.cell? ⟨gm, 1, none⟩ = some (.int .i64 exM.start) ∧ W'.cell? ⟨gm, 2, none⟩ = some (.string exM.lead) ∧ W'.cell? ⟨gm, 3, none⟩ = some um) 5 #[true, true, true, true, true, true, false, false, true, false, false, false] (frX gm um undef undef (ptX g4) (cpX u1) (cpX u2) (cpX u3)) W := by
  refine wpAnyH_ready (rs := [6, 7]) (by kernel_rfl) (by simp) ?_
  refine AllReadyH.cons (o := { dst := some 2, op := Op.alloc 24, type := 0, pos := "law.go:26", after := #[], guard := none }) rfl (fun K hK => ?_) ?_
  · simp only [frX]
    have h' := h.alloc.perm (bs' := [W.heap.size, g4]) (.refl _)
    go_simp
    refine hK.out _ _ (held_of hm h'.g) (fun _ => ?_)
    refine to_listed (l' := #[true, true, true, true, true, true, true, false, true, false, false, false]) (by kernel_rfl) rfl (st_3_5 hm hs hfin h')
  refine AllReadyH.cons (o := { dst := some 3, op := Op.alloc 24, type := 0, pos := "law.go:26", after := #[], guard := none }) rfl (fun K hK => ?_) ?_
  · simp only [frX]
    have h' := h.alloc.perm (bs' := [W.heap.size, g4]) (.refl _)
    go_simp
    refine hK.out _ _ (held_of hm h'.g) (fun _ => ?_)
    refine to_listed (l' := #[true, true, true, true, true, true, false, true, true, false, false, false]) (by kernel_rfl) rfl (st_3_6 hm hs hfin h')
  exact AllReadyH.nil
set_option maxRecDepth 20000 in
set_option maxHeartbeats 4000000 in
theorem st_0_7 {Q : Exit → Act → World → Prop} {w0 : World} {gm : Nat} {um : Value} (hm : BoxAt w0 gm exM um) (hs : StSl w0 um exM.states) (hfin : ∀ (W : World) (u1 u2 u3 : Value) (g2 g3 g4 l1 h1 l2 h2 l3 h3 : Nat), Trio w0 W u1 u2 u3 g2 g3 g4 l1 h1 l2 h2 l3 h3 → Q .normal (frX gm um (ptX g2) (ptX g3) (ptX g4) (cpX u1) (cpX u2) (cpX u3)) W) {W : World} {g2 g3 g4 : Nat} (h : Fct w0 W [] [g2, g3, g4]) :
    wpAnyH Tryz.prog .any opsX Q (fun W' : World => W'.cell? ⟨gm, 0, none⟩ = some (.int .i64 exM.kind) ∧ W'.cell? ⟨gm, 1, none⟩ = some (.int .i64 exM.start) ∧ W'.cell? ⟨gm, 2, none⟩ = some (.string exM.lead) ∧ W'.cell? ⟨gm, 3, none⟩ = some um) 6 #[true, false, true, false, true, false, true, true, true, false, false, false] (frX gm um (ptX g2) (ptX g3) (ptX g4) undef undef undef) W := by
  refine wpAnyH_ready (rs := [1]) (by kernel_rfl) (by simp) ?_
  refine AllReadyH.cons (o := { dst := some 17, op := Op.call { callee := Callee.value (Operand.func 9), args := #[Operand.tmp 16], argTypes := #[24] }, type := 24, pos := "law.go:26", after := #[{ on := 0, ground := Ground.data }], guard := none }) rfl (fun K hK => ?_) ?_
  · simp only [frX]
    have HC := Lib.hid (rclone_any (MachV.fillU (hs.grown h.g)) (by decide) (by decide +kernel))
    go_simp
    refine HC.out.mono ?_
    rintro e W' ⟨v', rfl, ⟨u', rfl, hso⟩, hg⟩
    have h' := h.call hso hg
    refine hK.out _ _ (held_of hm h'.g) (fun _ => ?_)
    refine to_listed (l' := #[true, true, true, false, true, false, true, true, true, false, false, false]) (by kernel_rfl) rfl (st_1_7 hm hs hfin h')
  exact AllReadyH.nil
set_option maxRecDepth 20000 in
set_option maxHeartbeats 4000000 in
theorem st_1_3 {Q : Exit → Act → World → Prop} {w0 : World} {gm : Nat} {um : Value} (hm : BoxAt w0 gm exM um) (hs : StSl w0 um exM.states) (hfin : ∀ (W : World) (u1 u2 u3 : Value) (g2 g3 g4 l1 h1 l2 h2 l3 h3 : Nat), Trio w0 W u1 u2 u3 g2 g3 g4 l1 h1 l2 h2 l3 h3 → Q .normal (frX gm um (ptX g2) (ptX g3) (ptX g4) (cpX u1) (cpX u2) (cpX u3)) W) {W : World} {l1 h1 : Nat} {u1 : Value} {g2 g3 : Nat} (h : Fct w0 W [(l1, h1, u1)] [g2, g3]) :
    wpAnyH Tryz.prog .any opsX Q (fun W' : World => W'.cell? ⟨gm, 0, none⟩ = some (.int .i64 exM.kind) ∧ W'.cell? ⟨gm, 1, none⟩ = some (.int .i64 exM.start) ∧ W'.cell? ⟨gm, 2, none⟩ = some (.string exM.lead) ∧ W'.cell? ⟨gm, 3, none⟩ = some um) 6 #[true, true, true, false, true, false, true, true, false, false, false, false] (frX gm um (ptX g2) (ptX g3) undef (cpX u1) undef undef) W := by
  refine wpAnyH_ready (rs := [3, 8]) (by kernel_rfl) (by simp) ?_
  refine AllReadyH.cons (o := { dst := some 19, op := Op.call { callee := Callee.value (Operand.func 9), args := #[Operand.tmp 18], argTypes := #[24] }, type := 24, pos := "law.go:26", after := #[{ on := 2, ground := Ground.data }, { on := 1, ground := Ground.chain }], guard := none }) rfl (fun K hK => ?_) ?_
  · simp only [frX]
    have HC := Lib.hid (rclone_any (MachV.fillU (hs.grown h.g)) (by decide) (by decide +kernel))
    go_simp
    refine HC.out.mono ?_
    rintro e W' ⟨v', rfl, ⟨u', rfl, hso⟩, hg⟩
    have h' := h.call hso hg
    refine hK.out _ _ (held_of hm h'.g) (fun _ => ?_)
    refine to_listed (l' := #[true, true, true, true, true, false, true, true, false, false, false, false]) (by kernel_rfl) rfl (st_2_3 hm hs hfin h')
  refine AllReadyH.cons (o := { dst := some 4, op := Op.alloc 24, type := 0, pos := "law.go:26", after := #[], guard := none }) rfl (fun K hK => ?_) ?_
  · simp only [frX]
    have h' := h.alloc.perm (bs' := [g2, g3, W.heap.size]) ((List.perm_append_comm (l₁ := [_]) (l₂ := [_, _])))
    go_simp
    refine hK.out _ _ (held_of hm h'.g) (fun _ => ?_)
    refine to_listed (l' := #[true, true, true, false, true, false, true, true, true, false, false, false]) (by kernel_rfl) rfl (st_1_7 hm hs hfin h')
  exact AllReadyH.nil
set_option maxRecDepth 20000 in
set_option maxHeartbeats 4000000 in
theorem st_1_5 {Q : Exit → Act → World → Prop} {w0 : World} {gm : Nat} {um : Value} (hm : BoxAt w0 gm exM um) (hs : StSl w0 um exM.states) (hfin : ∀ (W : World) (u1 u2 u3 : Value) (g2 g3 g4 l1 h1 l2 h2 l3 h3 : Nat), Trio w0 W u1 u2 u3 g2 g3 g4 l1 h1 l2 h2 l3 h3 → Q .normal (frX gm um (ptX g2) (ptX g3) (ptX g4) (cpX u1) (cpX u2) (cpX u3)) W) {W : World} {l1 h1 : Nat} {u1 : Value} {g2 g4 : Nat} (h : Fct w0 W [(l1, h1, u1)] [g2, g4]) :
    wpAnyH Tryz.prog .any opsX Q (fun W' : World => W'.cell? ⟨gm, 0, none⟩ = some (.int .i64 exM.kind) ∧ W'.cell? ⟨gm, 1, none⟩ = some (.int .i64 exM.start) ∧ W'.cell? ⟨gm, 2, none⟩ = some (.string exM.lead) ∧ W'.cell? ⟨gm, 3, none⟩ = some um) 6 #[true, true, true, false, true, false, true, false, true, false, false, false] (frX gm um (ptX g2) undef (ptX g4) (cpX u1) undef undef) W := by
  refine wpAnyH_ready (rs := [3, 7]) (by kernel_rfl) (by simp) ?_
  refine AllReadyH.cons (o := { dst := some 19, op := Op.call { callee := Callee.value (Operand.func 9), args := #[Operand.tmp 18], argTypes := #[24] }, type := 24, pos := "law.go:26", after := #[{ on := 2, ground := Ground.data }, { on := 1, ground := Ground.chain }], guard := none }) rfl (fun K hK => ?_) ?_
  · simp only [frX]
    have HC := Lib.hid (rclone_any (MachV.fillU (hs.grown h.g)) (by decide) (by decide +kernel))
    go_simp
    refine HC.out.mono ?_
    rintro e W' ⟨v', rfl, ⟨u', rfl, hso⟩, hg⟩
    have h' := h.call hso hg
    refine hK.out _ _ (held_of hm h'.g) (fun _ => ?_)
    refine to_listed (l' := #[true, true, true, true, true, false, true, false, true, false, false, false]) (by kernel_rfl) rfl (st_2_5 hm hs hfin h')
  refine AllReadyH.cons (o := { dst := some 3, op := Op.alloc 24, type := 0, pos := "law.go:26", after := #[], guard := none }) rfl (fun K hK => ?_) ?_
  · simp only [frX]
    have h' := h.alloc.perm (bs' := [g2, W.heap.size, g4]) (List.Perm.swap _ _ _)
    go_simp
    refine hK.out _ _ (held_of hm h'.g) (fun _ => ?_)
    refine to_listed (l' := #[true, true, true, false, true, false, true, true, true, false, false, false]) (by kernel_rfl) rfl (st_1_7 hm hs hfin h')
  exact AllReadyH.nil
set_option maxRecDepth 20000 in
set_option maxHeartbeats 4000000 in
theorem st_1_6 {Q : Exit → Act → World → Prop} {w0 : World} {gm : Nat} {um : Value} (hm : BoxAt w0 gm exM um) (hs : StSl w0 um exM.states) (hfin : ∀ (W : World) (u1 u2 u3 : Value) (g2 g3 g4 l1 h1 l2 h2 l3 h3 : Nat), Trio w0 W u1 u2 u3 g2 g3 g4 l1 h1 l2 h2 l3 h3 → Q .normal (frX gm um (ptX g2) (ptX g3) (ptX g4) (cpX u1) (cpX u2) (cpX u3)) W) {W : World} {l1 h1 : Nat} {u1 : Value} {g3 g4 : Nat} (h : Fct w0 W [(l1, h1, u1)] [g3, g4]) :
    wpAnyH Tryz.prog .any opsX Q (fun W' : World => W'.cell? ⟨gm, 0, none⟩ = some (.int .i64 exM.kind) ∧ W'.cell? ⟨gm, 1, none⟩ = some (.int .i64 exM.start) ∧ W'.cell? ⟨gm, 2, none⟩ = some (.string exM.lead) ∧ W'.cell? ⟨gm, 3, none⟩ = some um) 6 #[true, true, true, false, true, false, false, true, true, false, false, false] (frX gm um undef (ptX g3) (ptX g4) (cpX u1) undef undef) W := by
  refine wpAnyH_ready (rs := [3, 6]) (by kernel_rfl) (by simp) ?_
  refine AllReadyH.cons (o := { dst := some 19, op := Op.call { callee := Callee.value (Operand.func 9), args := #[Operand.tmp 18], argTypes := #[24] }, type := 24, pos := "law.go:26", after := #[{ on := 2, ground := Ground.data }, { on := 1, ground := Ground.chain }], guard := none }) rfl (fun K hK => ?_) ?_
  · simp only [frX]
    have HC := Lib.hid (rclone_any (MachV.fillU (hs.grown h.g)) (by decide) (by decide +kernel))
    go_simp
    refine HC.out.mono ?_
    rintro e W' ⟨v', rfl, ⟨u', rfl, hso⟩, hg⟩
    have h' := h.call hso hg
    refine hK.out _ _ (held_of hm h'.g) (fun _ => ?_)
    refine to_listed (l' := #[true, true, true, true, true, false, false, true, true, false, false, false]) (by kernel_rfl) rfl (st_2_6 hm hs hfin h')
  refine AllReadyH.cons (o := { dst := some 2, op := Op.alloc 24, type := 0, pos := "law.go:26", after := #[], guard := none }) rfl (fun K hK => ?_) ?_
  · simp only [frX]
    have h' := h.alloc.perm (bs' := [W.heap.size, g3, g4]) (.refl _)
    go_simp
    refine hK.out _ _ (held_of hm h'.g) (fun _ => ?_)
    refine to_listed (l' := #[true, true, true, false, true, false, true, true, true, false, false, false]) (by kernel_rfl) rfl (st_1_7 hm hs hfin h')
  exact AllReadyH.nil
set_option maxRecDepth 20000 in
set_option maxHeartbeats 4000000 in
theorem st_2_1 {Q : Exit → Act → World → Prop} {w0 : World} {gm : Nat} {um : Value} (hm : BoxAt w0 gm exM um) (hs : StSl w0 um exM.states) (hfin : ∀ (W : World) (u1 u2 u3 : Value) (g2 g3 g4 l1 h1 l2 h2 l3 h3 : Nat), Trio w0 W u1 u2 u3 g2 g3 g4 l1 h1 l2 h2 l3 h3 → Q .normal (frX gm um (ptX g2) (ptX g3) (ptX g4) (cpX u1) (cpX u2) (cpX u3)) W) {W : World} {l1 h1 l2 h2 : Nat} {u1 u2 : Value} {g2 : Nat} (h : Fct w0 W [(l1, h1, u1), (l2, h2, u2)] [g2]) :
    wpAnyH Tryz.prog .any opsX Q (fun W' : World => W'.cell? ⟨gm, 0, none⟩ = some (.int .i64 exM.kind) ∧ W'.cell? ⟨gm, 1, none⟩ = some (.int .i64 exM.start) ∧ W'.cell? ⟨gm, 2, none⟩ = some (.string exM.lead) ∧ W'.cell? ⟨gm, 3, none⟩ = some um) 6 #[true, true, true, true, true, false, true, false, false, false, false, false] (frX gm um (ptX g2) undef undef (cpX u1) (cpX u2) undef) W := by
  refine wpAnyH_ready (rs := [5, 7, 8]) (by kernel_rfl) (by simp) ?_
  refine AllReadyH.cons (o := { dst := some 21, op := Op.call { callee := Callee.value (Operand.func 9), args := #[Operand.tmp 20], argTypes := #[24] }, type := 24, pos := "law.go:26", after := #[{ on := 4, ground := Ground.data }, { on := 3, ground := Ground.chain }], guard := none }) rfl (fun K hK => ?_) ?_
  · simp only [frX]
    have HC := Lib.hid (rclone_any (MachV.fillU (hs.grown h.g)) (by decide) (by decide +kernel))
    go_simp
    refine HC.out.mono ?_
    rintro e W' ⟨v', rfl, ⟨u', rfl, hso⟩, hg⟩
    have h' := h.call hso hg
    refine hK.out _ _ (held_of hm h'.g) (fun _ => ?_)
    refine to_listed (l' := #[true, true, true, true, true, true, true, false, false, false, false, false]) (by kernel_rfl) rfl (st_3_1 hm hs hfin h')
  refine AllReadyH.cons (o := { dst := some 3, op := Op.alloc 24, type := 0, pos := "law.go:26", after := #[], guard := none }) rfl (fun K hK => ?_) ?_
  · simp only [frX]
    have h' := h.alloc.perm (bs' := [g2, W.heap.size]) (List.Perm.swap _ _ _)
    go_simp
    refine hK.out _ _ (held_of hm h'.g) (fun _ => ?_)
    refine to_listed (l' := #[true, true, true, true, true, false, true, true, false, false, false, false]) (by kernel_rfl) rfl (st_2_3 hm hs hfin h')
  refine AllReadyH.cons (o := { dst := some 4, op := Op.alloc 24, type := 0, pos := "law.go:26", after := #[], guard := none }) rfl (fun K hK => ?_) ?_
  · simp only [frX]
    have h' := h.alloc.perm (bs' := [g2, W.heap.size]) (List.Perm.swap _ _ _)
    go_simp
    refine hK.out _ _ (held_of hm h'.g) (fun _ => ?_)
    refine to_listed (l' := #[true, true, true, true, true, false, true, false, true, false, false, false]) (by kernel_rfl) rfl (st_2_5 hm hs hfin h')
  exact AllReadyH.nil
set_option maxRecDepth 20000 in
set_option maxHeartbeats 4000000 in
theorem st_2_2 {Q : Exit → Act → World → Prop} {w0 : World} {gm : Nat} {um : Value} (hm : BoxAt w0 gm exM um) (hs : StSl w0 um exM.states) (hfin : ∀ (W : World) (u1 u2 u3 : Value) (g2 g3 g4 l1 h1 l2 h2 l3 h3 : Nat), Trio w0 W u1 u2 u3 g2 g3 g4 l1 h1 l2 h2 l3 h3 → Q .normal (frX gm um (ptX g2) (ptX g3) (ptX g4) (cpX u1) (cpX u2) (cpX u3)) W) {W : World} {l1 h1 l2 h2 : Nat} {u1 u2 : Value} {g3 : Nat} (h : Fct w0 W [(l1, h1, u1), (l2, h2, u2)] [g3]) :
    wpAnyH Tryz.prog .any opsX Q (fun W' : World => W'.cell? ⟨gm, 0, none⟩ = some (.int .i64 exM.kind) ∧ W'.cell? ⟨gm, 1, none⟩ = some (.int .i64 exM.start) ∧ W'.cell? ⟨gm, 2, none⟩ = some (.string exM.lead) ∧ W'.cell? ⟨gm, 3, none⟩ = some um) 6 #[true, true, true, true, true, false, false, true, false, false, false, false] (frX gm um undef (ptX g3) undef (cpX u1) (cpX u2) undef) W := by
  refine wpAnyH_ready (rs := [5, 6, 8]) (by kernel_rfl) (by simp) ?_
  refine AllReadyH.cons (o := { dst := some 21, op := Op.call { callee := Callee.value (Operand.func 9), args := #[Operand.tmp 20], argTypes := #[24] }, type := 24, pos := "law.go:26", after := #[{ on := 4, ground := Ground.data }, { on := 3, ground := Ground.chain }], guard := none }) rfl (fun K hK => ?_) ?_
  · simp only [frX]
    have HC := Lib.hid (rclone_any (MachV.fillU (hs.grown h.g)) (by decide) (by decide +kernel))
    go_simp
    refine HC.out.mono ?_
    rintro e W' ⟨v', rfl, ⟨u', rfl, hso⟩, hg⟩
    have h' := h.call hso hg
    refine hK.out _ _ (held_of hm h'.g) (fun _ => ?_)
    refine to_listed (l' := #[true, true, true, true, true, true, false, true, false, false, false, false]) (by kernel_rfl) rfl (st_3_2 hm hs hfin h')
  refine AllReadyH.cons (o := { dst := some 2, op := Op.alloc 24, type := 0, pos := "law.go:26", after := #[], guard := none }) rfl (fun K hK => ?_) ?_
  · simp only [frX]
    have h' := h.alloc.perm (bs' := [W.heap.size, g3]) (.refl _)
    go_simp
    refine hK.out _ _ (held_of hm h'.g) (fun _ => ?_)
    refine to_listed (l' := #[true, true, true, true, true, false, true, true, false, false, false, false]) (by kernel_rfl) rfl (st_2_3 hm hs hfin h')
  refine AllReadyH.cons (o := { dst := some 4, op := Op.alloc 24, type := 0, pos := "law.go:26", after := #[], guard := none }) rfl (fun K hK => ?_) ?_
  · simp only [frX]
    have h' := h.alloc.perm (bs' := [g3, W.heap.size]) (List.Perm.swap _ _ _)
    go_simp
    refine hK.out _ _ (held_of hm h'.g) (fun _ => ?_)
    refine to_listed (l' := #[true, true, true, true, true, false, false, true, true, false, false, false]) (by kernel_rfl) rfl (st_2_6 hm hs hfin h')
  exact AllReadyH.nil
set_option maxRecDepth 20000 in
set_option maxHeartbeats 4000000 in
theorem st_2_4 {Q : Exit → Act → World → Prop} {w0 : World} {gm : Nat} {um : Value} (hm : BoxAt w0 gm exM um) (hs : StSl w0 um exM.states) (hfin : ∀ (W : World) (u1 u2 u3 : Value) (g2 g3 g4 l1 h1 l2 h2 l3 h3 : Nat), Trio w0 W u1 u2 u3 g2 g3 g4 l1 h1 l2 h2 l3 h3 → Q .normal (frX gm um (ptX g2) (ptX g3) (ptX g4) (cpX u1) (cpX u2) (cpX u3)) W) {W : World} {l1 h1 l2 h2 : Nat} {u1 u2 : Value} {g4 : Nat} (h : Fct w0 W [(l1, h1, u1), (l2, h2, u2)] [g4]) :
    wpAnyH Tryz.prog .any opsX Q (fun W' : World => W'.cell? ⟨gm, 0, none⟩ = some (.int .i64 exM.kind) ∧ W'.cell? ⟨gm, 1, none⟩ = some (.int .i64 exM.start) ∧ W'.cell? ⟨gm, 2, none⟩ = some (.string exM.lead) ∧ W'.cell? ⟨gm, 3, none⟩ = some um) 6 #[true, true, true, true, true, false, false, false, true, false, false, false] (frX gm um undef undef (ptX g4) (cpX u1) (cpX u2) undef) W := by
  refine wpAnyH_ready (rs := [5, 6, 7]) (by kernel_rfl) (by simp) ?_
  refine AllReadyH.cons (o := { dst := some 21, op := Op.call { callee := Callee.value (Operand.func 9), args := #[Operand.tmp 20], argTypes := #[24] }, type := 24, pos := "law.go:26", after := #[{ on := 4, ground := Ground.data }, { on := 3, ground := Ground.chain }], guard := none }) rfl (fun K hK => ?_) ?_
  · simp only [frX]
    have HC := Lib.hid (rclone_any (MachV.fillU (hs.grown h.g)) (by decide) (by decide +kernel))
    go_simp
    refine HC.out.mono ?_
    rintro e W' ⟨v', rfl, ⟨u', rfl, hso⟩, hg⟩
    have h' := h.call hso hg
    refine hK.out _ _ (held_of hm h'.g) (fun _ => ?_)
    refine to_listed (l' := #[true, true, true, true, true, true, false, false, true, false, false, false]) (by kernel_rfl) rfl (st_3_4 hm hs hfin h')
  refine AllReadyH.cons (o := { dst := some 2, op := Op.alloc 24, type := 0, pos := "law.go:26", after := #[], guard := none }) rfl (fun K hK => ?_) ?_
  · simp only [frX]
    have h' := h.alloc.perm (bs' := [W.heap.size, g4]) (.refl _)
    go_simp
    refine hK.out _ _ (held_of hm h'.g) (fun _ => ?_)
    refine to_listed (l' := #[true, true, true, true, true, false, true, false, true, false, false, false]) (by kernel_rfl) rfl (st_2_5 hm hs hfin h')
  refine AllReadyH.cons (o := { dst := some 3, op := Op.alloc 24, type := 0, pos := "law.go:26", after := #[], guard := none }) rfl (fun K hK => ?_) ?_
  · simp only [frX]
    have h' := h.alloc.perm (bs' := [W.heap.size, g4]) (.refl _)
    go_simp
    refine hK.out _ _ (held_of hm h'.g) (fun _ => ?_)
    refine to_listed (l' := #[true, true, true, true, true, false, false, true, true, false, false, false]) (by kernel_rfl) rfl (st_2_6 hm hs hfin h')
  exact AllReadyH.nil
set_option maxRecDepth 20000 in
set_option maxHeartbeats 4000000 in
theorem st_3_0 {Q : Exit → Act → World → Prop} {w0 : World} {gm : Nat} {um : Value} (hm : BoxAt w0 gm exM um) (hs : StSl w0 um exM.states) (hfin : ∀ (W : World) (u1 u2 u3 : Value) (g2 g3 g4 l1 h1 l2 h2 l3 h3 : Nat), Trio w0 W u1 u2 u3 g2 g3 g4 l1 h1 l2 h2 l3 h3 → Q .normal (frX gm um (ptX g2) (ptX g3) (ptX g4) (cpX u1) (cpX u2) (cpX u3)) W) {W : World} {l1 h1 l2 h2 l3 h3 : Nat} {u1 u2 u3 : Value} (h : Fct w0 W [(l1, h1, u1), (l2, h2, u2), (l3, h3, u3)] []) :
    wpAnyH Tryz.prog .any opsX Q (fun W' : World => W'.cell? ⟨gm, 0, none⟩ = some (.int .i64 exM.kind) ∧ W'.cell? ⟨gm, 1, none⟩ = some (.int .i64 exM.start) ∧ W'.cell? ⟨gm, 2, none⟩ = some (.string exM.lead) ∧ W'.cell? ⟨gm, 3, none⟩ = some um) 6 #[true, true, true, true, true, true, false, false, false, false, false, false] (frX gm um undef undef undef (cpX u1) (cpX u2) (cpX u3)) W := by
  refine wpAnyH_ready (rs := [6, 7, 8]) (by kernel_rfl) (by simp) ?_
  refine AllReadyH.cons (o := { dst := some 2, op := Op.alloc 24, type := 0, pos := "law.go:26", after := #[], guard := none }) rfl (fun K hK => ?_) ?_
  · simp only [frX]
    have h' := h.alloc.perm (bs' := [W.heap.size]) (.refl _)
    go_simp
    refine hK.out _ _ (held_of hm h'.g) (fun _ => ?_)
    refine to_listed (l' := #[true, true, true, true, true, true, true, false, false, false, false, false]) (by kernel_rfl) rfl (st_3_1 hm hs hfin h')
  refine AllReadyH.cons (o := { dst := some 3, op := Op.alloc 24, type := 0, pos := "law.go:26", after := #[], guard := none }) rfl (fun K hK => ?_) ?_
  · simp only [frX]
    have h' := h.alloc.perm (bs' := [W.heap.size]) (.refl _)
    go_simp
    refine hK.out _ _ (held_of hm h'.g) (fun _ => ?_)
    refine to_listed (l' := #[true, true, true, true, true, true, false, true, false, false, false, false]) (by kernel_rfl) rfl (st_3_2 hm hs hfin h')
  refine AllReadyH.cons (o := { dst := some 4, op := Op.alloc 24, type := 0, pos := "law.go:26", after := #[], guard := none }) rfl (fun K hK => ?_) ?_
  · simp only [frX]
    have h' := h.alloc.perm (bs' := [W.heap.size]) (.refl _)
    go_simp
    refine hK.out _ _ (held_of hm h'.g) (fun _ => ?_)
    refine to_listed (l' := #[true, true, true, true, true, true, false, false, true, false, false, false]) (by kernel_rfl) rfl (st_3_4 hm hs hfin h')
  exact AllReadyH.nil
set_option maxRecDepth 20000 in
set_option maxHeartbeats 4000000 in
theorem st_0_3 {Q : Exit → Act → World → Prop} {w0 : World} {gm : Nat} {um : Value} (hm : BoxAt w0 gm exM um) (hs : StSl w0 um exM.states) (hfin : ∀ (W : World) (u1 u2 u3 : Value) (g2 g3 g4 l1 h1 l2 h2 l3 h3 : Nat), Trio w0 W u1 u2 u3 g2 g3 g4 l1 h1 l2 h2 l3 h3 → Q .normal (frX gm um (ptX g2) (ptX g3) (ptX g4) (cpX u1) (cpX u2) (cpX u3)) W) {W : World} {g2 g3 : Nat} (h : Fct w0 W [] [g2, g3]) :
    wpAnyH Tryz.prog .any opsX Q (fun W' : World => W'.cell? ⟨gm, 0, none⟩ = some (.int .i64 exM.kind) ∧ W'.cell? ⟨gm, 1, none⟩ = some (.int .i64 exM.start) ∧ W'.cell? ⟨gm, 2, none⟩ = some (.string exM.lead) ∧ W'.cell? ⟨gm, 3, none⟩ = some um) 7 #[true, false, true, false, true, false, true, true, false, false, false, false] (frX gm um (ptX g2) (ptX g3) undef undef undef undef) W := by
  refine wpAnyH_ready (rs := [1, 8]) (by kernel_rfl) (by simp) ?_
  refine AllReadyH.cons (o := { dst := some 17, op := Op.call { callee := Callee.value (Operand.func 9), args := #[Operand.tmp 16], argTypes := #[24] }, type := 24, pos := "law.go:26", after := #[{ on := 0, ground := Ground.data }], guard := none }) rfl (fun K hK => ?_) ?_
  · simp only [frX]
    have HC := Lib.hid (rclone_any (MachV.fillU (hs.grown h.g)) (by decide) (by decide +kernel))
    go_simp
    refine HC.out.mono ?_
    rintro e W' ⟨v', rfl, ⟨u', rfl, hso⟩, hg⟩
    have h' := h.call hso hg
    refine hK.out _ _ (held_of hm h'.g) (fun _ => ?_)
    refine to_listed (l' := #[true, true, true, false, true, false, true, true, false, false, false, false]) (by kernel_rfl) rfl (st_1_3 hm hs hfin h')
  refine AllReadyH.cons (o := { dst := some 4, op := Op.alloc 24, type := 0, pos := "law.go:26", after := #[], guard := none }) rfl (fun K hK => ?_) ?_
  · simp only [frX]
    have h' := h.alloc.perm (bs' := [g2, g3, W.heap.size]) ((List.perm_append_comm (l₁ := [_]) (l₂ := [_, _])))
    go_simp
    refine hK.out _ _ (held_of hm h'.g) (fun _ => ?_)
    refine to_listed (l' := #[true, false, true, false, true, false, true, true, true, false, false, false]) (by kernel_rfl) rfl (st_0_7 hm hs hfin h')
  exact AllReadyH.nil
set_option maxRecDepth 20000 in
set_option maxHeartbeats 4000000 in
theorem st_0_5 {Q : Exit → Act → World → Prop} {w0 : World} {gm : Nat} {um : Value} (hm : BoxAt w0 gm exM um) (hs : StSl w0 um exM.states) (hfin : ∀ (W : World) (u1 u2 u3 : Value) (g2 g3 g4 l1 h1 l2 h2 l3 h3 : Nat), Trio w0 W u1 u2 u3 g2 g3 g4 l1 h1 l2 h2 l3 h3 → Q .normal (frX gm um (ptX g2) (ptX g3) (ptX g4) (cpX u1) (cpX u2) (cpX u3)) W) {W : World} {g2 g4 : Nat} (h : Fct w0 W [] [g2, g4]) :
    wpAnyH Tryz.prog .any opsX Q (fun W' : World => W'.cell? ⟨gm, 0, none⟩ = some (.int .i64 exM.kind) ∧ W'.cell? ⟨gm, 1, none⟩ = some (.int .i64 exM.start) ∧ W'.cell? ⟨gm, 2, none⟩ = some (.string exM.lead) ∧ W'.cell? ⟨gm, 3, none⟩ = some um) 7 #[true, false, true, false, true, false, true, false, true, false, false, false] (frX gm um (ptX g2) undef (ptX g4) undef undef undef) W := by
  refine wpAnyH_ready (rs := [1, 7]) (by kernel_rfl) (by simp) ?_
  refine AllReadyH.cons (o := { dst := some 17, op := Op.call { callee := Callee.value (Operand.func 9), args := #[Operand.tmp 16], argTypes := #[24] }, type := 24, pos := "law.go:26", after := #[{ on := 0, ground := Ground.data }], guard := none }) rfl (fun K hK => ?_) ?_
  · simp only [frX]
    have HC := Lib.hid (rclone_any (MachV.fillU (hs.grown h.g)) (by decide) (by decide +kernel))
    go_simp
    refine HC.out.mono ?_
    rintro e W' ⟨v', rfl, ⟨u', rfl, hso⟩, hg⟩
    have h' := h.call hso hg
    refine hK.out _ _ (held_of hm h'.g) (fun _ => ?_)
    refine to_listed (l' := #[true, true, true, false, true, false, true, false, true, false, false, false]) (by kernel_rfl) rfl (st_1_5 hm hs hfin h')
  refine AllReadyH.cons (o := { dst := some 3, op := Op.alloc 24, type := 0, pos := "law.go:26", after := #[], guard := none }) rfl (fun K hK => ?_) ?_
  · simp only [frX]
    have h' := h.alloc.perm (bs' := [g2, W.heap.size, g4]) (List.Perm.swap _ _ _)
    go_simp
    refine hK.out _ _ (held_of hm h'.g) (fun _ => ?_)
    refine to_listed (l' := #[true, false, true, false, true, false, true, true, true, false, false, false]) (by kernel_rfl) rfl (st_0_7 hm hs hfin h')
  exact AllReadyH.nil
set_option maxRecDepth 20000 in
set_option maxHeartbeats 4000000 in
theorem st_0_6 {Q : Exit → Act → World → Prop} {w0 : World} {gm : Nat} {um : Value} (hm : BoxAt w0 gm exM um) (hs : StSl w0 um exM.states) (hfin : ∀ (W : World) (u1 u2 u3 : Value) (g2 g3 g4 l1 h1 l2 h2 l3 h3 : Nat), Trio w0 W u1 u2 u3 g2 g3 g4 l1 h1 l2 h2 l3 h3 → Q .normal (frX gm um (ptX g2) (ptX g3) (ptX g4) (cpX u1) (cpX u2) (cpX u3)) W) {W : World} {g3 g4 : Nat} (h : Fct w0 W [] [g3, g4]) :
    wpAnyH Tryz.prog .any opsX Q (fun W' : World => W'.cell? ⟨gm, 0, none⟩ = some (.int .i64 exM.kind) ∧ W'.cell? ⟨gm, 1, none⟩ = some (.int .i64 exM.start) ∧ W'.cell? ⟨gm, 2, none⟩ = some (.string exM.lead) ∧ W'.cell? ⟨gm, 3, none⟩ = some um) 7 #[true, false, true, false, true, false, false, true, true, false, false, false] (frX gm um undef (ptX g3) (ptX g4) undef undef undef) W := by
  refine wpAnyH_ready (rs := [1, 6]) (by kernel_rfl) (by simp) ?_
  refine AllReadyH.cons (o := { dst := some 17, op := Op.call { callee := Callee.value (Operand.func 9), args := #[Operand.tmp 16], argTypes := #[24] }, type := 24, pos := "law.go:26", after := #[{ on := 0, ground := Ground.data }], guard := none }) rfl (fun K hK => ?_) ?_
  · simp only [frX]
    have HC := Lib.hid (rclone_any (MachV.fillU (hs.grown h.g)) (by decide) (by decide +kernel))
    go_simp
    refine HC.out.mono ?_
    rintro e W' ⟨v', rfl, ⟨u', rfl, hso⟩, hg⟩
    have h' := h.call hso hg
    refine hK.out _ _ (held_of hm h'.g) (fun _ => ?_)
    refine to_listed (l' := #[true, true, true, false, true, false, false, true, true, false, false, false]) (by kernel_rfl) rfl (st_1_6 hm hs hfin h')
  refine AllReadyH.cons (o := { dst := some 2, op := Op.alloc 24, type := 0, pos := "law.go:26", after := #[], guard := none }) rfl (fun K hK => ?_) ?_
  · simp only [frX]
    have h' := h.alloc.perm (bs' := [W.heap.size, g3, g4]) (.refl _)
    go_simp
    refine hK.out _ _ (held_of hm h'.g) (fun _ => ?_)
    refine to_listed (l' := #[true, false, true, false, true, false, true, true, true, false, false, false]) (by kernel_rfl) rfl (st_0_7 hm hs hfin h')
  exact AllReadyH.nil
set_option maxRecDepth 20000 in
set_option maxHeartbeats 4000000 in
theorem st_1_1 {Q : Exit → Act → World → Prop} {w0 : World} {gm : Nat} {um : Value} (hm : BoxAt w0 gm exM um) (hs : StSl w0 um exM.states) (hfin : ∀ (W : World) (u1 u2 u3 : Value) (g2 g3 g4 l1 h1 l2 h2 l3 h3 : Nat), Trio w0 W u1 u2 u3 g2 g3 g4 l1 h1 l2 h2 l3 h3 → Q .normal (frX gm um (ptX g2) (ptX g3) (ptX g4) (cpX u1) (cpX u2) (cpX u3)) W) {W : World} {l1 h1 : Nat} {u1 : Value} {g2 : Nat} (h : Fct w0 W [(l1, h1, u1)] [g2]) :
    wpAnyH Tryz.prog .any opsX Q (fun W' : World => W'.cell? ⟨gm, 0, none⟩ = some (.int .i64 exM.kind) ∧ W'.cell? ⟨gm, 1, none⟩ = some (.int .i64 exM.start) ∧ W'.cell? ⟨gm, 2, none⟩ = some (.string exM.lead) ∧ W'.cell? ⟨gm, 3, none⟩ = some um) 7 #[true, true, true, false, true, false, true, false, false, false, false, false] (frX gm um (ptX g2) undef undef (cpX u1) undef undef) W := by
  refine wpAnyH_ready (rs := [3, 7, 8]) (by kernel_rfl) (by simp) ?_
  refine AllReadyH.cons (o := { dst := some 19, op := Op.call { callee := Callee.value (Operand.func 9), args := #[Operand.tmp 18], argTypes := #[24] }, type := 24, pos := "law.go:26", after := #[{ on := 2, ground := Ground.data }, { on := 1, ground := Ground.chain }], guard := none }) rfl (fun K hK => ?_) ?_
  · simp only [frX]
    have HC := Lib.hid (rclone_any (MachV.fillU (hs.grown h.g)) (by decide) (by decide +kernel))
    go_simp
    refine HC.out.mono ?_
    rintro e W' ⟨v', rfl, ⟨u', rfl, hso⟩, hg⟩
    have h' := h.call hso hg
    refine hK.out _ _ (held_of hm h'.g) (fun _ => ?_)
    refine to_listed (l' := #[true, true, true, true, true, false, true, false, false, false, false, false]) (by kernel_rfl) rfl (st_2_1 hm hs hfin h')
  refine AllReadyH.cons (o := { dst := some 3, op := Op.alloc 24, type := 0, pos := "law.go:26", after := #[], guard := none }) rfl (fun K hK => ?_) ?_
  · simp only [frX]
    have h' := h.alloc.perm (bs' := [g2, W.heap.size]) (List.Perm.swap _ _ _)
    go_simp
    refine hK.out _ _ (held_of hm h'.g) (fun _ => ?_)
    refine to_listed (l' := #[true, true, true, false, true, false, true, true, false, false, false, false]) (by kernel_rfl) rfl (st_1_3 hm hs hfin h')
  refine AllReadyH.cons (o := { dst := some 4, op := Op.alloc 24, type := 0, pos := "law.go:26", after := #[], guard := none }) rfl (fun K hK => ?_) ?_
  · simp only [frX]
    have h' := h.alloc.perm (bs' := [g2, W.heap.size]) (List.Perm.swap _ _ _)
    go_simp
    refine hK.out _ _ (held_of hm h'.g) (fun _ => ?_)
    refine to_listed (l' := #[true, true, true, false, true, false, true, false, true, false, false, false]) (by kernel_rfl) rfl (st_1_5 hm hs hfin h')
  exact AllReadyH.nil
set_option maxRecDepth 20000 in
set_option maxHeartbeats 4000000 in
theorem st_1_2 {Q : Exit → Act → World → Prop} {w0 : World} {gm : Nat} {um : Value} (hm : BoxAt w0 gm exM um) (hs : StSl w0 um exM.states) (hfin : ∀ (W : World) (u1 u2 u3 : Value) (g2 g3 g4 l1 h1 l2 h2 l3 h3 : Nat), Trio w0 W u1 u2 u3 g2 g3 g4 l1 h1 l2 h2 l3 h3 → Q .normal (frX gm um (ptX g2) (ptX g3) (ptX g4) (cpX u1) (cpX u2) (cpX u3)) W) {W : World} {l1 h1 : Nat} {u1 : Value} {g3 : Nat} (h : Fct w0 W [(l1, h1, u1)] [g3]) :
    wpAnyH Tryz.prog .any opsX Q (fun W' : World => W'.cell? ⟨gm, 0, none⟩ = some (.int .i64 exM.kind) ∧ W'.cell? ⟨gm, 1, none⟩ = some (.int .i64 exM.start) ∧ W'.cell? ⟨gm, 2, none⟩ = some (.string exM.lead) ∧ W'.cell? ⟨gm, 3, none⟩ = some um) 7 #[true, true, true, false, true, false, false, true, false, false, false, false] (frX gm um undef (ptX g3) undef (cpX u1) undef undef) W := by
  refine wpAnyH_ready (rs := [3, 6, 8]) (by kernel_rfl) (by simp) ?_
  refine AllReadyH.cons (o := { dst := some 19, op := Op.call { callee := Callee.value (Operand.func 9), args := #[Operand.tmp 18], argTypes := #[24] }, type := 24, pos := "law.go:26", after := #[{ on := 2, ground := Ground.data }, { on := 1, ground := Ground.chain }], guard := none }) rfl (fun K hK => ?_) ?_
  · simp only [frX]
    have HC := Lib.hid (rclone_any (MachV.fillU (hs.grown h.g)) (by decide) (by decide +kernel))
    go_simp
    refine HC.out.mono ?_
    rintro e W' ⟨v', rfl, ⟨u', rfl, hso⟩, hg⟩
    have h' := h.call hso hg
    refine hK.out _ _ (held_of hm h'.g) (fun _ => ?_)
    refine to_listed (l' := #[true, true, true, true, true, false, false, true, false, false, false, false]) (by kernel_rfl) rfl (st_2_2 hm hs hfin h')
  refine AllReadyH.cons (o := { dst := some 2, op := Op.alloc 24, type := 0, pos := "law.go:26", after := #[], guard := none }) rfl (fun K hK => ?_) ?_
  · simp only [frX]
    have h' := h.alloc.perm (bs' := [W.heap.size, g3]) (.refl _)
    go_simp
    refine hK.out _ _ (held_of hm h'.g) (fun _ => ?_)
    refine to_listed (l' := #[true, true, true, false, true, false, true, true, false, false, false, false]) (by kernel_rfl) rfl (st_1_3 hm hs hfin h')
  refine AllReadyH.cons (o := { dst := some 4, op := Op.alloc 24, type := 0, pos := "law.go:26", after := #[], guard := none }) rfl (fun K hK => ?_) ?_
  · simp only [frX]
    have h' := h.alloc.perm (bs' := [g3, W.heap.size]) (List.Perm.swap _ _ _)
    go_simp
    refine hK.out _ _ (held_of hm h'.g) (fun _ => ?_)
    refine to_listed (l' := #[true, true, true, false, true, false, false, true, true, false, false, false]) (by kernel_rfl) rfl (st_1_6 hm hs hfin h')
  exact AllReadyH.nil
set_option maxRecDepth 20000 in
set_option maxHeartbeats 4000000 in
theorem st_1_4 {Q : Exit → Act → World → Prop} {w0 : World} {gm : Nat} {um : Value} (hm : BoxAt w0 gm exM um) (hs : StSl w0 um exM.states) (hfin : ∀ (W : World) (u1 u2 u3 : Value) (g2 g3 g4 l1 h1 l2 h2 l3 h3 : Nat), Trio w0 W u1 u2 u3 g2 g3 g4 l1 h1 l2 h2 l3 h3 → Q .normal (frX gm um (ptX g2) (ptX g3) (ptX g4) (cpX u1) (cpX u2) (cpX u3)) W) {W : World} {l1 h1 : Nat} {u1 : Value} {g4 : Nat} (h : Fct w0 W [(l1, h1, u1)] [g4]) :
    wpAnyH Tryz.prog .any opsX Q (fun W' : World => W'.cell? ⟨gm, 0, none⟩ = some (.int .i64 exM.kind) ∧ W'.cell? ⟨gm, 1, none⟩ = some (.int .i64 exM.start) ∧ W'.cell? ⟨gm, 2, none⟩ = some (.string exM.lead) ∧ W'.cell? ⟨gm, 3, none⟩ = some um) 7 #[true, true, true, false, true, false, false, false, true, false, false, false] (frX gm um undef undef (ptX g4) (cpX u1) undef undef) W := by
  refine wpAnyH_ready (rs := [3, 6, 7]) (by kernel_rfl) (by simp) ?_
  refine AllReadyH.cons (o := { dst := some 19, op := Op.call { callee := Callee.value (Operand.func 9), args := #[Operand.tmp 18], argTypes := #[24] }, type := 24, pos := "law.go:26", after := #[{ on := 2, ground := Ground.data }, { on := 1, ground := Ground.chain }], guard := none }) rfl (fun K hK => ?_) ?_
  · simp only [frX]
    have HC := Lib.hid (rclone_any (MachV.fillU (hs.grown h.g)) (by decide) (by decide +kernel))
    go_simp
    refine HC.out.mono ?_
    rintro e W' ⟨v', rfl, ⟨u', rfl, hso⟩, hg⟩
    have h' := h.call hso hg
    refine hK.out _ _ (held_of hm h'.g) (fun _ => ?_)
    refine to_listed (l' := #[true, true, true, true, true, false, false, false, true, false, false, false]) (by kernel_rfl) rfl (st_2_4 hm hs hfin h')
  refine AllReadyH.cons (o := { dst := some 2, op := Op.alloc 24, type := 0, pos := "law.go:26", after := #[], guard := none }) rfl (fun K hK => ?_) ?_
  · simp only [frX]
    have h' := h.alloc.perm (bs' := [W.heap.size, g4]) (.refl _)
    go_simp
    refine hK.out _ _ (held_of hm h'.g) (fun _ => ?_)
    refine to_listed (l' := #[true, true, true, false, true, false, true, false, true, false, false, false]) (by kernel_rfl) rfl (st_1_5 hm hs hfin h')
  refine AllReadyH.cons (o := { dst := some 3, op := Op.alloc 24, type := 0, pos := "law.go:26", after := #[], guard := none }) rfl (fun K hK => ?_) ?_
  · simp only [frX]
    have h' := h.alloc.perm (bs' := [W.heap.size, g4]) (.refl _)
    go_simp
    refine hK.out _ _ (held_of hm h'.g) (fun _ => ?_)
    refine to_listed (l' := #[true, true, true, false, true, false, false, true, true, false, false, false]) (by kernel_rfl) rfl (st_1_6 hm hs hfin h')
  exact AllReadyH.nil
set_option maxRecDepth 20000 in
set_option maxHeartbeats 4000000 in
theorem st_2_0 {Q : Exit → Act → World → Prop} {w0 : World} {gm : Nat} {um : Value} (hm : BoxAt w0 gm exM um) (hs : StSl w0 um exM.states) (hfin : ∀ (W : World) (u1 u2 u3 : Value) (g2 g3 g4 l1 h1 l2 h2 l3 h3 : Nat), Trio w0 W u1 u2 u3 g2 g3 g4 l1 h1 l2 h2 l3 h3 → Q .normal (frX gm um (ptX g2) (ptX g3) (ptX g4) (cpX u1) (cpX u2) (cpX u3)) W) {W : World} {l1 h1 l2 h2 : Nat} {u1 u2 : Value} (h : Fct w0 W [(l1, h1, u1), (l2, h2, u2)] []) :
    wpAnyH Tryz.prog .any opsX Q (fun W' : World => W'.cell? ⟨gm, 0, none⟩ = some (.int .i64 exM.kind) ∧ W'.cell? ⟨gm, 1, none⟩ = some (.int .i64 exM.start) ∧ W'.cell? ⟨gm, 2, none⟩ = some (.string exM.lead) ∧ W'.cell? ⟨gm, 3, none⟩ = some um) 7 #[true, true, true, true, true, false, false, false, false, false, false, false] (frX gm um undef undef undef (cpX u1) (cpX u2) undef) W := by
  refine wpAnyH_ready (rs := [5, 6, 7, 8]) (by kernel_rfl) (by simp) ?_
  refine AllReadyH.cons (o := { dst := some 21, op := Op.call { callee := Callee.value (Operand.func 9), args := #[Operand.tmp 20], argTypes := #[24] }, type := 24, pos := "law.go:26", after := #[{ on := 4, ground := Ground.data }, { on := 3, ground := Ground.chain }], guard := none }) rfl (fun K hK => ?_) ?_
  · simp only [frX]
    have HC := Lib.hid (rclone_any (MachV.fillU (hs.grown h.g)) (by decide) (by decide +kernel))
    go_simp
    refine HC.out.mono ?_
    rintro e W' ⟨v', rfl, ⟨u', rfl, hso⟩, hg⟩
    have h' := h.call hso hg
    refine hK.out _ _ (held_of hm h'.g) (fun _ => ?_)
    refine to_listed (l' := #[true, true, true, true, true, true, false, false, false, false, false, false]) (by kernel_rfl) rfl (st_3_0 hm hs hfin h')
  refine AllReadyH.cons (o := { dst := some 2, op := Op.alloc 24, type := 0, pos := "law.go:26", after := #[], guard := none }) rfl (fun K hK => ?_) ?_
  · simp only [frX]
    have h' := h.alloc.perm (bs' := [W.heap.size]) (.refl _)
    go_simp
    refine hK.out _ _ (held_of hm h'.g) (fun _ => ?_)
    refine to_listed (l' := #[true, true, true, true, true, false, true, false, false, false, false, false]) (by kernel_rfl) rfl (st_2_1 hm hs hfin h')
  refine AllReadyH.cons (o := { dst := some 3, op := Op.alloc 24, type := 0, pos := "law.go:26", after := #[], guard := none }) rfl (fun K hK => ?_) ?_
  · simp only [frX]
    have h' := h.alloc.perm (bs' := [W.heap.size]) (.refl _)
    go_simp
    refine hK.out _ _ (held_of hm h'.g) (fun _ => ?_)
    refine to_listed (l' := #[true, true, true, true, true, false, false, true, false, false, false, false]) (by kernel_rfl) rfl (st_2_2 hm hs hfin h')
  refine AllReadyH.cons (o := { dst := some 4, op := Op.alloc 24, type := 0, pos := "law.go:26", after := #[], guard := none }) rfl (fun K hK => ?_) ?_
  · simp only [frX]
    have h' := h.alloc.perm (bs' := [W.heap.size]) (.refl _)
    go_simp
    refine hK.out _ _ (held_of hm h'.g) (fun _ => ?_)
    refine to_listed (l' := #[true, true, true, true, true, false, false, false, true, false, false, false]) (by kernel_rfl) rfl (st_2_4 hm hs hfin h')
  exact AllReadyH.nil
set_option maxRecDepth 20000 in
set_option maxHeartbeats 4000000 in
theorem st_0_1 {Q : Exit → Act → World → Prop} {w0 : World} {gm : Nat} {um : Value} (hm : BoxAt w0 gm exM um) (hs : StSl w0 um exM.states) (hfin : ∀ (W : World) (u1 u2 u3 : Value) (g2 g3 g4 l1 h1 l2 h2 l3 h3 : Nat), Trio w0 W u1 u2 u3 g2 g3 g4 l1 h1 l2 h2 l3 h3 → Q .normal (frX gm um (ptX g2) (ptX g3) (ptX g4) (cpX u1) (cpX u2) (cpX u3)) W) {W : World} {g2 : Nat} (h : Fct w0 W [] [g2]) :
    wpAnyH Tryz.prog .any opsX Q (fun W' : World => W'.cell? ⟨gm, 0, none⟩ = some (.int .i64 exM.kind) ∧ W'.cell? ⟨gm, 1, none⟩ = some (.int .i64 exM.start) ∧ W'.cell? ⟨gm, 2, none⟩ = some (.string exM.lead) ∧ W'.cell? ⟨gm, 3, none⟩ = some um) 8 #[true, false, true, false, true, false, true, false, false, false, false, false] (frX gm um (ptX g2) undef undef undef undef undef) W := by
  refine wpAnyH_ready (rs := [1, 7, 8]) (by kernel_rfl) (by simp) ?_
  refine AllReadyH.cons (o := { dst := some 17, op := Op.call { callee := Callee.value (Operand.func 9), args := #[Operand.tmp 16], argTypes := #[24] }, type := 24, pos := "law.go:26", after := #[{ on := 0, ground := Ground.data }], guard := none }) rfl (fun K hK => ?_) ?_
  · simp only [frX]
    have HC := Lib.hid (rclone_any (MachV.fillU (hs.grown h.g)) (by decide) (by decide +kernel))
    go_simp
    refine HC.out.mono ?_
    rintro e W' ⟨v', rfl, ⟨u', rfl, hso⟩, hg⟩
    have h' := h.call hso hg
    refine hK.out _ _ (held_of hm h'.g) (fun _ => ?_)
    refine to_listed (l' := #[true, true, true, false, true, false, true, false, false, false, false, false]) (by kernel_rfl) rfl (st_1_1 hm hs hfin h')
  refine AllReadyH.cons (o := { dst := some 3, op := Op.alloc 24, type := 0, pos := "law.go:26", after := #[], guard := none }) rfl (fun K hK => ?_) ?_
  · simp only [frX]
    have h' := h.alloc.perm (bs' := [g2, W.heap.size]) (List.Perm.swap _ _ _)
    go_simp
    refine hK.out _ _ (held_of hm h'.g) (fun _ => ?_)
    refine to_listed (l' := #[true, false, true, false, true, false, true, true, false, false, false, false]) (by kernel_rfl) rfl (st_0_3 hm hs hfin h')
  refine AllReadyH.cons (o := { dst := some 4, op := Op.alloc 24, type := 0, pos := "law.go:26", after := #[], guard := none }) rfl (fun K hK => ?_) ?_
  · simp only [frX]
    have h' := h.alloc.perm (bs' := [g2, W.heap.size]) (List.Perm.swap _ _ _)
    go_simp
    refine hK.out _ _ (held_of hm h'.g) (fun _ => ?_)
    refine to_listed (l' := #[true, false, true, false, true, false, true, false, true, false, false, false]) (by kernel_rfl) rfl (st_0_5 hm hs hfin h')
  exact AllReadyH.nil
set_option maxRecDepth 20000 in
set_option maxHeartbeats 4000000 in
theorem st_0_2 {Q : Exit → Act → World → Prop} {w0 : World} {gm : Nat} {um : Value} (hm : BoxAt w0 gm exM um) (hs : StSl w0 um exM.states) (hfin : ∀ (W : World) (u1 u2 u3 : Value) (g2 g3 g4 l1 h1 l2 h2 l3 h3 : Nat), Trio w0 W u1 u2 u3 g2 g3 g4 l1 h1 l2 h2 l3 h3 → Q .normal (frX gm um (ptX g2) (ptX g3) (ptX g4) (cpX u1) (cpX u2) (cpX u3)) W) {W : World} {g3 : Nat} (h : Fct w0 W [] [g3]) :
    wpAnyH Tryz.prog .any opsX Q (fun W' : World => W'.cell? ⟨gm, 0, none⟩ = some (.int .i64 exM.kind) ∧ W'.cell? ⟨gm, 1, none⟩ = some (.int .i64 exM.start) ∧ W'.cell? ⟨gm, 2, none⟩ = some (.string exM.lead) ∧ W'.cell? ⟨gm, 3, none⟩ = some um) 8 #[true, false, true, false, true, false, false, true, false, false, false, false] (frX gm um undef (ptX g3) undef undef undef undef) W := by
  refine wpAnyH_ready (rs := [1, 6, 8]) (by kernel_rfl) (by simp) ?_
  refine AllReadyH.cons (o := { dst := some 17, op := Op.call { callee := Callee.value (Operand.func 9), args := #[Operand.tmp 16], argTypes := #[24] }, type := 24, pos := "law.go:26", after := #[{ on := 0, ground := Ground.data }], guard := none }) rfl (fun K hK => ?_) ?_
  · simp only [frX]
    have HC := Lib.hid (rclone_any (MachV.fillU (hs.grown h.g)) (by decide) (by decide +kernel))
    go_simp
    refine HC.out.mono ?_
    rintro e W' ⟨v', rfl, ⟨u', rfl, hso⟩, hg⟩
    have h' := h.call hso hg
    refine hK.out _ _ (held_of hm h'.g) (fun _ => ?_)
    refine to_listed (l' := #[true, true, true, false, true, false, false, true, false, false, false, false]) (by kernel_rfl) rfl (st_1_2 hm hs hfin h')
  refine AllReadyH.cons (o := { dst := some 2, op := Op.alloc 24, type := 0, pos := "law.go:26", after := #[], guard := none }) rfl (fun K hK => ?_) ?_
  · simp only [frX]
    have h' := h.alloc.perm (bs' := [W.heap.size, g3]) (.refl _)
    go_simp
    refine hK.out _ _ (held_of hm h'.g) (fun _ => ?_)
    refine to_listed (l' := #[true, false, true, false, true, false, true, true, false, false, false, false]) (by kernel_rfl) rfl (st_0_3 hm hs hfin h')
  refine AllReadyH.cons (o := { dst := some 4, op := Op.alloc 24, type := 0, pos := "law.go:26", after := #[], guard := none }) rfl (fun K hK => ?_) ?_
  · simp only [frX]
    have h' := h.alloc.perm (bs' := [g3, W.heap.size]) (List.Perm.swap _ _ _)
    go_simp
    refine hK.out _ _ (held_of hm h'.g) (fun _ => ?_)
    refine to_listed (l' := #[true, false, true, false, true, false, false, true, true, false, false, false]) (by kernel_rfl) rfl (st_0_6 hm hs hfin h')
  exact AllReadyH.nil
set_option maxRecDepth 20000 in
set_option maxHeartbeats 4000000 in
theorem st_0_4 {Q : Exit → Act → World → Prop} {w0 : World} {gm : Nat} {um : Value} (hm : BoxAt w0 gm exM um) (hs : StSl w0 um exM.states) (hfin : ∀ (W : World) (u1 u2 u3 : Value) (g2 g3 g4 l1 h1 l2 h2 l3 h3 : Nat), Trio w0 W u1 u2 u3 g2 g3 g4 l1 h1 l2 h2 l3 h3 → Q .normal (frX gm um (ptX g2) (ptX g3) (ptX g4) (cpX u1) (cpX u2) (cpX u3)) W) {W : World} {g4 : Nat} (h : Fct w0 W [] [g4]) :
    wpAnyH Tryz.prog .any opsX Q (fun W' : World => W'.cell? ⟨gm, 0, none⟩ = some (.int .i64 exM.kind) ∧ W'.cell? ⟨gm, 1, none⟩ = some (.int .i64 exM.start) ∧ W'.cell? ⟨gm, 2, none⟩ = some (.string exM.lead) ∧ W'.cell? ⟨gm, 3, none⟩ = some um) 8 #[true, false, true, false, true, false, false, false, true, false, false, false] (frX gm um undef undef (ptX g4) undef undef undef) W := by
  refine wpAnyH_ready (rs := [1, 6, 7]) (by kernel_rfl) (by simp) ?_
  refine AllReadyH.cons (o := { dst := some 17, op := Op.call { callee := Callee.value (Operand.func 9), args := #[Operand.tmp 16], argTypes := #[24] }, type := 24, pos := "law.go:26", after := #[{ on := 0, ground := Ground.data }], guard := none }) rfl (fun K hK => ?_) ?_
  · simp only [frX]
    have HC := Lib.hid (rclone_any (MachV.fillU (hs.grown h.g)) (by decide) (by decide +kernel))
    go_simp
    refine HC.out.mono ?_
    rintro e W' ⟨v', rfl, ⟨u', rfl, hso⟩, hg⟩
    have h' := h.call hso hg
    refine hK.out _ _ (held_of hm h'.g) (fun _ => ?_)
    refine to_listed (l' := #[true, true, true, false, true, false, false, false, true, false, false, false]) (by kernel_rfl) rfl (st_1_4 hm hs hfin h')
  refine AllReadyH.cons (o := { dst := some 2, op := Op.alloc 24, type := 0, pos := "law.go:26", after := #[], guard := none }) rfl (fun K hK => ?_) ?_
  · simp only [frX]
    have h' := h.alloc.perm (bs' := [W.heap.size, g4]) (.refl _)
    go_simp
    refine hK.out _ _ (held_of hm h'.g) (fun _ => ?_)
    refine to_listed (l' := #[true, false, true, false, true, false, true, false, true, false, false, false]) (by kernel_rfl) rfl (st_0_5 hm hs hfin h')
  refine AllReadyH.cons (o := { dst := some 3, op := Op.alloc 24, type := 0, pos := "law.go:26", after := #[], guard := none }) rfl (fun K hK => ?_) ?_
  · simp only [frX]
    have h' := h.alloc.perm (bs' := [W.heap.size, g4]) (.refl _)
    go_simp
    refine hK.out _ _ (held_of hm h'.g) (fun _ => ?_)
    refine to_listed (l' := #[true, false, true, false, true, false, false, true, true, false, false, false]) (by kernel_rfl) rfl (st_0_6 hm hs hfin h')
  exact AllReadyH.nil
set_option maxRecDepth 20000 in
set_option maxHeartbeats 4000000 in
theorem st_1_0 {Q : Exit → Act → World → Prop} {w0 : World} {gm : Nat} {um : Value} (hm : BoxAt w0 gm exM um) (hs : StSl w0 um exM.states) (hfin : ∀ (W : World) (u1 u2 u3 : Value) (g2 g3 g4 l1 h1 l2 h2 l3 h3 : Nat), Trio w0 W u1 u2 u3 g2 g3 g4 l1 h1 l2 h2 l3 h3 → Q .normal (frX gm um (ptX g2) (ptX g3) (ptX g4) (cpX u1) (cpX u2) (cpX u3)) W) {W : World} {l1 h1 : Nat} {u1 : Value} (h : Fct w0 W [(l1, h1, u1)] []) :
    wpAnyH Tryz.prog .any opsX Q (fun W' : World => W'.cell? ⟨gm, 0, none⟩ = some (.int .i64 exM.kind) ∧ W'.cell? ⟨gm, 1, none⟩ = some (.int .i64 exM.start) ∧ W'.cell? ⟨gm, 2, none⟩ = some (.string exM.lead) ∧ W'.cell? ⟨gm, 3, none⟩ = some um) 8 #[true, true, true, false, true, false, false, false, false, false, false, false] (frX gm um undef undef undef (cpX u1) undef undef) W := by
  refine wpAnyH_ready (rs := [3, 6, 7, 8]) (by kernel_rfl) (by simp) ?_
  refine AllReadyH.cons (o := { dst := some 19, op := Op.call { callee := Callee.value (Operand.func 9), args := #[Operand.tmp 18], argTypes := #[24] }, type := 24, pos := "law.go:26", after := #[{ on := 2, ground := Ground.data }, { on := 1, ground := Ground.chain }], guard := none }) rfl (fun K hK => ?_) ?_
  · simp only [frX]
    have HC := Lib.hid (rclone_any (MachV.fillU (hs.grown h.g)) (by decide) (by decide +kernel))
    go_simp
    refine HC.out.mono ?_
    rintro e W' ⟨v', rfl, ⟨u', rfl, hso⟩, hg⟩
    have h' := h.call hso hg
    refine hK.out _ _ (held_of hm h'.g) (fun _ => ?_)
    refine to_listed (l' := #[true, true, true, true, true, false, false, false, false, false, false, false]) (by kernel_rfl) rfl (st_2_0 hm hs hfin h')
  refine AllReadyH.cons (o := { dst := some 2, op := Op.alloc 24, type := 0, pos := "law.go:26", after := #[], guard := none }) rfl (fun K hK => ?_) ?_
  · simp only [frX]
    have h' := h.alloc.perm (bs' := [W.heap.size]) (.refl _)
    go_simp
    refine hK.out _ _ (held_of hm h'.g) (fun _ => ?_)
    refine to_listed (l' := #[true, true, true, false, true, false, true, false, false, false, false, false]) (by kernel_rfl) rfl (st_1_1 hm hs hfin h')
  refine AllReadyH.cons (o := { dst := some 3, op := Op.alloc 24, type := 0, pos := "law.go:26", after := #[], guard := none }) rfl (fun K hK => ?_) ?_
  · simp only [frX]
    have h' := h.alloc.perm (bs' := [W.heap.size]) (.refl _)
    go_simp
    refine hK.out _ _ (held_of hm h'.g) (fun _ => ?_)
    refine to_listed (l' := #[true, true, true, false, true, false, false, true, false, false, false, false]) (by kernel_rfl) rfl (st_1_2 hm hs hfin h')
  refine AllReadyH.cons (o := { dst := some 4, op := Op.alloc 24, type := 0, pos := "law.go:26", after := #[], guard := none }) rfl (fun K hK => ?_) ?_
  · simp only [frX]
    have h' := h.alloc.perm (bs' := [W.heap.size]) (.refl _)
    go_simp
    refine hK.out _ _ (held_of hm h'.g) (fun _ => ?_)
    refine to_listed (l' := #[true, true, true, false, true, false, false, false, true, false, false, false]) (by kernel_rfl) rfl (st_1_4 hm hs hfin h')
  exact AllReadyH.nil
set_option maxRecDepth 20000 in
set_option maxHeartbeats 4000000 in
theorem st_0_0 {Q : Exit → Act → World → Prop} {w0 : World} {gm : Nat} {um : Value} (hm : BoxAt w0 gm exM um) (hs : StSl w0 um exM.states) (hfin : ∀ (W : World) (u1 u2 u3 : Value) (g2 g3 g4 l1 h1 l2 h2 l3 h3 : Nat), Trio w0 W u1 u2 u3 g2 g3 g4 l1 h1 l2 h2 l3 h3 → Q .normal (frX gm um (ptX g2) (ptX g3) (ptX g4) (cpX u1) (cpX u2) (cpX u3)) W) {W : World} (h : Fct w0 W [] []) :
    wpAnyH Tryz.prog .any opsX Q (fun W' : World => W'.cell? ⟨gm, 0, none⟩ = some (.int .i64 exM.kind) ∧ W'.cell? ⟨gm, 1, none⟩ = some (.int .i64 exM.start) ∧ W'.cell? ⟨gm, 2, none⟩ = some (.string exM.lead) ∧ W'.cell? ⟨gm, 3, none⟩ = some um) 9 #[true, false, true, false, true, false, false, false, false, false, false, false] (frX gm um undef undef undef undef undef undef) W := by
  refine wpAnyH_ready (rs := [1, 6, 7, 8]) (by kernel_rfl) (by simp) ?_
  refine AllReadyH.cons (o := { dst := some 17, op := Op.call { callee := Callee.value (Operand.func 9), args := #[Operand.tmp 16], argTypes := #[24] }, type := 24, pos := "law.go:26", after := #[{ on := 0, ground := Ground.data }], guard := none }) rfl (fun K hK => ?_) ?_
  · simp only [frX]
    have HC := Lib.hid (rclone_any (MachV.fillU (hs.grown h.g)) (by decide) (by decide +kernel))
    go_simp
    refine HC.out.mono ?_
    rintro e W' ⟨v', rfl, ⟨u', rfl, hso⟩, hg⟩
    have h' := h.call hso hg
    refine hK.out _ _ (held_of hm h'.g) (fun _ => ?_)
    refine to_listed (l' := #[true, true, true, false, true, false, false, false, false, false, false, false]) (by kernel_rfl) rfl (st_1_0 hm hs hfin h')
  refine AllReadyH.cons (o := { dst := some 2, op := Op.alloc 24, type := 0, pos := "law.go:26", after := #[], guard := none }) rfl (fun K hK => ?_) ?_
  · simp only [frX]
    have h' := h.alloc.perm (bs' := [W.heap.size]) (.refl _)
    go_simp
    refine hK.out _ _ (held_of hm h'.g) (fun _ => ?_)
    refine to_listed (l' := #[true, false, true, false, true, false, true, false, false, false, false, false]) (by kernel_rfl) rfl (st_0_1 hm hs hfin h')
  refine AllReadyH.cons (o := { dst := some 3, op := Op.alloc 24, type := 0, pos := "law.go:26", after := #[], guard := none }) rfl (fun K hK => ?_) ?_
  · simp only [frX]
    have h' := h.alloc.perm (bs' := [W.heap.size]) (.refl _)
    go_simp
    refine hK.out _ _ (held_of hm h'.g) (fun _ => ?_)
    refine to_listed (l' := #[true, false, true, false, true, false, false, true, false, false, false, false]) (by kernel_rfl) rfl (st_0_2 hm hs hfin h')
  refine AllReadyH.cons (o := { dst := some 4, op := Op.alloc 24, type := 0, pos := "law.go:26", after := #[], guard := none }) rfl (fun K hK => ?_) ?_
  · simp only [frX]
    have h' := h.alloc.perm (bs' := [W.heap.size]) (.refl _)
    go_simp
    refine hK.out _ _ (held_of hm h'.g) (fun _ => ?_)
    refine to_listed (l' := #[true, false, true, false, true, false, false, false, true, false, false, false]) (by kernel_rfl) rfl (st_0_4 hm hs hfin h')
  exact AllReadyH.nil
end Go.Proofs.YtbmonhnojkiapaaGreatDoor
