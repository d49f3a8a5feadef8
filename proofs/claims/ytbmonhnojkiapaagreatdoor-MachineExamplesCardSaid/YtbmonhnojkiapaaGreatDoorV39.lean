/- The reference's Clone. -/
import Derived.Test.YtbmonhnojkiapaaGreatDoorV33
import Derived.Test.YtbmonhnojkiapaaGreatDoorV38
set_option linter.unusedVariables false
set_option linter.unusedSimpArgs false
namespace Go.Proofs.YtbmonhnojkiapaaGreatDoor
open Go.RowKit

theorem keepA_cell {W3 w1 : World} {ob : Obj} {v : Value} {a : Addr} {x : Value} (h : W3.cell? a = some x) (hg : (W3.alloc ob).grownBy w1 v.ownBlock) (hne : some a.block ≠ v.ownBlock) : w1.cell? a = some x :=
  hg.cell ((World.grownBy_alloc W3 ob none).cell h (by simp)) hne
theorem keepA_free {W3 w1 : World} {ob : Obj} {v : Value} {a : Addr} (hlt : a.block < W3.heap.size) (h : W3.frozen? a = false) (hg : (W3.alloc ob).grownBy w1 v.ownBlock) (hne : some a.block ≠ v.ownBlock) : w1.frozen? a = false :=
  (World.frozen?_of_block ((hg.block a.block (by show a.block < (W3.alloc ob).heap.size; simp; omega) hne).trans ((World.grownBy_alloc W3 ob none).block a.block hlt (by simp)))).trans h
theorem keepA_new {W3 : World} {ob : Obj} {a : Addr} {x : Value} (h : W3.cell? a = some x) : (W3.alloc ob).cell? a = some x := (World.grownBy_alloc W3 ob none).cell h (by simp)
/-- append(nil, an empty slice). -/
theorem run_append_nil0 (w : World) (B : Option Addr) (cb : Nat) (ty : TypeId) : (Builtin.append_ #[27, 27] ty #[.slice none 0 0, .slice B 0 cb]).run Tryz.prog w = .ok (.slice none 0 0) w := by
  obtain ⟨i1, hi, hz0, hz1, hz2⟩ := info_parts6 info_arc
  have hl := fun a => run_loadCells_list (P := Tryz.prog) w a [] (fun j v h => by simp at h)
  simp only [List.length_nil] at hl
  cases B <;> simp [Builtin.append_, run_underlying Tryz.underlying27, sizeOf, typeInfo, hi, Builtin.lenOf, Builtin.firstCells, storeCells, hl]
theorem step_append_run {P : Program} {ops : Array Oper} {w w' : World} {o : Oper} {a : Act} {K : Act → World → Prop} {Q : Exit → Act → World → Prop} {E : Prop} (hgd : o.guard = none) (s x : Operand) (t : TypeId) (v y r : Value)
    (ho : o.op = .call { callee := .builtin .append, args := #[s, x], argTypes := #[t, t] }) (hs : a.eval s = v) (hx : a.eval x = y) (hrun : (Builtin.append_ #[t, t] o.type #[v, y]).run P w = .ok r w') (h : K (a.put o.dst r) w') :
    if Region.wanted o (yielded ops a.tmps) = true then Oper.wp P o a w K Q else E := by
  have hw : Region.wanted o (yielded ops a.tmps) = true := by simp [Region.wanted, hgd]
  rw [if_pos hw]
  unfold Oper.wp
  simp [execOp, ho, resolve, invoke, builtin, hs, hx, hrun, Result.andThen]
  exact h
/-- The states in a row of the call's own, their arcs' values named. -/
structure StP (w : World) (B : Nat) (u : Value) (l : List MState) (us : List Value) : Prop where
  len : us.length = l.length
  own : w.ownsRow B 29 2 u l.length ((l.zip us).flatMap stC)
  arcs : ∀ (k : Nat) (s : MState) (x : Value), l[k]? = some s → us[k]? = some x → ArcsOff w u.ownBlock x s.arcs ∧ (0 < s.arcs.length → ∀ b, x.ownBlock = some b → B ≤ b)
  hB : B ≤ w.heap.size
theorem StP.st {w : World} {B : Nat} {u : Value} {l : List MState} {us : List Value} (h : StP w B u l us) : StOwn w B (fun b => B ≤ b) u l := ⟨us, h.len, h.own, h.arcs⟩
theorem StOwn.p {w : World} {B : Nat} {u : Value} {l : List MState} (h : StOwn w B (fun b => B ≤ b) u l) (hB : B ≤ w.heap.size) : ∃ us, StP w B u l us := by
  obtain ⟨us, h1, h2, h3⟩ := h
  exact ⟨us, h1, h2, h3, hB⟩
theorem StP.grown {w w' : World} {B : Nat} {u : Value} {l : List MState} {us : List Value} (h : StP w B u l us) (hg : w.grownBy w' none) : StP w' B u l us := by
  refine ⟨h.len, h.own.kept hg ?_, fun k s x hs hx => ⟨(h.arcs k s x hs hx).1.grown_none hg, (h.arcs k s x hs hx).2⟩, Nat.le_trans h.hB hg.size⟩
  cases hb : u.ownBlock
  · exact .inl rfl
  · exact .inr (by simp)
theorem StP.lt {w : World} {B b : Nat} {u : Value} {l : List MState} {us : List Value} (h : StP w B u l us) (hb : u.ownBlock = some b) : B ≤ b ∧ b < w.heap.size := h.own.lt b hb
/-- A state is put behind. -/
theorem StP.push {w w' : World} {B gg cc : Nat} {u x : Value} {l : List MState} {us : List Value} {s : MState} (h : StP w B u l us) (hx : ArcsSl w x s.arcs) (hxo : 0 < s.arcs.length → x.ownBlock ≠ u.ownBlock) (hxB : 0 < s.arcs.length → ∀ b, x.ownBlock = some b → B ≤ b)
    (hown : w'.ownsRow B 29 2 (.slice (some ⟨gg, 0, none⟩) (l.length + 1) cc) (l.length + 1) ((l.zip us).flatMap stC ++ [.string s.fin, x])) (hg : w.grownBy w' u.ownBlock) (hb : u.ownBlock = some gg ∨ gg = w.heap.size) :
    StP w' B (.slice (some ⟨gg, 0, none⟩) (l.length + 1) cc) (l ++ [s]) (us ++ [x]) := by
  have hz : (l ++ [s]).zip (us ++ [x]) = l.zip us ++ [(s, x)] := by rw [List.zip_append h.len.symm]; rfl
  have off : ∀ {y : Value} {al : List MArc}, ArcsOff w u.ownBlock y al → ArcsOff w' (some gg) y al := fun {y al} hy => by
    refine ⟨(hy.grown hg).1, fun h0 => ?_⟩
    rcases hb with e | e
    · rw [← e]; exact hy.2 h0
    · rw [e]
      obtain ⟨c, hc, hlt⟩ := hy.1.block h0
      rw [hc]; intro e2; cases e2; omega
  refine ⟨by simp [h.len], by rw [hz, List.flatMap_append, List.length_append]; exact hown, fun k t y hk hy => ?_, Nat.le_trans h.hB hg.size⟩
  by_cases e : k < l.length
  · rw [List.getElem?_append_left e] at hk
    rw [List.getElem?_append_left (by rw [h.len]; exact e)] at hy
    exact ⟨off (h.arcs k t y hk hy).1, (h.arcs k t y hk hy).2⟩
  · have h1 := (List.getElem?_eq_some_iff.1 hk).1
    rw [List.length_append, List.length_singleton] at h1
    obtain rfl : k = l.length := by omega
    rw [List.getElem?_append_right (Nat.le_refl _), Nat.sub_self] at hk
    rw [List.getElem?_append_right (by rw [h.len]; exact Nat.le_refl _), h.len, Nat.sub_self] at hy
    simp at hk hy
    subst hk hy
    exact ⟨off ⟨hx, hxo⟩, hxB⟩
def hdM (m : Mach) : Mach := ⟨m.kind, m.start, m.lead, []⟩
set_option maxRecDepth 20000 in
set_option maxHeartbeats 8000000 in
theorem rclone_any {w : World} {v : Value} {m : Mach} (hv : MachV w v m) (hn : m.states.length ≤ 3000000) (ha : ∀ s ∈ m.states, s.arcs.length ≤ 3000000) : Calls Tryz.prog 9 #[v] w (MOPost m w) := by
  obtain ⟨i1, hi, hz0, hz1, hz2⟩ := info_parts6 info_arc
  obtain ⟨i2, hj, hy0, hy1, hy2⟩ := info_parts6 info_st
  obtain ⟨u0, rfl, hst0⟩ := hv
  obtain ⟨A, cap, us0, rfl, hS0⟩ := StAt.of hst0
  have g1 : w.grownBy (w.alloc (.cells #[.int .i64 m.kind, .int .i64 m.start, .string m.lead, .slice A m.states.length cap] 24)) none := World.grownBy_alloc _ _ _
  have b1 := BoxAt.new w m (.slice A m.states.length cap)
  have e1 : (w.alloc (.cells #[.int .i64 m.kind, .int .i64 m.start, .string m.lead, .slice A m.states.length cap] 24)).heap.size = w.heap.size + 1 := by simp
  have g2 := World.grownBy_alloc (w.alloc (.cells #[.int .i64 m.kind, .int .i64 m.start, .string m.lead, .slice A m.states.length cap] 24)) (.cells #[.int .i64 mach0.kind, .int .i64 mach0.start, .string mach0.lead, .slice none 0 0] 24) none
  have b2 := BoxAt.new (w.alloc (.cells #[.int .i64 m.kind, .int .i64 m.start, .string m.lead, .slice A m.states.length cap] 24)) mach0 (.slice none 0 0)
  rw [e1] at b2
  have HS := Lib.hid hS0; have HA := Lib.hid ha; have HG := Lib.hid (grown_trans g1 g2); have HB1 := Lib.hid (b1.grown g2); have HB2 := Lib.hid b2
  have hsz2 : ((w.alloc (.cells #[.int .i64 m.kind, .int .i64 m.start, .string m.lead, .slice A m.states.length cap] 24)).alloc (.cells #[.int .i64 mach0.kind, .int .i64 mach0.start, .string mach0.lead, .slice none 0 0] 24)).heap.size = w.heap.size + 2 := by simp
  have HSZ2 := Lib.hid hsz2
  obtain ⟨x0, x1, x2, x3⟩ := BoxAt.cells HB1.out
  clear hst0 hS0 g1 g2 b1 b2 e1 ha hsz2
  go_enter Tryz.func9, Tryz.ntmps9
  go_wp2_with fail
  have hga := World.grownBy_alloc ((w.alloc (.cells #[.int .i64 m.kind, .int .i64 m.start, .string m.lead, .slice A m.states.length cap] 24)).alloc (.cells #[.int .i64 0, .int .i64 0, .string ⟨#[]⟩, .slice none 0 0] 24)) (.cells #[.int .i64 m.kind, .int .i64 m.start, .string m.lead, .slice none 0 0] 24) none
  have hbn := BoxAt.new ((w.alloc (.cells #[.int .i64 m.kind, .int .i64 m.start, .string m.lead, .slice A m.states.length cap] 24)).alloc (.cells #[.int .i64 0, .int .i64 0, .string ⟨#[]⟩, .slice none 0 0] 24)) (hdM m) (.slice none 0 0)
  have hse : ((w.alloc (.cells #[.int .i64 m.kind, .int .i64 m.start, .string m.lead, .slice A m.states.length cap] 24)).alloc (.cells #[.int .i64 0, .int .i64 0, .string ⟨#[]⟩, .slice none 0 0] 24)).heap.size = w.heap.size + 1 + 1 := HSZ2.out
  rw [hse] at hbn
  have HBN := Lib.hid (show BoxAt (((w.alloc (.cells #[.int .i64 m.kind, .int .i64 m.start, .string m.lead, .slice A m.states.length cap] 24)).alloc (.cells #[.int .i64 0, .int .i64 0, .string ⟨#[]⟩, .slice none 0 0] 24)).alloc (.cells #[.int .i64 m.kind, .int .i64 m.start, .string m.lead, .slice none 0 0] 24)) (w.heap.size + 1 + 1) (hdM m) (.slice none 0 0) from hbn)
  have HBR := Lib.hid (BoxAt.grown HB2.out hga)
  have HBM := Lib.hid (BoxAt.grown HB1.out hga)
  have HG1 := Lib.hid (grown_trans HG.out hga)
  have hC : w.heap.size + 3 ≤ (((w.alloc (.cells #[.int .i64 m.kind, .int .i64 m.start, .string m.lead, .slice A m.states.length cap] 24)).alloc (.cells #[.int .i64 0, .int .i64 0, .string ⟨#[]⟩, .slice none 0 0] 24)).alloc (.cells #[.int .i64 m.kind, .int .i64 m.start, .string m.lead, .slice none 0 0] 24)).heap.size := by simp
  have HC := Lib.hid hC
  clear hga hbn hse hC x0 x1 x2 x3 HB1 HB2 HG HSZ2
  generalize ((w.alloc (.cells #[.int .i64 m.kind, .int .i64 m.start, .string m.lead, .slice A m.states.length cap] 24)).alloc (.cells #[.int .i64 0, .int .i64 0, .string ⟨#[]⟩, .slice none 0 0] 24)).alloc (.cells #[.int .i64 m.kind, .int .i64 m.start, .string m.lead, .slice none 0 0] 24) = W0 at *
  go_loopw [4] (fun i wr => ∃ (k : Nat) (u : Value), i = .int .i64 k ∧ k ≤ m.states.length ∧ StOwn wr (w.heap.size + 3) (fun b => w.heap.size + 3 ≤ b) u (m.states.take k) ∧ BoxAt wr (w.heap.size + 1 + 1) (hdM m) u ∧ BoxAt wr (w.heap.size + 1) mach0 (.slice none 0 0) ∧ BoxAt wr w.heap.size m (.slice A m.states.length cap) ∧ w.grownBy wr none) (fun i _ => m.states.length - (intOf i).toNat)
  case atStart => exact ⟨0, _, rfl, by omega, StOwn.nil _ _ _, HBN.out, HBR.out, HBM.out, HG1.out⟩
  case round =>
    obtain ⟨k, u, rfl, hk, hst, hbn, hbr, hbm, hgr⟩ := hrel
    have HST := Lib.hid hst; have HBN2 := Lib.hid hbn; have HBR2 := Lib.hid hbr; have HGR := Lib.hid hgr; have HBM2 := Lib.hid hbm
    have hC : w.heap.size + 3 ≤ wr.heap.size := by have := hbn.lt; omega
    obtain ⟨_, _, _, c0⟩ := hbn.cells
    obtain ⟨_, _, _, c1⟩ := hbm.cells
    have hS2 := HS.out.below (below_of hgr)
    clear hst hbn hbr hgr hbm
    by_cases hlt : k < m.states.length
    · obtain ⟨ad, s, B, cb, hA, hs, hu, ⟨c2, c3⟩, hra⟩ := hS2.at_ hlt
      subst hA
      have hal := HA.out s (List.mem_of_getElem? hs)
      have hadb : ad.block < w.heap.size := by
        obtain ⟨ad', e', hb', _⟩ := HS.out.row.2 (by omega)
        cases e'
        exact hb'
      have n1 : (k : Int) < (m.states.length : Int) := by omega
      have n2 : IntKind.i64.wrap ((k : Int) + 1) = (k : Int) + 1 := by rw [IntKind.wrap_i64]; omega
      have n3 : (0 : Int) ≤ (k : Int) := by omega
      have hk1 : (m.states.take k).length = k := by rw [List.length_take]; omega
      obtain ⟨us, hsp⟩ := HST.out.p hC
      have HSP := Lib.hid hsp
      have HSS := Lib.hid hs
      go_upto_region 5 with (fail)
      by_cases h00 : s.arcs.length = 0
      · have h0 := Lib.hid h00
        rw [h00] at c3
        clear h00 hs hu hra hsp hS2 n1 n2
        have n2 : IntKind.i64.wrap ((k : Int) + 1) = (k : Int) + 1 := by rw [IntKind.wrap_i64]; omega
        refine wp_region_chain (e := 19) (n := 19) (fun W' => W'.cell? ⟨w.heap.size + 1 + 1, 3, none⟩ = some u ∧ W'.cell? ⟨w.heap.size, 3, none⟩ = some (.slice (some ad) m.states.length cap) ∧ W'.cell? (ad.add (k * 2)) = some (.string s.fin) ∧ W'.cell? { block := (ad.add (k * 2)).block, off := (ad.add (k * 2)).off + 1, spot := none } = some (.slice B 0 cb)) (by kernel_rfl) (by kernel_rfl) rfl ?_
        have hS0 : (fun W' => W'.cell? ⟨w.heap.size + 1 + 1, 3, none⟩ = some u ∧ W'.cell? ⟨w.heap.size, 3, none⟩ = some (.slice (some ad) m.states.length cap) ∧ W'.cell? (ad.add (k * 2)) = some (.string s.fin) ∧ W'.cell? { block := (ad.add (k * 2)).block, off := (ad.add (k * 2)).off + 1, spot := none } = some (.slice B 0 cb)) wr.drew := ⟨c0, c1, c2, c3⟩
        refine wpAnyH_take (i := 0) (v := .pointer (some ⟨w.heap.size + 1 + 1, 3, none⟩)) rfl (by kernel_rfl) (by kernel_rfl) (by kernel_rfl) (fun _ _ _ h => h) (Or.inl ⟨by rfl, ?_⟩) hS0 ?_
        · intro W hSw
          (try dsimp only at hSw)
          first | (go_simp; done) | (go_simp; rfl)
        (try simp only [List.getElem_toArray, List.getElem_cons_succ, List.getElem_cons_zero, Act.put, List.setIfInBounds_toArray, List.set_cons_zero, List.set_cons_succ])
        refine wpAnyH_take (i := 1) (v := u) rfl (by kernel_rfl) (by kernel_rfl) (by kernel_rfl) (fun _ _ _ h => h) (Or.inl ⟨by rfl, ?_⟩) hS0 ?_
        · intro W hSw
          (try dsimp only at hSw)
          first | (go_simp; done) | (go_simp; rfl)
        (try simp only [List.getElem_toArray, List.getElem_cons_succ, List.getElem_cons_zero, Act.put, List.setIfInBounds_toArray, List.set_cons_zero, List.set_cons_succ])
        refine wpAnyH_take (i := 2) (v := .pointer (some ⟨w.heap.size, 3, none⟩)) rfl (by kernel_rfl) (by kernel_rfl) (by kernel_rfl) (fun _ _ _ h => h) (Or.inl ⟨by rfl, ?_⟩) hS0 ?_
        · intro W hSw
          (try dsimp only at hSw)
          first | (go_simp; done) | (go_simp; rfl)
        (try simp only [List.getElem_toArray, List.getElem_cons_succ, List.getElem_cons_zero, Act.put, List.setIfInBounds_toArray, List.set_cons_zero, List.set_cons_succ])
        refine wpAnyH_take (i := 3) (v := .slice (some ad) m.states.length cap) rfl (by kernel_rfl) (by kernel_rfl) (by kernel_rfl) (fun _ _ _ h => h) (Or.inl ⟨by rfl, ?_⟩) hS0 ?_
        · intro W hSw
          (try dsimp only at hSw)
          first | (go_simp; done) | (go_simp; rfl)
        (try simp only [List.getElem_toArray, List.getElem_cons_succ, List.getElem_cons_zero, Act.put, List.setIfInBounds_toArray, List.set_cons_zero, List.set_cons_succ])
        refine wpAnyH_take (i := 4) (v := .int .i64 (k : Int)) rfl (by kernel_rfl) (by kernel_rfl) (by kernel_rfl) (fun _ _ _ h => h) (Or.inl ⟨by rfl, ?_⟩) hS0 ?_
        · intro W hSw
          (try dsimp only at hSw)
          first | (go_simp; done) | (go_simp; rfl)
        (try simp only [List.getElem_toArray, List.getElem_cons_succ, List.getElem_cons_zero, Act.put, List.setIfInBounds_toArray, List.set_cons_zero, List.set_cons_succ])
        refine wpAnyH_take (i := 5) (v := .pointer (some (ad.add (k * 2)))) rfl (by kernel_rfl) (by kernel_rfl) (by kernel_rfl) (fun _ _ _ h => h) (Or.inl ⟨by rfl, ?_⟩) hS0 ?_
        · intro W hSw
          (try dsimp only at hSw)
          first | (go_simp; done) | (go_simp; rfl)
        (try simp only [List.getElem_toArray, List.getElem_cons_succ, List.getElem_cons_zero, Act.put, List.setIfInBounds_toArray, List.set_cons_zero, List.set_cons_succ])
        refine wpAnyH_take (i := 6) (v := .pointer (some (ad.add (k * 2)))) rfl (by kernel_rfl) (by kernel_rfl) (by kernel_rfl) (fun _ _ _ h => h) (Or.inl ⟨by rfl, ?_⟩) hS0 ?_
        · intro W hSw
          (try dsimp only at hSw)
          first | (go_simp; done) | (go_simp; rfl)
        (try simp only [List.getElem_toArray, List.getElem_cons_succ, List.getElem_cons_zero, Act.put, List.setIfInBounds_toArray, List.set_cons_zero, List.set_cons_succ])
        refine wpAnyH_take (i := 7) (v := .string s.fin) rfl (by kernel_rfl) (by kernel_rfl) (by kernel_rfl) (fun _ _ _ h => h) (Or.inl ⟨by rfl, ?_⟩) hS0 ?_
        · intro W hSw
          (try dsimp only at hSw)
          first | (go_simp; done) | (go_simp; rfl)
        (try simp only [List.getElem_toArray, List.getElem_cons_succ, List.getElem_cons_zero, Act.put, List.setIfInBounds_toArray, List.set_cons_zero, List.set_cons_succ])
        refine wpAnyH_take (i := 8) (v := .pointer (some ⟨w.heap.size, 3, none⟩)) rfl (by kernel_rfl) (by kernel_rfl) (by kernel_rfl) (fun _ _ _ h => h) (Or.inl ⟨by rfl, ?_⟩) hS0 ?_
        · intro W hSw
          (try dsimp only at hSw)
          first | (go_simp; done) | (go_simp; rfl)
        (try simp only [List.getElem_toArray, List.getElem_cons_succ, List.getElem_cons_zero, Act.put, List.setIfInBounds_toArray, List.set_cons_zero, List.set_cons_succ])
        refine wpAnyH_take (i := 9) (v := .slice (some ad) m.states.length cap) rfl (by kernel_rfl) (by kernel_rfl) (by kernel_rfl) (fun _ _ _ h => h) (Or.inl ⟨by rfl, ?_⟩) hS0 ?_
        · intro W hSw
          (try dsimp only at hSw)
          first | (go_simp; done) | (go_simp; rfl)
        (try simp only [List.getElem_toArray, List.getElem_cons_succ, List.getElem_cons_zero, Act.put, List.setIfInBounds_toArray, List.set_cons_zero, List.set_cons_succ])
        refine wpAnyH_take (i := 10) (v := .int .i64 (k : Int)) rfl (by kernel_rfl) (by kernel_rfl) (by kernel_rfl) (fun _ _ _ h => h) (Or.inl ⟨by rfl, ?_⟩) hS0 ?_
        · intro W hSw
          (try dsimp only at hSw)
          first | (go_simp; done) | (go_simp; rfl)
        (try simp only [List.getElem_toArray, List.getElem_cons_succ, List.getElem_cons_zero, Act.put, List.setIfInBounds_toArray, List.set_cons_zero, List.set_cons_succ])
        refine wpAnyH_take (i := 11) (v := .pointer (some (ad.add (k * 2)))) rfl (by kernel_rfl) (by kernel_rfl) (by kernel_rfl) (fun _ _ _ h => h) (Or.inl ⟨by rfl, ?_⟩) hS0 ?_
        · intro W hSw
          (try dsimp only at hSw)
          first | (go_simp; done) | (go_simp; rfl)
        (try simp only [List.getElem_toArray, List.getElem_cons_succ, List.getElem_cons_zero, Act.put, List.setIfInBounds_toArray, List.set_cons_zero, List.set_cons_succ])
        refine wpAnyH_take (i := 12) (v := .pointer (some { block := (ad.add (k * 2)).block, off := (ad.add (k * 2)).off + 1, spot := none })) rfl (by kernel_rfl) (by kernel_rfl) (by kernel_rfl) (fun _ _ _ h => h) (Or.inl ⟨by rfl, ?_⟩) hS0 ?_
        · intro W hSw
          (try dsimp only at hSw)
          first | (go_simp; done) | (go_simp; rfl)
        (try simp only [List.getElem_toArray, List.getElem_cons_succ, List.getElem_cons_zero, Act.put, List.setIfInBounds_toArray, List.set_cons_zero, List.set_cons_succ])
        refine wpAnyH_take (i := 13) (v := .slice B 0 cb) rfl (by kernel_rfl) (by kernel_rfl) (by kernel_rfl) (fun _ _ _ h => h) (Or.inl ⟨by rfl, ?_⟩) hS0 ?_
        · intro W hSw
          (try dsimp only at hSw)
          first | (go_simp; done) | (go_simp; rfl)
        (try simp only [List.getElem_toArray, List.getElem_cons_succ, List.getElem_cons_zero, Act.put, List.setIfInBounds_toArray, List.set_cons_zero, List.set_cons_succ])
        refine wpAnyH_ready (rs := [14]) (by kernel_rfl) (by simp) ?_
        refine AllReadyH.cons rfl (fun K hK => ?_) AllReadyH.nil
        refine step_append_run (by rfl) _ _ _ (.slice none 0 0) (.slice B 0 cb) (.slice none 0 0) (by rfl) (by rfl) (by rfl) (run_append_nil0 wr.drew B cb _) ?_
        refine hK.out _ _ ⟨c0, c1, c2, c3⟩ (fun hHeld => ?_)
        have HG6 := Lib.hid (grown_drew wr none)
        have c0 : wr.drew.cell? _ = _ := c0; have c1 : wr.drew.cell? _ = _ := c1; have c2 : wr.drew.cell? _ = _ := c2; have c3 : wr.drew.cell? _ = _ := c3
        generalize wr.drew = w6 at *
        have hg6w : wr.grownBy w6 none := HG6.out
        have HGR6 := grown_trans HGR.out hg6w
        have HSP6 := Lib.hid (HSP.out.grown hg6w)
        have HBN6 := Lib.hid (BoxAt.grown HBN2.out hg6w)
        have HBR6 := Lib.hid (BoxAt.grown HBR2.out hg6w)
        have HBM6 := Lib.hid (BoxAt.grown HBM2.out hg6w)
        have hl6 : w.heap.size + 3 ≤ w6.heap.size := HSP6.out.hB
        have N0 : some (w.heap.size + 1 + 1) ≠ u.ownBlock := fun e => by have := (HSP6.out.lt e.symm).1; omega
        have N1 : some w.heap.size ≠ u.ownBlock := fun e => by have := (HSP6.out.lt e.symm).1; omega
        have N2 : some (ad.add (k * 2)).block ≠ u.ownBlock := fun e => by have := (HSP6.out.lt e.symm).1; rw [block_of_add] at this; omega
        have N3 : some (w.heap.size + 1) ≠ u.ownBlock := fun e => by have := (HSP6.out.lt e.symm).1; omega
        have F0 := Lib.hid (BoxAt.free HBN6.out 3)
        refine wpAnyH_take (i := 15) (v := .agg #[.string s.fin, .slice none 0 0]) rfl (by kernel_rfl) (by kernel_rfl) (by kernel_rfl) (fun _ _ _ h => h) (Or.inl ⟨by rfl, ?_⟩) hHeld ?_
        · intro W hSw
          (try dsimp only at hSw)
          first | (go_simp; done) | (go_simp; rfl)
        (try simp only [List.getElem_toArray, List.getElem_cons_succ, List.getElem_cons_zero, Act.put, List.setIfInBounds_toArray, List.set_cons_zero, List.set_cons_succ])
        refine wpAnyH_ready (rs := [16]) (by kernel_rfl) (by simp) ?_
        refine AllReadyH.cons rfl (fun K hK => ?_) AllReadyH.nil
        go_simp
        refine hK.out _ _ ⟨keepA_new c0, keepA_new c1, keepA_new c2, keepA_new c3⟩ (fun hHeld => ?_)
        refine wpAnyH_ready (rs := [17]) (by kernel_rfl) (by simp) ?_
        refine AllReadyH.cons rfl (fun K hK => ?_) AllReadyH.nil
        have hown7 : (w6.alloc (.cells #[.string s.fin, .slice none 0 0] 29)).ownsRow (w.heap.size + 3) 29 2 u k (((m.states.take k).zip us).flatMap stC) := by
          have h := (HSP6.out.grown ((World.grownBy_alloc w6 (.cells #[.string s.fin, .slice none 0 0] 29) none))).own
          rw [hk1] at h
          exact h
        refine step_append_lies _ (by rfl) _ _ _ (by rfl) (w.heap.size + 3) 29 i2 (.agg #[.string ByteArray.empty, .slice none 0 0]) 2 40 Tryz.underlying22 hj hy0 hy1 hy2 rfl (by omega) u k _ (by rfl) hown7 ⟨w6.heap.size, 0, none⟩ 1 1 [.string s.fin, .slice none 0 0] (by rfl) (by rfl) (World.news_of_block (cs := #[.string s.fin, .slice none 0 0]) (t := 29) (fr := (0, 0)) (heap_alloc_new w6 _)) (by simp [Value.oneCell']) (by omega) (by unfold maxLen; omega) (by omega) (by simp; omega) (w6.heap.size + 1) (by simp) ?_
        intro gg cc w8 hown8 hg8 hat8 hlt8
        refine hK.out _ _ ⟨keepA_cell c0 hg8 N0, keepA_cell c1 hg8 N1, keepA_cell c2 hg8 N2, keepA_cell c3 hg8 N2⟩ (fun hHeld => ?_)
        have s3 := keepA_cell c0 hg8 N0
        have s4 := keepA_free (a := ⟨w.heap.size + 1 + 1, 3, none⟩) (by show w.heap.size + 1 + 1 < w6.heap.size; omega) F0.out hg8 N0
        refine wpAnyH_take (i := 18) (v := .pointer (some ⟨w.heap.size + 1 + 1, 3, none⟩)) rfl (by kernel_rfl) (by kernel_rfl) (by kernel_rfl) (fun _ _ _ h => h) (Or.inl ⟨by rfl, ?_⟩) hHeld ?_
        · intro W hSw
          (try dsimp only at hSw)
          first | (go_simp; done) | (go_simp; rfl)
        (try simp only [List.getElem_toArray, List.getElem_cons_succ, List.getElem_cons_zero, Act.put, List.setIfInBounds_toArray, List.set_cons_zero, List.set_cons_succ])
        refine wpAnyH_done (by kernel_rfl) ?_ _
        refine lastQ_step (by rfl) (fun K hK => ?_)
        go_simp
        refine hK _ _ ?_
        have hX : w6.grownBy (w6.alloc (.cells #[.string s.fin, .slice none 0 0] 29)) none := World.grownBy_alloc _ _ _
        have hsp8 := (HSP6.out.grown hX).push (x := (.slice none 0 0)) (s := s) (by have h := ArcsSl.nil (w6.alloc (.cells #[.string s.fin, .slice none 0 0] 29)); rw [← List.eq_nil_of_length_eq_zero h0.out] at h; exact h) (fun h0' => absurd h0' (by rw [h0.out]; omega)) (fun h0' b hb => by cases hb) (by rw [hk1]; exact hown8) hg8 (by rcases hat8 with e | e; exact .inl e; exact .inr (by rw [e]; simp))
        rw [hk1, ← take_one HSS.out] at hsp8
        have gst := grown_setCell w8 ⟨w.heap.size + 1 + 1, 3, none⟩ (.slice (some ⟨gg, 0, none⟩) (k + 1) cc)
        have hst8 := hsp8.st.other gst (by show some gg ≠ some (w.heap.size + 1 + 1); intro e; have := (hsp8.lt (b := gg) rfl).1; cases e; omega) (by show ¬ w.heap.size + 3 ≤ w.heap.size + 1 + 1; omega)
        have hgw := grown_many (grown_trans HGR6 hX) hg8 (fun b e => by have := (HSP6.out.lt e).1; omega)
        have HGW := Lib.hid (grown_step (g := w.heap.size + 1 + 1) hgw gst (by omega))
        have hbx8 := (hg8.block (w.heap.size + 1 + 1) (by have := hX.size; omega) N0).trans (BoxAt.grown HBN6.out hX)
        have HBN8 := Lib.hid (BoxAt.set3 (v := .slice (some ⟨gg, 0, none⟩) (k + 1) cc) hbx8)
        have HBR8 := Lib.hid (show BoxAt _ (w.heap.size + 1) mach0 (.slice none 0 0) from (gst.block (w.heap.size + 1) (by have := hg8.size; have := hX.size; omega) (by intro e; injection e with e; change _ = w.heap.size + 1 + 1 at e; omega)).trans ((hg8.block (w.heap.size + 1) (by have := hX.size; omega) N3).trans (BoxAt.grown HBR6.out hX)))
        have HST8 := Lib.hid hst8
        have HBM8 := Lib.hid (show BoxAt _ w.heap.size m (.slice (some ad) m.states.length cap) from (gst.block w.heap.size (by have := hg8.size; have := hX.size; omega) (by intro e; injection e with e; change _ = w.heap.size + 1 + 1 at e; omega)).trans ((hg8.block w.heap.size (by have := hX.size; omega) N1).trans (BoxAt.grown HBM6.out hX)))
        clear hsp8 hst8 gst hgw hbx8 hX hown8 hg8 hat8 s3 s4 c0 c1 c2 c3
        go_wp2
        go_roundw
        case rel => exact ⟨k + 1, _, by go_num, by omega, HST8.out, HBN8.out, HBR8.out, HBM8.out, HGW.out⟩
        case measure => simp [intOf]; omega
      · obtain ⟨adb, hB, hbb, hcb⟩ := hra.2 (by omega)
        subst hB
        have HRA : Hid ((s.arcs.flatMap arcC).length = s.arcs.length * 4 ∧ ∀ j u, (s.arcs.flatMap arcC)[j]? = some u → wr.drew.cell? (adb.add j) = some u) := Lib.hid ⟨hra.1, hcb⟩
        clear hs hu hra hsp hS2 hcb
        refine wp_region_chain (e := 19) (n := 19) (fun W' => W'.cell? ⟨w.heap.size + 1 + 1, 3, none⟩ = some u ∧ W'.cell? ⟨w.heap.size, 3, none⟩ = some (.slice (some ad) m.states.length cap) ∧ W'.cell? (ad.add (k * 2)) = some (.string s.fin) ∧ W'.cell? { block := (ad.add (k * 2)).block, off := (ad.add (k * 2)).off + 1, spot := none } = some (.slice (some adb) s.arcs.length cb)) (by kernel_rfl) (by kernel_rfl) rfl ?_
        have hS0 : (fun W' => W'.cell? ⟨w.heap.size + 1 + 1, 3, none⟩ = some u ∧ W'.cell? ⟨w.heap.size, 3, none⟩ = some (.slice (some ad) m.states.length cap) ∧ W'.cell? (ad.add (k * 2)) = some (.string s.fin) ∧ W'.cell? { block := (ad.add (k * 2)).block, off := (ad.add (k * 2)).off + 1, spot := none } = some (.slice (some adb) s.arcs.length cb)) wr.drew := ⟨c0, c1, c2, c3⟩
        refine wpAnyH_take (i := 0) (v := .pointer (some ⟨w.heap.size + 1 + 1, 3, none⟩)) rfl (by kernel_rfl) (by kernel_rfl) (by kernel_rfl) (fun _ _ _ h => h) (Or.inl ⟨by rfl, ?_⟩) hS0 ?_
        · intro W hSw
          (try dsimp only at hSw)
          first | (go_simp; done) | (go_simp; rfl)
        (try simp only [List.getElem_toArray, List.getElem_cons_succ, List.getElem_cons_zero, Act.put, List.setIfInBounds_toArray, List.set_cons_zero, List.set_cons_succ])
        refine wpAnyH_take (i := 1) (v := u) rfl (by kernel_rfl) (by kernel_rfl) (by kernel_rfl) (fun _ _ _ h => h) (Or.inl ⟨by rfl, ?_⟩) hS0 ?_
        · intro W hSw
          (try dsimp only at hSw)
          first | (go_simp; done) | (go_simp; rfl)
        (try simp only [List.getElem_toArray, List.getElem_cons_succ, List.getElem_cons_zero, Act.put, List.setIfInBounds_toArray, List.set_cons_zero, List.set_cons_succ])
        refine wpAnyH_take (i := 2) (v := .pointer (some ⟨w.heap.size, 3, none⟩)) rfl (by kernel_rfl) (by kernel_rfl) (by kernel_rfl) (fun _ _ _ h => h) (Or.inl ⟨by rfl, ?_⟩) hS0 ?_
        · intro W hSw
          (try dsimp only at hSw)
          first | (go_simp; done) | (go_simp; rfl)
        (try simp only [List.getElem_toArray, List.getElem_cons_succ, List.getElem_cons_zero, Act.put, List.setIfInBounds_toArray, List.set_cons_zero, List.set_cons_succ])
        refine wpAnyH_take (i := 3) (v := .slice (some ad) m.states.length cap) rfl (by kernel_rfl) (by kernel_rfl) (by kernel_rfl) (fun _ _ _ h => h) (Or.inl ⟨by rfl, ?_⟩) hS0 ?_
        · intro W hSw
          (try dsimp only at hSw)
          first | (go_simp; done) | (go_simp; rfl)
        (try simp only [List.getElem_toArray, List.getElem_cons_succ, List.getElem_cons_zero, Act.put, List.setIfInBounds_toArray, List.set_cons_zero, List.set_cons_succ])
        refine wpAnyH_take (i := 4) (v := .int .i64 (k : Int)) rfl (by kernel_rfl) (by kernel_rfl) (by kernel_rfl) (fun _ _ _ h => h) (Or.inl ⟨by rfl, ?_⟩) hS0 ?_
        · intro W hSw
          (try dsimp only at hSw)
          first | (go_simp; done) | (go_simp; rfl)
        (try simp only [List.getElem_toArray, List.getElem_cons_succ, List.getElem_cons_zero, Act.put, List.setIfInBounds_toArray, List.set_cons_zero, List.set_cons_succ])
        refine wpAnyH_take (i := 5) (v := .pointer (some (ad.add (k * 2)))) rfl (by kernel_rfl) (by kernel_rfl) (by kernel_rfl) (fun _ _ _ h => h) (Or.inl ⟨by rfl, ?_⟩) hS0 ?_
        · intro W hSw
          (try dsimp only at hSw)
          first | (go_simp; done) | (go_simp; rfl)
        (try simp only [List.getElem_toArray, List.getElem_cons_succ, List.getElem_cons_zero, Act.put, List.setIfInBounds_toArray, List.set_cons_zero, List.set_cons_succ])
        refine wpAnyH_take (i := 6) (v := .pointer (some (ad.add (k * 2)))) rfl (by kernel_rfl) (by kernel_rfl) (by kernel_rfl) (fun _ _ _ h => h) (Or.inl ⟨by rfl, ?_⟩) hS0 ?_
        · intro W hSw
          (try dsimp only at hSw)
          first | (go_simp; done) | (go_simp; rfl)
        (try simp only [List.getElem_toArray, List.getElem_cons_succ, List.getElem_cons_zero, Act.put, List.setIfInBounds_toArray, List.set_cons_zero, List.set_cons_succ])
        refine wpAnyH_take (i := 7) (v := .string s.fin) rfl (by kernel_rfl) (by kernel_rfl) (by kernel_rfl) (fun _ _ _ h => h) (Or.inl ⟨by rfl, ?_⟩) hS0 ?_
        · intro W hSw
          (try dsimp only at hSw)
          first | (go_simp; done) | (go_simp; rfl)
        (try simp only [List.getElem_toArray, List.getElem_cons_succ, List.getElem_cons_zero, Act.put, List.setIfInBounds_toArray, List.set_cons_zero, List.set_cons_succ])
        refine wpAnyH_take (i := 8) (v := .pointer (some ⟨w.heap.size, 3, none⟩)) rfl (by kernel_rfl) (by kernel_rfl) (by kernel_rfl) (fun _ _ _ h => h) (Or.inl ⟨by rfl, ?_⟩) hS0 ?_
        · intro W hSw
          (try dsimp only at hSw)
          first | (go_simp; done) | (go_simp; rfl)
        (try simp only [List.getElem_toArray, List.getElem_cons_succ, List.getElem_cons_zero, Act.put, List.setIfInBounds_toArray, List.set_cons_zero, List.set_cons_succ])
        refine wpAnyH_take (i := 9) (v := .slice (some ad) m.states.length cap) rfl (by kernel_rfl) (by kernel_rfl) (by kernel_rfl) (fun _ _ _ h => h) (Or.inl ⟨by rfl, ?_⟩) hS0 ?_
        · intro W hSw
          (try dsimp only at hSw)
          first | (go_simp; done) | (go_simp; rfl)
        (try simp only [List.getElem_toArray, List.getElem_cons_succ, List.getElem_cons_zero, Act.put, List.setIfInBounds_toArray, List.set_cons_zero, List.set_cons_succ])
        refine wpAnyH_take (i := 10) (v := .int .i64 (k : Int)) rfl (by kernel_rfl) (by kernel_rfl) (by kernel_rfl) (fun _ _ _ h => h) (Or.inl ⟨by rfl, ?_⟩) hS0 ?_
        · intro W hSw
          (try dsimp only at hSw)
          first | (go_simp; done) | (go_simp; rfl)
        (try simp only [List.getElem_toArray, List.getElem_cons_succ, List.getElem_cons_zero, Act.put, List.setIfInBounds_toArray, List.set_cons_zero, List.set_cons_succ])
        refine wpAnyH_take (i := 11) (v := .pointer (some (ad.add (k * 2)))) rfl (by kernel_rfl) (by kernel_rfl) (by kernel_rfl) (fun _ _ _ h => h) (Or.inl ⟨by rfl, ?_⟩) hS0 ?_
        · intro W hSw
          (try dsimp only at hSw)
          first | (go_simp; done) | (go_simp; rfl)
        (try simp only [List.getElem_toArray, List.getElem_cons_succ, List.getElem_cons_zero, Act.put, List.setIfInBounds_toArray, List.set_cons_zero, List.set_cons_succ])
        refine wpAnyH_take (i := 12) (v := .pointer (some { block := (ad.add (k * 2)).block, off := (ad.add (k * 2)).off + 1, spot := none })) rfl (by kernel_rfl) (by kernel_rfl) (by kernel_rfl) (fun _ _ _ h => h) (Or.inl ⟨by rfl, ?_⟩) hS0 ?_
        · intro W hSw
          (try dsimp only at hSw)
          first | (go_simp; done) | (go_simp; rfl)
        (try simp only [List.getElem_toArray, List.getElem_cons_succ, List.getElem_cons_zero, Act.put, List.setIfInBounds_toArray, List.set_cons_zero, List.set_cons_succ])
        refine wpAnyH_take (i := 13) (v := .slice (some adb) s.arcs.length cb) rfl (by kernel_rfl) (by kernel_rfl) (by kernel_rfl) (fun _ _ _ h => h) (Or.inl ⟨by rfl, ?_⟩) hS0 ?_
        · intro W hSw
          (try dsimp only at hSw)
          first | (go_simp; done) | (go_simp; rfl)
        (try simp only [List.getElem_toArray, List.getElem_cons_succ, List.getElem_cons_zero, Act.put, List.setIfInBounds_toArray, List.set_cons_zero, List.set_cons_succ])
        refine wpAnyH_ready (rs := [14]) (by kernel_rfl) (by simp) ?_
        refine AllReadyH.cons rfl (fun K hK => ?_) AllReadyH.nil
        refine step_append_lies _ (by rfl) _ _ _ (by rfl) (w.heap.size + 3) 35 i1 (.agg #[.int .i64 0, .int .i64 0, .string ByteArray.empty, .int .i64 0]) 4 40 Tryz.underlying27 hi hz0 hz1 hz2 rfl (by omega) (.slice none 0 0) 0 [] (by rfl) (World.ownsRow_nil _ _ _ _) adb s.arcs.length cb (s.arcs.flatMap arcC) (by rfl) HRA.out.1 HRA.out.2 (arcC_one _) (by omega) (by unfold maxLen; omega) (by omega) (by simpa using hC) wr.drew.heap.size rfl ?_
        intro ga ca w6 hownA hgA hatA _
        simp only [Nat.zero_add, List.nil_append] at hownA ⊢
        have hg6 : wr.drew.grownBy w6 none := hgA
        refine hK.out _ _ ⟨hg6.cell c0 (by simp), hg6.cell c1 (by simp), hg6.cell c2 (by simp), hg6.cell c3 (by simp)⟩ (fun hHeld => ?_)
        have hne6 : ∀ b, u.ownBlock = some b → b = ga → False := fun b hb e => by have := (HSP.out.lt hb).2; rcases hatA with e2 | e2; cases e2; rw [e, e2] at this; simp at this
        have c0 := hg6.cell c0 (by simp); have c1 := hg6.cell c1 (by simp); have c2 := hg6.cell c2 (by simp); have c3 := hg6.cell c3 (by simp)
        have hg6w : wr.grownBy w6 none := grown_trans (grown_drew wr none) hg6
        have HGR6 := grown_trans HGR.out hg6w
        have HSP6 := Lib.hid (HSP.out.grown hg6w)
        have HBN6 := Lib.hid (BoxAt.grown HBN2.out hg6w)
        have HBR6 := Lib.hid (BoxAt.grown HBR2.out hg6w)
        have HBM6 := Lib.hid (BoxAt.grown HBM2.out hg6w)
        have hl6 : w.heap.size + 3 ≤ w6.heap.size := HSP6.out.hB
        have N0 : some (w.heap.size + 1 + 1) ≠ u.ownBlock := fun e => by have := (HSP6.out.lt e.symm).1; omega
        have N1 : some w.heap.size ≠ u.ownBlock := fun e => by have := (HSP6.out.lt e.symm).1; omega
        have N2 : some (ad.add (k * 2)).block ≠ u.ownBlock := fun e => by have := (HSP6.out.lt e.symm).1; rw [block_of_add] at this; omega
        have N3 : some (w.heap.size + 1) ≠ u.ownBlock := fun e => by have := (HSP6.out.lt e.symm).1; omega
        have F0 := Lib.hid (BoxAt.free HBN6.out 3)
        refine wpAnyH_take (i := 15) (v := .agg #[.string s.fin, .slice (some ⟨ga, 0, none⟩) s.arcs.length ca]) rfl (by kernel_rfl) (by kernel_rfl) (by kernel_rfl) (fun _ _ _ h => h) (Or.inl ⟨by rfl, ?_⟩) hHeld ?_
        · intro W hSw
          (try dsimp only at hSw)
          first | (go_simp; done) | (go_simp; rfl)
        (try simp only [List.getElem_toArray, List.getElem_cons_succ, List.getElem_cons_zero, Act.put, List.setIfInBounds_toArray, List.set_cons_zero, List.set_cons_succ])
        refine wpAnyH_ready (rs := [16]) (by kernel_rfl) (by simp) ?_
        refine AllReadyH.cons rfl (fun K hK => ?_) AllReadyH.nil
        go_simp
        refine hK.out _ _ ⟨keepA_new c0, keepA_new c1, keepA_new c2, keepA_new c3⟩ (fun hHeld => ?_)
        refine wpAnyH_ready (rs := [17]) (by kernel_rfl) (by simp) ?_
        refine AllReadyH.cons rfl (fun K hK => ?_) AllReadyH.nil
        have hown7 : (w6.alloc (.cells #[.string s.fin, .slice (some ⟨ga, 0, none⟩) s.arcs.length ca] 29)).ownsRow (w.heap.size + 3) 29 2 u k (((m.states.take k).zip us).flatMap stC) := by
          have h := (HSP6.out.grown ((World.grownBy_alloc w6 (.cells #[.string s.fin, .slice (some ⟨ga, 0, none⟩) s.arcs.length ca] 29) none))).own
          rw [hk1] at h
          exact h
        refine step_append_lies _ (by rfl) _ _ _ (by rfl) (w.heap.size + 3) 29 i2 (.agg #[.string ByteArray.empty, .slice none 0 0]) 2 40 Tryz.underlying22 hj hy0 hy1 hy2 rfl (by omega) u k _ (by rfl) hown7 ⟨w6.heap.size, 0, none⟩ 1 1 [.string s.fin, .slice (some ⟨ga, 0, none⟩) s.arcs.length ca] (by rfl) (by rfl) (World.news_of_block (cs := #[.string s.fin, .slice (some ⟨ga, 0, none⟩) s.arcs.length ca]) (t := 29) (fr := (0, 0)) (heap_alloc_new w6 _)) (by simp [Value.oneCell']) (by omega) (by unfold maxLen; omega) (by omega) (by simp; omega) (w6.heap.size + 1) (by simp) ?_
        intro gg cc w8 hown8 hg8 hat8 hlt8
        refine hK.out _ _ ⟨keepA_cell c0 hg8 N0, keepA_cell c1 hg8 N1, keepA_cell c2 hg8 N2, keepA_cell c3 hg8 N2⟩ (fun hHeld => ?_)
        have s3 := keepA_cell c0 hg8 N0
        have s4 := keepA_free (a := ⟨w.heap.size + 1 + 1, 3, none⟩) (by show w.heap.size + 1 + 1 < w6.heap.size; omega) F0.out hg8 N0
        refine wpAnyH_take (i := 18) (v := .pointer (some ⟨w.heap.size + 1 + 1, 3, none⟩)) rfl (by kernel_rfl) (by kernel_rfl) (by kernel_rfl) (fun _ _ _ h => h) (Or.inl ⟨by rfl, ?_⟩) hHeld ?_
        · intro W hSw
          (try dsimp only at hSw)
          first | (go_simp; done) | (go_simp; rfl)
        (try simp only [List.getElem_toArray, List.getElem_cons_succ, List.getElem_cons_zero, Act.put, List.setIfInBounds_toArray, List.set_cons_zero, List.set_cons_succ])
        refine wpAnyH_done (by kernel_rfl) ?_ _
        refine lastQ_step (by rfl) (fun K hK => ?_)
        go_simp
        refine hK _ _ ?_
        have hX : w6.grownBy (w6.alloc (.cells #[.string s.fin, .slice (some ⟨ga, 0, none⟩) s.arcs.length ca] 29)) none := World.grownBy_alloc _ _ _
        have hsp8 := (HSP6.out.grown hX).push (x := (.slice (some ⟨ga, 0, none⟩) s.arcs.length ca)) (s := s) ((arcs_of_own hownA).grown (World.grownBy_alloc w6 _ none)) (fun h0' => by show some ga ≠ u.ownBlock; intro e; exact hne6 ga e.symm rfl) (fun h0' b hb => (hownA.lt b hb).1) (by rw [hk1]; exact hown8) hg8 (by rcases hat8 with e | e; exact .inl e; exact .inr (by rw [e]; simp))
        rw [hk1, ← take_one HSS.out] at hsp8
        have gst := grown_setCell w8 ⟨w.heap.size + 1 + 1, 3, none⟩ (.slice (some ⟨gg, 0, none⟩) (k + 1) cc)
        have hst8 := hsp8.st.other gst (by show some gg ≠ some (w.heap.size + 1 + 1); intro e; have := (hsp8.lt (b := gg) rfl).1; cases e; omega) (by show ¬ w.heap.size + 3 ≤ w.heap.size + 1 + 1; omega)
        have hgw := grown_many (grown_trans HGR6 hX) hg8 (fun b e => by have := (HSP6.out.lt e).1; omega)
        have HGW := Lib.hid (grown_step (g := w.heap.size + 1 + 1) hgw gst (by omega))
        have hbx8 := (hg8.block (w.heap.size + 1 + 1) (by have := hX.size; omega) N0).trans (BoxAt.grown HBN6.out hX)
        have HBN8 := Lib.hid (BoxAt.set3 (v := .slice (some ⟨gg, 0, none⟩) (k + 1) cc) hbx8)
        have HBR8 := Lib.hid (show BoxAt _ (w.heap.size + 1) mach0 (.slice none 0 0) from (gst.block (w.heap.size + 1) (by have := hg8.size; have := hX.size; omega) (by intro e; injection e with e; change _ = w.heap.size + 1 + 1 at e; omega)).trans ((hg8.block (w.heap.size + 1) (by have := hX.size; omega) N3).trans (BoxAt.grown HBR6.out hX)))
        have HST8 := Lib.hid hst8
        have HBM8 := Lib.hid (show BoxAt _ w.heap.size m (.slice (some ad) m.states.length cap) from (gst.block w.heap.size (by have := hg8.size; have := hX.size; omega) (by intro e; injection e with e; change _ = w.heap.size + 1 + 1 at e; omega)).trans ((hg8.block w.heap.size (by have := hX.size; omega) N1).trans (BoxAt.grown HBM6.out hX)))
        clear hsp8 hst8 gst hgw hbx8 hX hown8 hg8 hat8 s3 s4 c0 c1 c2 c3
        go_wp2
        go_roundw
        case rel => exact ⟨k + 1, _, by go_num, by omega, HST8.out, HBN8.out, HBR8.out, HBM8.out, HGW.out⟩
        case measure => simp [intOf]; omega
    · have n1 : ¬ (k : Int) < (m.states.length : Int) := by omega
      obtain ⟨v0, v1, v2, v3⟩ := BoxAt.cells HBR2.out
      have hst := HST.out
      rw [List.take_of_length_le (by omega)] at hst
      obtain ⟨Au, cu, usu, hu0, _⟩ := hst.sl
      subst hu0
      obtain ⟨w0, w1, w2, w3⟩ := BoxAt.cells HBN2.out
      simp only [mach0] at v0 v1 v2
      have f0 := BoxAt.free HBR2.out 0; have f1 := BoxAt.free HBR2.out 1; have f2 := BoxAt.free HBR2.out 2; have f3 := BoxAt.free HBR2.out 3
      obtain ⟨hbf, hgf⟩ := box_fill (n := hdM m) (v := .slice Au m.states.length cu) HBR2.out
      have HGF := Lib.hid (grown_step (g := w.heap.size + 1) HGR.out hgf (by omega))
      obtain ⟨us, hsp⟩ := hst.p hC
      have hst2 := hst.other hgf (by intro e; have := (hsp.lt e).1; omega) (by omega)
      have T := Lib.hid (hst2.mono (B' := w.heap.size) (P' := fun b => w.heap.size ≤ b) (by omega) (fun b hb => by omega))
      obtain ⟨c0, c1, c2, c3⟩ := hbf.cells
      clear hbf hgf hst hst2 hsp hS2
      go_wp2_with fail
      generalize (((wr.setCell ⟨w.heap.size + 1, 0, none⟩ (.int .i64 (hdM m).kind)).setCell ⟨w.heap.size + 1, 1, none⟩ (.int .i64 (hdM m).start)).setCell ⟨w.heap.size + 1, 2, none⟩ (.string (hdM m).lead)).setCell ⟨w.heap.size + 1, 3, none⟩ (.slice Au m.states.length cu) = WW at *
      exact bodyPost_ret (v := .agg #[.int .i64 (hdM m).kind, .int .i64 (hdM m).start, .string (hdM m).lead, .slice Au m.states.length cu]) (by simp [results, Tryz.results9, go_sem, c0, c1, c2, c3]) rfl ⟨_, rfl, ⟨_, rfl, T.out⟩, HGF.out⟩
end Go.Proofs.YtbmonhnojkiapaaGreatDoor
