/- U34 -/
import Derived.Test.YtaogepcaoogpgaaGreatDoorV32
import Derived.Test.YtaogepcaoogpgaaGreatDoorV31
import Derived.Test.YtaogepcaoogpgaaGreatDoorV34
import Derived.Test.YtaogepcaoogpgaaGreatDoorV39
import Derived.Test.YtaogepcaoogpgaaGreatDoorV40
import Derived.Test.YtaogepcaoogpgaaGreatDoorV36
set_option linter.unusedVariables false
set_option linter.unusedSimpArgs false
namespace Go.Proofs.YtaogepcaoogpgaaGreatDoor
noncomputable def trimM (m : Mach) : Mach := trimW (noneM m.kind) m
theorem trimM_nil {m : Mach} (h : usefulL m = []) : trimM m = noneM m.kind := by unfold trimM trimW; rw [if_pos h]
theorem trimM_some {m : Mach} (h : usefulL m ≠ []) : trimM m = renumM m (usefulL m) := by unfold trimM trimW; rw [if_neg h]
theorem trimM_kind (m : Mach) : (trimM m).kind = m.kind := by
 by_cases h : usefulL m = []
 ·rw [trimM_nil h]; rfl
 ·rw [trimM_some h]; rfl
theorem valid_wf {m : Mach} (h : validB m = true) : Wf m := by
 obtain ⟨_, _, _, h1, h2, _⟩ := head_parts (valid_head h)
 refine ⟨⟨h1, h2⟩, fun s hs a ha => ?_⟩
 obtain ⟨k, hk⟩ := List.mem_iff_getElem?.1 hs
 have := arc_parts ((state_parts (valid_states h hk)).2 a ha)
 exact ⟨this.2.2.2.2.1, this.2.2.2.2.2.1⟩
theorem valid_state {m : Mach} (h : validB m = true) {s : MState} (hs : s ∈ m.states) : finB m.kind s.fin = true ∧ ∀ a ∈ s.arcs, arcB m.kind m.states.length a = true := by
 obtain ⟨k, hk⟩ := List.mem_iff_getElem?.1 hs
 exact state_parts (valid_states h hk)
theorem arc_moved {k : Int} {n n' : Nat} {a a' : MArc} (h : arcB k n a = true) (hi : a'.i = a.i) (ho : a'.o = a.o) (hw : a'.w = a.w) (ht : 0 ≤ a'.t ∧ a'.t < (n' : Int)) : arcB k n' a' = true := by
 obtain ⟨h1, h2, h3, h4, h5, h6, h7⟩ := arc_parts h
 unfold arcB
 rw [hi, ho, hw, h7]
 simp only [Bool.and_true, decide_eq_true_eq]
 omega
theorem valid_of {m n : Mach} (h : validB m = true) (hk : n.kind = m.kind) (hl : n.lead = m.lead) (h1 : 1 ≤ n.states.length) (h2 : n.states.length ≤ 3000) (hs : 0 ≤ n.start ∧ n.start < (n.states.length : Int)) (ha : nArcs n.states ≤ 30000)
  (hst : ∀ s ∈ n.states, finB m.kind s.fin = true ∧ ∀ a ∈ s.arcs, arcB m.kind n.states.length a = true) : validB n = true := by
 obtain ⟨k1, _, _, _, _, k6⟩ := head_parts (valid_head h)
 unfold validB headB
 rw [hk, hl, k1, k6]
 simp only [Bool.true_and, Bool.and_true, Bool.and_eq_true, decide_eq_true_eq, List.all_eq_true]
 refine ⟨⟨⟨h1, h2, hs⟩, ha⟩, fun s hm => ?_⟩
 unfold stB6
 rw [(hst s hm).1]
 simp only [Bool.true_and, List.all_eq_true]
 exact (hst s hm).2
theorem none_valid {k : Int} (h : kindB k = true) : validB (noneM k) = true := by
 have hk := (kindB_iff k).1 h
 have hw : Wgt k (oneT k) (unitOf k) := ⟨oneT_is hk, by rcases hk with rfl | rfl | rfl <;> decide +kernel⟩
 unfold validB headB noneM
 simp only [h, wgtB_yes hw]
 simp [nArcs, stB6, finB]
theorem sum_rising (f : Nat → Nat) : ∀ (n : Nat) (l : List Nat), l.Nodup → (∀ x ∈ l, x < n) → (l.map f).sum ≤ ((List.range n).map f).sum
 | 0, l, _, hb => by
  cases l with
  | nil => simp
  | cons x l => exact absurd (hb x (List.mem_cons_self ..)) (by omega)
 | n + 1, l, hn, hb => by
  rw [List.range_succ, List.map_append, List.sum_append]
  by_cases h : n ∈ l
  ·have hp := List.perm_cons_erase h
   have h1 := (hp.map f).sum_nat
   rw [List.map_cons, List.sum_cons] at h1
   have h2 := sum_rising f n (l.erase n) (hn.erase n) (fun x hx => by
    have h3 := (List.Nodup.mem_erase_iff hn).1 hx
    have := hb x h3.2
    have := h3.1
    omega)
   simp only [List.map_cons, List.map_nil, List.sum_cons, List.sum_nil]
   omega
  ·have h2 := sum_rising f n l hn (fun x hx => by
    have := hb x hx
    have : x ≠ n := fun e => h (e ▸ hx)
    omega)
   omega
theorem states_range (m : Mach) : (List.range m.states.length).map (stOf m) = m.states := by
 apply List.ext_getElem?
 intro i
 rw [List.getElem?_map]
 by_cases h : i < m.states.length
 ·rw [List.getElem?_range h]
  have hs : m.states[i]? = some m.states[i] := List.getElem?_eq_getElem h
  rw [hs]
  simp [stOf_at hs]
 ·rw [List.getElem?_eq_none (by simp; omega), List.getElem?_eq_none (by omega)]; rfl
theorem nArcs_range (m : Mach) : nArcs m.states = ((List.range m.states.length).map (fun x => (stOf m x).arcs.length)).sum := by
 conv => lhs; rw [← states_range m]
 unfold nArcs
 rw [List.map_map]
 rfl
theorem sum_le {α : Type} (f g : α → Nat) : ∀ l : List α, (∀ x ∈ l, f x ≤ g x) → (l.map f).sum ≤ (l.map g).sum
 | [], _ => by simp
 | x :: l, h => by
  have h1 := h x (List.mem_cons_self ..)
  have h2 := sum_le f g l (fun y hy => h y (List.mem_cons_of_mem _ hy))
  simp only [List.map_cons, List.sum_cons]
  omega
theorem stOf_mem {m : Mach} {x : Nat} (h : x < m.states.length) : stOf m x ∈ m.states := by
 have hs : m.states[x]? = some m.states[x] := List.getElem?_eq_getElem h
 rw [stOf_at hs]
 exact List.getElem_mem h
theorem renum_valid {m : Mach} {l : List Nat} (h : validB m = true) (hn : l.Nodup) (hb : ∀ x ∈ l, x < m.states.length) (hs : m.start.toNat ∈ l) : validB (renumM m l) = true := by
 obtain ⟨_, _, h3, _, _, _⟩ := head_parts (valid_head h)
 have hlen : (renumM m l).states.length = l.length := renum_len m l
 have hshort := nodup_short hn hb
 have hi := idx_lt_of hs
 refine valid_of h rfl rfl (by rw [hlen]; omega) (by rw [hlen]; omega) ⟨by show 0 ≤ ((l.idxOf m.start.toNat : Nat) : Int); omega, by rw [hlen]; show ((l.idxOf m.start.toNat : Nat) : Int) < _; omega⟩ ?_ ?_
 ·refine Nat.le_trans ?_ (valid_arcs h)
  rw [nArcs_range m]
  refine Nat.le_trans ?_ (sum_rising (fun x => (stOf m x).arcs.length) m.states.length l hn hb)
  unfold nArcs renumM
  rw [List.map_map]
  exact sum_le _ _ l (fun x _ => List.length_filterMap_le _ _)
 ·intro s hm
  simp only [renumM, List.mem_map] at hm
  obtain ⟨x, hx, rfl⟩ := hm
  have hv := valid_state h (stOf_mem (hb x hx))
  refine ⟨hv.1, fun a ha => ?_⟩
  simp only [renumS, List.mem_filterMap] at ha
  obtain ⟨b, hb1, hb2⟩ := ha
  unfold keepA at hb2
  split at hb2
  ·rename_i hin
   cases hb2
   have := idx_lt_of hin
   exact arc_moved (hv.2 b hb1) rfl rfl rfl ⟨by show 0 ≤ ((l.idxOf b.t.toNat : Nat) : Int); omega, by rw [hlen]; show ((l.idxOf b.t.toNat : Nat) : Int) < _; omega⟩
  ·cases hb2
theorem useful_below (m : Mach) : ∀ x ∈ usefulL m, x < m.states.length := fun x hx => List.mem_range.1 (List.mem_filter.1 hx).1
theorem useful_has {m : Mach} (hw : Wf m) (h : usefulL m ≠ []) : m.start.toNat ∈ usefulL m := by
 rw [useful_mem hw]
 by_cases hu : Useful m m.start.toNat
 ·exact hu
 ·exact absurd ((useful_nil hw).2 hu) h
theorem trim_valid {m : Mach} (h : validB m = true) : validB (trimM m) = true := by
 by_cases hu : usefulL m = []
 ·rw [trimM_nil hu]
  exact none_valid (head_parts (valid_head h)).1
 ·rw [trimM_some hu]
  exact renum_valid h (useful_nodup m) (useful_below m) (useful_has (valid_wf h) hu)
def bare (s : MState) : MState := ⟨ByteArray.empty, s.arcs⟩
open Go.RowKit
set_option maxRecDepth 20000 in
set_option maxHeartbeats 4000000 in
theorem nothing6_any (k : Int) (w : World) : Calls Tryz.prog 146 #[.int .i64 k] w (MNPost (noneM k) w) := by
 obtain ⟨i0, hi, hz0, hz1, hz2⟩ := info_parts6 info_st
 have RO := Lib.hid (sone_any k)
 have hb0 := BoxAt.new w mach0 (.slice none 0 0)
 have hg0 : w.grownBy (w.alloc (.cells #[.int .i64 mach0.kind, .int .i64 mach0.start, .string mach0.lead, .slice none 0 0] 31)) none := World.grownBy_alloc _ _ _
 have HP := Lib.hid (place_of hb0 hg0)
 clear hb0 hg0
 obtain ⟨mk, hmk, hmg, hms⟩ : ∃ mk : World → World, (∀ w : World, (Instr.makeSlice 29 (.int .i64 1) (.int .i64 1)).run Tryz.prog w = .ok (.slice (some ⟨w.heap.size, 0, none⟩) 1 1) (mk w)) ∧ (∀ w : World, w.grownBy (mk w) none) ∧ ∀ w : World, (mk w).heap[w.heap.size]? = some (.cells #[.string ByteArray.empty, .slice none 0 0] 57 (0, 0)) :=
  ⟨fun w => w.alloc (.cells #[.string ByteArray.empty, .slice none 0 0] 57), fun w => run_makeSlice w 29 57 i0 _ Tryz.underlying29 hi hz0 .i64 .i64 1 1 (by decide) (by decide) (by rw [hz1]; decide) (by rw [hz2]; decide) (by decide) |>.trans (by rw [hz1, made_st]; rfl), fun w => World.grownBy_alloc _ _ _, fun w => by show (w.heap.push _)[w.heap.size]? = _; rw [Array.getElem?_push_size]⟩
 have HMS := Lib.hid hms; have HMG := Lib.hid hmg
 clear hms hmg
 go_enter Tryz.func146, Tryz.ntmps146
 go_upto_region 1 with (fail)
 clear hi hz0 hz1 hz2
 have hp := HP.out.next_drew
 unfold Place at hp
 obtain ⟨hp1, hp2⟩ := hp
 go_region_held3 (fun W' => True) (trivial)
  (first
   | (go_at_call 34; refine (RO.out _).mono ?_; rintro e w5 ⟨rfl, hg5⟩; have s1 := place_next w hg5 (by first | exact ⟨hp1, hp2⟩ | exact place_next w (HMG.out _) ⟨hp1, hp2⟩); obtain ⟨⟨q0, q1, q2, q3, f0, f1, f2, f3⟩, _⟩ := id s1; have s2 := place_next w (HMG.out w5) s1; obtain ⟨⟨r0, r1, r2, r3, e0, e1, e2, e3⟩, _⟩ := id s2))
 ·have P := place_fill (n := noneM k) (v := .slice (some ⟨w5.heap.size, 0, none⟩) 1 1) s2
  have t3 := one_state ((P.2.2 w5.heap.size (by have := s1.2.out.1.lt; omega) (Array.getElem?_eq_some_iff.1 (HMS.out w5)).1).trans (HMS.out w5)) (B := w.heap.size) (by have := s1.2.out.2.size; omega)
  simp only [noneM] at P t3
  clear hp1 hp2 s1 q0 q1 q2 q3 f0 f1 f2 f3 s2 r0 r1 r2 r3 e0 e1 e2 e3
  have T := Lib.hid t3; have T2 := Lib.hid P.2.1
  obtain ⟨c0, c1, c2, c3⟩ := P.1.cells
  simp only [] at c0 c1 c2 c3
  clear P t3
  go_wp2_with fail
  generalize ((((mk w5).setCell ⟨w.heap.size, 0, none⟩ (.int .i64 k)).setCell ⟨w.heap.size, 1, none⟩ (.int .i64 0)).setCell ⟨w.heap.size, 2, none⟩ (.string (oneT k))).setCell ⟨w.heap.size, 3, none⟩ (.slice (some ⟨w5.heap.size, 0, none⟩) 1 1) = WW at *
  exact bodyPost_ret (v := .agg #[.int .i64 k, .int .i64 0, .string (oneT k), .slice (some ⟨w5.heap.size, 0, none⟩) 1 1]) (by simp [results, Tryz.results146, go_sem, c0, c1, c2, c3]) rfl ⟨_, rfl, ⟨_, rfl, T.out⟩, T2.out⟩
 ·have P := place_fill (n := noneM k) (v := .slice (some ⟨w.heap.size + 1, 0, none⟩) 1 1) s1
  have hs := HMS.out (w.alloc (.cells #[.int .i64 0, .int .i64 0, .string ⟨#[]⟩, .slice none 0 0] 31)).drew
  have hs2 := (hg5.block _ (Array.getElem?_eq_some_iff.1 hs).1 (by simp)).trans hs
  rw [show (w.alloc (.cells #[.int .i64 0, .int .i64 0, .string ⟨#[]⟩, .slice none 0 0] 31)).drew.heap.size = w.heap.size + 1 by simp] at hs2
  have t3 := one_state ((P.2.2 (w.heap.size + 1) (by omega) (Array.getElem?_eq_some_iff.1 hs2).1).trans hs2) (B := w.heap.size) (by omega)
  simp only [noneM] at P t3
  clear hs hs2
  clear hp1 hp2 s1 q0 q1 q2 q3 f0 f1 f2 f3
  have T := Lib.hid t3; have T2 := Lib.hid P.2.1
  obtain ⟨c0, c1, c2, c3⟩ := P.1.cells
  simp only [] at c0 c1 c2 c3
  clear P t3
  go_wp2_with fail
  generalize (((w5.setCell ⟨w.heap.size, 0, none⟩ (.int .i64 k)).setCell ⟨w.heap.size, 1, none⟩ (.int .i64 0)).setCell ⟨w.heap.size, 2, none⟩ (.string (oneT k))).setCell ⟨w.heap.size, 3, none⟩ (.slice (some ⟨(w.heap.size + 1), 0, none⟩) 1 1) = WW at *
  exact bodyPost_ret (v := .agg #[.int .i64 k, .int .i64 0, .string (oneT k), .slice (some ⟨(w.heap.size + 1), 0, none⟩) 1 1]) (by simp [results, Tryz.results146, go_sem, c0, c1, c2, c3]) rfl ⟨_, rfl, ⟨_, rfl, T.out⟩, T2.out⟩
open Go.RowKit
theorem valid_small {m : Mach} (h : validB m = true) : Small m := ⟨valid_wf h, valid_len h, fun s hs => valid_row h hs⟩
set_option maxRecDepth 20000 in
set_option maxHeartbeats 4000000 in
theorem trim6_any {w : World} {v : Value} {m : Mach} (hv : MachV w v m) (hm : Small m) : Calls Tryz.prog 100 #[v] w (MNPost (trimM m) w) := by
 have hv0 := hv
 obtain ⟨u, rfl, hst0⟩ := hv
 obtain ⟨A, cap, us, rfl, hS0⟩ := StAt.of hst0
 have hg : w.grownBy (w.alloc (.cells #[.int .i64 m.kind, .int .i64 m.start, .string m.lead, .slice A m.states.length cap] 31)) none := World.grownBy_alloc _ _ _
 have hbx := BoxAt.new w m (.slice A m.states.length cap)
 have hg2 := World.grownBy_alloc (w.alloc (.cells #[.int .i64 m.kind, .int .i64 m.start, .string m.lead, .slice A m.states.length cap] 31)) (.cells #[.int .i64 mach0.kind, .int .i64 mach0.start, .string mach0.lead, .slice none 0 0] 31) none
 have hb2 := BoxAt.new (w.alloc (.cells #[.int .i64 m.kind, .int .i64 m.start, .string m.lead, .slice A m.states.length cap] 31)) mach0 (.slice none 0 0)
 have e1 : (w.alloc (.cells #[.int .i64 m.kind, .int .i64 m.start, .string m.lead, .slice A m.states.length cap] 31)).heap.size = w.heap.size + 1 := by simp
 rw [e1] at hb2
 have hsz2 : w.heap.size + 2 ≤ ((w.alloc (.cells #[.int .i64 m.kind, .int .i64 m.start, .string m.lead, .slice A m.states.length cap] 31)).alloc (.cells #[.int .i64 mach0.kind, .int .i64 mach0.start, .string mach0.lead, .slice none 0 0] 31)).heap.size := by simp
 have HSZ2 := Lib.hid hsz2
 have HV0 := Lib.hid hv0; have HB1 := Lib.hid (hbx.grown hg2); have HB2 := Lib.hid hb2; have HG := Lib.hid (grown_trans hg hg2)
 obtain ⟨x0, x1, x2, x3⟩ := BoxAt.cells HB1.out
 clear hbx hg hst0 hS0 hv0 hg2 hb2 e1 hsz2
 have HM := Lib.hid hm
 have HU := Lib.hid (useful_any (HV0.out.grown HG.out) hm)
 clear hm
 go_enter Tryz.func100, Tryz.ntmps100
 go_wp2_with fail
 refine HU.out.mono ?_
 rintro e w1 ⟨lv, rfl, hl, hg1⟩
 have HL := Lib.hid hl
 obtain ⟨Al, capl, rfl, hrl⟩ := hl
 have HSZ1 : Hid (w.heap.size + 2 ≤ w1.heap.size) := Lib.hid (Nat.le_trans HSZ2.out hg1.size)
 have HG1 := Lib.hid (grown_trans HG.out hg1)
 have HB1a := Lib.hid (BoxAt.grown HB1.out hg1)
 have HB2a := Lib.hid (BoxAt.grown HB2.out hg1)
 clear hg1 hrl HU HSZ2 HB1 HB2 HG x0 x1 x2 x3
 obtain ⟨x0, x1, x2, x3⟩ := BoxAt.cells HB1a.out
 by_cases h0 : usefulL m = []
 ·have HT := Lib.hid (trimM_nil h0)
  have n0 : (usefulL m).length = 0 := by rw [h0]; rfl
  have HC := Lib.hid (nothing6_any m.kind w1)
  clear h0
  rw [n0]
  go_wp2_with fail
  refine HC.out.mono ?_
  intro e w2 h2
  obtain ⟨A2, k2, rfl, hsz, hg2⟩ := h2.open6
  have hle := HSZ1.out
  have HGZ := Lib.hid (grown_trans HG1.out hg2)
  have hbz := BoxAt.grown HB2a.out hg2
  clear h2 hg2 x0 x1 x2 x3
  obtain ⟨v0, v1, v2, v3⟩ := hbz.cells
  simp only [mach0] at v0 v1 v2
  have f0 := hbz.free 0; have f1 := hbz.free 1; have f2 := hbz.free 2; have f3 := hbz.free 3
  obtain ⟨hbf, hgf⟩ := box_fill (n := (noneM m.kind)) (v := .slice A2 (noneM m.kind).states.length k2) hbz
  have HGF := Lib.hid (grown_step (g := w.heap.size + 1) HGZ.out hgf (by omega))
  have T := Lib.hid ((hsz.kept (kept_step hgf (by omega))).mono (C := w.heap.size) (by omega))
  obtain ⟨c0, c1, c2, c3⟩ := hbf.cells
  clear hsz hbz hbf hgf
  go_wp2_with fail
  generalize (((w2.setCell ⟨w.heap.size + 1, 0, none⟩ (.int .i64 (noneM m.kind).kind)).setCell ⟨w.heap.size + 1, 1, none⟩ (.int .i64 (noneM m.kind).start)).setCell ⟨w.heap.size + 1, 2, none⟩ (.string (noneM m.kind).lead)).setCell ⟨w.heap.size + 1, 3, none⟩ (.slice A2 (noneM m.kind).states.length k2) = WW at *
  exact bodyPost_ret (v := .agg #[.int .i64 (noneM m.kind).kind, .int .i64 (noneM m.kind).start, .string (noneM m.kind).lead, .slice A2 (noneM m.kind).states.length k2]) (by simp [results, Tryz.results100, go_sem, c0, c1, c2, c3]) rfl ⟨_, rfl, by rw [HT.out]; exact ⟨_, rfl, T.out⟩, HGF.out⟩
 ·have HT := Lib.hid (trimM_some h0)
  have n0 : ¬ (usefulL m).length = 0 := fun e => h0 (List.eq_nil_of_length_eq_zero e)
  have n1 : ¬ ((usefulL m).length : Int) = 0 := by omega
  have HC := Lib.hid (only_any (HV0.out.grown HG1.out) HM.out HL.out (useful_nodup m) (useful_below m) (useful_has HM.out.wf h0))
  clear h0
  go_wp2_with fail
  refine HC.out.mono ?_
  intro e w2 h2
  obtain ⟨A2, k2, rfl, hsz, hg2⟩ := h2.open6
  have hle := HSZ1.out
  have HGZ := Lib.hid (grown_trans HG1.out hg2)
  have hbz := BoxAt.grown HB2a.out hg2
  clear h2 hg2 x0 x1 x2 x3
  obtain ⟨v0, v1, v2, v3⟩ := hbz.cells
  simp only [mach0] at v0 v1 v2
  have f0 := hbz.free 0; have f1 := hbz.free 1; have f2 := hbz.free 2; have f3 := hbz.free 3
  obtain ⟨hbf, hgf⟩ := box_fill (n := (renumM m (usefulL m))) (v := .slice A2 (renumM m (usefulL m)).states.length k2) hbz
  have HGF := Lib.hid (grown_step (g := w.heap.size + 1) HGZ.out hgf (by omega))
  have T := Lib.hid ((hsz.kept (kept_step hgf (by omega))).mono (C := w.heap.size) (by omega))
  obtain ⟨c0, c1, c2, c3⟩ := hbf.cells
  clear hsz hbz hbf hgf
  go_wp2_with fail
  generalize (((w2.setCell ⟨w.heap.size + 1, 0, none⟩ (.int .i64 (renumM m (usefulL m)).kind)).setCell ⟨w.heap.size + 1, 1, none⟩ (.int .i64 (renumM m (usefulL m)).start)).setCell ⟨w.heap.size + 1, 2, none⟩ (.string (renumM m (usefulL m)).lead)).setCell ⟨w.heap.size + 1, 3, none⟩ (.slice A2 (renumM m (usefulL m)).states.length k2) = WW at *
  exact bodyPost_ret (v := .agg #[.int .i64 (renumM m (usefulL m)).kind, .int .i64 (renumM m (usefulL m)).start, .string (renumM m (usefulL m)).lead, .slice A2 (renumM m (usefulL m)).states.length k2]) (by simp [results, Tryz.results100, go_sem, c0, c1, c2, c3]) rfl ⟨_, rfl, by rw [HT.out]; exact ⟨_, rfl, T.out⟩, HGF.out⟩
noncomputable def trimV (m : Mach) : Mach × Int := if validB m = true then (trimM m, 0) else (mach0, 1)
set_option maxRecDepth 20000 in
set_option maxHeartbeats 4000000 in
theorem ptrim_any {w : World} {v : Value} {m : Mach} (hv : MachV w v m) (hf : MFits m) : Calls Tryz.prog 56 #[v] w (MPost (trimV m) w) := by
 have hval := fun w' (h : w.grownBy w' none) => pvalid_any (hv.grown h) hf
 have HV := Lib.hid hval
 clear hval
 have hv0 := hv
 obtain ⟨u, rfl, hst0⟩ := hv
 obtain ⟨A, cap, us, rfl, hS0⟩ := StAt.of hst0
 have hg : w.grownBy (w.alloc (.cells #[.int .i64 m.kind, .int .i64 m.start, .string m.lead, .slice A m.states.length cap] 31)) none := World.grownBy_alloc _ _ _
 have hbx := BoxAt.new w m (.slice A m.states.length cap)
 have hg2 := World.grownBy_alloc (w.alloc (.cells #[.int .i64 m.kind, .int .i64 m.start, .string m.lead, .slice A m.states.length cap] 31)) (.cells #[.int .i64 mach0.kind, .int .i64 mach0.start, .string mach0.lead, .slice none 0 0] 31) none
 have hb2 := BoxAt.new (w.alloc (.cells #[.int .i64 m.kind, .int .i64 m.start, .string m.lead, .slice A m.states.length cap] 31)) mach0 (.slice none 0 0)
 have e1 : (w.alloc (.cells #[.int .i64 m.kind, .int .i64 m.start, .string m.lead, .slice A m.states.length cap] 31)).heap.size = w.heap.size + 1 := by simp
 rw [e1] at hb2
 have hsz2 : w.heap.size + 2 ≤ ((w.alloc (.cells #[.int .i64 m.kind, .int .i64 m.start, .string m.lead, .slice A m.states.length cap] 31)).alloc (.cells #[.int .i64 mach0.kind, .int .i64 mach0.start, .string mach0.lead, .slice none 0 0] 31)).heap.size := by simp
 have HSZ2 := Lib.hid hsz2
 have HV0 := Lib.hid hv0; have HB1 := Lib.hid (hbx.grown hg2); have HB2 := Lib.hid hb2; have HG := Lib.hid (grown_trans hg hg2)
 obtain ⟨x0, x1, x2, x3⟩ := BoxAt.cells HB1.out
 clear hbx hg hst0 hS0 hv0 hg2 hb2 e1 hsz2
 go_enter Tryz.func56, Tryz.ntmps56
 go_wp2_with fail
 refine (HV.out _ HG.out).mono ?_
 rintro e w1 ⟨rfl, hg1⟩
 have HSZ1 : Hid (w.heap.size + 2 ≤ w1.heap.size) := Lib.hid (Nat.le_trans HSZ2.out hg1.size)
 have HG1 := Lib.hid (grown_trans HG.out hg1)
 have HB1a := Lib.hid (BoxAt.grown HB1.out hg1)
 have HB2a := Lib.hid (BoxAt.grown HB2.out hg1)
 clear hg1 HSZ2 HB1 HB2 HG x0 x1 x2 x3
 obtain ⟨x0, x1, x2, x3⟩ := BoxAt.cells HB1a.out
 cases hB : validB m
 ·have HN : Hid (trimV m = (mach0, 1)) := Lib.hid (by unfold trimV; rw [hB]; rfl)
  have hle := HSZ1.out
  have HGZ := HG1
  have hbz := HB2a.out
  have hsz := StN.nil w1 (w.heap.size + 2)
  clear hB x0 x1 x2 x3
  obtain ⟨v0, v1, v2, v3⟩ := hbz.cells
  have f0 := hbz.free 0; have f1 := hbz.free 1; have f2 := hbz.free 2; have f3 := hbz.free 3
  obtain ⟨hbf, hgf⟩ := box_fill (n := mach0) (v := .slice none 0 0) hbz
  have HGF := Lib.hid (grown_step (g := w.heap.size + 1) HGZ.out hgf (by omega))
  have T := Lib.hid ((hsz.kept (kept_step hgf (by omega))).mono (C := w.heap.size) (by omega))
  obtain ⟨c0, c1, c2, c3⟩ := hbf.cells
  clear hsz hbz hbf hgf
  go_wp2_with fail
  generalize (((w1.setCell ⟨w.heap.size + 1, 0, none⟩ (.int .i64 mach0.kind)).setCell ⟨w.heap.size + 1, 1, none⟩ (.int .i64 mach0.start)).setCell ⟨w.heap.size + 1, 2, none⟩ (.string mach0.lead)).setCell ⟨w.heap.size + 1, 3, none⟩ (.slice none 0 0) = WW at *
  exact bodyPost_ret (v := .tuple #[.agg #[.int .i64 mach0.kind, .int .i64 mach0.start, .string mach0.lead, .slice none 0 0], .int .i64 1]) (by simp [results, Tryz.results56, go_sem, c0, c1, c2, c3]) rfl (by rw [HN.out]; exact ⟨_, rfl, ⟨_, rfl, T.out⟩, HGF.out⟩)
 ·have HT := Lib.hid (trim6_any (HV0.out.grown HG1.out) (valid_small hB))
  have HN : Hid (trimV m = (trimM m, 0)) := Lib.hid (by unfold trimV; rw [hB]; rfl)
  clear hB
  generalize trimM m = t at *
  go_wp2_with fail
  refine HT.out.mono ?_
  intro e w2 h2
  obtain ⟨A2, k2, rfl, hsz, hg2⟩ := h2.open6
  have hle := HSZ1.out
  have HGZ := Lib.hid (grown_trans HG1.out hg2)
  have hbz := BoxAt.grown HB2a.out hg2
  clear h2 hg2 x0 x1 x2 x3
  obtain ⟨v0, v1, v2, v3⟩ := hbz.cells
  simp only [mach0] at v0 v1 v2
  have f0 := hbz.free 0; have f1 := hbz.free 1; have f2 := hbz.free 2; have f3 := hbz.free 3
  obtain ⟨hbf, hgf⟩ := box_fill (n := t) (v := .slice A2 t.states.length k2) hbz
  have HGF := Lib.hid (grown_step (g := w.heap.size + 1) HGZ.out hgf (by omega))
  have T := Lib.hid ((hsz.kept (kept_step hgf (by omega))).mono (C := w.heap.size) (by omega))
  obtain ⟨c0, c1, c2, c3⟩ := hbf.cells
  clear hsz hbz hbf hgf
  go_wp2_with fail
  generalize (((w2.setCell ⟨w.heap.size + 1, 0, none⟩ (.int .i64 t.kind)).setCell ⟨w.heap.size + 1, 1, none⟩ (.int .i64 t.start)).setCell ⟨w.heap.size + 1, 2, none⟩ (.string t.lead)).setCell ⟨w.heap.size + 1, 3, none⟩ (.slice A2 t.states.length k2) = WW at *
  exact bodyPost_ret (v := .tuple #[.agg #[.int .i64 t.kind, .int .i64 t.start, .string t.lead, .slice A2 t.states.length k2], .int .i64 0]) (by simp [results, Tryz.results56, go_sem, c0, c1, c2, c3]) rfl (by rw [HN.out]; exact ⟨_, rfl, ⟨_, rfl, T.out⟩, HGF.out⟩)
end Go.Proofs.YtaogepcaoogpgaaGreatDoor
