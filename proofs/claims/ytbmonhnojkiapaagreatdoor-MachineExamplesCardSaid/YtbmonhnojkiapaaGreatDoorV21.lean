/- The reference's Acceptor and Quiet. · The reference's Same. · Machines in new memory: what a call of the program's has built. · The reference's Nothing. -/
import Derived.Test.YtbmonhnojkiapaaGreatDoorV20
import Derived.Deep.QuietTactic
import Derived.BigQuiet
import Derived.Deep.RegionHeld3
import Derived.Laws.StructEq
set_option linter.unusedVariables false
set_option linter.unusedSimpArgs false
namespace Go.Proofs.YtbmonhnojkiapaaGreatDoor
open Go.RowKit

/-- Valid, and each arc is so. -/
noncomputable def everyB (P : MArc → Bool) (m : Mach) : Bool := validB m && m.states.all (fun s => s.arcs.all P)
theorem every_yes {P : MArc → Bool} {m : Mach} (hv : validB m = true) (h : ∀ (k : Nat) (s : MState), m.states[k]? = some s → s.arcs.all P = true) : everyB P m = true := by
  unfold everyB
  rw [hv]
  simp only [Bool.true_and, List.all_eq_true]
  intro s hs a ha
  obtain ⟨k, hk⟩ := List.mem_iff_getElem?.1 hs
  exact List.all_eq_true.1 (h k s hk) a ha
/-- What a round of the outer loop holds. -/
structure EOut (P : MArc → Bool) (m : Mach) (k : Nat) : Prop where
  hk : k ≤ m.states.length
  hs : ∀ (j : Nat) (s : MState), j < k → m.states[j]? = some s → s.arcs.all P = true
theorem EOut.next {P : MArc → Bool} {m : Mach} {k : Nat} {s : MState} (h : EOut P m k) (hs : m.states[k]? = some s) (hP : s.arcs.all P = true) : EOut P m (k + 1) :=
  ⟨by have := (List.getElem?_eq_some_iff.1 hs).1; omega, fun j t hj ht => by
    by_cases e : j = k
    · subst e; rw [hs] at ht; cases ht; exact hP
    · exact h.hs j t (by omega) ht⟩
theorem EOut.all {P : MArc → Bool} {m : Mach} {k : Nat} (h : EOut P m k) (hk : ¬ k < m.states.length) (hv : validB m = true) : everyB P m = true :=
  every_yes hv fun j s hs => h.hs j s (by have := (List.getElem?_eq_some_iff.1 hs).1; omega) hs
/-- .. of the inner loop. -/
structure EIn (P : MArc → Bool) (s : MState) (j : Nat) : Prop where
  hj : j ≤ s.arcs.length
  ha : ∀ (i : Nat) (a : MArc), i < j → s.arcs[i]? = some a → P a = true
theorem EIn.next {P : MArc → Bool} {s : MState} {j : Nat} {a : MArc} (h : EIn P s j) (ha : s.arcs[j]? = some a) (hP : P a = true) : EIn P s (j + 1) :=
  ⟨by have := (List.getElem?_eq_some_iff.1 ha).1; omega, fun i b hi hb => by
    by_cases e : i = j
    · subst e; rw [ha] at hb; cases hb; exact hP
    · exact h.ha i b (by omega) hb⟩
theorem EIn.all {P : MArc → Bool} {s : MState} {j : Nat} (h : EIn P s j) (hj : ¬ j < s.arcs.length) : s.arcs.all P = true := by
  rw [List.all_eq_true]
  intro a ha
  obtain ⟨i, hi⟩ := List.mem_iff_getElem?.1 ha
  exact h.ha i a (by have := (List.getElem?_eq_some_iff.1 hi).1; omega) hi
def accP (a : MArc) : Bool := decide (a.i = a.o)
def quietP (a : MArc) : Bool := !(decide (a.i = 0) && decide (a.o = 0))
theorem valid_len {m : Mach} (h : validB m = true) : m.states.length ≤ 3000 := (head_parts (valid_head h)).2.2.1
theorem valid_row {m : Mach} (h : validB m = true) {s : MState} (hs : s ∈ m.states) : s.arcs.length ≤ 30000 := Nat.le_trans (nArcs_mem hs) (valid_arcs h)

end Go.Proofs.YtbmonhnojkiapaaGreatDoor
set_option linter.unusedVariables false
set_option linter.unusedSimpArgs false
namespace Go.Proofs.YtbmonhnojkiapaaGreatDoor
open Go.RowKit

theorem text_ne {X Y : ByteArray} (he : ¬ X = Y) : (X.toList == Y.toList) = false := by
  rw [beq_eq_false_iff_ne]
  intro h; apply he
  exact ByteArray.ext (by rw [← Array.toList_inj]; rw [← Lib.toList_data, ← Lib.toList_data]; exact h)
theorem text_iff (X Y : ByteArray) : (X.toList = Y.toList) ↔ (X = Y) :=
  ⟨fun h => by apply Classical.byContradiction; intro e; have := text_ne e; rw [h] at this; simp at this, fun h => by rw [h]⟩
theorem mach_ne {m n : Mach} (h : ¬ (m.kind = n.kind ∧ m.start = n.start ∧ m.lead = n.lead ∧ m.states = n.states)) : decide (m = n) = false := by
  rw [decide_eq_false_iff_not]
  intro e; subst e; exact h ⟨rfl, rfl, rfl, rfl⟩
theorem mach_eq {m n : Mach} (h1 : m.kind = n.kind) (h2 : m.start = n.start) (h3 : m.lead = n.lead) (h4 : m.states = n.states) : decide (m = n) = true := by
  rw [decide_eq_true_iff]
  cases m; cases n; simp_all
theorem mach_ne_at {m n : Mach} {k : Nat} {x y : MState} (hx : m.states[k]? = some x) (hy : n.states[k]? = some y) (h : ¬ x = y) : decide (m = n) = false :=
  mach_ne fun e => h (by rw [e.2.2.2, hy] at hx; cases hx; rfl)
theorem state_ne_at {x y : MState} {k : Nat} {a b : MArc} (ha : x.arcs[k]? = some a) (hb : y.arcs[k]? = some b) (h : ¬ a = b) : ¬ x = y :=
  fun e => h (by rw [e, hb] at ha; cases ha; rfl)
theorem list_eq_of {α : Type} {l k : List α} (hl : l.length = k.length) (h : ∀ i, i < l.length → l[i]? = k[i]?) : l = k := by
  apply List.ext_getElem?
  intro i
  by_cases hi : i < l.length
  · exact h i hi
  · rw [List.getElem?_eq_none (by omega), List.getElem?_eq_none (by omega)]

theorem arc_equalIn (a b : MArc) (w : World) : (Op.equalIn 10000 35 (.agg #[.int .i64 a.i, .int .i64 a.o, .string a.w, .int .i64 a.t]) (.agg #[.int .i64 b.i, .int .i64 b.o, .string b.w, .int .i64 b.t])).run Tryz.prog w = .ok (decide (a = b)) w := by
  have u3 := Tryz.underlying3
  have u9 := Tryz.underlying9
  have a3 := Tryz.isAgg3
  have a9 := Tryz.isAgg9
  have z3 := Tryz.sizeOf3
  have z9 := Tryz.sizeOf9
  have hS : Tryz.prog.underlying 35 = some (.struct (Tryz.prog.fieldsOf 35)) := by kernel_rfl
  have hp : Tryz.prog.stoodInHeld 35 = false := by kernel_rfl
  rw [show (10000 : Nat) = 9999 + 1 from rfl, run_equalIn_agg w 9999 35 _ _ hS hp]
  simp only [Program.fieldsOf, Tryz.underlying35]
  go_simp
  cases a with | mk a1 a2 a3 a4 => cases b with | mk b1 b2 b3 b4 =>
  simp only [MArc.mk.injEq]
  by_cases h1 : a1 = b1 <;> by_cases h2 : a2 = b2 <;> by_cases h3 : a3 = b3 <;> by_cases h4 : a4 = b4 <;> simp [h1, h2, h3, h4, text_iff]
theorem arc_guard : Tryz.prog.eqGuardType Tryz.prog.depth 35 = false := by kernel_rfl

theorem st_new (w : World) (f : ByteArray) (u : Value) : StateAt (w.alloc (.cells #[.string f, u] 29)) ⟨w.heap.size, 0, none⟩ f u := by
  have hrow : (w.alloc (.cells #[.string f, u] 29)).heap[w.heap.size]? = some (.cells #[.string f, u] 29 (0, 0)) := by
    show (w.heap.push _)[w.heap.size]? = _
    rw [Array.getElem?_push_size]
  exact ⟨by rw [cell_of_row _ w.heap.size 0 _ _ (0, 0) hrow]; rfl, by show World.cell? _ ⟨w.heap.size, 0 + 1, none⟩ = _; rw [cell_of_row _ w.heap.size 1 _ _ (0, 0) hrow]; rfl⟩
theorem two_states (w : World) (f f2 : ByteArray) (u u2 : Value) :
    StateAt ((w.alloc (.cells #[.string f, u] 29)).alloc (.cells #[.string f2, u2] 29)).drew ⟨w.heap.size, 0, none⟩ f u ∧
    StateAt ((w.alloc (.cells #[.string f, u] 29)).alloc (.cells #[.string f2, u2] 29)).drew ⟨w.heap.size + 1, 0, none⟩ f2 u2 ∧
    w.grownBy ((w.alloc (.cells #[.string f, u] 29)).alloc (.cells #[.string f2, u2] 29)).drew none := by
  have h1 := st_new w f u
  have h2 := st_new (w.alloc (.cells #[.string f, u] 29)) f2 u2
  have hsz : (w.alloc (.cells #[.string f, u] 29)).heap.size = w.heap.size + 1 := by simp
  rw [hsz] at h2
  have g1 : w.grownBy (w.alloc (.cells #[.string f, u] 29)) none := World.grownBy_alloc _ _ _
  have g2 : (w.alloc (.cells #[.string f, u] 29)).grownBy ((w.alloc (.cells #[.string f, u] 29)).alloc (.cells #[.string f2, u2] 29)) none := World.grownBy_alloc _ _ _
  have g3 : ((w.alloc (.cells #[.string f, u] 29)).alloc (.cells #[.string f2, u2] 29)).grownBy ((w.alloc (.cells #[.string f, u] 29)).alloc (.cells #[.string f2, u2] 29)).drew none := grown_drew _ none
  exact ⟨(h1.grown g2 (by simp)).grown g3 (by simp; omega), h2.grown g3 (by simp), grown_trans g1 (grown_trans g2 g3)⟩

set_option maxRecDepth 20000 in
set_option maxHeartbeats 4000000 in
theorem rsame_any {w : World} {v v2 : Value} {m n : Mach} (hv : MachV w v m) (hv2 : MachV w v2 n) (hf : Fits m) :
    Calls Tryz.prog 14 #[v, v2] w (ValPost (.bool (decide (m = n))) w) := by
  obtain ⟨u, rfl, hst0⟩ := hv
  obtain ⟨u2, rfl, hst2⟩ := hv2
  have HST := Lib.hid hst0
  have HST2 := Lib.hid hst2
  have hg : w.grownBy (w.alloc (.cells #[.int .i64 m.kind, .int .i64 m.start, .string m.lead, u] 24)) none := World.grownBy_alloc _ _ _
  have hg2 := World.grownBy_alloc (w.alloc (.cells #[.int .i64 m.kind, .int .i64 m.start, .string m.lead, u] 24)) (.cells #[.int .i64 n.kind, .int .i64 n.start, .string n.lead, u2] 24) none
  have hbx := (BoxAt.new w m u).grown hg2
  have hbx2 := BoxAt.new (w.alloc (.cells #[.int .i64 m.kind, .int .i64 m.start, .string m.lead, u] 24)) n u2
  have hsz : (w.alloc (.cells #[.int .i64 m.kind, .int .i64 m.start, .string m.lead, u] 24)).heap.size = w.heap.size + 1 := by simp
  rw [hsz] at hbx2
  have hgg := grown_trans hg hg2
  clear hsz
  obtain ⟨A, cap, us, rfl, hul, hr, ha⟩ := hst0
  obtain ⟨A2, cap2, us2, rfl, hul2, hr2, ha2⟩ := hst2
  have HBX := Lib.hid hbx; have HBX2 := Lib.hid hbx2; have HG := Lib.hid hgg
  obtain ⟨x0, x1, x2, x3⟩ := hbx.cells
  obtain ⟨y0, y1, y2, y3⟩ := hbx2.cells
  have HF := Lib.hid hf
  have hln := hf.n
  clear hbx hbx2 hg hg2 hgg hr ha hul hr2 ha2 hul2 hf
  go_enter Tryz.func14, Tryz.ntmps14
  by_cases c1 : m.kind = n.kind
  · by_cases c2 : m.start = n.start
    · by_cases c3 : m.lead = n.lead
      · by_cases c4 : m.states.length = n.states.length
        · have e1 : (m.kind != n.kind) = false := by simp [c1]
          have e2 : (m.start != n.start) = false := by simp [c2]
          have e3 : (m.lead.toList == n.lead.toList) = true := by rw [c3]; simp
          have e4 : ((m.states.length : Int) != (n.states.length : Int)) = false := by simp; omega
          have K1 := Lib.hid c1; have K2 := Lib.hid c2; have K3 := Lib.hid c3; have K4 := Lib.hid c4
          clear c1 c2 c3 c4
          go_wp2
          generalize hW : (w.alloc (.cells #[.int .i64 m.kind, .int .i64 m.start, .string m.lead, .slice A m.states.length cap] 24)).alloc (.cells #[.int .i64 n.kind, .int .i64 n.start, .string n.lead, .slice A2 n.states.length cap2] 24) = W at *
          clear hW x0 x1 x2 x3 y0 y1 y2 y3
          go_loopw [5] (fun i wr => ∃ k : Nat, i = .int .i64 k ∧ k ≤ m.states.length ∧ (∀ j, j < k → m.states[j]? = n.states[j]?) ∧ W.grownBy wr none) (fun i _ => m.states.length - (intOf i).toNat)
          case atStart => exact ⟨0, rfl, by omega, fun j hj => by omega, grown_refl _ _⟩
          case round =>
            obtain ⟨k, rfl, hk, hall, hgr⟩ := hrel
            have HALL := Lib.hid hall
            have hgr0 := grown_trans HG.out hgr
            have HGR := Lib.hid hgr; have HGR0 := Lib.hid hgr0
            have hbr := HBX.out.grown hgr
            have hbr2 := HBX2.out.grown hgr
            have HBR := Lib.hid hbr; have HBR2 := Lib.hid hbr2
            obtain ⟨x0, x1, x2, x3⟩ := hbr.cells
            obtain ⟨y0, y1, y2, y3⟩ := hbr2.cells
            clear hgr hbr hbr2 hall
            by_cases hlt : k < m.states.length
            · obtain ⟨A', cap', us', hA', hul, hr, ha⟩ := HST.out.grown hgr0
              injection hA' with h1 h2 h3
              subst h1
              obtain ⟨ad, x, ux, hA, hadb, hs, hu, hc⟩ := row_state hr hul hlt
              subst hA
              obtain ⟨B, cb, hB, hra⟩ := ha k x ux hs hu
              subst hB
              clear hul hr ha hu h2 h3
              obtain ⟨A', cap', us', hA', hul, hr, ha⟩ := HST2.out.grown hgr0
              injection hA' with h1 h2 h3
              subst h1
              obtain ⟨ad2, y, uy, hA, hadb2, hs2, hu, hc2⟩ := row_state hr hul (by have := K4.out; omega : k < n.states.length)
              subst hA
              obtain ⟨B2, cb2, hB, hra2⟩ := ha k y uy hs2 hu
              subst hB
              clear hul hr ha hu h2 h3
              obtain ⟨z0, z1⟩ := hc
              obtain ⟨z2, z3⟩ := hc2
              have hal := HF.out.arcs x (List.mem_of_getElem? hs)
              have n1 : (k : Int) < (m.states.length : Int) := by omega
              have n1b : (k : Int) < (n.states.length : Int) := by have := K4.out; omega
              have n2 : IntKind.i64.wrap ((k : Int) + 1) = (k : Int) + 1 := by rw [IntKind.wrap_i64]; omega
              have HS := Lib.hid hs; have HRA := Lib.hid hra
              have HS2 := Lib.hid hs2; have HRA2 := Lib.hid hra2
              clear hs hra hgr0 hs2 hra2
              go_upto_region 6 with (fail)
              go_cut [6, 7] from 44 to 53 (fun p q wx => ∃ g h, p = .pointer (some ⟨g, 0, none⟩) ∧ q = .pointer (some ⟨h, 0, none⟩) ∧ StateAt wx ⟨g, 0, none⟩ x.fin (.slice B x.arcs.length cb) ∧ StateAt wx ⟨h, 0, none⟩ y.fin (.slice B2 y.arcs.length cb2) ∧ wr.grownBy wx none)
              case first =>
                have w1 := World.new_ne wr _ x3
                have w2 := World.new_ne wr _ y3
                have w3 := World.new_ne wr _ z0
                have w4 := World.new_ne wr _ z1
                have w5 := World.new_ne wr _ z2
                have w6 := World.new_ne wr _ z3
                go_region_held3 (fun W' => W'.cell? ⟨w.heap.size, 3, none⟩ = some (.slice (some ad) m.states.length cap) ∧ W'.cell? ⟨w.heap.size + 1, 3, none⟩ = some (.slice (some ad2) n.states.length cap2) ∧
                  W'.cell? (ad.add (k * 2)) = some (.string x.fin) ∧ W'.cell? { block := (ad.add (k * 2)).block, off := (ad.add (k * 2)).off + 1, spot := none } = some (.slice B x.arcs.length cb) ∧
                  W'.cell? (ad2.add (k * 2)) = some (.string y.fin) ∧ W'.cell? { block := (ad2.add (k * 2)).block, off := (ad2.add (k * 2)).off + 1, spot := none } = some (.slice B2 y.arcs.length cb2)) (go_keep) (fail)
                · obtain ⟨t1, t2, t3⟩ := two_states wr x.fin y.fin (.slice B x.arcs.length cb) (.slice B2 y.arcs.length cb2)
                  go_wp2_with (fail)
                  go_meet
                  case rel => exact ⟨_, _, rfl, rfl, t1, t2, t3⟩
                · obtain ⟨t1, t2, t3⟩ := two_states wr y.fin x.fin (.slice B2 y.arcs.length cb2) (.slice B x.arcs.length cb)
                  go_wp2_with (fail)
                  go_meet
                  case rel => exact ⟨_, _, rfl, rfl, t2, t1, t3⟩
              case rest =>
                obtain ⟨g, h, rfl, rfl, hp, hq, hgx⟩ := hcut
                have HP := Lib.hid hp; have HQ := Lib.hid hq; have HGX := Lib.hid hgx
                have hp1 : g < wc.heap.size := by
                  have := hp.c0
                  unfold World.cell? at this
                  rcases Nat.lt_or_ge g wc.heap.size with h | h
                  · exact h
                  · rw [Array.getElem?_eq_none h] at this; simp at this
                have hq1 : h < wc.heap.size := by
                  have := hq.c0
                  unfold World.cell? at this
                  rcases Nat.lt_or_ge h wc.heap.size with h | h
                  · exact h
                  · rw [Array.getElem?_eq_none h] at this; simp at this
                clear hgx x0 x1 x2 x3 y0 y1 y2 y3 z0 z1 z2 z3 hadb hadb2
                obtain ⟨z0, z1⟩ := hp
                obtain ⟨z2, z3⟩ := hq
                simp only [Nat.zero_add] at z1 z3
                by_cases d1 : x.fin = y.fin
                · have e5 : (x.fin.toList == y.fin.toList) = true := by rw [d1]; simp
                  by_cases d2 : x.arcs.length = y.arcs.length
                  · have e6 : ((x.arcs.length : Int) != (y.arcs.length : Int)) = false := by simp; omega
                    have D1 := Lib.hid d1; have D2 := Lib.hid d2
                    clear d1 d2
                    go_wp2
                    clear z0 z1 z2 z3
                    generalize wr = w4 at *
                    generalize wc = w5 at *
                    go_loopw [8] (fun i wr => ∃ j : Nat, i = .int .i64 j ∧ j ≤ x.arcs.length ∧ (∀ i, i < j → x.arcs[i]? = y.arcs[i]?) ∧ w5.grownBy wr none) (fun i _ => x.arcs.length - (intOf i).toNat)
                    case atStart => exact ⟨0, rfl, by omega, fun i hi => by omega, grown_refl _ _⟩
                    case round =>
                      obtain ⟨j, rfl, hj, hi, hg2⟩ := hrel
                      have HI := Lib.hid hi
                      have HG2 := Lib.hid hg2
                      obtain ⟨z0, z1⟩ := HP.out.grown hg2 hp1
                      obtain ⟨z2, z3⟩ := HQ.out.grown hg2 hq1
                      simp only [Nat.zero_add] at z1 z3
                      have HZ := Lib.hid (grown_trans HGR0.out (grown_trans HGX.out hg2))
                      clear hi hg2
                      by_cases hjl : j < x.arcs.length
                      · obtain ⟨bd, a, hB, hab, haj, hat⟩ := row_arc HRA.out hjl
                        subst hB
                        obtain ⟨bd2, b, hB, hbb, hbj, hbt⟩ := row_arc HRA2.out (by have := D2.out; omega : j < y.arcs.length)
                        subst hB
                        obtain ⟨a0, a1, a2, a3⟩ := hat.grown (grown_trans HGX.out HG2.out) (by rw [block_of_add]; exact hab)
                        obtain ⟨b0, b1, b2, b3⟩ := hbt.grown (grown_trans HGX.out HG2.out) (by rw [block_of_add]; exact hbb)
                        have n3 : (j : Int) < (x.arcs.length : Int) := by omega
                        have n3b : (j : Int) < (y.arcs.length : Int) := by have := D2.out; omega
                        have n4 : IntKind.i64.wrap ((j : Int) + 1) = (j : Int) + 1 := by rw [IntKind.wrap_i64]; omega
                        have n5 : (0 : Int) ≤ (j : Int) := by omega
                        have HAJ := Lib.hid haj; have HBJ := Lib.hid hbj
                        clear haj hat hbj hbt
                        have hq := fun w => arc_equalIn a b w
                        have hm := arc_guard
                        by_cases he : a = b
                        · have HE := Lib.hid he
                          rw [decide_eq_true he] at hq
                          clear he
                          go_wp2
                          go_quiet (fail)
                          go_wp2
                          go_roundw
                          case rel => exact ⟨j + 1, by go_num, by omega, fun i hi => by
                            by_cases e : i = j
                            · subst e; rw [HAJ.out, HBJ.out, HE.out]
                            · exact HI.out i (by omega), grown_trans HG2.out (grown_drewN _ _ _)⟩
                          case measure => simp [intOf]; omega
                        · have hx := mach_ne_at HS.out HS2.out (state_ne_at HAJ.out HBJ.out he)
                          have HX := Lib.hid hx
                          rw [decide_eq_false he] at hq
                          clear hx he
                          go_wp2
                          go_quiet (fail)
                          go_wp2
                          go_ret
                          exact ⟨by rw [HX.out]; rfl, grown_trans HZ.out (grown_drewN _ _ _)⟩
                      · have n3 : ¬ (j : Int) < (x.arcs.length : Int) := by omega
                        have hx : x = y := by
                          have := list_eq_of D2.out (fun i hi => HI.out i (by omega))
                          have h1 := D1.out
                          cases x; cases y; simp_all
                        have HX := Lib.hid hx
                        clear hx
                        go_wp2
                        go_roundw
                        case rel => exact ⟨k + 1, by go_num, by omega, fun i hi => by
                          by_cases e : i = k
                          · subst e; rw [HS.out, HS2.out, HX.out]
                          · exact HALL.out i (by omega), grown_trans HGR.out (grown_trans HGX.out HG2.out)⟩
                        case measure => simp [intOf]; omega
                  · have e6 : ((x.arcs.length : Int) != (y.arcs.length : Int)) = true := by simp; omega
                    have hx := mach_ne_at HS.out HS2.out (fun e => d2 (by rw [e]))
                    have HX := Lib.hid hx
                    clear hx d1 d2
                    go_wp2
                    go_ret
                    exact ⟨by rw [HX.out]; rfl, grown_trans HGR0.out HGX.out⟩
                · have e5 := text_ne d1
                  have hx := mach_ne_at HS.out HS2.out (fun e => d1 (by rw [e]))
                  have HX := Lib.hid hx
                  clear hx d1
                  go_wp2
                  go_ret
                  exact ⟨by rw [HX.out]; rfl, grown_trans HGR0.out HGX.out⟩
            · have n1 : ¬ (k : Int) < (m.states.length : Int) := by omega
              have hx := mach_eq K1.out K2.out K3.out (list_eq_of K4.out fun i hi => HALL.out i (by omega))
              have HX := Lib.hid hx
              clear hx
              go_wp2
              go_ret
              exact ⟨by rw [HX.out]; rfl, HGR0.out⟩
        · have hx := mach_ne (m := m) (n := n) (fun e => c4 (by rw [e.2.2.2]))
          have HX := Lib.hid hx
          have e4 : ((m.states.length : Int) != (n.states.length : Int)) = true := by simp; omega
          have e1 : (m.kind != n.kind) = false := by simp [c1]
          have e2 : (m.start != n.start) = false := by simp [c2]
          have e3 : (m.lead.toList == n.lead.toList) = true := by rw [c3]; simp
          clear hx c1 c2 c3 c4
          go_wp2
          go_ret
          exact ⟨by rw [HX.out]; rfl, HG.out⟩
      · have hx := mach_ne (m := m) (n := n) (fun e => c3 e.2.2.1)
        have HX := Lib.hid hx
        have e3 := text_ne c3
        have e1 : (m.kind != n.kind) = false := by simp [c1]
        have e2 : (m.start != n.start) = false := by simp [c2]
        clear hx c1 c2 c3
        go_wp2
        go_ret
        exact ⟨by rw [HX.out]; rfl, HG.out⟩
    · have hx := mach_ne (m := m) (n := n) (fun e => c2 e.2.1)
      have HX := Lib.hid hx
      have e2 : (m.start != n.start) = true := by simp [c2]
      have e1 : (m.kind != n.kind) = false := by simp [c1]
      clear hx c1 c2
      go_wp2
      go_ret
      exact ⟨by rw [HX.out]; rfl, HG.out⟩
  · have hx := mach_ne (m := m) (n := n) (fun e => c1 e.1)
    have HX := Lib.hid hx
    have e1 : (m.kind != n.kind) = true := by simp [c1]
    clear hx c1
    go_wp2
    go_ret
    exact ⟨by rw [HX.out]; rfl, HG.out⟩
end Go.Proofs.YtbmonhnojkiapaaGreatDoor
set_option linter.unusedVariables false
set_option linter.unusedSimpArgs false
namespace Go.Proofs.YtbmonhnojkiapaaGreatDoor
open Go.RowKit

/-- The blocks from B on are as they were. -/
structure Kept (B : Nat) (W W' : World) : Prop where
  size : W.heap.size ≤ W'.heap.size
  block : ∀ b, B ≤ b → b < W.heap.size → W'.heap[b]? = W.heap[b]?
theorem Kept.refl (B : Nat) (W : World) : Kept B W W := ⟨Nat.le_refl _, fun _ _ _ => rfl⟩
theorem Kept.trans {B : Nat} {W W1 W2 : World} (h1 : Kept B W W1) (h2 : Kept B W1 W2) : Kept B W W2 :=
  ⟨Nat.le_trans h1.size h2.size, fun b hb hl => (h2.block b hb (Nat.lt_of_lt_of_le hl h1.size)).trans (h1.block b hb hl)⟩
theorem Kept.mono {B C : Nat} {W W' : World} (h : Kept B W W') (hC : B ≤ C) : Kept C W W' := ⟨h.size, fun b hb hl => h.block b (Nat.le_trans hC hb) hl⟩
theorem kept_grown {W W' : World} (h : W.grownBy W' none) (B : Nat) : Kept B W W' := ⟨h.size, fun b _ hl => h.block b hl (by simp)⟩
theorem kept_step {W W' : World} {b B : Nat} (h : W.grownBy W' (some b)) (hb : b < B) : Kept B W W' := ⟨h.size, fun c hc hl => h.block c hl (by simp; omega)⟩
theorem reads_kept {W W' : World} {B k n : Nat} {A : Option Addr} {xs : List Value} (h : Reads W W.heap.size k A n xs) (hB : 0 < n → ∀ ad, A = some ad → B ≤ ad.block) (hk : Kept B W W') : Reads W' W'.heap.size k A n xs :=
  ⟨h.1, fun h0 => by
    obtain ⟨ad, hA, hb, hc⟩ := h.2 h0
    exact ⟨ad, hA, Nat.lt_of_lt_of_le hb hk.size, fun j u hu => (World.cell?_of_block (by rw [block_of_add]; exact hk.block _ (hB h0 ad hA) hb)).trans (hc j u hu)⟩⟩
theorem ArcsSl.keptN {W W' : World} {B : Nat} {v : Value} {l : List MArc} (h : ArcsSl W v l) (hB : 0 < l.length → ∀ b, v.ownBlock = some b → B ≤ b) (hk : Kept B W W') : ArcsSl W' v l := by
  obtain ⟨A, cap, rfl, hr⟩ := h
  exact ⟨A, cap, rfl, reads_kept hr (fun h0 ad hA => by subst hA; exact hB h0 _ rfl) hk⟩
/-- A slice of just these states, all of its memory from block B on. -/
def StN (W : World) (B : Nat) (u : Value) (l : List MState) : Prop := ∃ A cap us, u = .slice A l.length cap ∧ us.length = l.length ∧ Reads W W.heap.size 2 A l.length ((l.zip us).flatMap stC) ∧ (0 < l.length → ∀ ad, A = some ad → B ≤ ad.block) ∧
  ∀ (k : Nat) (s : MState) (x : Value), l[k]? = some s → us[k]? = some x → ArcsSl W x s.arcs ∧ (0 < s.arcs.length → ∀ b, x.ownBlock = some b → B ≤ b)
theorem StN.sl {W : World} {B : Nat} {u : Value} {l : List MState} (h : StN W B u l) : StSl W u l := by
  obtain ⟨A, cap, us, hu, hl, hr, _, ha⟩ := h
  exact ⟨A, cap, us, hu, hl, hr, fun k s x hs hx => (ha k s x hs hx).1⟩
theorem StN.kept {W W' : World} {B : Nat} {u : Value} {l : List MState} (h : StN W B u l) (hk : Kept B W W') : StN W' B u l := by
  obtain ⟨A, cap, us, hu, hl, hr, hb, ha⟩ := h
  exact ⟨A, cap, us, hu, hl, reads_kept hr hb hk, hb, fun k s x hs hx => ⟨(ha k s x hs hx).1.keptN (ha k s x hs hx).2 hk, (ha k s x hs hx).2⟩⟩
theorem StN.mono {W : World} {B C : Nat} {u : Value} {l : List MState} (h : StN W B u l) (hC : C ≤ B) : StN W C u l := by
  obtain ⟨A, cap, us, hu, hl, hr, hb, ha⟩ := h
  exact ⟨A, cap, us, hu, hl, hr, fun h0 ad hA => Nat.le_trans hC (hb h0 ad hA), fun k s x hs hx => ⟨(ha k s x hs hx).1, fun h0 b hx2 => Nat.le_trans hC ((ha k s x hs hx).2 h0 b hx2)⟩⟩
theorem StN.nil (W : World) (B : Nat) : StN W B (.slice none 0 0) [] := ⟨none, 0, [], rfl, rfl, Reads.none_, fun h => by simp at h, fun k s x hs => by simp at hs⟩
/-- The value is just this machine, all of its memory from block B on. -/
def MN (W : World) (B : Nat) (v : Value) (m : Mach) : Prop := ∃ u, v = .agg #[.int .i64 m.kind, .int .i64 m.start, .string m.lead, u] ∧ StN W B u m.states
theorem MN.v {W : World} {B : Nat} {v : Value} {m : Mach} (h : MN W B v m) : MachV W v m := by
  obtain ⟨u, hv, hs⟩ := h
  exact ⟨u, hv, hs.sl⟩
theorem MN.kept {W W' : World} {B : Nat} {v : Value} {m : Mach} (h : MN W B v m) (hk : Kept B W W') : MN W' B v m := by
  obtain ⟨u, hv, hs⟩ := h
  exact ⟨u, hv, hs.kept hk⟩
theorem MN.mono {W : World} {B C : Nat} {v : Value} {m : Mach} (h : MN W B v m) (hC : C ≤ B) : MN W C v m := by
  obtain ⟨u, hv, hs⟩ := h
  exact ⟨u, hv, hs.mono hC⟩
/-- The call yields this machine, in new memory. -/
def MNPost (m : Mach) (w : World) (e : Ending) (w' : World) : Prop := ∃ v, e = .returned v ∧ MN w' w.heap.size v m ∧ w.grownBy w' none
/-- The call yields this machine and this number, in new memory. -/
def MPost (r : Mach × Int) (w : World) (e : Ending) (w' : World) : Prop := ∃ v, e = .returned (.tuple #[v, .int .i64 r.2]) ∧ MN w' w.heap.size v r.1 ∧ w.grownBy w' none
theorem MNPost.open6 {m : Mach} {w : World} {e : Ending} {w' : World} (h : MNPost m w e w') : ∃ A c, e = .returned (.agg #[.int .i64 m.kind, .int .i64 m.start, .string m.lead, .slice A m.states.length c]) ∧ StN w' w.heap.size (.slice A m.states.length c) m.states ∧ w.grownBy w' none := by
  obtain ⟨v, rfl, ⟨u, rfl, hst⟩, hg⟩ := h
  obtain ⟨A, c, us, hv, _⟩ := id hst
  subst hv
  exact ⟨A, c, rfl, hst, hg⟩
theorem MPost.open6 {m : Mach} {k : Int} {w : World} {e : Ending} {w' : World} (h : MPost (m, k) w e w') : ∃ A c, e = .returned (.tuple #[.agg #[.int .i64 m.kind, .int .i64 m.start, .string m.lead, .slice A m.states.length c], .int .i64 k]) ∧ StN w' w.heap.size (.slice A m.states.length c) m.states ∧ w.grownBy w' none := by
  obtain ⟨v, rfl, ⟨u, rfl, hst⟩, hg⟩ := h
  obtain ⟨A, c, us, hv, _⟩ := id hst
  subst hv
  exact ⟨A, c, rfl, hst, hg⟩
end Go.Proofs.YtbmonhnojkiapaaGreatDoor
set_option linter.unusedVariables false
set_option linter.unusedSimpArgs false
namespace Go.Proofs.YtbmonhnojkiapaaGreatDoor
open Go.RowKit

def mach0 : Mach := ⟨0, 0, ByteArray.empty, []⟩
def noneM (k : Int) : Mach := ⟨k, 0, oneT k, [⟨ByteArray.empty, []⟩]⟩
def nothingM (k : Int) : Mach × Int := if kindB k = true then (noneM k, 0) else (mach0, 1)
theorem info_st : (Tryz.prog.info? 29).map (fun i => (i.zero, i.size, i.bytes)) = some (some (.agg #[.string ByteArray.empty, .slice none 0 0]), 2, 40) := by kernel_rfl
theorem info_parts6 {t : TypeId} {z : Value} {n b : Nat} (h : (Tryz.prog.info? t).map (fun i => (i.zero, i.size, i.bytes)) = some (some z, n, b)) :
    ∃ i, Tryz.prog.info? t = some i ∧ i.zero = some z ∧ i.size = n ∧ i.bytes = b := by
  obtain ⟨i, hi, he⟩ := Option.map_eq_some_iff.1 h
  simp only [Prod.mk.injEq] at he
  exact ⟨i, hi, he.1, he.2.1, he.2.2⟩

theorem made_st : madeCells (Value.agg #[.string ByteArray.empty, .slice none 0 0]).cells (Int.toNat 1 * 2) = #[.string ByteArray.empty, .slice none 0 0] := by
  first
  | kernel_rfl
  | simp [madeCells, Value.cells]
  | decide
theorem BoxAt.free {w : World} {g : Nat} {m : Mach} {u : Value} (h : BoxAt w g m u) (k : Nat) : w.frozen? ⟨g, k, none⟩ = false := frozen_of_row w g k _ _ h
theorem BoxAt.set {w : World} {g : Nat} {m n : Mach} {u v : Value} (h : BoxAt w g m u) :
    BoxAt ((((w.setCell ⟨g, 0, none⟩ (.int .i64 n.kind)).setCell ⟨g, 1, none⟩ (.int .i64 n.start)).setCell ⟨g, 2, none⟩ (.string n.lead)).setCell ⟨g, 3, none⟩ v) g n v := by
  unfold BoxAt at h ⊢
  have h1 := heap_setCell_same w g 0 _ _ (.int .i64 n.kind) h
  have h2 := heap_setCell_same _ g 1 _ _ (.int .i64 n.start) h1
  have h3 := heap_setCell_same _ g 2 _ _ (.string n.lead) h2
  have h4 := heap_setCell_same _ g 3 _ _ v h3
  rw [h4]
  rfl
/-- The result's place, spelled as a walk wants it. -/
def Place (W0 W' : World) (g : Nat) : Prop := (W'.cell? ⟨g, 0, none⟩ = some (.int .i64 0) ∧ W'.cell? ⟨g, 1, none⟩ = some (.int .i64 0) ∧ W'.cell? ⟨g, 2, none⟩ = some (.string ByteArray.empty) ∧ W'.cell? ⟨g, 3, none⟩ = some (.slice none 0 0) ∧
    W'.frozen? ⟨g, 0, none⟩ = false ∧ W'.frozen? ⟨g, 1, none⟩ = false ∧ W'.frozen? ⟨g, 2, none⟩ = false ∧ W'.frozen? ⟨g, 3, none⟩ = false) ∧ Hid (BoxAt W' g mach0 (.slice none 0 0) ∧ W0.grownBy W' none)
theorem place_of {W0 W' : World} {g : Nat} (hb : BoxAt W' g mach0 (.slice none 0 0)) (hg : W0.grownBy W' none) : Place W0 W' g :=
  ⟨⟨hb.cells.c0, hb.cells.c1, hb.cells.c2, hb.cells.c3, hb.free 0, hb.free 1, hb.free 2, hb.free 3⟩, Lib.hid ⟨hb, hg⟩⟩
theorem Place.next_drew {W0 W : World} {g : Nat} (h : Place W0 W g) : Place W0 W.drew g :=
  place_of (h.2.out.1.grown (grown_drew _ _)) (grown_trans h.2.out.2 (grown_drew _ _))
theorem one_state {W : World} {b B : Nat} (h : W.heap[b]? = some (.cells #[.string ByteArray.empty, .slice none 0 0] 29 (0, 0))) (hB : B ≤ b) : StN W B (.slice (some ⟨b, 0, none⟩) 1 1) [⟨ByteArray.empty, []⟩] := by
  have hb : b < W.heap.size := (Array.getElem?_eq_some_iff.1 h).1
  have h0 : W.cell? ⟨b, 0, none⟩ = some (.string ByteArray.empty) := by rw [cell_of_row _ b 0 _ _ (0, 0) h]; rfl
  have h1 : W.cell? ⟨b, 0 + 1, none⟩ = some (.slice none 0 0) := by show World.cell? _ ⟨b, 1, none⟩ = _; rw [cell_of_row _ b 1 _ _ (0, 0) h]; rfl
  refine ⟨some ⟨b, 0, none⟩, 1, [.slice none 0 0], rfl, rfl, ⟨rfl, fun _ => ⟨_, rfl, hb, fun j u hu => ?_⟩⟩, fun _ ad hA => by cases hA; exact hB, fun k s u hs hu => ?_⟩
  · match j, hu with
    | 0, hu => simp [stC] at hu; subst hu; exact h0
    | 1, hu => simp [stC] at hu; subst hu; exact h1
    | j + 2, hu => simp [stC] at hu
  · match k, hs, hu with
    | 0, hs, hu => simp at hs hu; subst hs hu; exact ⟨ArcsSl.nil _, fun h => by simp at h⟩
    | k + 1, hs, hu => simp at hs
theorem place_next (w : World) {W W' : World} (hg : W.grownBy W' none) (h : (W.cell? ⟨w.heap.size, 0, none⟩ = some (.int .i64 0) ∧ W.cell? ⟨w.heap.size, 1, none⟩ = some (.int .i64 0) ∧ W.cell? ⟨w.heap.size, 2, none⟩ = some (.string ByteArray.empty) ∧ W.cell? ⟨w.heap.size, 3, none⟩ = some (.slice none 0 0) ∧ W.frozen? ⟨w.heap.size, 0, none⟩ = false ∧ W.frozen? ⟨w.heap.size, 1, none⟩ = false ∧ W.frozen? ⟨w.heap.size, 2, none⟩ = false ∧ W.frozen? ⟨w.heap.size, 3, none⟩ = false) ∧ Hid (BoxAt W w.heap.size mach0 (.slice none 0 0) ∧ w.grownBy W none)) : (W'.cell? ⟨w.heap.size, 0, none⟩ = some (.int .i64 0) ∧ W'.cell? ⟨w.heap.size, 1, none⟩ = some (.int .i64 0) ∧ W'.cell? ⟨w.heap.size, 2, none⟩ = some (.string ByteArray.empty) ∧ W'.cell? ⟨w.heap.size, 3, none⟩ = some (.slice none 0 0) ∧ W'.frozen? ⟨w.heap.size, 0, none⟩ = false ∧ W'.frozen? ⟨w.heap.size, 1, none⟩ = false ∧ W'.frozen? ⟨w.heap.size, 2, none⟩ = false ∧ W'.frozen? ⟨w.heap.size, 3, none⟩ = false) ∧ Hid (BoxAt W' w.heap.size mach0 (.slice none 0 0) ∧ w.grownBy W' none) :=
  place_of (h.2.out.1.grown hg) (grown_trans h.2.out.2 hg)

theorem place_fill {w W : World} {n : Mach} {v : Value} (h : Place w W w.heap.size) :
    BoxAt ((((W.setCell ⟨w.heap.size, 0, none⟩ (.int .i64 n.kind)).setCell ⟨w.heap.size, 1, none⟩ (.int .i64 n.start)).setCell ⟨w.heap.size, 2, none⟩ (.string n.lead)).setCell ⟨w.heap.size, 3, none⟩ v) w.heap.size n v ∧
    w.grownBy ((((W.setCell ⟨w.heap.size, 0, none⟩ (.int .i64 n.kind)).setCell ⟨w.heap.size, 1, none⟩ (.int .i64 n.start)).setCell ⟨w.heap.size, 2, none⟩ (.string n.lead)).setCell ⟨w.heap.size, 3, none⟩ v) none ∧
    ∀ b, b ≠ w.heap.size → b < W.heap.size → ((((W.setCell ⟨w.heap.size, 0, none⟩ (.int .i64 n.kind)).setCell ⟨w.heap.size, 1, none⟩ (.int .i64 n.start)).setCell ⟨w.heap.size, 2, none⟩ (.string n.lead)).setCell ⟨w.heap.size, 3, none⟩ v).heap[b]? = W.heap[b]? := by
  have g1 := grown_setCell W ⟨w.heap.size, 0, none⟩ (.int .i64 n.kind)
  have g2 := grown_setCell (W.setCell ⟨w.heap.size, 0, none⟩ (.int .i64 n.kind)) ⟨w.heap.size, 1, none⟩ (.int .i64 n.start)
  have g3 := grown_setCell ((W.setCell ⟨w.heap.size, 0, none⟩ (.int .i64 n.kind)).setCell ⟨w.heap.size, 1, none⟩ (.int .i64 n.start)) ⟨w.heap.size, 2, none⟩ (.string n.lead)
  have g4 := grown_setCell (((W.setCell ⟨w.heap.size, 0, none⟩ (.int .i64 n.kind)).setCell ⟨w.heap.size, 1, none⟩ (.int .i64 n.start)).setCell ⟨w.heap.size, 2, none⟩ (.string n.lead)) ⟨w.heap.size, 3, none⟩ v
  have gg := grown_trans g1 (grown_trans g2 (grown_trans g3 g4))
  exact ⟨h.2.out.1.set, grown_step (g := w.heap.size) h.2.out.2 gg (Nat.le_refl _), fun b hb hl => gg.block b hl (by simpa using hb)⟩

set_option maxRecDepth 20000 in
set_option maxHeartbeats 4000000 in
theorem rnothing_any (k : Int) (w : World) : Calls Tryz.prog 13 #[.int .i64 k] w (MPost (nothingM k) w) := by
  obtain ⟨i0, hi, hz0, hz1, hz2⟩ := info_parts6 info_st
  have hk := rkind_any k
  unfold RK at hk
  have hk0 : IntKind.i64.wrap k = IntKind.i64.wrap k := rfl
  have RO := Lib.hid (rone_any k)
  have hb0 := BoxAt.new w mach0 (.slice none 0 0)
  have hg0 : w.grownBy (w.alloc (.cells #[.int .i64 mach0.kind, .int .i64 mach0.start, .string mach0.lead, .slice none 0 0] 24)) none := World.grownBy_alloc _ _ _
  have HP := Lib.hid (place_of hb0 hg0)
  clear hb0 hg0 hk0
  cases hB : kindB k
  · rw [hB] at hk
    have hN : nothingM k = (mach0, 1) := by unfold nothingM; rw [hB]; rfl
    rw [hN]
    clear hN hB
    go_enter Tryz.func13, Tryz.ntmps13
    go_wp2_with (go_at_call 39; refine (hk _).mono ?_; rintro e w' ⟨rfl, rfl⟩)
    exact bodyPost_ret (v := .tuple #[.agg #[.int .i64 0, .int .i64 0, .string ⟨#[]⟩, .slice none 0 0], .int .i64 1]) (by simp [results, Tryz.results13, go_sem]) rfl ⟨_, rfl, ⟨_, rfl, StN.nil _ _⟩, HP.out.2.out.2⟩
  · rw [hB] at hk
    have hN : nothingM k = (noneM k, 0) := by unfold nothingM; rw [hB]; rfl
    rw [hN]
    clear hN hB
    obtain ⟨mk, hmk, hmg, hms⟩ : ∃ mk : World → World, (∀ w : World, (Instr.makeSlice 22 (.int .i64 1) (.int .i64 1)).run Tryz.prog w = .ok (.slice (some ⟨w.heap.size, 0, none⟩) 1 1) (mk w)) ∧ (∀ w : World, w.grownBy (mk w) none) ∧ ∀ w : World, (mk w).heap[w.heap.size]? = some (.cells #[.string ByteArray.empty, .slice none 0 0] 29 (0, 0)) :=
      ⟨fun w => w.alloc (.cells #[.string ByteArray.empty, .slice none 0 0] 29), fun w => run_makeSlice w 22 29 i0 _ Tryz.underlying22 hi hz0 .i64 .i64 1 1 (by decide) (by decide) (by rw [hz1]; decide) (by rw [hz2]; decide) (by decide) |>.trans (by rw [hz1, made_st]; rfl), fun w => World.grownBy_alloc _ _ _, fun w => by show (w.heap.push _)[w.heap.size]? = _; rw [Array.getElem?_push_size]⟩
    have HMS := Lib.hid hms; have HMG := Lib.hid hmg
    clear hms hmg
    go_enter Tryz.func13, Tryz.ntmps13
    go_wp2_with (go_at_call 39; refine (hk _).mono ?_; rintro e w' ⟨rfl, rfl⟩)
    clear hk hi hz0 hz1 hz2
    have hp := HP.out.next_drew
    unfold Place at hp
    obtain ⟨hp1, hp2⟩ := hp
    go_region_held3 (fun W' => True) (trivial)
      (first
        | (go_at_call 40; refine (RO.out _).mono ?_; rintro e w5 ⟨rfl, hg5⟩; have s1 := place_next w hg5 (by first | exact ⟨hp1, hp2⟩ | exact place_next w (HMG.out _) ⟨hp1, hp2⟩); obtain ⟨⟨q0, q1, q2, q3, f0, f1, f2, f3⟩, _⟩ := id s1; have s2 := place_next w (HMG.out w5) s1; obtain ⟨⟨r0, r1, r2, r3, e0, e1, e2, e3⟩, _⟩ := id s2))
    · have P := place_fill (n := noneM k) (v := .slice (some ⟨w5.heap.size, 0, none⟩) 1 1) s2
      have t3 := one_state ((P.2.2 w5.heap.size (by have := s1.2.out.1.lt; omega) (Array.getElem?_eq_some_iff.1 (HMS.out w5)).1).trans (HMS.out w5)) (B := w.heap.size) (by have := s1.2.out.2.size; omega)
      simp only [noneM] at P t3
      clear hp1 hp2 s1 q0 q1 q2 q3 f0 f1 f2 f3 s2 r0 r1 r2 r3 e0 e1 e2 e3
      have T := Lib.hid t3; have T2 := Lib.hid P.2.1
      obtain ⟨c0, c1, c2, c3⟩ := P.1.cells
      simp only [] at c0 c1 c2 c3
      clear P t3
      go_wp2_with fail
      generalize ((((mk w5).setCell ⟨w.heap.size, 0, none⟩ (.int .i64 k)).setCell ⟨w.heap.size, 1, none⟩ (.int .i64 0)).setCell ⟨w.heap.size, 2, none⟩ (.string (oneT k))).setCell ⟨w.heap.size, 3, none⟩ (.slice (some ⟨w5.heap.size, 0, none⟩) 1 1) = WW at *
      exact bodyPost_ret (v := .tuple #[.agg #[.int .i64 k, .int .i64 0, .string (oneT k), .slice (some ⟨w5.heap.size, 0, none⟩) 1 1], .int .i64 0]) (by simp [results, Tryz.results13, go_sem, c0, c1, c2, c3]) rfl ⟨_, rfl, ⟨_, rfl, T.out⟩, T2.out⟩
    · have P := place_fill (n := noneM k) (v := .slice (some ⟨w.heap.size + 1, 0, none⟩) 1 1) s1
      have hs := HMS.out (w.alloc (.cells #[.int .i64 0, .int .i64 0, .string ⟨#[]⟩, .slice none 0 0] 24)).drew
      have hs2 := (hg5.block _ (Array.getElem?_eq_some_iff.1 hs).1 (by simp)).trans hs
      rw [show (w.alloc (.cells #[.int .i64 0, .int .i64 0, .string ⟨#[]⟩, .slice none 0 0] 24)).drew.heap.size = w.heap.size + 1 by simp] at hs2
      have t3 := one_state ((P.2.2 (w.heap.size + 1) (by omega) (Array.getElem?_eq_some_iff.1 hs2).1).trans hs2) (B := w.heap.size) (by omega)
      simp only [noneM] at P t3
      clear hs hs2
      clear hp1 hp2 s1 q0 q1 q2 q3 f0 f1 f2 f3 
      have T := Lib.hid t3; have T2 := Lib.hid P.2.1
      obtain ⟨c0, c1, c2, c3⟩ := P.1.cells
      simp only [] at c0 c1 c2 c3
      clear P t3
      go_wp2_with fail
      generalize (((w5.setCell ⟨w.heap.size, 0, none⟩ (.int .i64 k)).setCell ⟨w.heap.size, 1, none⟩ (.int .i64 0)).setCell ⟨w.heap.size, 2, none⟩ (.string (oneT k))).setCell ⟨w.heap.size, 3, none⟩ (.slice (some ⟨(w.heap.size + 1), 0, none⟩) 1 1) = WW at *
      exact bodyPost_ret (v := .tuple #[.agg #[.int .i64 k, .int .i64 0, .string (oneT k), .slice (some ⟨(w.heap.size + 1), 0, none⟩) 1 1], .int .i64 0]) (by simp [results, Tryz.results13, go_sem, c0, c1, c2, c3]) rfl ⟨_, rfl, ⟨_, rfl, T.out⟩, T2.out⟩
end Go.Proofs.YtbmonhnojkiapaaGreatDoor
