/- The reference's Arcs. · The statements' Large. -/
import Derived.Test.YtbmonhnojkiapaaGreatDoorU19
import Derived.Test.YtbmonhnojkiapaaGreatDoorU21
set_option linter.unusedVariables false
set_option linter.unusedSimpArgs false
namespace Go.Proofs.YtbmonhnojkiapaaGreatDoor
open Go.RowKit

set_option maxHeartbeats 1000000 in
theorem rarcs_any {w : World} {v : Value} {m : Mach} (hv : MachV w v m) (hl : m.states.length ≤ maxLen) (hn : nArcs m.states ≤ maxLen) :
    Calls Tryz.prog 48 #[v] w (ValPost (.int .i64 (nArcs m.states : Int)) w) := by
  obtain ⟨u, rfl, A, cap, us, rfl, hul, hr, ha⟩ := hv
  unfold maxLen at hl hn
  have hbx := (BoxAt.new w m (.slice A m.states.length cap)).cells
  go_enter Tryz.func48, Tryz.ntmps48
  go_wp2
  generalize hW : w.alloc (.cells #[.int .i64 m.kind, .int .i64 m.start, .string m.lead, .slice A m.states.length cap] 24) = W at *
  have hb0 : w.grownBy W none := by rw [← hW]; exact World.grownBy_alloc _ _ _
  clear hW
  obtain ⟨x0, x1, x2, x3⟩ := hbx
  go_loop [3, 4] (fun n i => ∃ k : Nat, i = .int .i64 k ∧ n = .int .i64 (nArcs (m.states.take k) : Int) ∧ k ≤ m.states.length) (fun _ i => m.states.length - (intOf i).toNat)
  case atStart => exact ⟨0, rfl, rfl, by omega⟩
  case round =>
    obtain ⟨k, rfl, rfl, hk⟩ := hrel
    by_cases hlt : k < m.states.length
    · obtain ⟨ad, s, u, rfl, hadb, hs, hu, hc⟩ := row_state hr hul hlt
      obtain ⟨B, cb, rfl, hra⟩ := ha k s u hs hu
      obtain ⟨y0, y1⟩ := hc.grown hb0 (by rw [block_of_add]; exact hadb)
      have hts := take_one hs
      have hnt := nArcs_take m.states hk
      have hnx : nArcs (m.states.take (k + 1)) = nArcs (m.states.take k) + s.arcs.length := by rw [hts, nArcs_snoc]
      have hle := nArcs_take m.states (show k + 1 ≤ m.states.length by omega)
      have n1 : (k : Int) < (m.states.length : Int) := by omega
      have n2 : IntKind.i64.wrap ((k : Int) + 1) = (k : Int) + 1 := by rw [IntKind.wrap_i64]; omega
      have n3 : IntKind.i64.wrap ((nArcs (m.states.take k) : Int) + (s.arcs.length : Int)) = (nArcs (m.states.take (k + 1)) : Int) := by rw [IntKind.wrap_i64]; omega
      clear hs hu hc hts hnx
      go_wp2
      go_round
      case rel => exact ⟨k + 1, by go_num, rfl, by omega⟩
      case measure => simp [intOf]; omega
    · have n1 : ¬ (k : Int) < (m.states.length : Int) := by omega
      rw [List.take_of_length_le (by omega)]
      go_wp2
      go_ret
      exact ⟨rfl, hb0⟩
end Go.Proofs.YtbmonhnojkiapaaGreatDoor
set_option linter.unusedVariables false
set_option linter.unusedSimpArgs false
namespace Go.Proofs.YtbmonhnojkiapaaGreatDoor
open Go.RowKit

theorem nArcs_le {c : Nat} : ∀ {l : List MState}, (∀ s ∈ l, s.arcs.length ≤ c) → nArcs l ≤ l.length * c
  | [], _ => by simp [nArcs]
  | s :: l, h => by
    have h1 := nArcs_le (l := l) (fun t ht => h t (List.mem_cons_of_mem _ ht))
    have h2 := h s (List.mem_cons_self ..)
    have h3 : nArcs (s :: l) = s.arcs.length + nArcs l := by simp [nArcs]
    rw [h3, List.length_cons, Nat.succ_mul]
    omega
/-- Nothing of it is large. -/
def smallA (a : MArc) : Bool := decide (a.w.size ≤ 900)
def smallS (s : MState) : Bool := decide (s.fin.size ≤ 900) && s.arcs.all smallA
def smallB (m : Mach) : Bool := decide (m.states.length ≤ 300 ∧ nArcs m.states ≤ 2000 ∧ m.lead.size ≤ 900) && m.states.all smallS
/-- What a machine has that is not large. -/
structure Small6 (m : Mach) : Prop where
  n : m.states.length ≤ 300
  arcs : nArcs m.states ≤ 2000
  lead : m.lead.size ≤ 900
  fin : ∀ s ∈ m.states, s.fin.size ≤ 900
  w : ∀ s ∈ m.states, ∀ a ∈ s.arcs, a.w.size ≤ 900
theorem small_parts {m : Mach} (h : smallB m = true) : Small6 m := by
  unfold smallB at h
  simp only [Bool.and_eq_true, decide_eq_true_eq, List.all_eq_true] at h
  refine ⟨h.1.1, h.1.2.1, h.1.2.2, fun s hs => ?_, fun s hs a ha => ?_⟩
  · have := h.2 s hs
    unfold smallS at this
    simp only [Bool.and_eq_true, decide_eq_true_eq] at this
    exact this.1
  · have := h.2 s hs
    unfold smallS at this
    simp only [Bool.and_eq_true, decide_eq_true_eq, List.all_eq_true] at this
    have := this.2 a ha
    unfold smallA at this
    simpa using this
theorem small_not {m : Mach} {k : Nat} {s : MState} (hs : m.states[k]? = some s) (h : smallS s = false) : smallB m = false := by
  unfold smallB
  rw [show m.states.all smallS = false from ?_, Bool.and_false]
  cases hx : m.states.all smallS
  · rfl
  · rw [List.all_eq_true.1 hx s (List.mem_of_getElem? hs)] at h; cases h
theorem small_not_arc {s : MState} {j : Nat} {a : MArc} (ha : s.arcs[j]? = some a) (h : smallA a = false) : smallS s = false := by
  unfold smallS
  rw [show s.arcs.all smallA = false from ?_, Bool.and_false]
  cases hx : s.arcs.all smallA
  · rfl
  · rw [List.all_eq_true.1 hx a (List.mem_of_getElem? ha)] at h; cases h
/-- What a round of the outer loop holds. -/
structure LOut (m : Mach) (k : Nat) : Prop where
  hk : k ≤ m.states.length
  hs : ∀ (j : Nat) (s : MState), j < k → m.states[j]? = some s → smallS s = true
theorem LOut.next {m : Mach} {k : Nat} {s : MState} (h : LOut m k) (hs : m.states[k]? = some s) (hP : smallS s = true) : LOut m (k + 1) :=
  ⟨by have := (List.getElem?_eq_some_iff.1 hs).1; omega, fun j t hj ht => by
    by_cases e : j = k
    · subst e; rw [hs] at ht; cases ht; exact hP
    · exact h.hs j t (by omega) ht⟩
theorem LOut.all {m : Mach} {k : Nat} (h : LOut m k) (hk : ¬ k < m.states.length) (h1 : m.states.length ≤ 300) (h2 : nArcs m.states ≤ 2000) (h3 : m.lead.size ≤ 900) : smallB m = true := by
  unfold smallB
  rw [decide_eq_true ⟨h1, h2, h3⟩, Bool.true_and, List.all_eq_true]
  intro s hs
  obtain ⟨j, hj⟩ := List.mem_iff_getElem?.1 hs
  exact h.hs j s (by have := (List.getElem?_eq_some_iff.1 hj).1; omega) hj

set_option maxRecDepth 20000 in
set_option maxHeartbeats 4000000 in
theorem large_any6 {w : World} {v : Value} {m : Mach} (hv : MachV w v m) (hf : Fits m) :
    Calls Tryz.prog 22 #[v] w (ValPost (.bool (!smallB m)) w) := by
  have harc := fun w' (h : w.grownBy w' none) (h1 : m.states.length ≤ 300) => rarcs_any (hv.grown h) (by unfold maxLen; omega) (by
    have := nArcs_le (l := m.states) hf.arcs
    have h2 : m.states.length * 140737488355328 ≤ 300 * 140737488355328 := Nat.mul_le_mul_right _ h1
    unfold maxLen; omega)
  obtain ⟨u, rfl, hst0⟩ := hv
  have HST := Lib.hid hst0
  have hg : w.grownBy (w.alloc (.cells #[.int .i64 m.kind, .int .i64 m.start, .string m.lead, u] 24)) none := World.grownBy_alloc _ _ _
  have hbx := BoxAt.new w m u
  obtain ⟨A, cap, us, rfl, hul, hr, ha⟩ := hst0
  have HARC := Lib.hid (harc _ hg)
  have HBX := Lib.hid hbx; have HG := Lib.hid hg; have HF := Lib.hid hf
  obtain ⟨x0, x1, x2, x3⟩ := hbx.cells
  have hln := hf.n
  clear harc hbx hg hr ha hul hf
  go_enter Tryz.func22, Tryz.ntmps22
  by_cases c1 : 300 < m.states.length
  · have hx : smallB m = false := by unfold smallB; rw [decide_eq_false (by omega)]; rfl
    have HX := Lib.hid hx
    clear hx
    go_wp2
    go_ret
    exact ⟨by rw [HX.out]; rfl, HG.out⟩
  · go_wp2_with fail
    refine (HARC.out (by omega)).mono ?_
    rintro e w1 ⟨rfl, hg1⟩
    generalize hW : w.alloc (.cells #[.int .i64 m.kind, .int .i64 m.start, .string m.lead, .slice A m.states.length cap] 24) = W at *
    clear hW HARC x0 x1 x2 x3
    have HG1 := Lib.hid (grown_trans HG.out hg1)
    have hbx1 := HBX.out.grown hg1
    have HB1 := Lib.hid hbx1
    obtain ⟨x0, x1, x2, x3⟩ := hbx1.cells
    clear hg1 hbx1
    by_cases c2 : 2000 < nArcs m.states
    · have hx : smallB m = false := by unfold smallB; rw [decide_eq_false (by omega)]; rfl
      have HX := Lib.hid hx
      clear hx
      go_wp2
      go_ret
      exact ⟨by rw [HX.out]; rfl, HG1.out⟩
    · by_cases c3 : 900 < m.lead.size
      · have hx : smallB m = false := by unfold smallB; rw [decide_eq_false (by omega)]; rfl
        have HX := Lib.hid hx
        clear hx
        go_wp2
        go_ret
        exact ⟨by rw [HX.out]; rfl, HG1.out⟩
      · go_wp2
        clear x0 x1 x2 x3
        go_loopw [3] (fun i wr => ∃ k : Nat, i = .int .i64 k ∧ LOut m k ∧ w1.grownBy wr none) (fun i _ => m.states.length - (intOf i).toNat)
        case atStart => exact ⟨0, rfl, ⟨by omega, fun j s hj => by omega⟩, grown_refl _ _⟩
        case round =>
          obtain ⟨k, rfl, ho, hgr⟩ := hrel
          have HO := Lib.hid ho
          have hk := ho.hk
          have hgr0 := grown_trans HG1.out hgr
          have HGR := Lib.hid hgr; have HGR0 := Lib.hid hgr0
          have hbr := HB1.out.grown hgr
          have HBR := Lib.hid hbr
          obtain ⟨x0, x1, x2, x3⟩ := hbr.cells
          clear ho hgr hbr
          by_cases hlt : k < m.states.length
          · obtain ⟨A', cap', us', hA', hul, hr, ha⟩ := HST.out.grown hgr0
            injection hA' with h1 h2 h3
            subst h1
            obtain ⟨ad, s, us1, hA, hadb, hs, hu, hc⟩ := row_state hr hul hlt
            subst hA
            obtain ⟨B, cb, hB, hra⟩ := ha k s us1 hs hu
            subst hB
            obtain ⟨y0, y1⟩ := hc
            have hal : s.arcs.length ≤ 2000 := Nat.le_trans (nArcs_mem (List.mem_of_getElem? hs)) (by omega)
            have hfin := HF.out.fin s (List.mem_of_getElem? hs)
            have n1 : (k : Int) < (m.states.length : Int) := by omega
            have n2 : IntKind.i64.wrap ((k : Int) + 1) = (k : Int) + 1 := by rw [IntKind.wrap_i64]; omega
            have HS := Lib.hid hs; have HRA := Lib.hid hra
            clear hs hu hr ha h2 h3 hra hul hgr0
            by_cases hf9 : 900 < s.fin.size
            · have hx := small_not HS.out (by unfold smallS; rw [decide_eq_false (by omega)]; rfl)
              have HX := Lib.hid hx
              clear hx
              go_wp2
              go_ret
              exact ⟨by rw [HX.out]; rfl, HGR0.out⟩
            · go_wp2
              have hst1 : StateAt wr (ad.add (k * 2)) s.fin (.slice B s.arcs.length cb) := ⟨y0, y1⟩
              have HST1 := Lib.hid hst1
              have HAD := Lib.hid hadb
              clear hst1 x0 x1 x2 x3 y0 y1
              generalize wr = w2 at *
              go_loop [4] (fun i => ∃ j : Nat, i = .int .i64 j ∧ j ≤ s.arcs.length ∧ ∀ (i : Nat) (a : MArc), i < j → s.arcs[i]? = some a → smallA a = true) (fun i => s.arcs.length - (intOf i).toNat)
              case atStart => exact ⟨0, rfl, by omega, fun i a hi => by omega⟩
              case round =>
                obtain ⟨j, rfl, hj, hi⟩ := hrel
                have HI := Lib.hid hi
                obtain ⟨x0, x1, x2, x3⟩ := HBR.out.cells
                obtain ⟨y0, y1⟩ := HST1.out
                clear hi
                by_cases hjl : j < s.arcs.length
                · obtain ⟨ad2, a, hB, hab, haj, hat⟩ := row_arc HRA.out hjl
                  subst hB
                  obtain ⟨z0, z1, z2, z3⟩ := hat
                  have haw := HF.out.w s (List.mem_of_getElem? HS.out) a (List.mem_of_getElem? haj)
                  have n3 : (j : Int) < (s.arcs.length : Int) := by omega
                  have n4 : IntKind.i64.wrap ((j : Int) + 1) = (j : Int) + 1 := by rw [IntKind.wrap_i64]; omega
                  have HAJ := Lib.hid haj
                  clear haj
                  by_cases hio : 900 < a.w.size
                  · have hx := small_not HS.out (small_not_arc HAJ.out (by unfold smallA; rw [decide_eq_false (by omega)]))
                    have HX := Lib.hid hx
                    clear hx
                    go_wp2
                    go_ret
                    exact ⟨by rw [HX.out]; rfl, HGR0.out⟩
                  · go_wp2
                    go_round
                    case rel => exact ⟨j + 1, by go_num, by omega, fun i b hi hb => by
                      by_cases e : i = j
                      · subst e; rw [HAJ.out] at hb; cases hb; unfold smallA; exact decide_eq_true (by omega)
                      · exact HI.out i b (by omega) hb⟩
                    case measure => simp [intOf]; omega
                · have n3 : ¬ (j : Int) < (s.arcs.length : Int) := by omega
                  have hx := HO.out.next HS.out (by
                    unfold smallS
                    rw [decide_eq_true (by omega), Bool.true_and, List.all_eq_true]
                    intro a ha
                    obtain ⟨i, hi⟩ := List.mem_iff_getElem?.1 ha
                    exact HI.out i a (by have := (List.getElem?_eq_some_iff.1 hi).1; omega) hi)
                  have HX := Lib.hid hx
                  clear hx
                  go_wp2
                  go_roundw
                  case rel => exact ⟨k + 1, by go_num, HX.out, HGR.out⟩
                  case measure => simp [intOf]; omega
          · have n1 : ¬ (k : Int) < (m.states.length : Int) := by omega
            have hy := HO.out.all hlt (by omega) (by omega) (by omega)
            have HY := Lib.hid hy
            clear hy
            go_wp2
            go_ret
            exact ⟨by rw [HY.out]; rfl, HGR0.out⟩
end Go.Proofs.YtbmonhnojkiapaaGreatDoor
