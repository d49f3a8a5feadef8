/- The reference's Valid of a machine. · The reference's Valid of a machine, whole. -/
import Derived.Test.YtbmonhnojkiapaaGreatDoorU19
set_option linter.unusedVariables false
set_option linter.unusedSimpArgs false
namespace Go.Proofs.YtbmonhnojkiapaaGreatDoor
open Go.RowKit

theorem head_cases {m : Mach} (h : headB m = false) : kindB m.kind = false ∨ (kindB m.kind = true ∧ m.states.length < 1) ∨ (kindB m.kind = true ∧ ¬ m.states.length < 1 ∧ 3000 < m.states.length) ∨ (kindB m.kind = true ∧ ¬ m.states.length < 1 ∧ ¬ 3000 < m.states.length ∧ m.start < 0) ∨
    (kindB m.kind = true ∧ ¬ m.states.length < 1 ∧ ¬ 3000 < m.states.length ∧ ¬ m.start < 0 ∧ (m.states.length : Int) ≤ m.start) ∨ (kindB m.kind = true ∧ ¬ m.states.length < 1 ∧ ¬ 3000 < m.states.length ∧ ¬ m.start < 0 ∧ ¬ (m.states.length : Int) ≤ m.start ∧ wgtB m.kind m.lead = false) := by
  unfold headB at h
  cases hk : kindB m.kind
  · exact .inl rfl
  · rw [hk] at h
    refine .inr ?_
    by_cases h1 : m.states.length < 1
    · exact .inl ⟨rfl, h1⟩
    · by_cases h2 : 3000 < m.states.length
      · exact .inr (.inl ⟨rfl, h1, h2⟩)
      · by_cases h3 : m.start < 0
        · exact .inr (.inr (.inl ⟨rfl, h1, h2, h3⟩))
        · by_cases h4 : (m.states.length : Int) ≤ m.start
          · exact .inr (.inr (.inr (.inl ⟨rfl, h1, h2, h3, h4⟩)))
          · refine .inr (.inr (.inr (.inr ⟨rfl, h1, h2, h3, h4, ?_⟩)))
            rw [decide_eq_true (by omega : 1 ≤ m.states.length ∧ m.states.length ≤ 3000 ∧ 0 ≤ m.start ∧ m.start < (m.states.length : Int))] at h
            simpa using h
theorem arc_cases {k : Int} {n : Nat} {a : MArc} (h : arcB k n a = false) : a.i < 0 ∨ (¬ a.i < 0 ∧ 500 < a.i) ∨ (¬ a.i < 0 ∧ ¬ 500 < a.i ∧ a.o < 0) ∨ (¬ a.i < 0 ∧ ¬ 500 < a.i ∧ ¬ a.o < 0 ∧ 500 < a.o) ∨ (¬ a.i < 0 ∧ ¬ 500 < a.i ∧ ¬ a.o < 0 ∧ ¬ 500 < a.o ∧ a.t < 0) ∨
    (¬ a.i < 0 ∧ ¬ 500 < a.i ∧ ¬ a.o < 0 ∧ ¬ 500 < a.o ∧ ¬ a.t < 0 ∧ (n : Int) ≤ a.t) ∨ (¬ a.i < 0 ∧ ¬ 500 < a.i ∧ ¬ a.o < 0 ∧ ¬ 500 < a.o ∧ ¬ a.t < 0 ∧ ¬ (n : Int) ≤ a.t ∧ wgtB k a.w = false) := by
  unfold arcB at h
  by_cases hc : 0 ≤ a.i ∧ a.i ≤ 500 ∧ 0 ≤ a.o ∧ a.o ≤ 500 ∧ 0 ≤ a.t ∧ a.t < (n : Int)
  · rw [decide_eq_true hc] at h
    simp only [Bool.true_and] at h
    rw [h]; simp; omega
  · omega

set_option maxRecDepth 20000 in
set_option maxHeartbeats 4000000 in
theorem rvalid6_head {w : World} {v : Value} {m : Mach} (hv : MachV w v m) (hf : Fits m) (h : headB m = false) :
    Calls Tryz.prog 23 #[v] w (ValPost (.bool false) w) := by
  obtain ⟨u, rfl, A, cap, us, rfl, hul, hr, ha⟩ := hv
  obtain ⟨x0, x1, x2, x3⟩ := (BoxAt.new w m (.slice A m.states.length cap)).cells
  have hk := rkind_any m.kind
  unfold RK at hk
  have hw := rweight_any (k := m.kind) hf.lead
  unfold VB at hw
  have hg : w.grownBy (w.alloc (.cells #[.int .i64 m.kind, .int .i64 m.start, .string m.lead, .slice A m.states.length cap] 24)) none := World.grownBy_alloc _ _ _
  rcases head_cases h with h1 | ⟨h1, h2⟩ | ⟨h1, h2, h3⟩ | ⟨h1, h2, h3, h4⟩ | ⟨h1, h2, h3, h4, h5⟩ | ⟨h1, h2, h3, h4, h5, h6⟩
  all_goals rw [h1] at hk
  · clear hw hr ha h h1
    go_enter Tryz.func23, Tryz.ntmps23
    go_wp2_with (go_at_call 39; refine (hk _).mono ?_; rintro e w' ⟨rfl, rfl⟩)
    go_ret
    exact ⟨rfl, hg⟩
  iterate 4
    · clear hw hr ha h h1
      go_enter Tryz.func23, Tryz.ntmps23
      go_wp2_with (go_at_call 39; refine (hk _).mono ?_; rintro e w' ⟨rfl, rfl⟩)
      go_ret
      exact ⟨rfl, hg⟩
  · rw [h6] at hw
    clear hr ha h h1 h6
    go_enter Tryz.func23, Tryz.ntmps23
    go_wp2_with (go_at_call 39; refine (hk _).mono ?_; rintro e w' ⟨rfl, rfl⟩)
    refine (hw _).mono ?_
    rintro e w1 ⟨rfl, hg1⟩
    go_wp2
    go_ret
    exact ⟨rfl, grown_trans hg hg1⟩
end Go.Proofs.YtbmonhnojkiapaaGreatDoor
set_option linter.unusedVariables false
set_option linter.unusedSimpArgs false
namespace Go.Proofs.YtbmonhnojkiapaaGreatDoor
open Go.RowKit

theorem arc_new (w : World) (a : MArc) : ArcAt (w.alloc (.cells #[.int .i64 a.i, .int .i64 a.o, .string a.w, .int .i64 a.t] 35)) ⟨w.heap.size, 0, none⟩ a := by
  have hrow : (w.alloc (.cells #[.int .i64 a.i, .int .i64 a.o, .string a.w, .int .i64 a.t] 35)).heap[w.heap.size]? = some (.cells #[.int .i64 a.i, .int .i64 a.o, .string a.w, .int .i64 a.t] 35 (0, 0)) := by
    show (w.heap.push _)[w.heap.size]? = _
    rw [Array.getElem?_push_size]
  exact ⟨by rw [cell_of_row _ w.heap.size 0 _ _ (0, 0) hrow]; rfl, by show World.cell? _ ⟨w.heap.size, 0 + 1, none⟩ = _; rw [cell_of_row _ w.heap.size 1 _ _ (0, 0) hrow]; rfl, by show World.cell? _ ⟨w.heap.size, 0 + 2, none⟩ = _; rw [cell_of_row _ w.heap.size 2 _ _ (0, 0) hrow]; rfl, by show World.cell? _ ⟨w.heap.size, 0 + 3, none⟩ = _; rw [cell_of_row _ w.heap.size 3 _ _ (0, 0) hrow]; rfl⟩
theorem states_not {m : Mach} {k : Nat} {s : MState} (hs : m.states[k]? = some s) (h : stB6 m.kind m.states.length s = false) : validB m = false := by
  cases hv : validB m
  · rfl
  · rw [valid_states hv hs] at h; cases h
theorem arcs_not {m : Mach} {k : Nat} (hk : k ≤ m.states.length) (h : 30000 < nArcs (m.states.take k)) : validB m = false := by
  cases hv : validB m
  · rfl
  · have := valid_arcs hv
    have := nArcs_take m.states hk
    omega
theorem state_not_arc {k : Int} {n : Nat} {s : MState} {j : Nat} {a : MArc} (hj : s.arcs[j]? = some a) (h : arcB k n a = false) : stB6 k n s = false := by
  cases hs : stB6 k n s
  · rfl
  · rw [(state_parts hs).2 a (List.mem_of_getElem? hj)] at h; cases h
/-- What the reference's Valid does before its arcs: too many arcs, or a final weight that is none. -/
noncomputable def badF (k : Int) (q : Nat) (f : ByteArray) : Bool := decide (30000 < q) || !finB k f
/-- What a round of the outer loop holds. -/
structure VOut (w W wr : World) (m : Mach) (k : Nat) : Prop where
  hk : k ≤ m.states.length
  hn : nArcs (m.states.take k) ≤ 30000
  hs : ∀ (j : Nat) (s : MState), j < k → m.states[j]? = some s → stB6 m.kind m.states.length s = true
  hg : W.grownBy wr none

set_option maxRecDepth 20000 in
set_option maxHeartbeats 8000000 in
theorem rvalid6_any {w : World} {v : Value} {m : Mach} (hv : MachV w v m) (hf : Fits m) :
    Calls Tryz.prog 23 #[v] w (ValPost (.bool (validB m)) w) := by
  cases hH : headB m
  · rw [show validB m = false by unfold validB; rw [hH]; rfl]
    exact rvalid6_head hv hf hH
  obtain ⟨hk1, hl1, hl2, hst1, hst2, hlw⟩ := head_parts hH
  obtain ⟨u, rfl, hst0⟩ := hv
  have HST := Lib.hid hst0
  obtain ⟨A, cap, us, rfl, hul, hr, ha⟩ := hst0
  have hbx := BoxAt.new w m (.slice A m.states.length cap)
  have hk := rkind_any m.kind
  unfold RK at hk
  rw [hk1] at hk
  have hw := rweight_any (k := m.kind) hf.lead
  unfold VB at hw
  rw [hlw] at hw
  have hwt := fun (f : ByteArray) (h : f.size ≤ maxLen) => rweight_any (k := m.kind) h
  unfold VB at hwt
  have HWT := Lib.hid hwt; have HF := Lib.hid hf; have HH := Lib.hid hH
  have hg : w.grownBy (w.alloc (.cells #[.int .i64 m.kind, .int .i64 m.start, .string m.lead, .slice A m.states.length cap] 24)) none := World.grownBy_alloc _ _ _
  obtain ⟨x0, x1, x2, x3⟩ := hbx.cells
  have HBX := Lib.hid hbx; have HG := Lib.hid hg
  have f1 : ¬ m.states.length < 1 := by omega
  have f2 : ¬ 3000 < m.states.length := by omega
  have f3 : ¬ m.start < 0 := by omega
  have f4 : ¬ (m.states.length : Int) ≤ m.start := by omega
  clear hwt hbx hg hr ha hul hf hH hk1 hlw hl1 hst1 hst2
  go_enter Tryz.func23, Tryz.ntmps23
  go_wp2_with (go_at_call 39; refine (hk _).mono ?_; rintro e w' ⟨rfl, rfl⟩)
  refine (hw _).mono ?_
  rintro e w1 ⟨rfl, hg1⟩
  have HG1 := Lib.hid hg1
  clear hk hw hg1 x0 x1 x2 x3
  generalize hW : w.alloc (.cells #[.int .i64 m.kind, .int .i64 m.start, .string m.lead, .slice A m.states.length cap] 24) = W at *
  clear hW
  go_wp2
  go_loopw [3, 4] (fun n i wr => ∃ k : Nat, i = .int .i64 k ∧ n = .int .i64 (nArcs (m.states.take k) : Int) ∧ VOut w W wr m k) (fun _ i _ => m.states.length - (intOf i).toNat)
  case atStart => exact ⟨0, rfl, rfl, ⟨by omega, by simp [nArcs], fun j s hj => by omega, HG1.out⟩⟩
  case round =>
    obtain ⟨k, rfl, rfl, ho⟩ := hrel
    have hk := ho.hk
    have hnk := ho.hn
    have HO := Lib.hid ho
    have hbxr := (HBX.out.grown ho.hg).cells
    obtain ⟨x0, x1, x2, x3⟩ := hbxr
    clear ho
    by_cases hlt : k < m.states.length
    · obtain ⟨A', cap', us', hA', hul, hr, ha⟩ := HST.out.grown (grown_trans HG.out HO.out.hg)
      injection hA' with h1 h2 h3
      subst h1
      obtain ⟨ad, s, us1, hA, hadb, hs, hu, hc⟩ := row_state hr hul hlt
      subst hA
      obtain ⟨B, cb, hB, hra⟩ := ha k s us1 hs hu
      subst hB
      obtain ⟨y0, y1⟩ := hc
      have hsm := List.mem_of_getElem? hs
      have hfin := HF.out.fin s hsm
      have hal := HF.out.arcs s hsm
      have hts := take_one hs
      have hnx : nArcs (m.states.take (k + 1)) = nArcs (m.states.take k) + s.arcs.length := by rw [hts, nArcs_snoc]
      have n1 : (k : Int) < (m.states.length : Int) := by omega
      have n2 : IntKind.i64.wrap ((k : Int) + 1) = (k : Int) + 1 := by rw [IntKind.wrap_i64]; omega
      have n3 : IntKind.i64.wrap ((nArcs (m.states.take k) : Int) + (s.arcs.length : Int)) = (nArcs (m.states.take (k + 1)) : Int) := by rw [IntKind.wrap_i64]; omega
      have hnew : BoxAt wr w.heap.size m (.slice (some ad) m.states.length cap) := HBX.out.grown HO.out.hg
      generalize hq : nArcs (m.states.take (k + 1)) = q at *
      have HQ := Lib.hid hq
      have HS := Lib.hid hs; have HRA := Lib.hid hra
      clear hs hu hts hnx hr ha h2 h3 hq hra hsm hul hnew
      have hgs : wr.grownBy (wr.alloc (.cells #[.string s.fin, .slice B s.arcs.length cb] 29)) none := World.grownBy_alloc _ _ _
      have hst2 : StateAt (wr.alloc (.cells #[.string s.fin, .slice B s.arcs.length cb] 29)) ⟨wr.heap.size, 0, none⟩ s.fin (.slice B s.arcs.length cb) := by
        have hrow : (wr.alloc (.cells #[.string s.fin, .slice B s.arcs.length cb] 29)).heap[wr.heap.size]? = some (.cells #[.string s.fin, .slice B s.arcs.length cb] 29 (0, 0)) := by
          show (wr.heap.push _)[wr.heap.size]? = _
          rw [Array.getElem?_push_size]
        exact ⟨by rw [cell_of_row _ wr.heap.size 0 _ _ (0, 0) hrow]; rfl, by show World.cell? _ ⟨wr.heap.size, 0 + 1, none⟩ = _; rw [cell_of_row _ wr.heap.size 1 _ _ (0, 0) hrow]; rfl⟩
      have HGS := Lib.hid hgs; have HS2 := Lib.hid hst2
      clear hgs hst2
      go_upto_region 9 with (fail)
      have hsz2 : wr.heap.size < (wr.alloc (.cells #[.string s.fin, .slice B s.arcs.length cb] 29)).heap.size := by simp
      generalize hW2 : wr.alloc (.cells #[.string s.fin, .slice B s.arcs.length cb] 29) = W2 at *
      clear hW2
      obtain ⟨z0, z1⟩ := HS2.out
      have hbx2 := (HBX.out.grown (grown_trans HO.out.hg HGS.out)).cells
      obtain ⟨x0, x1, x2, x3⟩ := hbx2
      go_cut [76] from 62 to 76 (fun b wx => b = .bool (badF m.kind q s.fin) ∧ W2.grownBy wx none)
      case first =>
        by_cases hq3 : 30000 < q
        · have hb : badF m.kind q s.fin = true := by unfold badF; simp [hq3]
          have HB := Lib.hid hb
          clear hb
          go_wp2
          go_meet
          case rel => exact ⟨by rw [HB.out], grown_refl _ _⟩
        · by_cases hf0 : s.fin.size = 0
          · have hb : badF m.kind q s.fin = false := by unfold badF finB; simp [hq3, hf0]
            have HB := Lib.hid hb
            clear hb
            have b1 : (s.fin.toList == []) = true := by rw [Lib.toList_data, beq_iff_eq, ← List.length_eq_zero_iff, Array.length_toList]; exact hf0
            have b2 : (s.fin.toList != []) = false := flip_t b1
            go_wp2
            go_meet
            case rel => exact ⟨by rw [HB.out, show decide ((30000 : Int) < (q : Int)) = false by simp; omega], grown_refl _ _⟩
          · have b1 : (s.fin.toList == []) = false := by
              cases h : (s.fin.toList == [])
              · rfl
              · rw [Lib.toList_data, beq_iff_eq, ← List.length_eq_zero_iff, Array.length_toList] at h; exact absurd h hf0
            have b2 : (s.fin.toList != []) = true := flip_f b1
            have hb : badF m.kind q s.fin = !wgtB m.kind s.fin := by unfold badF finB; simp [hq3, hf0]
            have HB := Lib.hid hb
            clear hb
            have hwf := HWT.out s.fin hfin
            cases hwb : wgtB m.kind s.fin
            all_goals
              rw [hwb] at hwf HB
              go_wp2_with fail
              refine (hwf _).mono ?_
              rintro e w4 ⟨rfl, hg4⟩
              go_wp2
              go_meet
              case rel => exact ⟨by rw [HB.out]; first | rfl | (rw [show decide ((30000 : Int) < (q : Int)) = false by simp; omega]; rfl), hg4⟩
      case rest =>
        obtain ⟨rfl, hg5⟩ := hcut
        have HG5 := Lib.hid (grown_trans HGS.out hg5)
        clear x0 x1 x2 x3 z0 z1 y0 y1
        have S5 := HS2.out.grown hg5 hsz2
        cases hbad : badF m.kind q s.fin
        · have hfb : finB m.kind s.fin = true := by
            unfold badF at hbad
            have := (Bool.or_eq_false_iff.1 hbad).2
            simpa using this
          have hq3 : q ≤ 30000 := by
            unfold badF at hbad
            have := (Bool.or_eq_false_iff.1 hbad).1
            simpa using this
          have HFB := Lib.hid hfb
          have S5 := Lib.hid S5
          have hg50 := grown_trans HO.out.hg HG5.out
          have HG50 := Lib.hid hg50
          have hal2 : s.arcs.length ≤ 30000 := by have := nArcs_mem (l := m.states.take (k + 1)) (s := s) (by rw [take_one HS.out]; simp); rw [HQ.out] at this; omega
          clear hfb hbad hg50 hg5 HGS HS2 hsz2
          generalize wr = w4 at *
          generalize wc = w5 at *
          have hsz5 : w4.heap.size < w5.heap.size := by
            have := S5.out.c0
            unfold World.cell? at this
            rcases Nat.lt_or_ge w4.heap.size w5.heap.size with h | h
            · exact h
            · rw [Array.getElem?_eq_none h] at this; simp at this
          obtain ⟨z0, z1⟩ := S5.out
          go_wp2
          clear z0 z1
          go_loopw [6] (fun i wr => ∃ j : Nat, i = .int .i64 j ∧ j ≤ s.arcs.length ∧ (∀ (i : Nat) (a : MArc), i < j → s.arcs[i]? = some a → arcB m.kind m.states.length a = true) ∧ w5.grownBy wr none) (fun i _ => s.arcs.length - (intOf i).toNat)
          case atStart => exact ⟨0, rfl, by omega, fun i a hi => by omega, grown_refl _ _⟩
          case round =>
            obtain ⟨j, rfl, hj, hall, hg6⟩ := hrel
            have HALL := Lib.hid hall; have HG6 := Lib.hid hg6
            have hS6 := S5.out.grown hg6 hsz5
            have HS6 := Lib.hid hS6
            obtain ⟨z0, z1⟩ := hS6
            clear hall hg6
            by_cases hjl : j < s.arcs.length
            · obtain ⟨ad2, a, hB, hab, haj, hat⟩ := row_arc HRA.out hjl
              subst hB
              obtain ⟨y0, y1, y2, y3⟩ := (hat.grown HG5.out (by rw [block_of_add]; exact hab)).grown HG6.out (by have := HG5.out.size; rw [block_of_add]; omega)
              have n1 : (j : Int) < (s.arcs.length : Int) := by omega
              have n2 : IntKind.i64.wrap ((j : Int) + 1) = (j : Int) + 1 := by rw [IntKind.wrap_i64]; omega
              have haw := HF.out.w s (List.mem_of_getElem? HS.out) a (List.mem_of_getElem? haj)
              have HAJ := Lib.hid haj
              simp only [Nat.zero_add] at z1
              clear hat haj
              go_upto_region 15 with (fail)
              have hg7 : wr.grownBy (wr.alloc (.cells #[.int .i64 a.i, .int .i64 a.o, .string a.w, .int .i64 a.t] 35)) none := World.grownBy_alloc _ _ _
              have hA7 := arc_new wr a
              generalize hW3 : wr.alloc (.cells #[.int .i64 a.i, .int .i64 a.o, .string a.w, .int .i64 a.t] 35) = W3 at *
              clear hW3 y0 y1 y2 y3 z0 z1
              obtain ⟨y0, y1, y2, y3⟩ := hA7
              simp only [Nat.zero_add] at y1 y2 y3
              have HG7 := Lib.hid hg7
              have hbx7 := (HBX.out.grown (grown_trans HG50.out (grown_trans HG6.out HG7.out))).cells
              obtain ⟨x0, x1, x2, x3⟩ := hbx7
              have hwa := HWT.out a.w haw
              clear hg7
              go_cut [127] from 89 to 127 (fun b wx => b = .bool (!arcB m.kind m.states.length a) ∧ W3.grownBy wx none)
              case first =>
                cases hAB : arcB m.kind m.states.length a
                · have HB := Lib.hid hAB
                  rcases arc_cases hAB with h1 | ⟨h1, h2⟩ | ⟨h1, h2, h3⟩ | ⟨h1, h2, h3, h4⟩ | ⟨h1, h2, h3, h4, h5⟩ | ⟨h1, h2, h3, h4, h5, h6⟩ | ⟨h1, h2, h3, h4, h5, h6, h7⟩
                  iterate 6
                    · clear hwa hAB
                      go_wp2
                      go_meet
                      case rel => exact ⟨by rw [HB.out]; first | rfl | simp [*], grown_refl _ _⟩
                  · rw [h7] at hwa
                    clear h7 hAB
                    go_wp2_with fail
                    refine (hwa _).mono ?_
                    rintro e w8 ⟨rfl, hg8⟩
                    go_wp2
                    go_meet
                    case rel => exact ⟨by rw [HB.out]; first | rfl | simp [*], hg8⟩
                · have HB := Lib.hid hAB
                  obtain ⟨h1, h2, h3, h4, h5, h6, h7⟩ := arc_parts hAB
                  rw [h7] at hwa
                  have g1 : ¬ a.i < 0 := by omega
                  have g2 : ¬ 500 < a.i := by omega
                  have g3 : ¬ a.o < 0 := by omega
                  have g4 : ¬ 500 < a.o := by omega
                  have g5 : ¬ a.t < 0 := by omega
                  have g6 : ¬ (m.states.length : Int) ≤ a.t := by omega
                  clear h1 h2 h3 h4 h5 h6 h7 hAB
                  go_wp2_with fail
                  refine (hwa _).mono ?_
                  rintro e w8 ⟨rfl, hg8⟩
                  go_wp2
                  go_meet
                  case rel => exact ⟨by rw [HB.out]; first | rfl | simp [*], hg8⟩
              case rest =>
                obtain ⟨rfl, hg8⟩ := hcut
                have HG8 := Lib.hid (grown_trans HG6.out (grown_trans HG7.out hg8))
                clear hg8 x0 x1 x2 x3 y0 y1 y2 y3 hwa HG7
                cases hAB : arcB m.kind m.states.length a
                · have hno : validB m = false := states_not HS.out (state_not_arc HAJ.out hAB)
                  have HNO := Lib.hid hno
                  clear hno hAB
                  go_wp2
                  go_ret
                  exact ⟨by rw [HNO.out]; rfl, grown_trans HG.out (grown_trans HG50.out HG8.out)⟩
                · have HALL2 : Hid (∀ (i : Nat) (a : MArc), i < j + 1 → s.arcs[i]? = some a → arcB m.kind m.states.length a = true) := Lib.hid (fun i' a' hi' ha' => by
                    by_cases e : i' = j
                    · subst e; rw [HAJ.out] at ha'; cases ha'; exact hAB
                    · exact HALL.out i' a' (by omega) ha')
                  clear hAB
                  go_wp2
                  go_roundw
                  case rel => exact ⟨j + 1, by go_num, by omega, HALL2.out, HG8.out⟩
                  case measure => simp [intOf]; omega
            · have n1 : ¬ (j : Int) < (s.arcs.length : Int) := by omega
              have hsB : stB6 m.kind m.states.length s = true := by
                unfold stB6
                rw [HFB.out]
                simp only [Bool.true_and, List.all_eq_true]
                intro a ha
                obtain ⟨i', hi'⟩ := List.mem_iff_getElem?.1 ha
                exact HALL.out i' a (by have := (List.getElem?_eq_some_iff.1 hi').1; omega) hi'
              have HO2 : Hid (VOut w W wr m (k + 1)) := Lib.hid ⟨by omega, by rw [HQ.out]; exact hq3, fun j' s' hj' hs' => by
                by_cases e : j' = k
                · subst e; rw [HS.out] at hs'; cases hs'; exact hsB
                · exact HO.out.hs j' s' (by omega) hs', grown_trans HG50.out HG6.out⟩
              clear hsB
              simp only [Nat.zero_add] at z1
              go_wp2
              go_roundw
              case rel => exact ⟨k + 1, by go_num, by rw [HQ.out], HO2.out⟩
              case measure => simp [intOf]; omega
        · have hno : validB m = false := by
            unfold badF at hbad
            rcases Bool.or_eq_true_iff.1 hbad with h | h
            · exact arcs_not (k := k + 1) (by omega) (by rw [HQ.out]; simpa using h)
            · refine states_not HS.out ?_
              unfold stB6
              rw [show finB m.kind s.fin = false by simpa using h]; rfl
          have HNO := Lib.hid hno
          clear hno hbad S5
          go_wp2
          go_ret
          exact ⟨by rw [HNO.out]; rfl, grown_trans HG.out (grown_trans HO.out.hg HG5.out)⟩
    · have n1 : ¬ (k : Int) < (m.states.length : Int) := by omega
      have hyes : validB m = true := by
        have h1 := HO.out.hn
        rw [List.take_of_length_le (by omega)] at h1
        unfold validB
        rw [HH.out]
        simp only [Bool.true_and, Bool.and_eq_true, decide_eq_true_eq, List.all_eq_true]
        refine ⟨h1, fun s hs => ?_⟩
        obtain ⟨j, hj⟩ := List.mem_iff_getElem?.1 hs
        exact HO.out.hs j s (by have := (List.getElem?_eq_some_iff.1 hj).1; omega) hj
      have HY := Lib.hid hyes
      clear hyes
      go_wp2
      go_ret
      exact ⟨by rw [HY.out]; rfl, grown_trans HG.out HO.out.hg⟩
end Go.Proofs.YtbmonhnojkiapaaGreatDoor
