/- The program's Same. · The statements' example. · The statements' awake. -/
import Derived.Test.YtbmonhnojkiapaaGreatDoorV25
import Derived.Test.YtbmonhnojkiapaaGreatDoorV34
import Derived.Test.YtbmonhnojkiapaaGreatDoorV27
import Derived.Test.YtbmonhnojkiapaaGreatDoorV31
set_option linter.unusedVariables false
set_option linter.unusedSimpArgs false
namespace Go.Proofs.YtbmonhnojkiapaaGreatDoor
open Go.RowKit

theorem len_ne {α : Type} {x y : List α} (h : ¬ x.length = y.length) : ¬ x = y := fun e => h (by rw [e])
theorem get_ne {α : Type} {x y : List α} {k : Nat} {a b : α} (ha : x[k]? = some a) (hb : y[k]? = some b) (h : ¬ a = b) : ¬ x = y := fun e => h (by rw [e, hb] at ha; cases ha; rfl)
theorem take_eq_next {α : Type} {x y : List α} {k : Nat} {a b : α} (ha : x[k]? = some a) (hb : y[k]? = some b) (h : a = b) (hall : ∀ i, i < k → x[i]? = y[i]?) : ∀ i, i < k + 1 → x[i]? = y[i]? := fun i hi => by
  by_cases e : i = k
  · subst e; rw [ha, hb, h]
  · exact hall i (by omega)
set_option maxRecDepth 20000 in
set_option maxHeartbeats 2000000 in
theorem equalA_any {w : World} {B B2 : Option Addr} {cb cb2 : Nat} {x y : List MArc} (hr : Reads w w.heap.size 4 B x.length (x.flatMap arcC)) (hr2 : Reads w w.heap.size 4 B2 y.length (y.flatMap arcC)) (hl : x.length ≤ 140737488355328) :
    Calls Tryz.prog 75 #[.slice B x.length cb, .slice B2 y.length cb2] w (ValPost (.bool (decide (x = y))) w) := by
  have HR := Lib.hid hr; have HR2 := Lib.hid hr2
  clear hr hr2
  by_cases hlen : x.length = y.length
  · have e6 : ((x.length : Int) != (y.length : Int)) = false := by simp; omega
    have D2 := Lib.hid hlen
    clear hlen
    go_enter Tryz.func75, Tryz.ntmps75
    go_wp2
    go_loopw [13] (fun i wr => ∃ j : Nat, i = .int .i64 j ∧ j ≤ x.length ∧ (∀ i, i < j → x[i]? = y[i]?) ∧ w.grownBy wr none) (fun i _ => x.length - (intOf i).toNat)
    case atStart => exact ⟨0, rfl, by omega, fun i hi => by omega, grown_refl _ _⟩
    case round =>
      obtain ⟨j, rfl, hj, hi, hg2⟩ := hrel
      have HI := Lib.hid hi; have HG2 := Lib.hid hg2
      clear hi hg2
      by_cases hjl : j < x.length
      · obtain ⟨bd, a, hB, hab, haj, hat⟩ := row_arc (HR.out) hjl
        subst hB
        obtain ⟨bd2, b, hB, hbb, hbj, hbt⟩ := row_arc (HR2.out) (by have := D2.out; omega : j < y.length)
        subst hB
        obtain ⟨a0, a1, a2, a3⟩ := hat.grown HG2.out (by rw [block_of_add]; exact hab)
        obtain ⟨b0, b1, b2, b3⟩ := hbt.grown HG2.out (by rw [block_of_add]; exact hbb)
        have n3 : (j : Int) < (x.length : Int) := by omega
        have n3b : (j : Int) < (y.length : Int) := by have := D2.out; omega
        have n4 : IntKind.i64.wrap ((j : Int) + 1) = (j : Int) + 1 := by rw [IntKind.wrap_i64]; omega
        have n5 : (0 : Int) ≤ (j : Int) := by omega
        have HAJ := Lib.hid haj; have HBJ := Lib.hid hbj
        clear haj hat hbj hbt
        have hq := fun w => arc_equalIn a b w
        have hm := arc_guard
        by_cases he : a = b
        · have HN := Lib.hid (take_eq_next HAJ.out HBJ.out he HI.out)
          rw [decide_eq_true he] at hq
          clear he
          go_wp2
          go_quiet (fail)
          go_wp2
          go_roundw
          case rel => exact ⟨j + 1, by go_num, by omega, HN.out, grown_trans HG2.out (grown_drewN _ _ _)⟩
          case measure => simp [intOf]; omega
        · have HX := Lib.hid (get_ne HAJ.out HBJ.out he)
          rw [decide_eq_false he] at hq
          clear he
          go_wp2
          go_quiet (fail)
          go_wp2
          go_ret
          exact ⟨by rw [decide_eq_false HX.out]; rfl, grown_trans HG2.out (grown_drewN _ _ _)⟩
      · have n3 : ¬ (j : Int) < (x.length : Int) := by omega
        have HX := Lib.hid (list_eq_of D2.out (fun i hi => HI.out i (by omega)))
        go_wp2
        go_ret
        exact ⟨by rw [decide_eq_true HX.out]; rfl, HG2.out⟩
  · have e6 : ((x.length : Int) != (y.length : Int)) = true := by simp; omega
    have HX := Lib.hid (len_ne hlen)
    clear hlen
    go_enter Tryz.func75, Tryz.ntmps75
    go_wp2
    go_ret
    exact ⟨by rw [decide_eq_false HX.out]; rfl, grown_refl _ _⟩
theorem st_eq {x y : MState} (h1 : x.fin = y.fin) (h2 : x.arcs = y.arcs) : x = y := by cases x; cases y; simp_all
set_option maxRecDepth 20000 in
set_option maxHeartbeats 2000000 in
theorem sameState_any {w : World} {B B2 : Option Addr} {cb cb2 : Nat} {x y : MState} (hr : Reads w w.heap.size 4 B x.arcs.length (x.arcs.flatMap arcC)) (hr2 : Reads w w.heap.size 4 B2 y.arcs.length (y.arcs.flatMap arcC)) (hl : x.arcs.length ≤ 140737488355328) :
    Calls Tryz.prog 54 #[.agg #[.string x.fin, .slice B x.arcs.length cb], .agg #[.string y.fin, .slice B2 y.arcs.length cb2]] w (ValPost (.bool (decide (x = y))) w) := by
  have h1 := st_new w x.fin (.slice B x.arcs.length cb)
  have h2 := st_new (w.alloc (.cells #[.string x.fin, .slice B x.arcs.length cb] 29)) y.fin (.slice B2 y.arcs.length cb2)
  have g1 : w.grownBy (w.alloc (.cells #[.string x.fin, .slice B x.arcs.length cb] 29)) none := World.grownBy_alloc _ _ _
  have g2 := World.grownBy_alloc (w.alloc (.cells #[.string x.fin, .slice B x.arcs.length cb] 29)) (.cells #[.string y.fin, .slice B2 y.arcs.length cb2] 29) none
  rw [show (w.alloc (.cells #[.string x.fin, .slice B x.arcs.length cb] 29)).heap.size = w.heap.size + 1 by simp] at h2
  have h3 := h1.grown g2 (by simp)
  have hg := grown_trans g1 g2
  have HG := Lib.hid hg
  have HC := Lib.hid (equalA_any (cb := cb) (cb2 := cb2) ((hr.below (below_of hg)).more hg.size) ((hr2.below (below_of hg)).more hg.size) hl)
  obtain ⟨x0, x1⟩ := h3
  obtain ⟨y0, y1⟩ := h2
  simp only [Nat.zero_add] at x1 y1
  clear h1 g1 g2 hg hr hr2
  by_cases d1 : x.fin = y.fin
  · have e5 : (x.fin.toList == y.fin.toList) = true := by rw [d1]; simp
    have D1 := Lib.hid d1
    clear d1
    go_enter Tryz.func54, Tryz.ntmps54
    go_wp2_with fail
    refine HC.out.mono ?_
    rintro e w2 ⟨rfl, hg2⟩
    have HG2 := Lib.hid (grown_trans HG.out hg2)
    clear hg2 x0 x1 y0 y1
    by_cases d2 : x.arcs = y.arcs
    · have HX := Lib.hid (st_eq D1.out d2)
      rw [decide_eq_true d2]
      clear d2
      go_wp2
      go_ret
      exact ⟨by rw [decide_eq_true HX.out]; rfl, HG2.out⟩
    · have HX : Hid (¬ x = y) := Lib.hid (fun e => d2 (by rw [e]))
      rw [decide_eq_false d2]
      clear d2
      go_wp2
      go_ret
      exact ⟨by rw [decide_eq_false HX.out]; rfl, HG2.out⟩
  · have e5 := text_ne d1
    have HX : Hid (¬ x = y) := Lib.hid (fun e => d1 (by rw [e]))
    clear d1
    go_enter Tryz.func54, Tryz.ntmps54
    go_wp2
    go_ret
    exact ⟨by rw [decide_eq_false HX.out]; rfl, HG.out⟩
set_option maxRecDepth 20000 in
set_option maxHeartbeats 4000000 in
theorem equalFunc_any {w : World} {A A2 : Option Addr} {cap cap2 : Nat} {us us2 : List Value} {l l2 : List MState} (h : StAt w A us l) (h2 : StAt w A2 us2 l2) (hn : l.length ≤ 140737488355328) (hna : ∀ s ∈ l, s.arcs.length ≤ 140737488355328) :
    Calls Tryz.prog 53 #[.slice A l.length cap, .slice A2 l2.length cap2, .func (.func 54) #[] #[]] w (ValPost (.bool (decide (l = l2))) w) := by
  have HS := Lib.hid h; have HS2 := Lib.hid h2; have HNA := Lib.hid hna
  clear h h2 hna
  by_cases hlen : l.length = l2.length
  · have e6 : ((l.length : Int) != (l2.length : Int)) = false := by simp; omega
    have D2 := Lib.hid hlen
    clear hlen
    go_enter Tryz.func53, Tryz.ntmps53
    go_wp2
    go_loopw [17] (fun i wr => ∃ j : Nat, i = .int .i64 j ∧ j ≤ l.length ∧ (∀ i, i < j → l[i]? = l2[i]?) ∧ w.grownBy wr none) (fun i _ => l.length - (intOf i).toNat)
    case atStart => exact ⟨0, rfl, by omega, fun i hi => by omega, grown_refl _ _⟩
    case round =>
      obtain ⟨k, rfl, hk, hi, hg2⟩ := hrel
      have HI := Lib.hid hi; have HG2 := Lib.hid hg2
      clear hi hg2
      by_cases hlt : k < l.length
      · obtain ⟨ad, s, B, cb, hA, hs, hu, hc, hra⟩ := (HS.out.grown HG2.out).at_ hlt
        subst hA
        have g1 := World.grownBy_alloc wr (.cells #[.string s.fin, .slice B s.arcs.length cb] 29) none
        obtain ⟨ad2, s2, B2, cb2, hA, hs2, hu2, hc2, hra2⟩ := (HS2.out.grown (grown_trans HG2.out g1)).at_ (by have := D2.out; omega : k < l2.length)
        subst hA
        obtain ⟨z0, z1⟩ := hc
        obtain ⟨z2, z3⟩ := hc2
        have g2 := World.grownBy_alloc (wr.alloc (.cells #[.string s.fin, .slice B s.arcs.length cb] 29)) (.cells #[.string s2.fin, .slice B2 s2.arcs.length cb2] 29) none
        have hg := grown_trans g1 g2
        have HG4 := Lib.hid (grown_trans HG2.out hg)
        have n1 : (k : Int) < (l.length : Int) := by omega
        have n1b : (k : Int) < (l2.length : Int) := by have := D2.out; omega
        have n2 : IntKind.i64.wrap ((k : Int) + 1) = (k : Int) + 1 := by rw [IntKind.wrap_i64]; omega
        have n3 : (0 : Int) ≤ (k : Int) := by omega
        have HC := Lib.hid (sameState_any (cb := cb) (cb2 := cb2) (x := s) (y := s2) ((hra.below (below_of hg)).more hg.size) ((hra2.below (below_of g2)).more g2.size) (HNA.out s (List.mem_of_getElem? hs)))
        have HSS := Lib.hid hs; have HSS2 := Lib.hid hs2
        clear hs hu hra hs2 hu2 hra2 g1 g2 hg
        go_wp2_with fail
        refine HC.out.mono ?_
        rintro e w5 ⟨rfl, hg5⟩
        have HG5 := Lib.hid (grown_trans HG4.out hg5)
        clear hg5 z0 z1 z2 z3
        by_cases he : s = s2
        · have HN := Lib.hid (take_eq_next HSS.out HSS2.out he HI.out)
          rw [decide_eq_true he]
          clear he
          go_wp2
          go_roundw
          case rel => exact ⟨k + 1, by go_num, by omega, HN.out, HG5.out⟩
          case measure => simp [intOf]; omega
        · have HX := Lib.hid (get_ne HSS.out HSS2.out he)
          rw [decide_eq_false he]
          clear he
          go_wp2
          go_ret
          exact ⟨by rw [decide_eq_false HX.out]; rfl, HG5.out⟩
      · have n1 : ¬ (k : Int) < (l.length : Int) := by omega
        have HX := Lib.hid (list_eq_of D2.out (fun i hi => HI.out i (by omega)))
        go_wp2
        go_ret
        exact ⟨by rw [decide_eq_true HX.out]; rfl, HG2.out⟩
  · have e6 : ((l.length : Int) != (l2.length : Int)) = true := by simp; omega
    have HX := Lib.hid (len_ne hlen)
    clear hlen
    go_enter Tryz.func53, Tryz.ntmps53
    go_wp2
    go_ret
    exact ⟨by rw [decide_eq_false HX.out]; rfl, grown_refl _ _⟩
set_option maxRecDepth 20000 in
set_option maxHeartbeats 4000000 in
theorem same_any {w : World} {v v2 : Value} {m n : Mach} (hv : MachV w v m) (hv2 : MachV w v2 n) (hn : m.states.length ≤ 140737488355328) (hna : ∀ s ∈ m.states, s.arcs.length ≤ 140737488355328) :
    Calls Tryz.prog 31 #[v, v2] w (ValPost (.bool (decide (m = n))) w) := by
  obtain ⟨u, rfl, hst0⟩ := hv
  obtain ⟨u2, rfl, hst2⟩ := hv2
  obtain ⟨A, cap, us, rfl, hS⟩ := StAt.of hst0
  obtain ⟨A2, cap2, us2, rfl, hS2⟩ := StAt.of hst2
  have hg : w.grownBy (w.alloc (.cells #[.int .i64 m.kind, .int .i64 m.start, .string m.lead, .slice A m.states.length cap] 24)) none := World.grownBy_alloc _ _ _
  have hg2 := World.grownBy_alloc (w.alloc (.cells #[.int .i64 m.kind, .int .i64 m.start, .string m.lead, .slice A m.states.length cap] 24)) (.cells #[.int .i64 n.kind, .int .i64 n.start, .string n.lead, .slice A2 n.states.length cap2] 24) none
  have hbx := (BoxAt.new w m (.slice A m.states.length cap)).grown hg2
  have hbx2 := BoxAt.new (w.alloc (.cells #[.int .i64 m.kind, .int .i64 m.start, .string m.lead, .slice A m.states.length cap] 24)) n (.slice A2 n.states.length cap2)
  rw [show (w.alloc (.cells #[.int .i64 m.kind, .int .i64 m.start, .string m.lead, .slice A m.states.length cap] 24)).heap.size = w.heap.size + 1 by simp] at hbx2
  have hgg := grown_trans hg hg2
  have HC := Lib.hid (equalFunc_any (cap := cap) (cap2 := cap2) (hS.grown hgg) (hS2.grown hgg) hn hna)
  have HG := Lib.hid hgg
  obtain ⟨x0, x1, x2, x3⟩ := hbx.cells
  obtain ⟨y0, y1, y2, y3⟩ := hbx2.cells
  clear hbx hbx2 hg hg2 hgg hst0 hst2 hS hS2
  by_cases c1 : m.kind = n.kind
  · have e1 : (m.kind == n.kind) = true := by simp [c1]
    by_cases c2 : m.start = n.start
    · have e2 : (m.start == n.start) = true := by simp [c2]
      by_cases c3 : m.lead = n.lead
      · have e3 : (m.lead.toList == n.lead.toList) = true := by rw [c3]; simp
        have K1 := Lib.hid c1; have K2 := Lib.hid c2; have K3 := Lib.hid c3
        clear c1 c2 c3
        go_enter Tryz.func31, Tryz.ntmps31
        go_wp2_with fail
        refine HC.out.mono ?_
        rintro e w3 ⟨rfl, hg3⟩
        have HG3 := Lib.hid (grown_trans HG.out hg3)
        clear hg3
        by_cases c4 : m.states = n.states
        · have HX := Lib.hid (mach_eq K1.out K2.out K3.out c4)
          rw [decide_eq_true c4]
          clear c4
          go_wp2
          go_ret
          exact ⟨by rw [HX.out]; rfl, HG3.out⟩
        · have HX := Lib.hid (mach_ne (m := m) (n := n) (fun e => c4 e.2.2.2))
          rw [decide_eq_false c4]
          clear c4
          go_wp2
          go_ret
          exact ⟨by rw [HX.out]; rfl, HG3.out⟩
      · have HX := Lib.hid (mach_ne (m := m) (n := n) (fun e => c3 e.2.2.1))
        have e3 := text_ne c3
        clear c1 c2 c3
        go_enter Tryz.func31, Tryz.ntmps31
        go_wp2
        go_ret
        exact ⟨by rw [HX.out]; rfl, HG.out⟩
    · have HX := Lib.hid (mach_ne (m := m) (n := n) (fun e => c2 e.2.1))
      have e2 : (m.start == n.start) = false := by simp [c2]
      clear c1 c2
      go_enter Tryz.func31, Tryz.ntmps31
      go_wp2
      go_ret
      exact ⟨by rw [HX.out]; rfl, HG.out⟩
  · have HX := Lib.hid (mach_ne (m := m) (n := n) (fun e => c1 e.1))
    have e1 : (m.kind == n.kind) = false := by simp [c1]
    clear c1
    go_enter Tryz.func31, Tryz.ntmps31
    go_wp2
    go_ret
    exact ⟨by rw [HX.out]; rfl, HG.out⟩
end Go.Proofs.YtbmonhnojkiapaaGreatDoor
set_option linter.unusedVariables false
set_option linter.unusedSimpArgs false
namespace Go.Proofs.YtbmonhnojkiapaaGreatDoor
open Go.RowKit

theorem cells_block {W : World} {g k n : Nat} {xs : List Value} {t : TypeId} (h : W.heap[g]? = some (.cells xs.toArray t (0, 0))) (hl : xs.length = n * k) : Reads W W.heap.size k (some ⟨g, 0, none⟩) n xs :=
  ⟨hl, fun _ => ⟨_, rfl, (Array.getElem?_eq_some_iff.1 h).1, fun j u hu => by
    have hadd : Addr.add ⟨g, 0, none⟩ j = ⟨g, 0 + j, none⟩ := by unfold Addr.add; split <;> simp_all
    rw [hadd, Nat.zero_add, cell_of_row W g _ _ _ (0, 0) h, List.getElem?_toArray]
    exact hu⟩⟩
/-- A literal's arcs. -/
theorem arcs_block {W : World} {g c : Nat} {l : List MArc} {t : TypeId} (h : W.heap[g]? = some (.cells (l.flatMap arcC).toArray t (0, 0))) : ArcsSl W (.slice (some ⟨g, 0, none⟩) l.length c) l :=
  ⟨_, c, rfl, cells_block h (flat_len arcC 4 arcC_len l)⟩
/-- A literal's states. -/
theorem states_block {W : World} {g c B : Nat} {l : List MState} {us : List Value} {t : TypeId} (h : W.heap[g]? = some (.cells ((l.zip us).flatMap stC).toArray t (0, 0))) (hu : us.length = l.length) (hB : B ≤ g)
    (ha : ∀ (k : Nat) (s : MState) (x : Value), l[k]? = some s → us[k]? = some x → ArcsSl W x s.arcs ∧ (0 < s.arcs.length → ∀ b, x.ownBlock = some b → B ≤ b)) : StN W B (.slice (some ⟨g, 0, none⟩) l.length c) l := by
  refine ⟨_, c, us, rfl, hu, cells_block h ?_, fun _ ad hA => by cases hA; exact hB, ha⟩
  rw [flat_len stC 2 stC_len, List.length_zip, hu, Nat.min_self]
def tx0 : ByteArray := ⟨#[48]⟩
def tx1 : ByteArray := ⟨#[49]⟩
def tx2 : ByteArray := ⟨#[50]⟩
def tx3 : ByteArray := ⟨#[51]⟩
def exM : Mach := ⟨1, 1, tx2, [⟨ByteArray.empty, []⟩, ⟨ByteArray.empty, [⟨2, 2, tx1, 2⟩, ⟨1, 1, tx0, 2⟩, ⟨1, 1, tx0, 0⟩]⟩, ⟨tx3, []⟩]⟩
def wantM : Mach := ⟨1, 0, tx2, [⟨ByteArray.empty, [⟨2, 2, tx1, 1⟩, ⟨1, 1, tx0, 1⟩]⟩, ⟨tx3, []⟩]⟩
theorem wgt1 {a : ByteArray} {x : Rat} (h : IsRat a x) : wgtB 1 a = true := wgtB_yes (v := .inr x) ⟨h, rfl⟩
theorem wt0 : wgtB 1 tx0 = true := wgt1 (x := 0) ⟨by decide +kernel, by decide +kernel⟩
theorem wt1 : wgtB 1 tx1 = true := wgt1 (x := 1) ⟨by decide +kernel, by decide +kernel⟩
theorem wt2 : wgtB 1 tx2 = true := wgt1 (x := 2) ⟨by decide +kernel, by decide +kernel⟩
theorem wt3 : wgtB 1 tx3 = true := wgt1 (x := 3) ⟨by decide +kernel, by decide +kernel⟩
theorem ex_valid : validB exM = true := by
  unfold validB headB exM stB6 finB arcB nArcs kindB
  simp [wt0, wt1, wt2, wt3]
theorem want_valid : validB wantM = true := by
  unfold validB headB wantM stB6 finB arcB nArcs kindB
  simp [wt0, wt1, wt2, wt3]
theorem ex_useful : usefulL exM = [1, 2] := by
  have hw := valid_wf ex_valid
  refine rising_eq (useful_sorted exM) (by decide) (fun x => ?_)
  rw [useful_mem hw]
  unfold Useful
  rw [← fwd_mem hw, ← bwd_mem]
  have hf : fwdL exM = [1, 2, 0] := by decide +kernel
  have hb : bwdL exM = [2, 1] := by decide +kernel
  rw [hf, hb]
  simp
  omega
theorem ex_trim : trimV exM = (wantM, 0) := by
  unfold trimV
  rw [if_pos ex_valid, trimM_some (by rw [ex_useful]; simp), ex_useful]
  have : renumM exM [1, 2] = wantM := by decide +kernel
  rw [this]
theorem want_det : detB wantM = true := by
  unfold detB everyB
  rw [want_valid]
  decide +kernel
theorem want_sig : sigV wantM = 2 := by
  unfold sigV
  rw [if_pos want_valid]
  decide +kernel
theorem exM_fits : Fits exM := ⟨by decide +kernel, by decide +kernel, by decide +kernel, by decide +kernel, by decide +kernel⟩
theorem wantM_fits : Fits wantM := ⟨by decide +kernel, by decide +kernel, by decide +kernel, by decide +kernel, by decide +kernel⟩
/-- A literal of states, one row of arcs among them. -/
theorem two_blocks {W1 : World} {g B c c2 : Nat} (l : List MState) (us : List Value) (xs : List MArc) (hg : W1.heap.size = g) (hB : B ≤ g) (hu : us.length = l.length)
    (hk : ∀ (k : Nat) (s : MState) (x : Value), l[k]? = some s → us[k]? = some x → (x = .slice none 0 0 ∧ s.arcs = []) ∨ (x = .slice (some ⟨g, 0, none⟩) xs.length c ∧ s.arcs = xs)) :
    StN ((W1.alloc (.cells (xs.flatMap arcC).toArray 35)).alloc (.cells ((l.zip us).flatMap stC).toArray 29)) B (.slice (some ⟨g + 1, 0, none⟩) l.length c2) l := by
  have h1 : (W1.alloc (.cells (xs.flatMap arcC).toArray 35)).heap[g]? = some (.cells (xs.flatMap arcC).toArray 35 (0, 0)) := by rw [← hg]; exact block_new6 W1 _ _
  have hs : (W1.alloc (.cells (xs.flatMap arcC).toArray 35)).heap.size = g + 1 := by simp [hg]
  have h2 : ((W1.alloc (.cells (xs.flatMap arcC).toArray 35)).alloc (.cells ((l.zip us).flatMap stC).toArray 29)).heap[g + 1]? = some (.cells ((l.zip us).flatMap stC).toArray 29 (0, 0)) := by rw [← hs]; exact block_new6 _ _ _
  have h3 := ((World.grownBy_alloc (W1.alloc (.cells (xs.flatMap arcC).toArray 35)) (.cells ((l.zip us).flatMap stC).toArray 29) none).block g (by omega) (by simp)).trans h1
  refine states_block h2 hu (by omega) (fun k s x hs hx => ?_)
  rcases hk k s x hs hx with ⟨rfl, h⟩ | ⟨rfl, h⟩
  · rw [h]
    exact ⟨ArcsSl.nil _, fun h0 => by simp at h0⟩
  · rw [h]
    exact ⟨arcs_block h3, fun _ b hb => by cases hb; exact hB⟩
set_option maxRecDepth 20000 in
set_option maxHeartbeats 4000000 in
theorem example_call (w : World) : Calls Tryz.prog 8 #[] w (MNPost exM w) := by
  have hB := BoxAt.new w exM (.slice (some ⟨w.heap.size + 1 + 1, 0, none⟩) 3 3)
  have h1 := World.grownBy_alloc w (.cells #[.int .i64 exM.kind, .int .i64 exM.start, .string exM.lead, .slice (some ⟨w.heap.size + 1 + 1, 0, none⟩) 3 3] 24) none
  have hst := two_blocks (W1 := w.alloc (.cells #[.int .i64 exM.kind, .int .i64 exM.start, .string exM.lead, .slice (some ⟨w.heap.size + 1 + 1, 0, none⟩) 3 3] 24)) (g := w.heap.size + 1) (B := w.heap.size) (c := 3) (c2 := 3) exM.states [.slice none 0 0, .slice (some ⟨w.heap.size + 1, 0, none⟩) 3 3, .slice none 0 0] [⟨2, 2, tx1, 2⟩, ⟨1, 1, tx0, 2⟩, ⟨1, 1, tx0, 0⟩] (by simp) (by omega) rfl (fun k s x hs hx => by
    match k, hs, hx with
    | 0, hs, hx => cases hs; cases hx; exact .inl ⟨rfl, rfl⟩
    | 1, hs, hx => cases hs; cases hx; exact .inr ⟨rfl, rfl⟩
    | 2, hs, hx => cases hs; cases hx; exact .inl ⟨rfl, rfl⟩
    | k + 3, hs, hx => cases hx)
  have h2 := World.grownBy_alloc (w.alloc (.cells #[.int .i64 exM.kind, .int .i64 exM.start, .string exM.lead, .slice (some ⟨w.heap.size + 1 + 1, 0, none⟩) 3 3] 24)) (.cells (([⟨2, 2, tx1, 2⟩, ⟨1, 1, tx0, 2⟩, ⟨1, 1, tx0, 0⟩] : List MArc).flatMap arcC).toArray 35) none
  have h3 := World.grownBy_alloc ((w.alloc (.cells #[.int .i64 exM.kind, .int .i64 exM.start, .string exM.lead, .slice (some ⟨w.heap.size + 1 + 1, 0, none⟩) 3 3] 24)).alloc (.cells (([⟨2, 2, tx1, 2⟩, ⟨1, 1, tx0, 2⟩, ⟨1, 1, tx0, 0⟩] : List MArc).flatMap arcC).toArray 35)) (.cells ((exM.states.zip [.slice none 0 0, .slice (some ⟨w.heap.size + 1, 0, none⟩) 3 3, .slice none 0 0]).flatMap stC).toArray 29) none
  obtain ⟨c0, c1, c2, c3⟩ := ((hB.grown h2).grown h3).cells
  have HST := Lib.hid hst
  have HG := Lib.hid (grown_trans (grown_trans h1 h2) h3)
  have C0 := Lib.hid c0; have C1 := Lib.hid c1; have C2 := Lib.hid c2; have C3 := Lib.hid c3
  clear hB h1 hst h2 h3 c0 c1 c2 c3
  go_enter Tryz.func8, Tryz.ntmps8
  go_wp2
  have c0 := C0.out; have c1 := C1.out; have c2 := C2.out; have c3 := C3.out
  refine bodyPost_ret (v := .agg #[.int .i64 exM.kind, .int .i64 exM.start, .string exM.lead, .slice (some ⟨w.heap.size + 1 + 1, 0, none⟩) 3 3]) (w := (((w.alloc (.cells #[.int .i64 exM.kind, .int .i64 exM.start, .string exM.lead, .slice (some ⟨w.heap.size + 1 + 1, 0, none⟩) 3 3] 24)).alloc (.cells (([⟨2, 2, tx1, 2⟩, ⟨1, 1, tx0, 2⟩, ⟨1, 1, tx0, 0⟩] : List MArc).flatMap arcC).toArray 35)).alloc (.cells ((exM.states.zip [.slice none 0 0, .slice (some ⟨w.heap.size + 1, 0, none⟩) 3 3, .slice none 0 0]).flatMap stC).toArray 29))) ?_ rfl ⟨_, rfl, ⟨_, rfl, HST.out⟩, HG.out⟩
  generalize (((w.alloc (.cells #[.int .i64 exM.kind, .int .i64 exM.start, .string exM.lead, .slice (some ⟨w.heap.size + 1 + 1, 0, none⟩) 3 3] 24)).alloc (.cells (([⟨2, 2, tx1, 2⟩, ⟨1, 1, tx0, 2⟩, ⟨1, 1, tx0, 0⟩] : List MArc).flatMap arcC).toArray 35)).alloc (.cells ((exM.states.zip [.slice none 0 0, .slice (some ⟨w.heap.size + 1, 0, none⟩) 3 3, .slice none 0 0]).flatMap stC).toArray 29)) = WW at *
  simp [results, Tryz.results8, go_sem, c0, c1, c2, c3]
end Go.Proofs.YtbmonhnojkiapaaGreatDoor
set_option linter.unusedVariables false
set_option linter.unusedSimpArgs false
namespace Go.Proofs.YtbmonhnojkiapaaGreatDoor
open Go.RowKit

theorem none3 : nothingM 3 = (noneM 3, 0) := rfl
theorem beq_tx1 : (tx1.toList == [49]) = true := by decide +kernel
set_option maxRecDepth 20000 in
set_option maxHeartbeats 8000000 in
theorem awake_any (w : World) : Calls Tryz.prog 21 #[] w (ValPost (.bool true) w) := by
  have HE := Lib.hid (example_call w)
  have HN := Lib.hid (nothing_any 3)
  rw [none3] at HN
  go_enter Tryz.func21, Tryz.ntmps21
  go_wp2_with fail
  refine HE.out.mono ?_
  intro e w1 h1
  obtain ⟨A1, k1, rfl, hst1, hg1⟩ := h1.open6
  have hT := ptrim_any (MachV.fill hst1.sl) exM_fits
  rw [ex_trim] at hT
  have HT := Lib.hid hT
  have HG1 := Lib.hid hg1
  clear h1 hst1 hg1 hT HE
  go_wp2_with fail
  refine HT.out.mono ?_
  intro e w2 h2
  obtain ⟨A2, k2, rfl, hst2, hg2⟩ := h2.open6
  have hga := World.grownBy_alloc w2 (.cells #[.int .i64 wantM.kind, .int .i64 wantM.start, .string wantM.lead, .slice A2 wantM.states.length k2] 24) none
  have HBT := Lib.hid (BoxAt.new w2 wantM (.slice A2 wantM.states.length k2))
  have HVT := Lib.hid ((hst2.kept (kept_grown hga _)).sl)
  have HG2 := Lib.hid (grown_trans HG1.out (grown_trans hg2 hga))
  clear h2 hst2 hg2 hga HT HG1
  go_wp2_with fail
  generalize w2.alloc (.cells #[.int .i64 wantM.kind, .int .i64 wantM.start, .string wantM.lead, .slice A2 wantM.states.length k2] 24) = W2 at *
  refine (HN.out _).mono ?_
  intro e w3 h3
  obtain ⟨A3, k3, rfl, hst3, hg3⟩ := h3.open6
  have hga := World.grownBy_alloc w3 (.cells #[.int .i64 (noneM 3).kind, .int .i64 (noneM 3).start, .string (noneM 3).lead, .slice A3 (noneM 3).states.length k3] 24) none
  have HBN := Lib.hid (BoxAt.new w3 (noneM 3) (.slice A3 (noneM 3).states.length k3))
  have HBT3 := Lib.hid (BoxAt.grown (BoxAt.grown HBT.out hg3) hga)
  have HVT3 := Lib.hid ((HVT.out.grown hg3).grown hga)
  have HG3 := Lib.hid (grown_trans HG2.out (grown_trans hg3 hga))
  clear h3 hst3 hg3 hga HN HG2 HBT HVT
  have hst := two_blocks (W1 := (w3.alloc (.cells #[.int .i64 (noneM 3).kind, .int .i64 (noneM 3).start, .string (noneM 3).lead, .slice A3 (noneM 3).states.length k3] 24))) (g := w3.heap.size + 1) (B := 0) (c := 2) (c2 := 2) wantM.states [.slice (some ⟨w3.heap.size + 1, 0, none⟩) 2 2, .slice none 0 0] [⟨2, 2, tx1, 1⟩, ⟨1, 1, tx0, 1⟩] (by simp) (by omega) rfl (fun k s x hs hx => by
    match k, hs, hx with
    | 0, hs, hx => cases hs; cases hx; exact .inr ⟨rfl, rfl⟩
    | 1, hs, hx => cases hs; cases hx; exact .inl ⟨rfl, rfl⟩
    | k + 2, hs, hx => cases hx)
  have hg4 : World.grownBy (w3.alloc (.cells #[.int .i64 (noneM 3).kind, .int .i64 (noneM 3).start, .string (noneM 3).lead, .slice A3 (noneM 3).states.length k3] 24)) ((w3.alloc (.cells #[.int .i64 (noneM 3).kind, .int .i64 (noneM 3).start, .string (noneM 3).lead, .slice A3 (noneM 3).states.length k3] 24)).alloc (.cells #[.int .i64 2, .int .i64 2, .string ⟨#[49]⟩, .int .i64 1, .int .i64 1, .int .i64 1, .string ⟨#[48]⟩, .int .i64 1] 35)) none := World.grownBy_alloc _ _ _
  have hg5 : World.grownBy ((w3.alloc (.cells #[.int .i64 (noneM 3).kind, .int .i64 (noneM 3).start, .string (noneM 3).lead, .slice A3 (noneM 3).states.length k3] 24)).alloc (.cells #[.int .i64 2, .int .i64 2, .string ⟨#[49]⟩, .int .i64 1, .int .i64 1, .int .i64 1, .string ⟨#[48]⟩, .int .i64 1] 35)) (((w3.alloc (.cells #[.int .i64 (noneM 3).kind, .int .i64 (noneM 3).start, .string (noneM 3).lead, .slice A3 (noneM 3).states.length k3] 24)).alloc (.cells #[.int .i64 2, .int .i64 2, .string ⟨#[49]⟩, .int .i64 1, .int .i64 1, .int .i64 1, .string ⟨#[48]⟩, .int .i64 1] 35)).alloc (.cells #[.string ⟨#[]⟩, .slice (some ⟨w3.heap.size + 1, 0, none⟩) 2 2, .string ⟨#[51]⟩, .slice none 0 0] 29)) none := World.grownBy_alloc _ _ _
  have hg6 : World.grownBy (((w3.alloc (.cells #[.int .i64 (noneM 3).kind, .int .i64 (noneM 3).start, .string (noneM 3).lead, .slice A3 (noneM 3).states.length k3] 24)).alloc (.cells #[.int .i64 2, .int .i64 2, .string ⟨#[49]⟩, .int .i64 1, .int .i64 1, .int .i64 1, .string ⟨#[48]⟩, .int .i64 1] 35)).alloc (.cells #[.string ⟨#[]⟩, .slice (some ⟨w3.heap.size + 1, 0, none⟩) 2 2, .string ⟨#[51]⟩, .slice none 0 0] 29)) ((((w3.alloc (.cells #[.int .i64 (noneM 3).kind, .int .i64 (noneM 3).start, .string (noneM 3).lead, .slice A3 (noneM 3).states.length k3] 24)).alloc (.cells #[.int .i64 2, .int .i64 2, .string ⟨#[49]⟩, .int .i64 1, .int .i64 1, .int .i64 1, .string ⟨#[48]⟩, .int .i64 1] 35)).alloc (.cells #[.string ⟨#[]⟩, .slice (some ⟨w3.heap.size + 1, 0, none⟩) 2 2, .string ⟨#[51]⟩, .slice none 0 0] 29)).alloc (.cells #[.int .i64 1, .int .i64 0, .string ⟨#[50]⟩, .slice (some ⟨w3.heap.size + 1 + 1, 0, none⟩) 2 2] 24)) none := World.grownBy_alloc _ _ _
  have hbw := BoxAt.new (((w3.alloc (.cells #[.int .i64 (noneM 3).kind, .int .i64 (noneM 3).start, .string (noneM 3).lead, .slice A3 (noneM 3).states.length k3] 24)).alloc (.cells #[.int .i64 2, .int .i64 2, .string ⟨#[49]⟩, .int .i64 1, .int .i64 1, .int .i64 1, .string ⟨#[48]⟩, .int .i64 1] 35)).alloc (.cells #[.string ⟨#[]⟩, .slice (some ⟨w3.heap.size + 1, 0, none⟩) 2 2, .string ⟨#[51]⟩, .slice none 0 0] 29)) wantM (.slice (some ⟨w3.heap.size + 1 + 1, 0, none⟩) 2 2)
  rw [show (((w3.alloc (.cells #[.int .i64 (noneM 3).kind, .int .i64 (noneM 3).start, .string (noneM 3).lead, .slice A3 (noneM 3).states.length k3] 24)).alloc (.cells #[.int .i64 2, .int .i64 2, .string ⟨#[49]⟩, .int .i64 1, .int .i64 1, .int .i64 1, .string ⟨#[48]⟩, .int .i64 1] 35)).alloc (.cells #[.string ⟨#[]⟩, .slice (some ⟨w3.heap.size + 1, 0, none⟩) 2 2, .string ⟨#[51]⟩, .slice none 0 0] 29)).heap.size = w3.heap.size + 1 + 1 + 1 by simp] at hbw
  have HBW : Hid (BoxAt ((((w3.alloc (.cells #[.int .i64 (noneM 3).kind, .int .i64 (noneM 3).start, .string (noneM 3).lead, .slice A3 (noneM 3).states.length k3] 24)).alloc (.cells #[.int .i64 2, .int .i64 2, .string ⟨#[49]⟩, .int .i64 1, .int .i64 1, .int .i64 1, .string ⟨#[48]⟩, .int .i64 1] 35)).alloc (.cells #[.string ⟨#[]⟩, .slice (some ⟨w3.heap.size + 1, 0, none⟩) 2 2, .string ⟨#[51]⟩, .slice none 0 0] 29)).alloc (.cells #[.int .i64 1, .int .i64 0, .string ⟨#[50]⟩, .slice (some ⟨w3.heap.size + 1 + 1, 0, none⟩) 2 2] 24)) (w3.heap.size + 1 + 1 + 1) wantM (.slice (some ⟨w3.heap.size + 1 + 1, 0, none⟩) 2 2)) := Lib.hid hbw
  have HSW : Hid (StSl ((((w3.alloc (.cells #[.int .i64 (noneM 3).kind, .int .i64 (noneM 3).start, .string (noneM 3).lead, .slice A3 (noneM 3).states.length k3] 24)).alloc (.cells #[.int .i64 2, .int .i64 2, .string ⟨#[49]⟩, .int .i64 1, .int .i64 1, .int .i64 1, .string ⟨#[48]⟩, .int .i64 1] 35)).alloc (.cells #[.string ⟨#[]⟩, .slice (some ⟨w3.heap.size + 1, 0, none⟩) 2 2, .string ⟨#[51]⟩, .slice none 0 0] 29)).alloc (.cells #[.int .i64 1, .int .i64 0, .string ⟨#[50]⟩, .slice (some ⟨w3.heap.size + 1 + 1, 0, none⟩) 2 2] 24)) (.slice (some ⟨w3.heap.size + 1 + 1, 0, none⟩) 2 2) wantM.states) := Lib.hid (StSl.grown (w := (((w3.alloc (.cells #[.int .i64 (noneM 3).kind, .int .i64 (noneM 3).start, .string (noneM 3).lead, .slice A3 (noneM 3).states.length k3] 24)).alloc (.cells #[.int .i64 2, .int .i64 2, .string ⟨#[49]⟩, .int .i64 1, .int .i64 1, .int .i64 1, .string ⟨#[48]⟩, .int .i64 1] 35)).alloc (.cells #[.string ⟨#[]⟩, .slice (some ⟨w3.heap.size + 1, 0, none⟩) 2 2, .string ⟨#[51]⟩, .slice none 0 0] 29))) hst.sl hg6)
  have HB1 := Lib.hid (((HBT3.out.grown hg4).grown hg5).grown hg6)
  have HV1 := Lib.hid (((HVT3.out.grown hg4).grown hg5).grown hg6)
  have HB2 := Lib.hid (((HBN.out.grown hg4).grown hg5).grown hg6)
  have HGZ := Lib.hid (grown_trans HG3.out (grown_trans hg4 (grown_trans hg5 hg6)))
  clear hst hg4 hg5 hg6 hbw HBT3 HVT3 HBN HG3
  go_upto_region 4 with (fail)
  generalize ((((w3.alloc (.cells #[.int .i64 (noneM 3).kind, .int .i64 (noneM 3).start, .string (noneM 3).lead, .slice A3 (noneM 3).states.length k3] 24)).alloc (.cells #[.int .i64 2, .int .i64 2, .string ⟨#[49]⟩, .int .i64 1, .int .i64 1, .int .i64 1, .string ⟨#[48]⟩, .int .i64 1] 35)).alloc (.cells #[.string ⟨#[]⟩, .slice (some ⟨w3.heap.size + 1, 0, none⟩) 2 2, .string ⟨#[51]⟩, .slice none 0 0] 29)).alloc (.cells #[.int .i64 1, .int .i64 0, .string ⟨#[50]⟩, .slice (some ⟨w3.heap.size + 1 + 1, 0, none⟩) 2 2] 24)) = wz at *
  obtain ⟨x0, x1, x2, x3⟩ := BoxAt.cells HB1.out
  obtain ⟨y0, y1, y2, y3⟩ := BoxAt.cells HB2.out
  obtain ⟨z0, z1, z2, z3⟩ := BoxAt.cells HBW.out
  have hlead : ((noneM 3).lead.toList == [49]) = true := beq_tx1
  have HSW0 := HSW; have HBW0 := HBW; have HB20 := HB2; have HGZ0 := HGZ
  have hs1 := rsame_any (MachV.fill (t := wantM) HV1.out) (MachV.fill (t := wantM) (A := some ⟨w3.heap.size + 1 + 1, 0, none⟩) (c := 2) HSW0.out) wantM_fits
  rw [show decide (wantM = wantM) = true by simp] at hs1
  have HC := Lib.hid hs1
  clear hs1 HSW HBW HB2 HGZ
  go_wp2_with fail
  refine HC.out.mono ?_
  rintro e wy1 ⟨rfl, hg⟩
  have HSW1 := Lib.hid (HSW0.out.grown hg); have HBW1 := Lib.hid (BoxAt.grown HBW0.out hg); have HB21 := Lib.hid (BoxAt.grown HB20.out hg); have HGZ1 := Lib.hid (grown_trans HGZ0.out hg)
  clear hg HC x0 x1 x2 x3 y0 y1 y2 y3 z0 z1 z2 z3
  obtain ⟨y0, y1, y2, y3⟩ := BoxAt.cells HB21.out
  obtain ⟨z0, z1, z2, z3⟩ := BoxAt.cells HBW1.out
  have hs := pvalid_any (MachV.fill (t := wantM) (A := some ⟨w3.heap.size + 1 + 1, 0, none⟩) (c := 2) HSW1.out) wantM_fits
  rw [want_valid] at hs
  have HC := Lib.hid hs
  clear hs
  go_wp2_with fail
  refine HC.out.mono ?_
  rintro e wy2 ⟨rfl, hg⟩
  have HSW2 := Lib.hid (HSW1.out.grown hg); have HBW2 := Lib.hid (BoxAt.grown HBW1.out hg); have HB22 := Lib.hid (BoxAt.grown HB21.out hg); have HGZ2 := Lib.hid (grown_trans HGZ1.out hg)
  clear hg HC y0 y1 y2 y3 z0 z1 z2 z3
  obtain ⟨y0, y1, y2, y3⟩ := BoxAt.cells HB22.out
  obtain ⟨z0, z1, z2, z3⟩ := BoxAt.cells HBW2.out
  have hs := same_any (MachV.fill (t := wantM) (A := some ⟨w3.heap.size + 1 + 1, 0, none⟩) (c := 2) HSW2.out) (MachV.fill (t := wantM) (A := some ⟨w3.heap.size + 1 + 1, 0, none⟩) (c := 2) HSW2.out) (by decide) (by decide +kernel)
  rw [show decide (wantM = wantM) = true by simp] at hs
  have HC := Lib.hid hs
  clear hs
  go_wp2_with fail
  refine HC.out.mono ?_
  rintro e wy3 ⟨rfl, hg⟩
  have HSW3 := Lib.hid (HSW2.out.grown hg); have HBW3 := Lib.hid (BoxAt.grown HBW2.out hg); have HB23 := Lib.hid (BoxAt.grown HB22.out hg); have HGZ3 := Lib.hid (grown_trans HGZ2.out hg)
  clear hg HC y0 y1 y2 y3 z0 z1 z2 z3
  obtain ⟨y0, y1, y2, y3⟩ := BoxAt.cells HB23.out
  obtain ⟨z0, z1, z2, z3⟩ := BoxAt.cells HBW3.out
  have hs := deterministic_any (MachV.fill (t := wantM) (A := some ⟨w3.heap.size + 1 + 1, 0, none⟩) (c := 2) HSW3.out) wantM_fits
  rw [want_det] at hs
  have HC := Lib.hid hs
  clear hs
  go_wp2_with fail
  refine HC.out.mono ?_
  rintro e wy4 ⟨rfl, hg⟩
  have HSW4 := Lib.hid (HSW3.out.grown hg); have HBW4 := Lib.hid (BoxAt.grown HBW3.out hg); have HB24 := Lib.hid (BoxAt.grown HB23.out hg); have HGZ4 := Lib.hid (grown_trans HGZ3.out hg)
  clear hg HC y0 y1 y2 y3 z0 z1 z2 z3
  obtain ⟨y0, y1, y2, y3⟩ := BoxAt.cells HB24.out
  obtain ⟨z0, z1, z2, z3⟩ := BoxAt.cells HBW4.out
  have hs := sigma_any (MachV.fill (t := wantM) (A := some ⟨w3.heap.size + 1 + 1, 0, none⟩) (c := 2) HSW4.out) wantM_fits
  rw [want_sig] at hs
  have HC := Lib.hid hs
  clear hs
  go_wp2_with fail
  refine HC.out.mono ?_
  rintro e wy5 ⟨rfl, hg⟩
  have HSW5 := Lib.hid (HSW4.out.grown hg); have HBW5 := Lib.hid (BoxAt.grown HBW4.out hg); have HB25 := Lib.hid (BoxAt.grown HB24.out hg); have HGZ5 := Lib.hid (grown_trans HGZ4.out hg)
  clear hg HC y0 y1 y2 y3 z0 z1 z2 z3
  obtain ⟨y0, y1, y2, y3⟩ := BoxAt.cells HB25.out
  obtain ⟨z0, z1, z2, z3⟩ := BoxAt.cells HBW5.out
  go_wp2
  go_ret
  exact ⟨rfl, HGZ5.out⟩
end Go.Proofs.YtbmonhnojkiapaaGreatDoor
