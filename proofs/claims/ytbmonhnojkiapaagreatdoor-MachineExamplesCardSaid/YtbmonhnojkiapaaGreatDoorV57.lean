/- MachineExamples, walked. -/
import Derived.Test.YtbmonhnojkiapaaGreatDoorV56
import Derived.Test.YtbmonhnojkiapaaGreatDoorV43
set_option linter.unusedVariables false
set_option linter.unusedSimpArgs false
namespace Go.Proofs.YtbmonhnojkiapaaGreatDoor
open Go.RowKit

def infX : ByteArray := ⟨#[105, 110, 102]⟩
def exA : Mach := ⟨1, 3, tx2, exM.states⟩
def exB : Mach := ⟨1, 1, infX, exM.states⟩
def exC : Mach := ⟨1, 1, tx2, exM.states.set 2 ⟨ByteArray.empty, []⟩⟩
def canM : Mach := ⟨1, 0, tx2, [⟨ByteArray.empty, [⟨1, 1, tx0, 1⟩, ⟨2, 2, tx1, 1⟩]⟩, ⟨tx3, []⟩]⟩
theorem exA_fits : Fits exA := ⟨by decide +kernel, by decide +kernel, by decide +kernel, by decide +kernel, by decide +kernel⟩
theorem exB_fits : Fits exB := ⟨by decide +kernel, by decide +kernel, by decide +kernel, by decide +kernel, by decide +kernel⟩
theorem exC_fits : Fits exC := ⟨by decide +kernel, by decide +kernel, by decide +kernel, by decide +kernel, by decide +kernel⟩
theorem exA_not : validB exA = false := by
  unfold validB headB
  rw [show decide (1 ≤ exA.states.length ∧ exA.states.length ≤ 3000 ∧ 0 ≤ exA.start ∧ exA.start < (exA.states.length : Int)) = false by decide +kernel]
  simp
theorem inf_not : wgtB 1 infX = false := by
  cases hb : wgtB 1 infX
  · rfl
  · obtain ⟨v, hv⟩ := wgtB_val hb
    have h1 : v = .inl true := IsE.uniq hv.e (show IsE infX (.inl true) from rfl)
    have h2 := hv.has
    rw [h1] at h2
    cases h2
theorem exB_not : validB exB = false := by
  unfold validB headB
  rw [show wgtB exB.kind exB.lead = false from inf_not]
  simp
theorem exC_valid : validB exC = true := by
  unfold validB headB exC exM stB6 finB arcB nArcs kindB
  simp [wt0, wt1, wt2, wt3]
theorem exC_empty : usefulL exC = [] := by
  have hw := valid_wf exC_valid
  refine (useful_nil hw).2 (fun h => ?_)
  have h2 := h.2
  have : ∀ x, ¬ RFrom (backM exC) (isFin exC) x := fun x hx => by
    have hb := (bwd_mem (m := exC) (x := x)).2 hx
    rw [show bwdL exC = [] by decide +kernel] at hb
    cases hb
  exact this _ h2
theorem exC_trim : trimV exC = (noneM 1, 0) := by rw [trimV_of exC_valid, trimM_nil exC_empty]; rfl
theorem sort_want : sortA [⟨2, 2, tx1, 1⟩, ⟨1, 1, tx0, 1⟩] = [⟨1, 1, tx0, 1⟩, ⟨2, 2, tx1, 1⟩] :=
  (sortA_is (List.pairwise_cons.2 ⟨fun b hb => by rw [List.mem_singleton] at hb; subst hb; decide +kernel, List.pairwise_singleton _ _⟩) (List.Perm.swap _ _ _)).symm
theorem sort_can : sortA [⟨1, 1, tx0, 1⟩, ⟨2, 2, tx1, 1⟩] = [⟨1, 1, tx0, 1⟩, ⟨2, 2, tx1, 1⟩] :=
  sortA_own (List.pairwise_cons.2 ⟨fun b hb => by rw [List.mem_singleton] at hb; subst hb; decide +kernel, List.pairwise_singleton _ _⟩)
theorem sort_nil : sortA [] = [] := by simp [sortA]
theorem canon_want : canonT wantM = canM := by
  have h1 : sortM wantM = canM := by unfold sortM wantM canM; simp [sort_want, sort_nil]
  have h2 : orderM canM = [0, 1] := by decide +kernel
  have h3 : renumM canM [0, 1] = canM := by decide +kernel
  unfold canonT
  rw [h1, h2, h3]
  unfold sortM canM
  simp [sort_can, sort_nil]
theorem ex_canon : canonV exM = (canM, 0) := by
  rw [canonV_of ex_valid, canonM_of]
  have h : trimM exM = wantM := by have := ex_trim; rw [trimV_of ex_valid] at this; exact (Prod.mk.inj this).1
  rw [h, canon_want]
theorem none4 : nothingM 4 = (mach0, 1) := rfl
theorem none1 : nothingM 1 = (noneM 1, 0) := rfl
theorem ex_acc : everyB accP exM = true := by unfold everyB; rw [ex_valid]; decide +kernel
theorem ex_quiet : everyB quietP exM = true := by unfold everyB; rw [ex_valid]; decide +kernel
theorem ex_det : detB exM = false := by
  unfold detB
  rw [show exM.states.all oneSym = false by decide +kernel, Bool.and_false]
theorem ex_full : emptyB exM = false := by unfold emptyB; rw [ex_useful]; simp
theorem exC_none : emptyB exC = true := by unfold emptyB; rw [exC_valid, exC_empty]; simp
theorem ex_sig : sigV exM = 2 := by unfold sigV; rw [if_pos ex_valid]; decide +kernel
theorem none_fits : Fits (noneM 1) := valid_fits (none_valid (by decide))
theorem addr_zero (ad : Addr) : ad.add 0 = ad := by cases ad; simp [Addr.add]
theorem BoxAt.set1 {W : World} {g : Nat} {m : Mach} {u : Value} (h : BoxAt W g m u) (s : Int) : BoxAt (W.setCell ⟨g, 1, none⟩ (.int .i64 s)) g ⟨m.kind, s, m.lead, m.states⟩ u := by
  unfold BoxAt at h ⊢
  rw [heap_setCell_same W g 1 _ _ (.int .i64 s) h]
  rfl
theorem BoxAt.set2 {W : World} {g : Nat} {m : Mach} {u : Value} (h : BoxAt W g m u) (s : ByteArray) : BoxAt (W.setCell ⟨g, 2, none⟩ (.string s)) g ⟨m.kind, m.start, s, m.states⟩ u := by
  unfold BoxAt at h ⊢
  rw [heap_setCell_same W g 2 _ _ (.string s) h]
  rfl
theorem to_listed3 {P : Program} {md : Region.Mode} {ops : Array Oper} {Q : Exit → Act → World → Prop} {S : World → Prop} {f f' : Nat} {l l' : Array Bool} {a a' : Act} {w : World} (ef : f = f') (e : l = l') (ea : a = a') (h : wpAnyH P md ops Q S f' l' a' w) : wpAnyH P md ops Q S f l a w := by subst ef; subst e; subst ea; exact h
set_option maxRecDepth 20000 in
set_option maxHeartbeats 16000000 in
theorem examples_walk (w : World) : Calls Tryz.prog 3 #[] w (ValPost (.bool true) w) := by
  have HE := Lib.hid (example_call w)
  go_enter Tryz.func3, Tryz.ntmps3
  go_wp2_with fail
  refine HE.out.mono ?_
  intro e w1 h1
  obtain ⟨Am, km, rfl, hst1, hg1⟩ := h1.open6
  have hga := World.grownBy_alloc w1 (.cells #[.int .i64 exM.kind, .int .i64 exM.start, .string exM.lead, .slice Am exM.states.length km] 24) none
  have HBm := Lib.hid (BoxAt.new w1 exM (.slice Am exM.states.length km))
  have HSm := Lib.hid ((hst1.kept (kept_grown hga _)).sl)
  have HG2 := Lib.hid (grown_trans hg1 hga)
  clear h1 hst1 hg1 hga HE
  go_upto_region 2 with (fail)
  generalize w1.alloc (.cells #[.int .i64 exM.kind, .int .i64 exM.start, .string exM.lead, .slice Am exM.states.length km] 24) = w2 at *
  generalize hgm : w1.heap.size = gm at *
  clear hgm
  generalize hum : Value.slice Am exM.states.length km = um at *
  refine wp_region_held_drew (S := fun W' : World => W'.cell? ⟨gm, 0, none⟩ = some (.int .i64 exM.kind) ∧ W'.cell? ⟨gm, 1, none⟩ = some (.int .i64 exM.start) ∧ W'.cell? ⟨gm, 2, none⟩ = some (.string exM.lead) ∧ W'.cell? ⟨gm, 3, none⟩ = some um) (by kernel_rfl) (held_of HBm.out (grown_drew w2 none)) (fun hHeld => ?_)
  refine wpAnyH_take (i := 0) (oi := { dst := some 16, op := Op.load 24 (Operand.tmp 1), type := 24, pos := "law.go:26", after := #[], guard := none }) (v := .agg #[.int .i64 exM.kind, .int .i64 exM.start, .string exM.lead, um]) rfl (by kernel_rfl) (by kernel_rfl) (by kernel_rfl) (fun _ _ _ h => h) (Or.inl ⟨by rfl, ?_⟩) hHeld ?_
  · intro W hSw
    (try dsimp only at hSw)
    first | (go_simp; done) | (go_simp; rfl)
  (try simp only [List.getElem_toArray, List.getElem_cons_succ, List.getElem_cons_zero, Act.put, List.setIfInBounds_toArray, List.set_cons_zero, List.set_cons_succ])
  refine wpAnyH_take (i := 2) (oi := { dst := some 18, op := Op.load 24 (Operand.tmp 1), type := 24, pos := "law.go:26", after := #[], guard := none }) (v := .agg #[.int .i64 exM.kind, .int .i64 exM.start, .string exM.lead, um]) rfl (by kernel_rfl) (by kernel_rfl) (by kernel_rfl) (fun _ _ _ h => h) (Or.inl ⟨by rfl, ?_⟩) hHeld ?_
  · intro W hSw
    (try dsimp only at hSw)
    first | (go_simp; done) | (go_simp; rfl)
  (try simp only [List.getElem_toArray, List.getElem_cons_succ, List.getElem_cons_zero, Act.put, List.setIfInBounds_toArray, List.set_cons_zero, List.set_cons_succ])
  refine wpAnyH_take (i := 4) (oi := { dst := some 20, op := Op.load 24 (Operand.tmp 1), type := 24, pos := "law.go:26", after := #[], guard := none }) (v := .agg #[.int .i64 exM.kind, .int .i64 exM.start, .string exM.lead, um]) rfl (by kernel_rfl) (by kernel_rfl) (by kernel_rfl) (fun _ _ _ h => h) (Or.inl ⟨by rfl, ?_⟩) hHeld ?_
  · intro W hSw
    (try dsimp only at hSw)
    first | (go_simp; done) | (go_simp; rfl)
  (try simp only [List.getElem_toArray, List.getElem_cons_succ, List.getElem_cons_zero, Act.put, List.setIfInBounds_toArray, List.set_cons_zero, List.set_cons_succ])
  refine to_listed3 (f' := 9) (l' := #[true, false, true, false, true, false, false, false, false, false, false, false]) (by kernel_rfl) (by kernel_rfl) rfl (st_0_0 HBm.out HSm.out ?_ Fct.drew)
  intro W u1 u2 u3 g2 g3 g4 l1 h1 l2 h2 l3 h3 hT
  clear hHeld
  obtain ⟨hG, hb2, hb3, hb4, hc1, hc2, hc3, ⟨n1, n2, n3, n4, n5, n6, n7, n8, n9, n10, n11, n12, n13⟩, ⟨f1, f2, f3, f4, f5, f6, f7, f8, f9⟩⟩ := hT
  obtain ⟨z1, e1, rfl, hz1, hz1b⟩ := (hc1.own (by omega)).form (by decide)
  obtain ⟨z2, e2, rfl, hz2, hz2b⟩ := (hc2.own (by omega)).form (by decide)
  obtain ⟨z3, e3, rfl, hz3, hz3b⟩ := (hc3.own (by omega)).form (by decide)
  have hz3h : z3 < h3 := by
    obtain ⟨W0, k1, k2, _⟩ := hc3
    obtain ⟨_, _, ho, _⟩ := k2
    have := (ho.lt z3 rfl).2
    omega
  subst hum
  have gs1 := grown_setCell W ⟨g2, 1, none⟩ (.int .i64 3)
  have gs2 := grown_setCell (W.setCell ⟨g2, 1, none⟩ (.int .i64 3)) ⟨g3, 2, none⟩ (.string ⟨#[105, 110, 102]⟩)
  have gs3 := grown_setCell ((W.setCell ⟨g2, 1, none⟩ (.int .i64 3)).setCell ⟨g3, 2, none⟩ (.string ⟨#[105, 110, 102]⟩)) ⟨z3, 2 * 2, none⟩ (.string ⟨#[]⟩)
  have s1 := gs1.size; have s2 := gs2.size; have s3 := gs3.size
  have hG3 := grown_step (g := z3) (grown_step (g := g3) (grown_step (g := g2) hG gs1 n8) gs2 n9) gs3 (by omega)
  -- the boxes
  have ba := hb2.set1 3
  have ba2 := (gs3.block g2 (by have := ba.lt; omega) (by simp; omega)).trans ((gs2.block g2 ba.lt (by simp; omega)).trans ba)
  have bb := (hb3.lt)
  have bb1 : BoxAt (W.setCell ⟨g2, 1, none⟩ (.int .i64 3)) g3 exM (.slice (some ⟨z2, 0, none⟩) exM.states.length e2) := (gs1.block g3 hb3.lt (by simp; omega)).trans hb3
  have bb2 := bb1.set2 ⟨#[105, 110, 102]⟩
  have bb3 := (gs3.block g3 (by have := bb2.lt; omega) (by simp; omega)).trans bb2
  have bc1 : BoxAt (W.setCell ⟨g2, 1, none⟩ (.int .i64 3)) g4 exM (.slice (some ⟨z3, 0, none⟩) exM.states.length e3) := (gs1.block g4 hb4.lt (by simp; omega)).trans hb4
  have bc2 : BoxAt ((W.setCell ⟨g2, 1, none⟩ (.int .i64 3)).setCell ⟨g3, 2, none⟩ (.string ⟨#[105, 110, 102]⟩)) g4 exM (.slice (some ⟨z3, 0, none⟩) exM.states.length e3) := (gs2.block g4 bc1.lt (by simp; omega)).trans bc1
  have bc3 := (gs3.block g4 (by have := bc2.lt; omega) (by simp; omega)).trans bc2
  -- the states
  have ca := ((hc1.next (fun b hb hl => gs1.block b (by omega) (by simp; omega))).next (fun b hb hl => gs2.block b (by omega) (by simp; omega))).next (fun b hb hl => gs3.block b (by omega) (by simp; omega))
  have cb := ((hc2.next (fun b hb hl => gs1.block b (by omega) (by simp; omega))).next (fun b hb hl => gs2.block b (by omega) (by simp; omega))).next (fun b hb hl => gs3.block b (by omega) (by simp; omega))
  have cc := ((hc3.next (fun b hb hl => gs1.block b (by omega) (by simp; omega))).next (fun b hb hl => gs2.block b (by omega) (by simp; omega))).own (by omega)
  have cc2 := cc.set_fin (k := 2) (s := ⟨tx3, []⟩) (f := ⟨#[]⟩) rfl
  obtain ⟨xc, y0, y1, _, yf⟩ := cc.at_ (k := 2) (s := ⟨tx3, []⟩) rfl
  have HBa := Lib.hid (show BoxAt _ g2 exA (.slice (some ⟨z1, 0, none⟩) exA.states.length e1) from ba2)
  have HSa := Lib.hid (show StSl _ (.slice (some ⟨z1, 0, none⟩) exA.states.length e1) exA.states from (ca.own (by omega)).sl)
  have HBb := Lib.hid (show BoxAt _ g3 exB (.slice (some ⟨z2, 0, none⟩) exB.states.length e2) from bb3)
  have HSb := Lib.hid (show StSl _ (.slice (some ⟨z2, 0, none⟩) exB.states.length e2) exB.states from (cb.own (by omega)).sl)
  have HBc := Lib.hid (show BoxAt _ g4 exC (.slice (some ⟨z3, 0, none⟩) exC.states.length e3) from bc3)
  have HSc := Lib.hid (show StSl _ (.slice (some ⟨z3, 0, none⟩) exC.states.length e3) exC.states from cc2.sl)
  have HBm' := Lib.hid (BoxAt.grown HBm.out hG3)
  have HSm' := Lib.hid (HSm.out.grown hG3)
  have HG5 := Lib.hid (grown_trans HG2.out hG3)
  obtain ⟨p0, p1, p2, p3⟩ := hb2.cells
  have pf := hb2.free 1
  obtain ⟨q0, q1, q2, q3⟩ := bb1.cells
  have qf := bb1.free 2
  obtain ⟨r0, r1, r2, r3⟩ := bc2.cells
  have yff := yf (2 * 2)
  have m3 : (0 : Int) ≤ 2 := by omega
  clear HBm HSm HG2
  have HBm := HBm'; have HSm := HSm'
  clear HBm' HSm' hG hb2 hb3 hb4 hc1 hc2 hc3 n1 n2 n3 n4 n5 n6 n7 n8 n9 n10 n11 n12 n13 f1 f2 f3 f4 f5 f6 f7 f8 f9 hz1 hz1b hz2 hz2b hz3 hz3b hz3h gs1 gs2 gs3 s1 s2 s3 hG3 ba ba2 bb bb1 bb2 bb3 bc1 bc2 bc3 ca cb cc cc2 yf
  simp only [frX]
  go_upto_region 6 with (fail)
  generalize ((W.setCell ⟨g2, 1, none⟩ (.int .i64 3)).setCell ⟨g3, 2, none⟩ (.string ⟨#[105, 110, 102]⟩)).setCell ⟨z3, 2 * 2, none⟩ (.string ⟨#[]⟩) = w5 at *
  clear p0 p1 p2 p3 pf q0 q1 q2 q3 qf r0 r1 r2 r3 y0 y1 yff
  obtain ⟨xm0, xm1, xm2, xm3⟩ := BoxAt.cells HBm.out
  have hC := ptrim_any (MachV.fill HSm.out) exM_fits
  rw [ex_trim] at hC
  have HC := Lib.hid hC
  clear hC
  go_wp2_with fail
  refine HC.out.mono ?_
  intro e w6 h5
  obtain ⟨At, ct, rfl, hst, hga⟩ := h5.open6
  clear h5
  have hgb := World.grownBy_alloc w6 (.cells #[.int .i64 wantM.kind, .int .i64 wantM.start, .string wantM.lead, .slice At wantM.states.length ct] 24) none
  have hgc := grown_trans hga hgb
  have HG7 := Lib.hid (grown_trans HG5.out hgc)
  have HBm' := Lib.hid (BoxAt.grown HBm.out hgc)
  have HSm' := Lib.hid (HSm.out.grown hgc)
  clear HBm HSm
  have HBm := HBm'; have HSm := HSm'
  clear HBm' HSm'
  have HBa' := Lib.hid (BoxAt.grown HBa.out hgc)
  have HSa' := Lib.hid (HSa.out.grown hgc)
  clear HBa HSa
  have HBa := HBa'; have HSa := HSa'
  clear HBa' HSa'
  have HBb' := Lib.hid (BoxAt.grown HBb.out hgc)
  have HSb' := Lib.hid (HSb.out.grown hgc)
  clear HBb HSb
  have HBb := HBb'; have HSb := HSb'
  clear HBb' HSb'
  have HBc' := Lib.hid (BoxAt.grown HBc.out hgc)
  have HSc' := Lib.hid (HSc.out.grown hgc)
  clear HBc HSc
  have HBc := HBc'; have HSc := HSc'
  clear HBc' HSc'
  have HBt := Lib.hid (BoxAt.new w6 wantM (.slice At wantM.states.length ct))
  have HSt := Lib.hid ((hst.kept (kept_grown hgb _)).sl)
  clear hst hga hgb hgc HC xm0 xm1 xm2 xm3
  go_upto_region 7 with (fail)
  generalize w6.alloc (.cells #[.int .i64 wantM.kind, .int .i64 wantM.start, .string wantM.lead, .slice At wantM.states.length ct] 24) = w7 at *
  obtain ⟨xm0, xm1, xm2, xm3⟩ := BoxAt.cells HBm.out
  have hC := pcanon_any (MachV.fill HSm.out) exM_fits
  rw [ex_canon] at hC
  have HC := Lib.hid hC
  clear hC
  go_wp2_with fail
  refine HC.out.mono ?_
  intro e w8 h5
  obtain ⟨Ak, ck, rfl, hst, hga⟩ := h5.open6
  clear h5
  have hgb := World.grownBy_alloc w8 (.cells #[.int .i64 canM.kind, .int .i64 canM.start, .string canM.lead, .slice Ak canM.states.length ck] 24) none
  have hgc := grown_trans hga hgb
  have HG9 := Lib.hid (grown_trans HG7.out hgc)
  have HBm' := Lib.hid (BoxAt.grown HBm.out hgc)
  have HSm' := Lib.hid (HSm.out.grown hgc)
  clear HBm HSm
  have HBm := HBm'; have HSm := HSm'
  clear HBm' HSm'
  have HBa' := Lib.hid (BoxAt.grown HBa.out hgc)
  have HSa' := Lib.hid (HSa.out.grown hgc)
  clear HBa HSa
  have HBa := HBa'; have HSa := HSa'
  clear HBa' HSa'
  have HBb' := Lib.hid (BoxAt.grown HBb.out hgc)
  have HSb' := Lib.hid (HSb.out.grown hgc)
  clear HBb HSb
  have HBb := HBb'; have HSb := HSb'
  clear HBb' HSb'
  have HBc' := Lib.hid (BoxAt.grown HBc.out hgc)
  have HSc' := Lib.hid (HSc.out.grown hgc)
  clear HBc HSc
  have HBc := HBc'; have HSc := HSc'
  clear HBc' HSc'
  have HBt' := Lib.hid (BoxAt.grown HBt.out hgc)
  have HSt' := Lib.hid (HSt.out.grown hgc)
  clear HBt HSt
  have HBt := HBt'; have HSt := HSt'
  clear HBt' HSt'
  have HBk := Lib.hid (BoxAt.new w8 canM (.slice Ak canM.states.length ck))
  have HSk := Lib.hid ((hst.kept (kept_grown hgb _)).sl)
  clear hst hga hgb hgc HC xm0 xm1 xm2 xm3
  go_upto_region 8 with (fail)
  generalize w8.alloc (.cells #[.int .i64 canM.kind, .int .i64 canM.start, .string canM.lead, .slice Ak canM.states.length ck] 24) = w9 at *
  obtain ⟨xc0, xc1, xc2, xc3⟩ := BoxAt.cells HBc.out
  have hC := ptrim_any (MachV.fill HSc.out) exC_fits
  rw [exC_trim] at hC
  have HC := Lib.hid hC
  clear hC
  go_wp2_with fail
  refine HC.out.mono ?_
  intro e w10 h5
  obtain ⟨An, cn, rfl, hst, hga⟩ := h5.open6
  clear h5
  have hgb := World.grownBy_alloc w10 (.cells #[.int .i64 (noneM 1).kind, .int .i64 (noneM 1).start, .string (noneM 1).lead, .slice An (noneM 1).states.length cn] 24) none
  have hgc := grown_trans hga hgb
  have HG11 := Lib.hid (grown_trans HG9.out hgc)
  have HBm' := Lib.hid (BoxAt.grown HBm.out hgc)
  have HSm' := Lib.hid (HSm.out.grown hgc)
  clear HBm HSm
  have HBm := HBm'; have HSm := HSm'
  clear HBm' HSm'
  have HBa' := Lib.hid (BoxAt.grown HBa.out hgc)
  have HSa' := Lib.hid (HSa.out.grown hgc)
  clear HBa HSa
  have HBa := HBa'; have HSa := HSa'
  clear HBa' HSa'
  have HBb' := Lib.hid (BoxAt.grown HBb.out hgc)
  have HSb' := Lib.hid (HSb.out.grown hgc)
  clear HBb HSb
  have HBb := HBb'; have HSb := HSb'
  clear HBb' HSb'
  have HBc' := Lib.hid (BoxAt.grown HBc.out hgc)
  have HSc' := Lib.hid (HSc.out.grown hgc)
  clear HBc HSc
  have HBc := HBc'; have HSc := HSc'
  clear HBc' HSc'
  have HBt' := Lib.hid (BoxAt.grown HBt.out hgc)
  have HSt' := Lib.hid (HSt.out.grown hgc)
  clear HBt HSt
  have HBt := HBt'; have HSt := HSt'
  clear HBt' HSt'
  have HBk' := Lib.hid (BoxAt.grown HBk.out hgc)
  have HSk' := Lib.hid (HSk.out.grown hgc)
  clear HBk HSk
  have HBk := HBk'; have HSk := HSk'
  clear HBk' HSk'
  have HBn := Lib.hid (BoxAt.new w10 (noneM 1) (.slice An (noneM 1).states.length cn))
  have HSn := Lib.hid ((hst.kept (kept_grown hgb _)).sl)
  clear hst hga hgb hgc HC xc0 xc1 xc2 xc3
  go_upto_region 9 with (fail)
  generalize w10.alloc (.cells #[.int .i64 (noneM 1).kind, .int .i64 (noneM 1).start, .string (noneM 1).lead, .slice An (noneM 1).states.length cn] 24) = w11 at *
  have hC := nothing_any 4 w11
  rw [none4] at hC
  have HC := Lib.hid hC
  clear hC
  go_wp2_with fail
  refine HC.out.mono ?_
  intro e w12 h5
  obtain ⟨Ah, ch, rfl, hst, hga⟩ := h5.open6
  clear h5
  have hgb := World.grownBy_alloc w12 (.cells #[.int .i64 mach0.kind, .int .i64 mach0.start, .string mach0.lead, .slice Ah mach0.states.length ch] 24) none
  have hgc := grown_trans hga hgb
  have HG13 := Lib.hid (grown_trans HG11.out hgc)
  have HBm' := Lib.hid (BoxAt.grown HBm.out hgc)
  have HSm' := Lib.hid (HSm.out.grown hgc)
  clear HBm HSm
  have HBm := HBm'; have HSm := HSm'
  clear HBm' HSm'
  have HBa' := Lib.hid (BoxAt.grown HBa.out hgc)
  have HSa' := Lib.hid (HSa.out.grown hgc)
  clear HBa HSa
  have HBa := HBa'; have HSa := HSa'
  clear HBa' HSa'
  have HBb' := Lib.hid (BoxAt.grown HBb.out hgc)
  have HSb' := Lib.hid (HSb.out.grown hgc)
  clear HBb HSb
  have HBb := HBb'; have HSb := HSb'
  clear HBb' HSb'
  have HBc' := Lib.hid (BoxAt.grown HBc.out hgc)
  have HSc' := Lib.hid (HSc.out.grown hgc)
  clear HBc HSc
  have HBc := HBc'; have HSc := HSc'
  clear HBc' HSc'
  have HBt' := Lib.hid (BoxAt.grown HBt.out hgc)
  have HSt' := Lib.hid (HSt.out.grown hgc)
  clear HBt HSt
  have HBt := HBt'; have HSt := HSt'
  clear HBt' HSt'
  have HBk' := Lib.hid (BoxAt.grown HBk.out hgc)
  have HSk' := Lib.hid (HSk.out.grown hgc)
  clear HBk HSk
  have HBk := HBk'; have HSk := HSk'
  clear HBk' HSk'
  have HBn' := Lib.hid (BoxAt.grown HBn.out hgc)
  have HSn' := Lib.hid (HSn.out.grown hgc)
  clear HBn HSn
  have HBn := HBn'; have HSn := HSn'
  clear HBn' HSn'
  have HBh := Lib.hid (BoxAt.new w12 mach0 (.slice Ah mach0.states.length ch))
  have HSh := Lib.hid ((hst.kept (kept_grown hgb _)).sl)
  clear hst hga hgb hgc HC
  go_upto_region 10 with (fail)
  generalize w12.alloc (.cells #[.int .i64 mach0.kind, .int .i64 mach0.start, .string mach0.lead, .slice Ah mach0.states.length ch] 24) = w13 at *
  have hC := rnothing_any 1 w13
  rw [none1] at hC
  have HC := Lib.hid hC
  clear hC
  go_wp2_with fail
  refine HC.out.mono ?_
  intro e w14 h5
  obtain ⟨Ao, co, rfl, hst, hga⟩ := h5.open6
  clear h5
  have hgb := World.grownBy_alloc w14 (.cells #[.int .i64 (noneM 1).kind, .int .i64 (noneM 1).start, .string (noneM 1).lead, .slice Ao (noneM 1).states.length co] 24) none
  have hgc := grown_trans hga hgb
  have HG15 := Lib.hid (grown_trans HG13.out hgc)
  have HBm' := Lib.hid (BoxAt.grown HBm.out hgc)
  have HSm' := Lib.hid (HSm.out.grown hgc)
  clear HBm HSm
  have HBm := HBm'; have HSm := HSm'
  clear HBm' HSm'
  have HBa' := Lib.hid (BoxAt.grown HBa.out hgc)
  have HSa' := Lib.hid (HSa.out.grown hgc)
  clear HBa HSa
  have HBa := HBa'; have HSa := HSa'
  clear HBa' HSa'
  have HBb' := Lib.hid (BoxAt.grown HBb.out hgc)
  have HSb' := Lib.hid (HSb.out.grown hgc)
  clear HBb HSb
  have HBb := HBb'; have HSb := HSb'
  clear HBb' HSb'
  have HBc' := Lib.hid (BoxAt.grown HBc.out hgc)
  have HSc' := Lib.hid (HSc.out.grown hgc)
  clear HBc HSc
  have HBc := HBc'; have HSc := HSc'
  clear HBc' HSc'
  have HBt' := Lib.hid (BoxAt.grown HBt.out hgc)
  have HSt' := Lib.hid (HSt.out.grown hgc)
  clear HBt HSt
  have HBt := HBt'; have HSt := HSt'
  clear HBt' HSt'
  have HBk' := Lib.hid (BoxAt.grown HBk.out hgc)
  have HSk' := Lib.hid (HSk.out.grown hgc)
  clear HBk HSk
  have HBk := HBk'; have HSk := HSk'
  clear HBk' HSk'
  have HBn' := Lib.hid (BoxAt.grown HBn.out hgc)
  have HSn' := Lib.hid (HSn.out.grown hgc)
  clear HBn HSn
  have HBn := HBn'; have HSn := HSn'
  clear HBn' HSn'
  have HBh' := Lib.hid (BoxAt.grown HBh.out hgc)
  have HSh' := Lib.hid (HSh.out.grown hgc)
  clear HBh HSh
  have HBh := HBh'; have HSh := HSh'
  clear HBh' HSh'
  have HBo := Lib.hid (BoxAt.new w14 (noneM 1) (.slice Ao (noneM 1).states.length co))
  have HSo := Lib.hid ((hst.kept (kept_grown hgb _)).sl)
  clear hst hga hgb hgc HC
  go_upto_region 11 with (fail)
  generalize w14.alloc (.cells #[.int .i64 (noneM 1).kind, .int .i64 (noneM 1).start, .string (noneM 1).lead, .slice Ao (noneM 1).states.length co] 24) = w15 at *
  obtain ⟨xk0, xk1, xk2, xk3⟩ := BoxAt.cells HBk.out
  obtain ⟨Ak', ck', usk, hek, hSk⟩ := StAt.of HSk.out
  cases hek
  obtain ⟨adk, sk, Bk, cbk, hAk, hsk, huk, ⟨z0, z1⟩, hrk⟩ := hSk.at_ (k := 0) (by decide)
  subst hAk
  obtain rfl : sk = ⟨ByteArray.empty, [⟨1, 1, tx0, 1⟩, ⟨2, 2, tx1, 1⟩]⟩ := (Option.some.inj hsk).symm
  obtain ⟨ad5, a5, hB5, hab5, haj5, ⟨y0, y1, y2, y3⟩⟩ := row_arc hrk (k := 0) (by decide)
  subst hB5
  obtain rfl : a5 = ⟨1, 1, tx0, 1⟩ := (Option.some.inj haj5).symm
  simp only [Nat.zero_mul, addr_zero] at z0 z1 y0 y1 y2 y3
  have y2' := (show _ = some (Value.string ⟨#[48]⟩) from y2)
  have hkl : canM.states.length = 2 := rfl
  have hal : List.length [(⟨1, 1, tx0, 1⟩ : MArc), ⟨2, 2, tx1, 1⟩] = 2 := rfl
  have hq : ∀ w : World, (Op.equalIn 10000 35 (.agg #[.int .i64 1, .int .i64 1, .string ⟨#[48]⟩, .int .i64 1]) (.agg #[.int .i64 1, .int .i64 1, .string ⟨#[48]⟩, .int .i64 1])).run Tryz.prog w = .ok true w := fun w => by
    have h := arc_equalIn ⟨1, 1, ⟨#[48]⟩, 1⟩ ⟨1, 1, ⟨#[48]⟩, 1⟩ w
    rwa [decide_eq_true rfl] at h
  have hm := arc_guard
  clear y2 hsk huk hrk haj5 hab5 hSk
  obtain ⟨xn0, xn1, xn2, xn3⟩ := BoxAt.cells HBn.out
  obtain ⟨xo0, xo1, xo2, xo3⟩ := BoxAt.cells HBo.out
  have hC := rsame_any (MachV.fill HSn.out) (MachV.fill HSo.out) none_fits
  rw [show decide (noneM 1 = noneM 1) = true by simp] at hC
  have HC := Lib.hid hC
  clear hC
  go_wp2_with fail
  refine HC.out.mono ?_
  rintro e w16 ⟨rfl, hgc⟩
  clear xn0 xn1 xn2 xn3 xo0 xo1 xo2 xo3
  have HG16 := Lib.hid (grown_trans HG15.out hgc)
  have HBm' := Lib.hid (BoxAt.grown HBm.out hgc)
  have HSm' := Lib.hid (HSm.out.grown hgc)
  clear HBm HSm
  have HBm := HBm'; have HSm := HSm'
  clear HBm' HSm'
  have HBa' := Lib.hid (BoxAt.grown HBa.out hgc)
  have HSa' := Lib.hid (HSa.out.grown hgc)
  clear HBa HSa
  have HBa := HBa'; have HSa := HSa'
  clear HBa' HSa'
  have HBb' := Lib.hid (BoxAt.grown HBb.out hgc)
  have HSb' := Lib.hid (HSb.out.grown hgc)
  clear HBb HSb
  have HBb := HBb'; have HSb := HSb'
  clear HBb' HSb'
  have HBc' := Lib.hid (BoxAt.grown HBc.out hgc)
  have HSc' := Lib.hid (HSc.out.grown hgc)
  clear HBc HSc
  have HBc := HBc'; have HSc := HSc'
  clear HBc' HSc'
  have HBt' := Lib.hid (BoxAt.grown HBt.out hgc)
  have HSt' := Lib.hid (HSt.out.grown hgc)
  clear HBt HSt
  have HBt := HBt'; have HSt := HSt'
  clear HBt' HSt'
  have HBk' := Lib.hid (BoxAt.grown HBk.out hgc)
  have HSk' := Lib.hid (HSk.out.grown hgc)
  clear HBk HSk
  have HBk := HBk'; have HSk := HSk'
  clear HBk' HSk'
  have HBn' := Lib.hid (BoxAt.grown HBn.out hgc)
  have HSn' := Lib.hid (HSn.out.grown hgc)
  clear HBn HSn
  have HBn := HBn'; have HSn := HSn'
  clear HBn' HSn'
  have HBh' := Lib.hid (BoxAt.grown HBh.out hgc)
  have HSh' := Lib.hid (HSh.out.grown hgc)
  clear HBh HSh
  have HBh := HBh'; have HSh := HSh'
  clear HBh' HSh'
  have HBo' := Lib.hid (BoxAt.grown HBo.out hgc)
  have HSo' := Lib.hid (HSo.out.grown hgc)
  clear HBo HSo
  have HBo := HBo'; have HSo := HSo'
  clear HBo' HSo'
  clear hgc HC
  clear z0 z1 y0 y1 y2' y3 hkl hal hq hm xk0 xk1 xk2 xk3
  obtain ⟨xm0, xm1, xm2, xm3⟩ := BoxAt.cells HBm.out
  have hC := pvalid_any (MachV.fill HSm.out) exM_fits
  rw [ex_valid] at hC
  have HC := Lib.hid hC
  clear hC
  go_wp2_with fail
  refine HC.out.mono ?_
  rintro e w17 ⟨rfl, hgc⟩
  clear xm0 xm1 xm2 xm3
  have HG17 := Lib.hid (grown_trans HG16.out hgc)
  have HBm' := Lib.hid (BoxAt.grown HBm.out hgc)
  have HSm' := Lib.hid (HSm.out.grown hgc)
  clear HBm HSm
  have HBm := HBm'; have HSm := HSm'
  clear HBm' HSm'
  have HBa' := Lib.hid (BoxAt.grown HBa.out hgc)
  have HSa' := Lib.hid (HSa.out.grown hgc)
  clear HBa HSa
  have HBa := HBa'; have HSa := HSa'
  clear HBa' HSa'
  have HBb' := Lib.hid (BoxAt.grown HBb.out hgc)
  have HSb' := Lib.hid (HSb.out.grown hgc)
  clear HBb HSb
  have HBb := HBb'; have HSb := HSb'
  clear HBb' HSb'
  have HBc' := Lib.hid (BoxAt.grown HBc.out hgc)
  have HSc' := Lib.hid (HSc.out.grown hgc)
  clear HBc HSc
  have HBc := HBc'; have HSc := HSc'
  clear HBc' HSc'
  have HBt' := Lib.hid (BoxAt.grown HBt.out hgc)
  have HSt' := Lib.hid (HSt.out.grown hgc)
  clear HBt HSt
  have HBt := HBt'; have HSt := HSt'
  clear HBt' HSt'
  have HBk' := Lib.hid (BoxAt.grown HBk.out hgc)
  have HSk' := Lib.hid (HSk.out.grown hgc)
  clear HBk HSk
  have HBk := HBk'; have HSk := HSk'
  clear HBk' HSk'
  have HBn' := Lib.hid (BoxAt.grown HBn.out hgc)
  have HSn' := Lib.hid (HSn.out.grown hgc)
  clear HBn HSn
  have HBn := HBn'; have HSn := HSn'
  clear HBn' HSn'
  have HBh' := Lib.hid (BoxAt.grown HBh.out hgc)
  have HSh' := Lib.hid (HSh.out.grown hgc)
  clear HBh HSh
  have HBh := HBh'; have HSh := HSh'
  clear HBh' HSh'
  have HBo' := Lib.hid (BoxAt.grown HBo.out hgc)
  have HSo' := Lib.hid (HSo.out.grown hgc)
  clear HBo HSo
  have HBo := HBo'; have HSo := HSo'
  clear HBo' HSo'
  clear hgc HC
  obtain ⟨xa0, xa1, xa2, xa3⟩ := BoxAt.cells HBa.out
  have hC := pvalid_any (MachV.fill HSa.out) exA_fits
  rw [exA_not] at hC
  have HC := Lib.hid hC
  clear hC
  go_wp2_with fail
  refine HC.out.mono ?_
  rintro e w18 ⟨rfl, hgc⟩
  clear xa0 xa1 xa2 xa3
  have HG18 := Lib.hid (grown_trans HG17.out hgc)
  have HBm' := Lib.hid (BoxAt.grown HBm.out hgc)
  have HSm' := Lib.hid (HSm.out.grown hgc)
  clear HBm HSm
  have HBm := HBm'; have HSm := HSm'
  clear HBm' HSm'
  have HBa' := Lib.hid (BoxAt.grown HBa.out hgc)
  have HSa' := Lib.hid (HSa.out.grown hgc)
  clear HBa HSa
  have HBa := HBa'; have HSa := HSa'
  clear HBa' HSa'
  have HBb' := Lib.hid (BoxAt.grown HBb.out hgc)
  have HSb' := Lib.hid (HSb.out.grown hgc)
  clear HBb HSb
  have HBb := HBb'; have HSb := HSb'
  clear HBb' HSb'
  have HBc' := Lib.hid (BoxAt.grown HBc.out hgc)
  have HSc' := Lib.hid (HSc.out.grown hgc)
  clear HBc HSc
  have HBc := HBc'; have HSc := HSc'
  clear HBc' HSc'
  have HBt' := Lib.hid (BoxAt.grown HBt.out hgc)
  have HSt' := Lib.hid (HSt.out.grown hgc)
  clear HBt HSt
  have HBt := HBt'; have HSt := HSt'
  clear HBt' HSt'
  have HBk' := Lib.hid (BoxAt.grown HBk.out hgc)
  have HSk' := Lib.hid (HSk.out.grown hgc)
  clear HBk HSk
  have HBk := HBk'; have HSk := HSk'
  clear HBk' HSk'
  have HBn' := Lib.hid (BoxAt.grown HBn.out hgc)
  have HSn' := Lib.hid (HSn.out.grown hgc)
  clear HBn HSn
  have HBn := HBn'; have HSn := HSn'
  clear HBn' HSn'
  have HBh' := Lib.hid (BoxAt.grown HBh.out hgc)
  have HSh' := Lib.hid (HSh.out.grown hgc)
  clear HBh HSh
  have HBh := HBh'; have HSh := HSh'
  clear HBh' HSh'
  have HBo' := Lib.hid (BoxAt.grown HBo.out hgc)
  have HSo' := Lib.hid (HSo.out.grown hgc)
  clear HBo HSo
  have HBo := HBo'; have HSo := HSo'
  clear HBo' HSo'
  clear hgc HC
  obtain ⟨xb0, xb1, xb2, xb3⟩ := BoxAt.cells HBb.out
  have hC := pvalid_any (MachV.fill HSb.out) exB_fits
  rw [exB_not] at hC
  have HC := Lib.hid hC
  clear hC
  go_wp2_with fail
  refine HC.out.mono ?_
  rintro e w19 ⟨rfl, hgc⟩
  clear xb0 xb1 xb2 xb3
  have HG19 := Lib.hid (grown_trans HG18.out hgc)
  have HBm' := Lib.hid (BoxAt.grown HBm.out hgc)
  have HSm' := Lib.hid (HSm.out.grown hgc)
  clear HBm HSm
  have HBm := HBm'; have HSm := HSm'
  clear HBm' HSm'
  have HBa' := Lib.hid (BoxAt.grown HBa.out hgc)
  have HSa' := Lib.hid (HSa.out.grown hgc)
  clear HBa HSa
  have HBa := HBa'; have HSa := HSa'
  clear HBa' HSa'
  have HBb' := Lib.hid (BoxAt.grown HBb.out hgc)
  have HSb' := Lib.hid (HSb.out.grown hgc)
  clear HBb HSb
  have HBb := HBb'; have HSb := HSb'
  clear HBb' HSb'
  have HBc' := Lib.hid (BoxAt.grown HBc.out hgc)
  have HSc' := Lib.hid (HSc.out.grown hgc)
  clear HBc HSc
  have HBc := HBc'; have HSc := HSc'
  clear HBc' HSc'
  have HBt' := Lib.hid (BoxAt.grown HBt.out hgc)
  have HSt' := Lib.hid (HSt.out.grown hgc)
  clear HBt HSt
  have HBt := HBt'; have HSt := HSt'
  clear HBt' HSt'
  have HBk' := Lib.hid (BoxAt.grown HBk.out hgc)
  have HSk' := Lib.hid (HSk.out.grown hgc)
  clear HBk HSk
  have HBk := HBk'; have HSk := HSk'
  clear HBk' HSk'
  have HBn' := Lib.hid (BoxAt.grown HBn.out hgc)
  have HSn' := Lib.hid (HSn.out.grown hgc)
  clear HBn HSn
  have HBn := HBn'; have HSn := HSn'
  clear HBn' HSn'
  have HBh' := Lib.hid (BoxAt.grown HBh.out hgc)
  have HSh' := Lib.hid (HSh.out.grown hgc)
  clear HBh HSh
  have HBh := HBh'; have HSh := HSh'
  clear HBh' HSh'
  have HBo' := Lib.hid (BoxAt.grown HBo.out hgc)
  have HSo' := Lib.hid (HSo.out.grown hgc)
  clear HBo HSo
  have HBo := HBo'; have HSo := HSo'
  clear HBo' HSo'
  clear hgc HC
  obtain ⟨xm0, xm1, xm2, xm3⟩ := BoxAt.cells HBm.out
  have hC := acceptor_any (MachV.fill HSm.out) exM_fits
  rw [ex_acc] at hC
  have HC := Lib.hid hC
  clear hC
  go_wp2_with fail
  refine HC.out.mono ?_
  rintro e w20 ⟨rfl, hgc⟩
  clear xm0 xm1 xm2 xm3
  have HG20 := Lib.hid (grown_trans HG19.out hgc)
  have HBm' := Lib.hid (BoxAt.grown HBm.out hgc)
  have HSm' := Lib.hid (HSm.out.grown hgc)
  clear HBm HSm
  have HBm := HBm'; have HSm := HSm'
  clear HBm' HSm'
  have HBa' := Lib.hid (BoxAt.grown HBa.out hgc)
  have HSa' := Lib.hid (HSa.out.grown hgc)
  clear HBa HSa
  have HBa := HBa'; have HSa := HSa'
  clear HBa' HSa'
  have HBb' := Lib.hid (BoxAt.grown HBb.out hgc)
  have HSb' := Lib.hid (HSb.out.grown hgc)
  clear HBb HSb
  have HBb := HBb'; have HSb := HSb'
  clear HBb' HSb'
  have HBc' := Lib.hid (BoxAt.grown HBc.out hgc)
  have HSc' := Lib.hid (HSc.out.grown hgc)
  clear HBc HSc
  have HBc := HBc'; have HSc := HSc'
  clear HBc' HSc'
  have HBt' := Lib.hid (BoxAt.grown HBt.out hgc)
  have HSt' := Lib.hid (HSt.out.grown hgc)
  clear HBt HSt
  have HBt := HBt'; have HSt := HSt'
  clear HBt' HSt'
  have HBk' := Lib.hid (BoxAt.grown HBk.out hgc)
  have HSk' := Lib.hid (HSk.out.grown hgc)
  clear HBk HSk
  have HBk := HBk'; have HSk := HSk'
  clear HBk' HSk'
  have HBn' := Lib.hid (BoxAt.grown HBn.out hgc)
  have HSn' := Lib.hid (HSn.out.grown hgc)
  clear HBn HSn
  have HBn := HBn'; have HSn := HSn'
  clear HBn' HSn'
  have HBh' := Lib.hid (BoxAt.grown HBh.out hgc)
  have HSh' := Lib.hid (HSh.out.grown hgc)
  clear HBh HSh
  have HBh := HBh'; have HSh := HSh'
  clear HBh' HSh'
  have HBo' := Lib.hid (BoxAt.grown HBo.out hgc)
  have HSo' := Lib.hid (HSo.out.grown hgc)
  clear HBo HSo
  have HBo := HBo'; have HSo := HSo'
  clear HBo' HSo'
  clear hgc HC
  obtain ⟨xm0, xm1, xm2, xm3⟩ := BoxAt.cells HBm.out
  have hC := quiet_any (MachV.fill HSm.out) exM_fits
  rw [ex_quiet] at hC
  have HC := Lib.hid hC
  clear hC
  go_wp2_with fail
  refine HC.out.mono ?_
  rintro e w21 ⟨rfl, hgc⟩
  clear xm0 xm1 xm2 xm3
  have HG21 := Lib.hid (grown_trans HG20.out hgc)
  have HBm' := Lib.hid (BoxAt.grown HBm.out hgc)
  have HSm' := Lib.hid (HSm.out.grown hgc)
  clear HBm HSm
  have HBm := HBm'; have HSm := HSm'
  clear HBm' HSm'
  have HBa' := Lib.hid (BoxAt.grown HBa.out hgc)
  have HSa' := Lib.hid (HSa.out.grown hgc)
  clear HBa HSa
  have HBa := HBa'; have HSa := HSa'
  clear HBa' HSa'
  have HBb' := Lib.hid (BoxAt.grown HBb.out hgc)
  have HSb' := Lib.hid (HSb.out.grown hgc)
  clear HBb HSb
  have HBb := HBb'; have HSb := HSb'
  clear HBb' HSb'
  have HBc' := Lib.hid (BoxAt.grown HBc.out hgc)
  have HSc' := Lib.hid (HSc.out.grown hgc)
  clear HBc HSc
  have HBc := HBc'; have HSc := HSc'
  clear HBc' HSc'
  have HBt' := Lib.hid (BoxAt.grown HBt.out hgc)
  have HSt' := Lib.hid (HSt.out.grown hgc)
  clear HBt HSt
  have HBt := HBt'; have HSt := HSt'
  clear HBt' HSt'
  have HBk' := Lib.hid (BoxAt.grown HBk.out hgc)
  have HSk' := Lib.hid (HSk.out.grown hgc)
  clear HBk HSk
  have HBk := HBk'; have HSk := HSk'
  clear HBk' HSk'
  have HBn' := Lib.hid (BoxAt.grown HBn.out hgc)
  have HSn' := Lib.hid (HSn.out.grown hgc)
  clear HBn HSn
  have HBn := HBn'; have HSn := HSn'
  clear HBn' HSn'
  have HBh' := Lib.hid (BoxAt.grown HBh.out hgc)
  have HSh' := Lib.hid (HSh.out.grown hgc)
  clear HBh HSh
  have HBh := HBh'; have HSh := HSh'
  clear HBh' HSh'
  have HBo' := Lib.hid (BoxAt.grown HBo.out hgc)
  have HSo' := Lib.hid (HSo.out.grown hgc)
  clear HBo HSo
  have HBo := HBo'; have HSo := HSo'
  clear HBo' HSo'
  clear hgc HC
  obtain ⟨xm0, xm1, xm2, xm3⟩ := BoxAt.cells HBm.out
  have hC := deterministic_any (MachV.fill HSm.out) exM_fits
  rw [ex_det] at hC
  have HC := Lib.hid hC
  clear hC
  go_wp2_with fail
  refine HC.out.mono ?_
  rintro e w22 ⟨rfl, hgc⟩
  clear xm0 xm1 xm2 xm3
  have HG22 := Lib.hid (grown_trans HG21.out hgc)
  have HBm' := Lib.hid (BoxAt.grown HBm.out hgc)
  have HSm' := Lib.hid (HSm.out.grown hgc)
  clear HBm HSm
  have HBm := HBm'; have HSm := HSm'
  clear HBm' HSm'
  have HBa' := Lib.hid (BoxAt.grown HBa.out hgc)
  have HSa' := Lib.hid (HSa.out.grown hgc)
  clear HBa HSa
  have HBa := HBa'; have HSa := HSa'
  clear HBa' HSa'
  have HBb' := Lib.hid (BoxAt.grown HBb.out hgc)
  have HSb' := Lib.hid (HSb.out.grown hgc)
  clear HBb HSb
  have HBb := HBb'; have HSb := HSb'
  clear HBb' HSb'
  have HBc' := Lib.hid (BoxAt.grown HBc.out hgc)
  have HSc' := Lib.hid (HSc.out.grown hgc)
  clear HBc HSc
  have HBc := HBc'; have HSc := HSc'
  clear HBc' HSc'
  have HBt' := Lib.hid (BoxAt.grown HBt.out hgc)
  have HSt' := Lib.hid (HSt.out.grown hgc)
  clear HBt HSt
  have HBt := HBt'; have HSt := HSt'
  clear HBt' HSt'
  have HBk' := Lib.hid (BoxAt.grown HBk.out hgc)
  have HSk' := Lib.hid (HSk.out.grown hgc)
  clear HBk HSk
  have HBk := HBk'; have HSk := HSk'
  clear HBk' HSk'
  have HBn' := Lib.hid (BoxAt.grown HBn.out hgc)
  have HSn' := Lib.hid (HSn.out.grown hgc)
  clear HBn HSn
  have HBn := HBn'; have HSn := HSn'
  clear HBn' HSn'
  have HBh' := Lib.hid (BoxAt.grown HBh.out hgc)
  have HSh' := Lib.hid (HSh.out.grown hgc)
  clear HBh HSh
  have HBh := HBh'; have HSh := HSh'
  clear HBh' HSh'
  have HBo' := Lib.hid (BoxAt.grown HBo.out hgc)
  have HSo' := Lib.hid (HSo.out.grown hgc)
  clear HBo HSo
  have HBo := HBo'; have HSo := HSo'
  clear HBo' HSo'
  clear hgc HC
  obtain ⟨xm0, xm1, xm2, xm3⟩ := BoxAt.cells HBm.out
  have hC := empty_any (MachV.fill HSm.out) exM_fits
  rw [ex_full] at hC
  have HC := Lib.hid hC
  clear hC
  go_wp2_with fail
  refine HC.out.mono ?_
  rintro e w23 ⟨rfl, hgc⟩
  clear xm0 xm1 xm2 xm3
  have HG23 := Lib.hid (grown_trans HG22.out hgc)
  have HBm' := Lib.hid (BoxAt.grown HBm.out hgc)
  have HSm' := Lib.hid (HSm.out.grown hgc)
  clear HBm HSm
  have HBm := HBm'; have HSm := HSm'
  clear HBm' HSm'
  have HBa' := Lib.hid (BoxAt.grown HBa.out hgc)
  have HSa' := Lib.hid (HSa.out.grown hgc)
  clear HBa HSa
  have HBa := HBa'; have HSa := HSa'
  clear HBa' HSa'
  have HBb' := Lib.hid (BoxAt.grown HBb.out hgc)
  have HSb' := Lib.hid (HSb.out.grown hgc)
  clear HBb HSb
  have HBb := HBb'; have HSb := HSb'
  clear HBb' HSb'
  have HBc' := Lib.hid (BoxAt.grown HBc.out hgc)
  have HSc' := Lib.hid (HSc.out.grown hgc)
  clear HBc HSc
  have HBc := HBc'; have HSc := HSc'
  clear HBc' HSc'
  have HBt' := Lib.hid (BoxAt.grown HBt.out hgc)
  have HSt' := Lib.hid (HSt.out.grown hgc)
  clear HBt HSt
  have HBt := HBt'; have HSt := HSt'
  clear HBt' HSt'
  have HBk' := Lib.hid (BoxAt.grown HBk.out hgc)
  have HSk' := Lib.hid (HSk.out.grown hgc)
  clear HBk HSk
  have HBk := HBk'; have HSk := HSk'
  clear HBk' HSk'
  have HBn' := Lib.hid (BoxAt.grown HBn.out hgc)
  have HSn' := Lib.hid (HSn.out.grown hgc)
  clear HBn HSn
  have HBn := HBn'; have HSn := HSn'
  clear HBn' HSn'
  have HBh' := Lib.hid (BoxAt.grown HBh.out hgc)
  have HSh' := Lib.hid (HSh.out.grown hgc)
  clear HBh HSh
  have HBh := HBh'; have HSh := HSh'
  clear HBh' HSh'
  have HBo' := Lib.hid (BoxAt.grown HBo.out hgc)
  have HSo' := Lib.hid (HSo.out.grown hgc)
  clear HBo HSo
  have HBo := HBo'; have HSo := HSo'
  clear HBo' HSo'
  clear hgc HC
  obtain ⟨xt0, xt1, xt2, xt3⟩ := BoxAt.cells HBt.out
  have hC := deterministic_any (MachV.fill HSt.out) wantM_fits
  rw [want_det] at hC
  have HC := Lib.hid hC
  clear hC
  go_wp2_with fail
  refine HC.out.mono ?_
  rintro e w24 ⟨rfl, hgc⟩
  clear xt0 xt1 xt2 xt3
  have HG24 := Lib.hid (grown_trans HG23.out hgc)
  have HBm' := Lib.hid (BoxAt.grown HBm.out hgc)
  have HSm' := Lib.hid (HSm.out.grown hgc)
  clear HBm HSm
  have HBm := HBm'; have HSm := HSm'
  clear HBm' HSm'
  have HBa' := Lib.hid (BoxAt.grown HBa.out hgc)
  have HSa' := Lib.hid (HSa.out.grown hgc)
  clear HBa HSa
  have HBa := HBa'; have HSa := HSa'
  clear HBa' HSa'
  have HBb' := Lib.hid (BoxAt.grown HBb.out hgc)
  have HSb' := Lib.hid (HSb.out.grown hgc)
  clear HBb HSb
  have HBb := HBb'; have HSb := HSb'
  clear HBb' HSb'
  have HBc' := Lib.hid (BoxAt.grown HBc.out hgc)
  have HSc' := Lib.hid (HSc.out.grown hgc)
  clear HBc HSc
  have HBc := HBc'; have HSc := HSc'
  clear HBc' HSc'
  have HBt' := Lib.hid (BoxAt.grown HBt.out hgc)
  have HSt' := Lib.hid (HSt.out.grown hgc)
  clear HBt HSt
  have HBt := HBt'; have HSt := HSt'
  clear HBt' HSt'
  have HBk' := Lib.hid (BoxAt.grown HBk.out hgc)
  have HSk' := Lib.hid (HSk.out.grown hgc)
  clear HBk HSk
  have HBk := HBk'; have HSk := HSk'
  clear HBk' HSk'
  have HBn' := Lib.hid (BoxAt.grown HBn.out hgc)
  have HSn' := Lib.hid (HSn.out.grown hgc)
  clear HBn HSn
  have HBn := HBn'; have HSn := HSn'
  clear HBn' HSn'
  have HBh' := Lib.hid (BoxAt.grown HBh.out hgc)
  have HSh' := Lib.hid (HSh.out.grown hgc)
  clear HBh HSh
  have HBh := HBh'; have HSh := HSh'
  clear HBh' HSh'
  have HBo' := Lib.hid (BoxAt.grown HBo.out hgc)
  have HSo' := Lib.hid (HSo.out.grown hgc)
  clear HBo HSo
  have HBo := HBo'; have HSo := HSo'
  clear HBo' HSo'
  clear hgc HC
  obtain ⟨xc0, xc1, xc2, xc3⟩ := BoxAt.cells HBc.out
  have hC := empty_any (MachV.fill HSc.out) exC_fits
  rw [exC_none] at hC
  have HC := Lib.hid hC
  clear hC
  go_wp2_with fail
  refine HC.out.mono ?_
  rintro e w25 ⟨rfl, hgc⟩
  clear xc0 xc1 xc2 xc3
  have HG25 := Lib.hid (grown_trans HG24.out hgc)
  have HBm' := Lib.hid (BoxAt.grown HBm.out hgc)
  have HSm' := Lib.hid (HSm.out.grown hgc)
  clear HBm HSm
  have HBm := HBm'; have HSm := HSm'
  clear HBm' HSm'
  have HBa' := Lib.hid (BoxAt.grown HBa.out hgc)
  have HSa' := Lib.hid (HSa.out.grown hgc)
  clear HBa HSa
  have HBa := HBa'; have HSa := HSa'
  clear HBa' HSa'
  have HBb' := Lib.hid (BoxAt.grown HBb.out hgc)
  have HSb' := Lib.hid (HSb.out.grown hgc)
  clear HBb HSb
  have HBb := HBb'; have HSb := HSb'
  clear HBb' HSb'
  have HBc' := Lib.hid (BoxAt.grown HBc.out hgc)
  have HSc' := Lib.hid (HSc.out.grown hgc)
  clear HBc HSc
  have HBc := HBc'; have HSc := HSc'
  clear HBc' HSc'
  have HBt' := Lib.hid (BoxAt.grown HBt.out hgc)
  have HSt' := Lib.hid (HSt.out.grown hgc)
  clear HBt HSt
  have HBt := HBt'; have HSt := HSt'
  clear HBt' HSt'
  have HBk' := Lib.hid (BoxAt.grown HBk.out hgc)
  have HSk' := Lib.hid (HSk.out.grown hgc)
  clear HBk HSk
  have HBk := HBk'; have HSk := HSk'
  clear HBk' HSk'
  have HBn' := Lib.hid (BoxAt.grown HBn.out hgc)
  have HSn' := Lib.hid (HSn.out.grown hgc)
  clear HBn HSn
  have HBn := HBn'; have HSn := HSn'
  clear HBn' HSn'
  have HBh' := Lib.hid (BoxAt.grown HBh.out hgc)
  have HSh' := Lib.hid (HSh.out.grown hgc)
  clear HBh HSh
  have HBh := HBh'; have HSh := HSh'
  clear HBh' HSh'
  have HBo' := Lib.hid (BoxAt.grown HBo.out hgc)
  have HSo' := Lib.hid (HSo.out.grown hgc)
  clear HBo HSo
  have HBo := HBo'; have HSo := HSo'
  clear HBo' HSo'
  clear hgc HC
  obtain ⟨xm0, xm1, xm2, xm3⟩ := BoxAt.cells HBm.out
  have hC := sigma_any (MachV.fill HSm.out) exM_fits
  rw [ex_sig] at hC
  have HC := Lib.hid hC
  clear hC
  go_wp2_with fail
  refine HC.out.mono ?_
  rintro e w26 ⟨rfl, hgc⟩
  clear xm0 xm1 xm2 xm3
  have HG26 := Lib.hid (grown_trans HG25.out hgc)
  have HBm' := Lib.hid (BoxAt.grown HBm.out hgc)
  have HSm' := Lib.hid (HSm.out.grown hgc)
  clear HBm HSm
  have HBm := HBm'; have HSm := HSm'
  clear HBm' HSm'
  have HBa' := Lib.hid (BoxAt.grown HBa.out hgc)
  have HSa' := Lib.hid (HSa.out.grown hgc)
  clear HBa HSa
  have HBa := HBa'; have HSa := HSa'
  clear HBa' HSa'
  have HBb' := Lib.hid (BoxAt.grown HBb.out hgc)
  have HSb' := Lib.hid (HSb.out.grown hgc)
  clear HBb HSb
  have HBb := HBb'; have HSb := HSb'
  clear HBb' HSb'
  have HBc' := Lib.hid (BoxAt.grown HBc.out hgc)
  have HSc' := Lib.hid (HSc.out.grown hgc)
  clear HBc HSc
  have HBc := HBc'; have HSc := HSc'
  clear HBc' HSc'
  have HBt' := Lib.hid (BoxAt.grown HBt.out hgc)
  have HSt' := Lib.hid (HSt.out.grown hgc)
  clear HBt HSt
  have HBt := HBt'; have HSt := HSt'
  clear HBt' HSt'
  have HBk' := Lib.hid (BoxAt.grown HBk.out hgc)
  have HSk' := Lib.hid (HSk.out.grown hgc)
  clear HBk HSk
  have HBk := HBk'; have HSk := HSk'
  clear HBk' HSk'
  have HBn' := Lib.hid (BoxAt.grown HBn.out hgc)
  have HSn' := Lib.hid (HSn.out.grown hgc)
  clear HBn HSn
  have HBn := HBn'; have HSn := HSn'
  clear HBn' HSn'
  have HBh' := Lib.hid (BoxAt.grown HBh.out hgc)
  have HSh' := Lib.hid (HSh.out.grown hgc)
  clear HBh HSh
  have HBh := HBh'; have HSh := HSh'
  clear HBh' HSh'
  have HBo' := Lib.hid (BoxAt.grown HBo.out hgc)
  have HSo' := Lib.hid (HSo.out.grown hgc)
  clear HBo HSo
  have HBo := HBo'; have HSo := HSo'
  clear HBo' HSo'
  clear hgc HC
  go_wp2_with fail
  refine (awake_any _).mono ?_
  rintro e w27 ⟨rfl, hgc⟩
  have HGE := Lib.hid (grown_trans HG26.out hgc)
  clear hgc
  go_wp2
  go_ret
  exact ⟨rfl, HGE.out⟩
end Go.Proofs.YtbmonhnojkiapaaGreatDoor
