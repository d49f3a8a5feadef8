/- MachineTrims, walked. -/
import Derived.Test.YtbmonhnojkiapaaGreatDoorU35
import Derived.Test.YtbmonhnojkiapaaGreatDoorU36
import Derived.Test.YtbmonhnojkiapaaGreatDoorU21
import Derived.Test.YtbmonhnojkiapaaGreatDoorU49
set_option linter.unusedVariables false
set_option linter.unusedSimpArgs false
namespace Go.Proofs.YtbmonhnojkiapaaGreatDoor
open Go.RowKit

theorem mach0_fits : Fits mach0 := ⟨by simp [mach0], by simp [mach0], fun s hs => by simp [mach0] at hs, fun s hs => by simp [mach0] at hs, fun s hs => by simp [mach0] at hs⟩
theorem trimV_fits {m : Mach} : Fits (trimV m).1 := by
  cases hB : validB m
  · rw [show trimV m = (mach0, 1) by unfold trimV; rw [hB]; rfl]; exact mach0_fits
  · rw [trimV_of hB]; exact valid_fits (trim_valid hB)
theorem canonV_fits {m : Mach} : Fits (canonV m).1 := by
  cases hB : validB m
  · rw [show canonV m = (mach0, 1) by unfold canonV; rw [hB]; rfl]; exact mach0_fits
  · rw [canonV_of hB]; exact valid_fits (canon_valid hB)
theorem nothingM_fits {k : Int} : Fits (nothingM k).1 := by
  unfold nothingM
  by_cases h : kindB k = true
  · rw [if_pos h]; exact valid_fits (none_valid h)
  · rw [if_neg h]; exact mach0_fits
set_option maxRecDepth 20000 in
set_option maxHeartbeats 16000000 in
theorem trims_walk (kd : Int) {w : World} {v : Value} {m : Mach} (hv : MachV w v m) (hf : Fits m) : Calls Tryz.prog 5 #[v, .int .i64 kd] w (ValPost (.bool true) w) := by
  have hvv := fun w' (h : w.grownBy w' none) => hv.grown h
  have HV := Lib.hid hvv
  have HF := Lib.hid hf
  obtain ⟨u, rfl, hst0⟩ := hv
  obtain ⟨A, cap, us, rfl, hS0⟩ := StAt.of hst0
  have hg : w.grownBy (w.alloc (.cells #[.int .i64 m.kind, .int .i64 m.start, .string m.lead, .slice A m.states.length cap] 24)) none := World.grownBy_alloc _ _ _
  have hbx := BoxAt.new w m (.slice A m.states.length cap)
  have HG := Lib.hid hg; have HBm := Lib.hid hbx; have HSm0 := Lib.hid (StSl.grown hst0 hg)
  obtain ⟨x0, x1, x2, x3⟩ := hbx.cells
  have HL := Lib.hid (large_any6 (HV.out _ hg) hf)
  clear hg hbx hst0 hvv hf hS0
  go_enter Tryz.func5, Tryz.ntmps5
  go_wp2_with fail
  refine HL.out.mono ?_
  rintro e w1 ⟨rfl, hg1⟩
  generalize hW : w.alloc (.cells #[.int .i64 m.kind, .int .i64 m.start, .string m.lead, .slice A m.states.length cap] 24) = W at *
  clear hW x0 x1 x2 x3 HL
  have HG1 := Lib.hid (grown_trans HG.out hg1)
  have HBm := Lib.hid (BoxAt.grown HBm.out hg1)
  have HSm := Lib.hid (StSl.grown HSm0.out hg1)
  clear hg1 HG HSm0
  cases hB : smallB m
  · clear hB
    obtain ⟨x0, x1, x2, x3⟩ := BoxAt.cells HBm.out
    go_wp2_with fail
    refine (awake_any _).mono ?_
    rintro e w2 ⟨rfl, hg2⟩
    have HG2 := Lib.hid (grown_trans HG1.out hg2)
    clear hg2
    go_wp2
    go_ret
    exact ⟨rfl, HG2.out⟩
  have hsm := small_parts hB
  have hsn : m.states.length ≤ 3000000 := by have := hsm.n; omega
  have hsa : ∀ s ∈ m.states, s.arcs.length ≤ 3000000 := fun s hs => by have := nArcs_mem hs; have := hsm.arcs; omega
  have HSN := Lib.hid hsn; have HSA := Lib.hid hsa
  clear hB hsm hsn hsa
  have HFT := Lib.hid (trimV_fits (m := m)); have HFC := Lib.hid (canonV_fits (m := m)); have HFN := Lib.hid (nothingM_fits (k := kd))
  have HT1 := Lib.hid (fun (w : World) (v : Value) (h : MachV w v m) => ptrim_any h HF.out)
  have HT2 := Lib.hid (fun (w : World) (v : Value) (h : MachV w v m) => rtrim_any h HF.out)
  have HC1 := Lib.hid (fun (w : World) (v : Value) (h : MachV w v m) => pcanon_any h HF.out)
  have HC2 := Lib.hid (fun (w : World) (v : Value) (h : MachV w v m) => rcanon_any h HF.out)
  have HN1 := Lib.hid (fun (w : World) => nothing_any kd w)
  have HN2 := Lib.hid (fun (w : World) => rnothing_any kd w)
  generalize trimV m = tp at *
  generalize canonV m = cp at *
  generalize nothingM kd = np at *
  obtain ⟨tm, te⟩ := tp
  obtain ⟨cm, ce⟩ := cp
  obtain ⟨nm, ne⟩ := np
  have q1 : (te == te) = true := by simp
  have q2 : (ce == ce) = true := by simp
  have q3 : (ne == ne) = true := by simp
  obtain ⟨xm0, xm1, xm2, xm3⟩ := BoxAt.cells HBm.out
  have HC := Lib.hid (rclone_any (MachV.fill HSm.out) HSN.out HSA.out)
  go_wp2_with fail
  refine HC.out.mono ?_
  rintro e w2 ⟨v2, rfl, hmo, hga⟩
  obtain ⟨u2, rfl, hso⟩ := hmo
  obtain ⟨Ao, co, us2, rfl, _⟩ := hso.sl
  have hst := hso.stN (Nat.le_refl _)
  clear hso
  have hgb := World.grownBy_alloc w2 (.cells #[.int .i64 m.kind, .int .i64 m.start, .string m.lead, .slice Ao m.states.length co] 24) none
  have hgc := grown_trans hga hgb
  have HG3 := Lib.hid (grown_trans HG1.out hgc)
  have HBm' := Lib.hid (BoxAt.grown HBm.out hgc)
  have HSm' := Lib.hid (HSm.out.grown hgc)
  clear HBm HSm
  have HBm := HBm'; have HSm := HSm'
  clear HBm' HSm'
  have HBo := Lib.hid (BoxAt.new w2 m (.slice Ao m.states.length co))
  have HSo := Lib.hid ((hst.kept (kept_grown hgb _)).sl)
  clear hst hga hgb hgc HC xm0 xm1 xm2 xm3
  go_upto_region 4 with (fail)
  generalize w2.alloc (.cells #[.int .i64 m.kind, .int .i64 m.start, .string m.lead, .slice Ao m.states.length co] 24) = w3 at *
  obtain ⟨xm0, xm1, xm2, xm3⟩ := BoxAt.cells HBm.out
  have HC := Lib.hid (HT1.out _ _ (MachV.fill HSm.out))
  go_wp2_with fail
  refine HC.out.mono ?_
  intro e w4 h5
  obtain ⟨At, ct, rfl, hst, hga⟩ := h5.open6
  clear h5
  have hgb := World.grownBy_alloc w4 (.cells #[.int .i64 tm.kind, .int .i64 tm.start, .string tm.lead, .slice At tm.states.length ct] 24) none
  have hgc := grown_trans hga hgb
  have HG5 := Lib.hid (grown_trans HG3.out hgc)
  have HBm' := Lib.hid (BoxAt.grown HBm.out hgc)
  have HSm' := Lib.hid (HSm.out.grown hgc)
  clear HBm HSm
  have HBm := HBm'; have HSm := HSm'
  clear HBm' HSm'
  have HBo' := Lib.hid (BoxAt.grown HBo.out hgc)
  have HSo' := Lib.hid (HSo.out.grown hgc)
  clear HBo HSo
  have HBo := HBo'; have HSo := HSo'
  clear HBo' HSo'
  have HBt := Lib.hid (BoxAt.new w4 tm (.slice At tm.states.length ct))
  have HSt := Lib.hid ((hst.kept (kept_grown hgb _)).sl)
  clear hst hga hgb hgc HC xm0 xm1 xm2 xm3
  go_upto_region 5 with (fail)
  generalize w4.alloc (.cells #[.int .i64 tm.kind, .int .i64 tm.start, .string tm.lead, .slice At tm.states.length ct] 24) = w5 at *
  obtain ⟨xo0, xo1, xo2, xo3⟩ := BoxAt.cells HBo.out
  have HC := Lib.hid (HT2.out _ _ (MachV.fill HSo.out))
  go_wp2_with fail
  refine HC.out.mono ?_
  intro e w6 h5
  obtain ⟨Au, cu, rfl, hst, hga⟩ := h5.open6
  clear h5
  have hgb := World.grownBy_alloc w6 (.cells #[.int .i64 tm.kind, .int .i64 tm.start, .string tm.lead, .slice Au tm.states.length cu] 24) none
  have hgc := grown_trans hga hgb
  have HG7 := Lib.hid (grown_trans HG5.out hgc)
  have HBm' := Lib.hid (BoxAt.grown HBm.out hgc)
  have HSm' := Lib.hid (HSm.out.grown hgc)
  clear HBm HSm
  have HBm := HBm'; have HSm := HSm'
  clear HBm' HSm'
  have HBo' := Lib.hid (BoxAt.grown HBo.out hgc)
  have HSo' := Lib.hid (HSo.out.grown hgc)
  clear HBo HSo
  have HBo := HBo'; have HSo := HSo'
  clear HBo' HSo'
  have HBt' := Lib.hid (BoxAt.grown HBt.out hgc)
  have HSt' := Lib.hid (HSt.out.grown hgc)
  clear HBt HSt
  have HBt := HBt'; have HSt := HSt'
  clear HBt' HSt'
  have HBu := Lib.hid (BoxAt.new w6 tm (.slice Au tm.states.length cu))
  have HSu := Lib.hid ((hst.kept (kept_grown hgb _)).sl)
  clear hst hga hgb hgc HC xo0 xo1 xo2 xo3
  go_upto_region 6 with (fail)
  generalize w6.alloc (.cells #[.int .i64 tm.kind, .int .i64 tm.start, .string tm.lead, .slice Au tm.states.length cu] 24) = w7 at *
  obtain ⟨xm0, xm1, xm2, xm3⟩ := BoxAt.cells HBm.out
  have HC := Lib.hid (HC1.out _ _ (MachV.fill HSm.out))
  go_wp2_with fail
  refine HC.out.mono ?_
  intro e w8 h5
  obtain ⟨Ac, cc, rfl, hst, hga⟩ := h5.open6
  clear h5
  have hgb := World.grownBy_alloc w8 (.cells #[.int .i64 cm.kind, .int .i64 cm.start, .string cm.lead, .slice Ac cm.states.length cc] 24) none
  have hgc := grown_trans hga hgb
  have HG9 := Lib.hid (grown_trans HG7.out hgc)
  have HBm' := Lib.hid (BoxAt.grown HBm.out hgc)
  have HSm' := Lib.hid (HSm.out.grown hgc)
  clear HBm HSm
  have HBm := HBm'; have HSm := HSm'
  clear HBm' HSm'
  have HBo' := Lib.hid (BoxAt.grown HBo.out hgc)
  have HSo' := Lib.hid (HSo.out.grown hgc)
  clear HBo HSo
  have HBo := HBo'; have HSo := HSo'
  clear HBo' HSo'
  have HBt' := Lib.hid (BoxAt.grown HBt.out hgc)
  have HSt' := Lib.hid (HSt.out.grown hgc)
  clear HBt HSt
  have HBt := HBt'; have HSt := HSt'
  clear HBt' HSt'
  have HBu' := Lib.hid (BoxAt.grown HBu.out hgc)
  have HSu' := Lib.hid (HSu.out.grown hgc)
  clear HBu HSu
  have HBu := HBu'; have HSu := HSu'
  clear HBu' HSu'
  have HBc := Lib.hid (BoxAt.new w8 cm (.slice Ac cm.states.length cc))
  have HSc := Lib.hid ((hst.kept (kept_grown hgb _)).sl)
  clear hst hga hgb hgc HC xm0 xm1 xm2 xm3
  go_upto_region 7 with (fail)
  generalize w8.alloc (.cells #[.int .i64 cm.kind, .int .i64 cm.start, .string cm.lead, .slice Ac cm.states.length cc] 24) = w9 at *
  obtain ⟨xo0, xo1, xo2, xo3⟩ := BoxAt.cells HBo.out
  have HC := Lib.hid (HC2.out _ _ (MachV.fill HSo.out))
  go_wp2_with fail
  refine HC.out.mono ?_
  intro e w10 h5
  obtain ⟨Ad, cd, rfl, hst, hga⟩ := h5.open6
  clear h5
  have hgb := World.grownBy_alloc w10 (.cells #[.int .i64 cm.kind, .int .i64 cm.start, .string cm.lead, .slice Ad cm.states.length cd] 24) none
  have hgc := grown_trans hga hgb
  have HG11 := Lib.hid (grown_trans HG9.out hgc)
  have HBm' := Lib.hid (BoxAt.grown HBm.out hgc)
  have HSm' := Lib.hid (HSm.out.grown hgc)
  clear HBm HSm
  have HBm := HBm'; have HSm := HSm'
  clear HBm' HSm'
  have HBo' := Lib.hid (BoxAt.grown HBo.out hgc)
  have HSo' := Lib.hid (HSo.out.grown hgc)
  clear HBo HSo
  have HBo := HBo'; have HSo := HSo'
  clear HBo' HSo'
  have HBt' := Lib.hid (BoxAt.grown HBt.out hgc)
  have HSt' := Lib.hid (HSt.out.grown hgc)
  clear HBt HSt
  have HBt := HBt'; have HSt := HSt'
  clear HBt' HSt'
  have HBu' := Lib.hid (BoxAt.grown HBu.out hgc)
  have HSu' := Lib.hid (HSu.out.grown hgc)
  clear HBu HSu
  have HBu := HBu'; have HSu := HSu'
  clear HBu' HSu'
  have HBc' := Lib.hid (BoxAt.grown HBc.out hgc)
  have HSc' := Lib.hid (HSc.out.grown hgc)
  clear HBc HSc
  have HBc := HBc'; have HSc := HSc'
  clear HBc' HSc'
  have HBd := Lib.hid (BoxAt.new w10 cm (.slice Ad cm.states.length cd))
  have HSd := Lib.hid ((hst.kept (kept_grown hgb _)).sl)
  clear hst hga hgb hgc HC xo0 xo1 xo2 xo3
  go_upto_region 8 with (fail)
  generalize w10.alloc (.cells #[.int .i64 cm.kind, .int .i64 cm.start, .string cm.lead, .slice Ad cm.states.length cd] 24) = w11 at *
  have HC := Lib.hid (HN1.out w11)
  go_wp2_with fail
  refine HC.out.mono ?_
  intro e w12 h5
  obtain ⟨An, cn, rfl, hst, hga⟩ := h5.open6
  clear h5
  have hgb := World.grownBy_alloc w12 (.cells #[.int .i64 nm.kind, .int .i64 nm.start, .string nm.lead, .slice An nm.states.length cn] 24) none
  have hgc := grown_trans hga hgb
  have HG13 := Lib.hid (grown_trans HG11.out hgc)
  have HBm' := Lib.hid (BoxAt.grown HBm.out hgc)
  have HSm' := Lib.hid (HSm.out.grown hgc)
  clear HBm HSm
  have HBm := HBm'; have HSm := HSm'
  clear HBm' HSm'
  have HBo' := Lib.hid (BoxAt.grown HBo.out hgc)
  have HSo' := Lib.hid (HSo.out.grown hgc)
  clear HBo HSo
  have HBo := HBo'; have HSo := HSo'
  clear HBo' HSo'
  have HBt' := Lib.hid (BoxAt.grown HBt.out hgc)
  have HSt' := Lib.hid (HSt.out.grown hgc)
  clear HBt HSt
  have HBt := HBt'; have HSt := HSt'
  clear HBt' HSt'
  have HBu' := Lib.hid (BoxAt.grown HBu.out hgc)
  have HSu' := Lib.hid (HSu.out.grown hgc)
  clear HBu HSu
  have HBu := HBu'; have HSu := HSu'
  clear HBu' HSu'
  have HBc' := Lib.hid (BoxAt.grown HBc.out hgc)
  have HSc' := Lib.hid (HSc.out.grown hgc)
  clear HBc HSc
  have HBc := HBc'; have HSc := HSc'
  clear HBc' HSc'
  have HBd' := Lib.hid (BoxAt.grown HBd.out hgc)
  have HSd' := Lib.hid (HSd.out.grown hgc)
  clear HBd HSd
  have HBd := HBd'; have HSd := HSd'
  clear HBd' HSd'
  have HBn := Lib.hid (BoxAt.new w12 nm (.slice An nm.states.length cn))
  have HSn := Lib.hid ((hst.kept (kept_grown hgb _)).sl)
  clear hst hga hgb hgc HC
  go_upto_region 9 with (fail)
  generalize w12.alloc (.cells #[.int .i64 nm.kind, .int .i64 nm.start, .string nm.lead, .slice An nm.states.length cn] 24) = w13 at *
  have HC := Lib.hid (HN2.out w13)
  go_wp2_with fail
  refine HC.out.mono ?_
  intro e w14 h5
  obtain ⟨Ap, cp, rfl, hst, hga⟩ := h5.open6
  clear h5
  have hgb := World.grownBy_alloc w14 (.cells #[.int .i64 nm.kind, .int .i64 nm.start, .string nm.lead, .slice Ap nm.states.length cp] 24) none
  have hgc := grown_trans hga hgb
  have HG15 := Lib.hid (grown_trans HG13.out hgc)
  have HBm' := Lib.hid (BoxAt.grown HBm.out hgc)
  have HSm' := Lib.hid (HSm.out.grown hgc)
  clear HBm HSm
  have HBm := HBm'; have HSm := HSm'
  clear HBm' HSm'
  have HBo' := Lib.hid (BoxAt.grown HBo.out hgc)
  have HSo' := Lib.hid (HSo.out.grown hgc)
  clear HBo HSo
  have HBo := HBo'; have HSo := HSo'
  clear HBo' HSo'
  have HBt' := Lib.hid (BoxAt.grown HBt.out hgc)
  have HSt' := Lib.hid (HSt.out.grown hgc)
  clear HBt HSt
  have HBt := HBt'; have HSt := HSt'
  clear HBt' HSt'
  have HBu' := Lib.hid (BoxAt.grown HBu.out hgc)
  have HSu' := Lib.hid (HSu.out.grown hgc)
  clear HBu HSu
  have HBu := HBu'; have HSu := HSu'
  clear HBu' HSu'
  have HBc' := Lib.hid (BoxAt.grown HBc.out hgc)
  have HSc' := Lib.hid (HSc.out.grown hgc)
  clear HBc HSc
  have HBc := HBc'; have HSc := HSc'
  clear HBc' HSc'
  have HBd' := Lib.hid (BoxAt.grown HBd.out hgc)
  have HSd' := Lib.hid (HSd.out.grown hgc)
  clear HBd HSd
  have HBd := HBd'; have HSd := HSd'
  clear HBd' HSd'
  have HBn' := Lib.hid (BoxAt.grown HBn.out hgc)
  have HSn' := Lib.hid (HSn.out.grown hgc)
  clear HBn HSn
  have HBn := HBn'; have HSn := HSn'
  clear HBn' HSn'
  have HBp := Lib.hid (BoxAt.new w14 nm (.slice Ap nm.states.length cp))
  have HSp := Lib.hid ((hst.kept (kept_grown hgb _)).sl)
  clear hst hga hgb hgc HC
  go_upto_region 10 with (fail)
  generalize w14.alloc (.cells #[.int .i64 nm.kind, .int .i64 nm.start, .string nm.lead, .slice Ap nm.states.length cp] 24) = w15 at *
  obtain ⟨xt0, xt1, xt2, xt3⟩ := BoxAt.cells HBt.out
  obtain ⟨xu0, xu1, xu2, xu3⟩ := BoxAt.cells HBu.out
  have hC := rsame_any (MachV.fill HSt.out) (MachV.fill HSu.out) HFT.out
  rw [show decide (tm = tm) = true by simp] at hC
  have HC := Lib.hid hC
  clear hC
  go_wp2_with fail
  refine HC.out.mono ?_
  rintro e w16 ⟨rfl, hgc⟩
  clear xt0 xt1 xt2 xt3 xu0 xu1 xu2 xu3
  have HG16 := Lib.hid (grown_trans HG15.out hgc)
  have HBm' := Lib.hid (BoxAt.grown HBm.out hgc)
  have HSm' := Lib.hid (HSm.out.grown hgc)
  clear HBm HSm
  have HBm := HBm'; have HSm := HSm'
  clear HBm' HSm'
  have HBo' := Lib.hid (BoxAt.grown HBo.out hgc)
  have HSo' := Lib.hid (HSo.out.grown hgc)
  clear HBo HSo
  have HBo := HBo'; have HSo := HSo'
  clear HBo' HSo'
  have HBt' := Lib.hid (BoxAt.grown HBt.out hgc)
  have HSt' := Lib.hid (HSt.out.grown hgc)
  clear HBt HSt
  have HBt := HBt'; have HSt := HSt'
  clear HBt' HSt'
  have HBu' := Lib.hid (BoxAt.grown HBu.out hgc)
  have HSu' := Lib.hid (HSu.out.grown hgc)
  clear HBu HSu
  have HBu := HBu'; have HSu := HSu'
  clear HBu' HSu'
  have HBc' := Lib.hid (BoxAt.grown HBc.out hgc)
  have HSc' := Lib.hid (HSc.out.grown hgc)
  clear HBc HSc
  have HBc := HBc'; have HSc := HSc'
  clear HBc' HSc'
  have HBd' := Lib.hid (BoxAt.grown HBd.out hgc)
  have HSd' := Lib.hid (HSd.out.grown hgc)
  clear HBd HSd
  have HBd := HBd'; have HSd := HSd'
  clear HBd' HSd'
  have HBn' := Lib.hid (BoxAt.grown HBn.out hgc)
  have HSn' := Lib.hid (HSn.out.grown hgc)
  clear HBn HSn
  have HBn := HBn'; have HSn := HSn'
  clear HBn' HSn'
  have HBp' := Lib.hid (BoxAt.grown HBp.out hgc)
  have HSp' := Lib.hid (HSp.out.grown hgc)
  clear HBp HSp
  have HBp := HBp'; have HSp := HSp'
  clear HBp' HSp'
  clear hgc HC
  obtain ⟨xc0, xc1, xc2, xc3⟩ := BoxAt.cells HBc.out
  obtain ⟨xd0, xd1, xd2, xd3⟩ := BoxAt.cells HBd.out
  have hC := rsame_any (MachV.fill HSc.out) (MachV.fill HSd.out) HFC.out
  rw [show decide (cm = cm) = true by simp] at hC
  have HC := Lib.hid hC
  clear hC
  go_wp2_with fail
  refine HC.out.mono ?_
  rintro e w17 ⟨rfl, hgc⟩
  clear xc0 xc1 xc2 xc3 xd0 xd1 xd2 xd3
  have HG17 := Lib.hid (grown_trans HG16.out hgc)
  have HBm' := Lib.hid (BoxAt.grown HBm.out hgc)
  have HSm' := Lib.hid (HSm.out.grown hgc)
  clear HBm HSm
  have HBm := HBm'; have HSm := HSm'
  clear HBm' HSm'
  have HBo' := Lib.hid (BoxAt.grown HBo.out hgc)
  have HSo' := Lib.hid (HSo.out.grown hgc)
  clear HBo HSo
  have HBo := HBo'; have HSo := HSo'
  clear HBo' HSo'
  have HBt' := Lib.hid (BoxAt.grown HBt.out hgc)
  have HSt' := Lib.hid (HSt.out.grown hgc)
  clear HBt HSt
  have HBt := HBt'; have HSt := HSt'
  clear HBt' HSt'
  have HBu' := Lib.hid (BoxAt.grown HBu.out hgc)
  have HSu' := Lib.hid (HSu.out.grown hgc)
  clear HBu HSu
  have HBu := HBu'; have HSu := HSu'
  clear HBu' HSu'
  have HBc' := Lib.hid (BoxAt.grown HBc.out hgc)
  have HSc' := Lib.hid (HSc.out.grown hgc)
  clear HBc HSc
  have HBc := HBc'; have HSc := HSc'
  clear HBc' HSc'
  have HBd' := Lib.hid (BoxAt.grown HBd.out hgc)
  have HSd' := Lib.hid (HSd.out.grown hgc)
  clear HBd HSd
  have HBd := HBd'; have HSd := HSd'
  clear HBd' HSd'
  have HBn' := Lib.hid (BoxAt.grown HBn.out hgc)
  have HSn' := Lib.hid (HSn.out.grown hgc)
  clear HBn HSn
  have HBn := HBn'; have HSn := HSn'
  clear HBn' HSn'
  have HBp' := Lib.hid (BoxAt.grown HBp.out hgc)
  have HSp' := Lib.hid (HSp.out.grown hgc)
  clear HBp HSp
  have HBp := HBp'; have HSp := HSp'
  clear HBp' HSp'
  clear hgc HC
  obtain ⟨xn0, xn1, xn2, xn3⟩ := BoxAt.cells HBn.out
  obtain ⟨xp0, xp1, xp2, xp3⟩ := BoxAt.cells HBp.out
  have hC := rsame_any (MachV.fill HSn.out) (MachV.fill HSp.out) HFN.out
  rw [show decide (nm = nm) = true by simp] at hC
  have HC := Lib.hid hC
  clear hC
  go_wp2_with fail
  refine HC.out.mono ?_
  rintro e w18 ⟨rfl, hgc⟩
  clear xn0 xn1 xn2 xn3 xp0 xp1 xp2 xp3
  have HG18 := Lib.hid (grown_trans HG17.out hgc)
  have HBm' := Lib.hid (BoxAt.grown HBm.out hgc)
  have HSm' := Lib.hid (HSm.out.grown hgc)
  clear HBm HSm
  have HBm := HBm'; have HSm := HSm'
  clear HBm' HSm'
  have HBo' := Lib.hid (BoxAt.grown HBo.out hgc)
  have HSo' := Lib.hid (HSo.out.grown hgc)
  clear HBo HSo
  have HBo := HBo'; have HSo := HSo'
  clear HBo' HSo'
  have HBt' := Lib.hid (BoxAt.grown HBt.out hgc)
  have HSt' := Lib.hid (HSt.out.grown hgc)
  clear HBt HSt
  have HBt := HBt'; have HSt := HSt'
  clear HBt' HSt'
  have HBu' := Lib.hid (BoxAt.grown HBu.out hgc)
  have HSu' := Lib.hid (HSu.out.grown hgc)
  clear HBu HSu
  have HBu := HBu'; have HSu := HSu'
  clear HBu' HSu'
  have HBc' := Lib.hid (BoxAt.grown HBc.out hgc)
  have HSc' := Lib.hid (HSc.out.grown hgc)
  clear HBc HSc
  have HBc := HBc'; have HSc := HSc'
  clear HBc' HSc'
  have HBd' := Lib.hid (BoxAt.grown HBd.out hgc)
  have HSd' := Lib.hid (HSd.out.grown hgc)
  clear HBd HSd
  have HBd := HBd'; have HSd := HSd'
  clear HBd' HSd'
  have HBn' := Lib.hid (BoxAt.grown HBn.out hgc)
  have HSn' := Lib.hid (HSn.out.grown hgc)
  clear HBn HSn
  have HBn := HBn'; have HSn := HSn'
  clear HBn' HSn'
  have HBp' := Lib.hid (BoxAt.grown HBp.out hgc)
  have HSp' := Lib.hid (HSp.out.grown hgc)
  clear HBp HSp
  have HBp := HBp'; have HSp := HSp'
  clear HBp' HSp'
  clear hgc HC
  obtain ⟨xm0, xm1, xm2, xm3⟩ := BoxAt.cells HBm.out
  obtain ⟨xo0, xo1, xo2, xo3⟩ := BoxAt.cells HBo.out
  have hC := rsame_any (MachV.fill HSm.out) (MachV.fill HSo.out) HF.out
  rw [show decide (m = m) = true by simp] at hC
  have HC := Lib.hid hC
  clear hC
  go_wp2_with fail
  refine HC.out.mono ?_
  rintro e w19 ⟨rfl, hgc⟩
  clear xm0 xm1 xm2 xm3 xo0 xo1 xo2 xo3
  have HG19 := Lib.hid (grown_trans HG18.out hgc)
  have HBm' := Lib.hid (BoxAt.grown HBm.out hgc)
  have HSm' := Lib.hid (HSm.out.grown hgc)
  clear HBm HSm
  have HBm := HBm'; have HSm := HSm'
  clear HBm' HSm'
  have HBo' := Lib.hid (BoxAt.grown HBo.out hgc)
  have HSo' := Lib.hid (HSo.out.grown hgc)
  clear HBo HSo
  have HBo := HBo'; have HSo := HSo'
  clear HBo' HSo'
  have HBt' := Lib.hid (BoxAt.grown HBt.out hgc)
  have HSt' := Lib.hid (HSt.out.grown hgc)
  clear HBt HSt
  have HBt := HBt'; have HSt := HSt'
  clear HBt' HSt'
  have HBu' := Lib.hid (BoxAt.grown HBu.out hgc)
  have HSu' := Lib.hid (HSu.out.grown hgc)
  clear HBu HSu
  have HBu := HBu'; have HSu := HSu'
  clear HBu' HSu'
  have HBc' := Lib.hid (BoxAt.grown HBc.out hgc)
  have HSc' := Lib.hid (HSc.out.grown hgc)
  clear HBc HSc
  have HBc := HBc'; have HSc := HSc'
  clear HBc' HSc'
  have HBd' := Lib.hid (BoxAt.grown HBd.out hgc)
  have HSd' := Lib.hid (HSd.out.grown hgc)
  clear HBd HSd
  have HBd := HBd'; have HSd := HSd'
  clear HBd' HSd'
  have HBn' := Lib.hid (BoxAt.grown HBn.out hgc)
  have HSn' := Lib.hid (HSn.out.grown hgc)
  clear HBn HSn
  have HBn := HBn'; have HSn := HSn'
  clear HBn' HSn'
  have HBp' := Lib.hid (BoxAt.grown HBp.out hgc)
  have HSp' := Lib.hid (HSp.out.grown hgc)
  clear HBp HSp
  have HBp := HBp'; have HSp := HSp'
  clear HBp' HSp'
  clear hgc HC
  go_wp2_with fail
  refine (awake_any _).mono ?_
  rintro e w20 ⟨rfl, hgc⟩
  have HGE := Lib.hid (grown_trans HG19.out hgc)
  clear hgc
  go_wp2
  go_ret
  exact ⟨rfl, HGE.out⟩
end Go.Proofs.YtbmonhnojkiapaaGreatDoor
