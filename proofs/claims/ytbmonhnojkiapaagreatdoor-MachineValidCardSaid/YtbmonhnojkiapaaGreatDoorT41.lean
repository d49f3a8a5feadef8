/- MachineValid, walked. -/
import Derived.Test.YtbmonhnojkiapaaGreatDoorT35
import Derived.Test.YtbmonhnojkiapaaGreatDoorT38
import Derived.Test.YtbmonhnojkiapaaGreatDoorT36
import Derived.Test.YtbmonhnojkiapaaGreatDoorT27
set_option linter.unusedVariables false
set_option linter.unusedSimpArgs false
namespace Go.Proofs.YtbmonhnojkiapaaGreatDoor
open Go.RowKit

set_option maxRecDepth 20000 in
set_option maxHeartbeats 16000000 in
theorem mvalid_walk {w : World} {v : Value} {m : Mach} (hv : MachV w v m) (hf : Fits m) : Calls Tryz.prog 4 #[v] w (ValPost (.bool true) w) := by
  have hvv := fun w' (h : w.grownBy w' none) => hv.grown h
  have HV := Lib.hid hvv
  have HF := Lib.hid hf
  obtain ⟨u, rfl, hst0⟩ := hv
  have hg : w.grownBy (w.alloc (.cells #[.int .i64 m.kind, .int .i64 m.start, .string m.lead, u] 24)) none := World.grownBy_alloc _ _ _
  have hbx := BoxAt.new w m u
  have HG := Lib.hid hg; have HBX := Lib.hid hbx
  obtain ⟨x0, x1, x2, x3⟩ := hbx.cells
  have HL := Lib.hid (large_any6 (HV.out _ hg) hf)
  clear hg hbx hst0 hvv hf
  go_enter Tryz.func4, Tryz.ntmps4
  go_wp2_with fail
  refine HL.out.mono ?_
  rintro e w1 ⟨rfl, hg1⟩
  generalize hW : w.alloc (.cells #[.int .i64 m.kind, .int .i64 m.start, .string m.lead, u] 24) = W at *
  clear hW x0 x1 x2 x3
  have HG1 := Lib.hid (grown_trans HG.out hg1)
  have HB1 := Lib.hid (BoxAt.grown HBX.out hg1)
  clear hg1
  cases hB : smallB m
  · clear hB
    go_wp2_with fail
    refine (awake_any _).mono ?_
    rintro e w2 ⟨rfl, hg2⟩
    have HG2 := Lib.hid (grown_trans HG1.out hg2)
    clear hg2
    go_wp2
    go_ret
    exact ⟨rfl, HG2.out⟩
  · clear hB
    obtain ⟨x0, x1, x2, x3⟩ := BoxAt.cells HB1.out
    go_upto_region 3 with (fail)
    have s0a : w1.drew.cell? ⟨w.heap.size, 0, none⟩ = some (.int .i64 m.kind) := x0
    have s0b : w1.drew.cell? ⟨w.heap.size, 1, none⟩ = some (.int .i64 m.start) := x1
    have s0c : w1.drew.cell? ⟨w.heap.size, 2, none⟩ = some (.string m.lead) := x2
    have s0d : w1.drew.cell? ⟨w.heap.size, 3, none⟩ = some u := x3
    have G0 := grown_trans HG1.out (grown_drew w1 none)
    go_region_held3 (fun W' => W'.cell? ⟨w.heap.size, 0, none⟩ = some (.int .i64 m.kind) ∧ W'.cell? ⟨w.heap.size, 1, none⟩ = some (.int .i64 m.start) ∧ W'.cell? ⟨w.heap.size, 2, none⟩ = some (.string m.lead) ∧ W'.cell? ⟨w.heap.size, 3, none⟩ = some u) (go_keep)
      (first
      | (go_at_call 15; refine (pvalid_any (HV.out _ G0) HF.out).mono ?_; rintro e wv1 ⟨rfl, hg⟩; have G1 := grown_trans G0 hg; have s1a := hg.cell s0a (by simp); have s1b := hg.cell s0b (by simp); have s1c := hg.cell s0c (by simp); have s1d := hg.cell s0d (by simp); clear hg)
      | (go_at_call 23; refine (rvalid6_any (HV.out _ G1) HF.out).mono ?_; rintro e wv2 ⟨rfl, hg⟩; have G2 := grown_trans G1 hg; have s2a := hg.cell s1a (by simp); have s2b := hg.cell s1b (by simp); have s2c := hg.cell s1c (by simp); have s2d := hg.cell s1d (by simp); clear hg)
      | (go_at_call 16; refine (acceptor_any (HV.out _ G2) HF.out).mono ?_; rintro e wv3 ⟨rfl, hg⟩; have G3 := grown_trans G2 hg; have s3a := hg.cell s2a (by simp); have s3b := hg.cell s2b (by simp); have s3c := hg.cell s2c (by simp); have s3d := hg.cell s2d (by simp); clear hg)
      | (go_at_call 24; refine (racceptor_any (HV.out _ G3) HF.out).mono ?_; rintro e wv4 ⟨rfl, hg⟩; have G4 := grown_trans G3 hg; have s4a := hg.cell s3a (by simp); have s4b := hg.cell s3b (by simp); have s4c := hg.cell s3c (by simp); have s4d := hg.cell s3d (by simp); clear hg)
      | (go_at_call 17; refine (quiet_any (HV.out _ G4) HF.out).mono ?_; rintro e wv5 ⟨rfl, hg⟩; have G5 := grown_trans G4 hg; have s5a := hg.cell s4a (by simp); have s5b := hg.cell s4b (by simp); have s5c := hg.cell s4c (by simp); have s5d := hg.cell s4d (by simp); clear hg)
      | (go_at_call 25; refine (rquiet6_any (HV.out _ G5) HF.out).mono ?_; rintro e wv6 ⟨rfl, hg⟩; have G6 := grown_trans G5 hg; have s6a := hg.cell s5a (by simp); have s6b := hg.cell s5b (by simp); have s6c := hg.cell s5c (by simp); have s6d := hg.cell s5d (by simp); clear hg)
      | (go_at_call 18; refine (deterministic_any (HV.out _ G6) HF.out).mono ?_; rintro e wv7 ⟨rfl, hg⟩; have G7 := grown_trans G6 hg; have s7a := hg.cell s6a (by simp); have s7b := hg.cell s6b (by simp); have s7c := hg.cell s6c (by simp); have s7d := hg.cell s6d (by simp); clear hg)
      | (go_at_call 26; refine (rdet_any (HV.out _ G7) HF.out).mono ?_; rintro e wv8 ⟨rfl, hg⟩; have G8 := grown_trans G7 hg; have s8a := hg.cell s7a (by simp); have s8b := hg.cell s7b (by simp); have s8c := hg.cell s7c (by simp); have s8d := hg.cell s7d (by simp); clear hg)
      | (go_at_call 19; refine (empty_any (HV.out _ G8) HF.out).mono ?_; rintro e wv9 ⟨rfl, hg⟩; have G9 := grown_trans G8 hg; have s9a := hg.cell s8a (by simp); have s9b := hg.cell s8b (by simp); have s9c := hg.cell s8c (by simp); have s9d := hg.cell s8d (by simp); clear hg)
      | (go_at_call 27; refine (rempty_any (HV.out _ G9) HF.out).mono ?_; rintro e wv10 ⟨rfl, hg⟩; have G10 := grown_trans G9 hg; have s10a := hg.cell s9a (by simp); have s10b := hg.cell s9b (by simp); have s10c := hg.cell s9c (by simp); have s10d := hg.cell s9d (by simp); clear hg)
      | (go_at_call 20; refine (sigma_any (HV.out _ G10) HF.out).mono ?_; rintro e wv11 ⟨rfl, hg⟩; have G11 := grown_trans G10 hg; have s11a := hg.cell s10a (by simp); have s11b := hg.cell s10b (by simp); have s11c := hg.cell s10c (by simp); have s11d := hg.cell s10d (by simp); clear hg)
      | (go_at_call 28; refine (rsigma_any (HV.out _ G11) HF.out).mono ?_; rintro e wv12 ⟨rfl, hg⟩; have G12 := grown_trans G11 hg; have s12a := hg.cell s11a (by simp); have s12b := hg.cell s11b (by simp); have s12c := hg.cell s11c (by simp); have s12d := hg.cell s11d (by simp); clear hg)
      | (go_at_call 21; refine (awake_any _).mono ?_; rintro e wv13 ⟨rfl, hg⟩; have G13 := grown_trans G12 hg; have s13a := hg.cell s12a (by simp); have s13b := hg.cell s12b (by simp); have s13c := hg.cell s12c (by simp); have s13d := hg.cell s12d (by simp); have HG9 := Lib.hid G13))
    all_goals
      go_wp2_with (fail)
      go_ret
      exact ⟨rfl, HG9.out⟩
end Go.Proofs.YtbmonhnojkiapaaGreatDoor
