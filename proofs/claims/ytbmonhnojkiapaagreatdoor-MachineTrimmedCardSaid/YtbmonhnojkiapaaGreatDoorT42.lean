/- MachineTrimmed, walked. -/
import Derived.Test.YtbmonhnojkiapaaGreatDoorT35
import Derived.Test.YtbmonhnojkiapaaGreatDoorT36
import Derived.Test.YtbmonhnojkiapaaGreatDoorT31
set_option linter.unusedVariables false
set_option linter.unusedSimpArgs false
namespace Go.Proofs.YtbmonhnojkiapaaGreatDoor
open Go.RowKit

theorem rat_size6 {a : ByteArray} {x : Rat} (h : IsRat a x) : a.size ≤ 802 := by
  have h1 := h.short
  unfold Short at h1
  rw [h.eq]
  show (ratL x).toArray.size ≤ 802
  unfold ratL
  rw [List.size_toArray]
  have e1 : (if x.num < 0 then [45] else [] : List UInt8).length ≤ 1 := by split <;> simp
  have e2 := Lib.decDigits_length x.num.natAbs
  have e3 : (if x.den = 1 then [] else 47 :: Lib.decDigits x.den : List UInt8).length ≤ 401 := by
    split
    · simp
    · rw [List.length_cons, Lib.decDigits_length]; omega
  rw [List.length_append, List.length_append, e2]
  omega
theorem wgt_size {k : Int} {a : ByteArray} (h : wgtB k a = true) : a.size ≤ 802 := by
  obtain ⟨v, hv⟩ := wgtB_val h
  match v, hv with
  | .inl b, hv => exact absurd hv.has (by simp [wgtE])
  | .inr x, hv => exact rat_size6 hv.e
theorem valid_fits {m : Mach} (h : validB m = true) : Fits m := by
  have hp := head_parts (valid_head h)
  have hM : (802 : Nat) ≤ maxLen := by unfold maxLen; omega
  refine ⟨by omega, Nat.le_trans (wgt_size hp.2.2.2.2.2) hM, fun s hs => ?_, fun s hs => by have := valid_row h hs; omega, fun s hs a ha => ?_⟩
  · have := (valid_state h hs).1
    unfold finB at this
    rw [Bool.or_eq_true] at this
    rcases this with e | e
    · rw [decide_eq_true_iff] at e; omega
    · exact Nat.le_trans (wgt_size e) hM
  · exact Nat.le_trans (wgt_size (arc_parts ((valid_state h hs).2 a ha)).2.2.2.2.2.2) hM
/-- Two copies that lie apart. -/
structure Twin (w wx : World) (ga gb Ba Ea Bb Eb : Nat) (ua ub : Value) (ma mb : Mach) : Prop where
  ba : BoxAt wx ga ma ua
  bb : BoxAt wx gb mb ub
  sa : StOwn wx Ba (fun b => Ba ≤ b ∧ b < Ea) ua ma.states
  sb : StOwn wx Bb (fun b => Bb ≤ b ∧ b < Eb) ub mb.states
  oa : ∀ b, ua.ownBlock = some b → Ba ≤ b ∧ b < Ea
  ob : ∀ b, ub.ownBlock = some b → Bb ≤ b ∧ b < Eb
  ab : Ea ≤ Bb
  g1 : ga < Ba ∨ Ea ≤ ga
  g2 : ga < Bb ∨ Eb ≤ ga
  g3 : gb < Ba ∨ Ea ≤ gb
  g4 : gb < Bb ∨ Eb ≤ gb
  gg : ga ≠ gb
  la : w.heap.size ≤ ga
  lb : w.heap.size ≤ gb
  lB : w.heap.size ≤ Ba
  gr : w.grownBy wx none
theorem Twin.fin {w wx : World} {ga gb Ba Ea Bb Eb ra cap k n : Nat} {ub : Value} {ma mb : Mach} {s : MState} (h : Twin w wx ga gb Ba Ea Bb Eb (.slice (some ⟨ra, 0, none⟩) n cap) ub ma mb) (hn : ma.states.length = n) (hs : ma.states[k]? = some s) (f : ByteArray) :
    Twin w (wx.setCell ⟨ra, k * 2, none⟩ (.string f)) ga gb Ba Ea Bb Eb (.slice (some ⟨ra, 0, none⟩) n cap) ub { ma with states := ma.states.set k ⟨f, s.arcs⟩ } mb := by
  subst hn
  have gs := grown_setCell wx ⟨ra, k * 2, none⟩ (.string f)
  have hra := h.oa ra rfl
  have h1 := h.ab; have h2 := h.g1; have h3 := h.g3; have h4 := h.lB
  have hset := h.sa.set_fin (f := f) hs
  rw [List.length_set] at hset
  exact ⟨(gs.block ga h.ba.lt (by simp; omega)).trans h.ba, (gs.block gb h.bb.lt (by simp; omega)).trans h.bb, hset,
    h.sb.other gs (fun e => by have := h.ob ra e; omega) (fun e => by have : Bb ≤ ra := e.1; omega), h.oa, h.ob, h.ab, h.g1, h.g2, h.g3, h.g4, h.gg, h.la, h.lb, h.lB, grown_step (g := ra) h.gr gs (by omega)⟩
theorem Twin.begin {w wx : World} {ga gb Ba Ea Bb Eb : Nat} {ua ub : Value} {ma mb : Mach} (h : Twin w wx ga gb Ba Ea Bb Eb ua ub ma mb) (s : Int) :
    Twin w (wx.setCell ⟨gb, 1, none⟩ (.int .i64 s)) ga gb Ba Ea Bb Eb ua ub ma { mb with start := s } := by
  have gs := grown_setCell wx ⟨gb, 1, none⟩ (.int .i64 s)
  have h1 := h.ab; have h2 := h.g3; have h3 := h.g4; have h4 := h.gg; have h5 := h.lb
  have hb : BoxAt (wx.setCell ⟨gb, 1, none⟩ (.int .i64 s)) gb { mb with start := s } ub := by
    have := heap_setCell_same wx gb 1 _ _ (.int .i64 s) h.bb
    unfold BoxAt
    rw [this]
    rfl
  exact ⟨(gs.block ga h.ba.lt (by simpa using h4)).trans h.ba, hb, h.sa.other gs (fun e => by have := h.oa gb e; omega) (fun e => by have : Ba ≤ gb ∧ gb < Ea := e; omega),
    h.sb.other gs (fun e => by have := h.ob gb e; omega) (fun e => by have : Bb ≤ gb ∧ gb < Eb := e; omega), h.oa, h.ob, h.ab, h.g1, h.g2, h.g3, h.g4, h.gg, h.la, h.lb, h.lB, grown_step (g := gb) h.gr gs (by omega)⟩
/-- Both boxes are filled. -/
theorem twin_fill {w W : World} {t : Mach} {ga gb Ba Ea Bb Eb cA cB : Nat} {A B : Option Addr} (G : w.grownBy W none) (hA : BoxAt W ga mach0 (.slice none 0 0)) (hB : BoxAt W gb mach0 (.slice none 0 0))
    (sA : StOwn W Ba (fun b => Ba ≤ b ∧ b < Ea) (.slice A t.states.length cA) t.states) (sB : StOwn W Bb (fun b => Bb ≤ b ∧ b < Eb) (.slice B t.states.length cB) t.states)
    (oA : ∀ b, (Value.slice A t.states.length cA).ownBlock = some b → Ba ≤ b ∧ b < Ea) (oB : ∀ b, (Value.slice B t.states.length cB).ownBlock = some b → Bb ≤ b ∧ b < Eb)
    (ab : Ea ≤ Bb) (g1 : ga < Ba ∨ Ea ≤ ga) (g2 : ga < Bb ∨ Eb ≤ ga) (g3 : gb < Ba ∨ Ea ≤ gb) (g4 : gb < Bb ∨ Eb ≤ gb) (gg : ga ≠ gb) (la : w.heap.size ≤ ga) (lb : w.heap.size ≤ gb) (lB : w.heap.size ≤ Ba) :
    Twin w ((((((((W.setCell ⟨ga, 0, none⟩ (.int .i64 t.kind)).setCell ⟨ga, 1, none⟩ (.int .i64 t.start)).setCell ⟨ga, 2, none⟩ (.string t.lead)).setCell ⟨ga, 3, none⟩ (.slice A t.states.length cA)).setCell ⟨gb, 0, none⟩ (.int .i64 t.kind)).setCell ⟨gb, 1, none⟩ (.int .i64 t.start)).setCell ⟨gb, 2, none⟩ (.string t.lead)).setCell ⟨gb, 3, none⟩ (.slice B t.states.length cB)) ga gb Ba Ea Bb Eb (.slice A t.states.length cA) (.slice B t.states.length cB) t t := by
  obtain ⟨f1, h1⟩ := box_fill (n := t) (v := .slice A t.states.length cA) hA
  have hB1 : BoxAt _ gb mach0 (.slice none 0 0) := (h1.block gb hB.lt (by simpa using Ne.symm gg)).trans hB
  obtain ⟨f2, h2⟩ := box_fill (n := t) (v := .slice B t.states.length cB) hB1
  exact ⟨(h2.block ga f1.lt (by simpa using gg)).trans f1, f2,
    (sA.other h1 (fun e => by have := oA ga e; omega) (fun e => by have : Ba ≤ ga ∧ ga < Ea := e; omega)).other h2 (fun e => by have := oA gb e; omega) (fun e => by have : Ba ≤ gb ∧ gb < Ea := e; omega),
    (sB.other h1 (fun e => by have := oB ga e; omega) (fun e => by have : Bb ≤ ga ∧ ga < Eb := e; omega)).other h2 (fun e => by have := oB gb e; omega) (fun e => by have : Bb ≤ gb ∧ gb < Eb := e; omega),
    oA, oB, ab, g1, g2, g3, g4, gg, la, lb, lB, grown_step (g := gb) (grown_step (g := ga) G h1 la) h2 lb⟩
theorem StOwn.bounded {w : World} {B : Nat} {u : Value} {l : List MState} (h : StOwn w B (fun b => B ≤ b) u l) : StOwn w B (fun b => B ≤ b ∧ b < w.heap.size) u l ∧ ∀ b, u.ownBlock = some b → B ≤ b ∧ b < w.heap.size := by
  obtain ⟨us, hl, ho, ha⟩ := h
  refine ⟨⟨us, hl, ho, fun k s x hs hx => ⟨(ha k s x hs hx).1, fun h0 b hb => ⟨(ha k s x hs hx).2 h0 b hb, ?_⟩⟩⟩, fun b hb => ho.lt b hb⟩
  obtain ⟨b', hb', hlt⟩ := (ha k s x hs hx).1.1.block h0
  rw [hb'] at hb; cases hb; exact hlt
theorem trimV_of {m : Mach} (h : validB m = true) : trimV m = (trimM m, 0) := by unfold trimV; rw [if_pos h]
theorem canonV_of {m : Mach} (h : validB m = true) : canonV m = (canonM m, 0) := by unfold canonV; rw [if_pos h]
set_option maxRecDepth 20000 in
set_option maxHeartbeats 16000000 in
theorem trimmed_walk {w : World} {v : Value} {m : Mach} (hv : MachV w v m) (hf : Fits m) : Calls Tryz.prog 6 #[v] w (ValPost (.bool true) w) := by
  have hvv := fun w' (h : w.grownBy w' none) => hv.grown h
  have HV := Lib.hid hvv
  have HF := Lib.hid hf
  obtain ⟨u, rfl, hst0⟩ := hv
  have hg : w.grownBy (w.alloc (.cells #[.int .i64 m.kind, .int .i64 m.start, .string m.lead, u] 24)) none := World.grownBy_alloc _ _ _
  have hbx := BoxAt.new w m u
  have HG := Lib.hid hg; have HBm := Lib.hid hbx
  obtain ⟨x0, x1, x2, x3⟩ := hbx.cells
  have HL := Lib.hid (large_any6 (HV.out _ hg) hf)
  clear hg hbx hst0 hvv hf
  go_enter Tryz.func6, Tryz.ntmps6
  go_wp2_with fail
  refine HL.out.mono ?_
  rintro e w1 ⟨rfl, hg1⟩
  generalize hW : w.alloc (.cells #[.int .i64 m.kind, .int .i64 m.start, .string m.lead, u] 24) = W at *
  clear hW x0 x1 x2 x3 HL
  have HG1 := Lib.hid (grown_trans HG.out hg1)
  have HBm := Lib.hid (BoxAt.grown HBm.out hg1)
  clear hg1 HG
  obtain ⟨x0, x1, x2, x3⟩ := BoxAt.cells HBm.out
  cases hB : smallB m
  · clear hB
    go_wp2_with fail
    refine (awake_any _).mono ?_
    rintro e w2 ⟨rfl, hg2⟩
    have HG2 := Lib.hid (grown_trans HG1.out hg2)
    clear hg2
    go_wp2
    go_ret
    exact ⟨rfl, HG2.out⟩
  clear hB
  go_wp2_with fail
  refine (pvalid_any (HV.out _ HG1.out) HF.out).mono ?_
  rintro e w2 ⟨rfl, hg2⟩
  have HG2 := Lib.hid (grown_trans HG1.out hg2)
  have HBm := Lib.hid (BoxAt.grown HBm.out hg2)
  clear hg2 x0 x1 x2 x3 HG1
  obtain ⟨x0, x1, x2, x3⟩ := BoxAt.cells HBm.out
  cases hB : validB m
  · clear hB
    go_wp2_with fail
    refine (awake_any _).mono ?_
    rintro e w3 ⟨rfl, hg3⟩
    have HG3 := Lib.hid (grown_trans HG2.out hg3)
    clear hg3
    go_wp2
    go_ret
    exact ⟨rfl, HG3.out⟩
  obtain ⟨t, ht⟩ : ∃ t, t = trimM m := ⟨_, rfl⟩
  obtain ⟨c, hc⟩ : ∃ c, c = canonM m := ⟨_, rfl⟩
  have htv : validB t = true := by rw [ht]; exact trim_valid hB
  have hcv : validB c = true := by rw [hc]; exact canon_valid hB
  have T1 := Lib.hid (show trimV m = (t, 0) by rw [trimV_of hB, ht])
  have T2 := Lib.hid (show trimV t = (t, 0) by rw [trimV_of htv, ht, trimM_again hB])
  have C1 := Lib.hid (show canonV m = (c, 0) by rw [canonV_of hB, hc])
  have C2 := Lib.hid (show canonV c = (c, 0) by rw [canonV_of hcv, hc, canonM_again hB])
  have C3 := Lib.hid (show canonV t = (c, 0) by rw [canonV_of htv, ht, canonM_trim hB, hc])
  have hlen : c.states.length = t.states.length := by rw [hc, ht]; exact canonM_len hB
  have HLEN := Lib.hid hlen
  have HEM := Lib.hid (show emptyB m = true → t = noneM m.kind by
    intro h
    unfold emptyB at h
    rw [hB] at h
    simp only [Bool.true_and, decide_eq_true_eq] at h
    rw [ht, trimM_nil h])
  have HAU := Lib.hid (show emptyB m = false → AllUse t by
    intro h
    unfold emptyB at h
    rw [hB] at h
    simp only [Bool.true_and, decide_eq_false_iff_not] at h
    rw [ht]
    exact trimM_all hB h)
  have HTV := Lib.hid htv; have HCV := Lib.hid hcv; have HMV := Lib.hid hB
  clear ht hc htv hcv hlen hB
  have hC := ptrim_any (HV.out _ HG2.out) (HF.out)
  rw [T1.out] at hC
  have HC := Lib.hid hC
  clear hC
  go_wp2_with fail
  refine HC.out.mono ?_
  intro e w3 h3
  obtain ⟨At, kt, rfl, hst3, hg3⟩ := h3.open6
  have hga := World.grownBy_alloc w3 (.cells #[.int .i64 t.kind, .int .i64 t.start, .string t.lead, .slice At t.states.length kt] 24) none
  have hgg := grown_trans hg3 hga
  have HG4 := Lib.hid (grown_trans HG2.out hgg)
  have HBm := Lib.hid (BoxAt.grown HBm.out hgg)
  have HBt := Lib.hid (BoxAt.new w3 t (.slice At t.states.length kt))
  have HSt := Lib.hid ((hst3.kept (kept_grown hga _)).sl)
  clear h3 hst3 hg3 hga hgg HC x0 x1 x2 x3
  go_upto_region 4 with (fail)
  generalize w3.alloc (.cells #[.int .i64 t.kind, .int .i64 t.start, .string t.lead, .slice At t.states.length kt] 24) = w4 at *
  obtain ⟨x0, x1, x2, x3⟩ := BoxAt.cells HBt.out
  have hC := ptrim_any (MachV.fill HSt.out) (valid_fits HTV.out)
  rw [T2.out] at hC
  have HC := Lib.hid hC
  clear hC
  go_wp2_with fail
  refine HC.out.mono ?_
  intro e w5 h3
  obtain ⟨Au, ku, rfl, hst3, hg3⟩ := h3.open6
  have hga := World.grownBy_alloc w5 (.cells #[.int .i64 t.kind, .int .i64 t.start, .string t.lead, .slice Au t.states.length ku] 24) none
  have hgg := grown_trans hg3 hga
  have HG6 := Lib.hid (grown_trans HG4.out hgg)
  have HBm := Lib.hid (BoxAt.grown HBm.out hgg)
  have HBt := Lib.hid (BoxAt.grown HBt.out hgg); have HSt := Lib.hid (HSt.out.grown hgg)
  have HBu := Lib.hid (BoxAt.new w5 t (.slice Au t.states.length ku))
  have HSu := Lib.hid ((hst3.kept (kept_grown hga _)).sl)
  clear h3 hst3 hg3 hga hgg HC x0 x1 x2 x3
  go_upto_region 5 with (fail)
  generalize w5.alloc (.cells #[.int .i64 t.kind, .int .i64 t.start, .string t.lead, .slice Au t.states.length ku] 24) = w6 at *
  obtain ⟨x0, x1, x2, x3⟩ := BoxAt.cells HBm.out
  have hC := pcanon_any (HV.out _ HG6.out) (HF.out)
  rw [C1.out] at hC
  have HC := Lib.hid hC
  clear hC
  go_wp2_with fail
  refine HC.out.mono ?_
  intro e w7 h3
  obtain ⟨Ac, kc, rfl, hst3, hg3⟩ := h3.open6
  have hga := World.grownBy_alloc w7 (.cells #[.int .i64 c.kind, .int .i64 c.start, .string c.lead, .slice Ac c.states.length kc] 24) none
  have hgg := grown_trans hg3 hga
  have HG8 := Lib.hid (grown_trans HG6.out hgg)
  have HBm := Lib.hid (BoxAt.grown HBm.out hgg)
  have HBt := Lib.hid (BoxAt.grown HBt.out hgg); have HSt := Lib.hid (HSt.out.grown hgg)
  have HBu := Lib.hid (BoxAt.grown HBu.out hgg); have HSu := Lib.hid (HSu.out.grown hgg)
  have HBc := Lib.hid (BoxAt.new w7 c (.slice Ac c.states.length kc))
  have HSc := Lib.hid ((hst3.kept (kept_grown hga _)).sl)
  clear h3 hst3 hg3 hga hgg HC x0 x1 x2 x3
  go_upto_region 6 with (fail)
  generalize w7.alloc (.cells #[.int .i64 c.kind, .int .i64 c.start, .string c.lead, .slice Ac c.states.length kc] 24) = w8 at *
  obtain ⟨x0, x1, x2, x3⟩ := BoxAt.cells HBc.out
  have hC := pcanon_any (MachV.fill HSc.out) (valid_fits HCV.out)
  rw [C2.out] at hC
  have HC := Lib.hid hC
  clear hC
  go_wp2_with fail
  refine HC.out.mono ?_
  intro e w9 h3
  obtain ⟨Ad, kd, rfl, hst3, hg3⟩ := h3.open6
  have hga := World.grownBy_alloc w9 (.cells #[.int .i64 c.kind, .int .i64 c.start, .string c.lead, .slice Ad c.states.length kd] 24) none
  have hgg := grown_trans hg3 hga
  have HG10 := Lib.hid (grown_trans HG8.out hgg)
  have HBm := Lib.hid (BoxAt.grown HBm.out hgg)
  have HBt := Lib.hid (BoxAt.grown HBt.out hgg); have HSt := Lib.hid (HSt.out.grown hgg)
  have HBu := Lib.hid (BoxAt.grown HBu.out hgg); have HSu := Lib.hid (HSu.out.grown hgg)
  have HBc := Lib.hid (BoxAt.grown HBc.out hgg); have HSc := Lib.hid (HSc.out.grown hgg)
  have HBd := Lib.hid (BoxAt.new w9 c (.slice Ad c.states.length kd))
  have HSd := Lib.hid ((hst3.kept (kept_grown hga _)).sl)
  clear h3 hst3 hg3 hga hgg HC x0 x1 x2 x3
  go_upto_region 7 with (fail)
  generalize w9.alloc (.cells #[.int .i64 c.kind, .int .i64 c.start, .string c.lead, .slice Ad c.states.length kd] 24) = w10 at *
  obtain ⟨x0, x1, x2, x3⟩ := BoxAt.cells HBt.out
  have hC := pcanon_any (MachV.fill HSt.out) (valid_fits HTV.out)
  rw [C3.out] at hC
  have HC := Lib.hid hC
  clear hC
  go_wp2_with fail
  refine HC.out.mono ?_
  intro e w11 h3
  obtain ⟨Ak, kk, rfl, hst3, hg3⟩ := h3.open6
  have hga := World.grownBy_alloc w11 (.cells #[.int .i64 c.kind, .int .i64 c.start, .string c.lead, .slice Ak c.states.length kk] 24) none
  have hgg := grown_trans hg3 hga
  have HG12 := Lib.hid (grown_trans HG10.out hgg)
  have HBm := Lib.hid (BoxAt.grown HBm.out hgg)
  have HBt := Lib.hid (BoxAt.grown HBt.out hgg); have HSt := Lib.hid (HSt.out.grown hgg)
  have HBu := Lib.hid (BoxAt.grown HBu.out hgg); have HSu := Lib.hid (HSu.out.grown hgg)
  have HBc := Lib.hid (BoxAt.grown HBc.out hgg); have HSc := Lib.hid (HSc.out.grown hgg)
  have HBd := Lib.hid (BoxAt.grown HBd.out hgg); have HSd := Lib.hid (HSd.out.grown hgg)
  have HBk := Lib.hid (BoxAt.new w11 c (.slice Ak c.states.length kk))
  have HSk := Lib.hid ((hst3.kept (kept_grown hga _)).sl)
  clear h3 hst3 hg3 hga hgg HC x0 x1 x2 x3
  go_upto_region 8 with (fail)
  generalize w11.alloc (.cells #[.int .i64 c.kind, .int .i64 c.start, .string c.lead, .slice Ak c.states.length kk] 24) = w12 at *
  obtain ⟨x0, x1, x2, x3⟩ := BoxAt.cells HBt.out
  have hC := pvalid_any (MachV.fill (t := t) (A := At) (c := kt) HSt.out) (valid_fits HTV.out)
  rw [HTV.out] at hC
  have HC := Lib.hid hC
  clear hC
  go_wp2_with fail
  refine HC.out.mono ?_
  rintro e w13 ⟨rfl, hgg⟩
  have HG13 := Lib.hid (grown_trans HG12.out hgg)
  have HBm := Lib.hid (BoxAt.grown HBm.out hgg)
  have HBt := Lib.hid (BoxAt.grown HBt.out hgg); have HSt := Lib.hid (HSt.out.grown hgg)
  have HBu := Lib.hid (BoxAt.grown HBu.out hgg); have HSu := Lib.hid (HSu.out.grown hgg)
  have HBc := Lib.hid (BoxAt.grown HBc.out hgg); have HSc := Lib.hid (HSc.out.grown hgg)
  have HBd := Lib.hid (BoxAt.grown HBd.out hgg); have HSd := Lib.hid (HSd.out.grown hgg)
  have HBk := Lib.hid (BoxAt.grown HBk.out hgg); have HSk := Lib.hid (HSk.out.grown hgg)
  clear hgg HC x0 x1 x2 x3
  obtain ⟨x0, x1, x2, x3⟩ := BoxAt.cells HBc.out
  have hC := pvalid_any (MachV.fill (t := c) (A := Ac) (c := kc) HSc.out) (valid_fits HCV.out)
  rw [HCV.out] at hC
  have HC := Lib.hid hC
  clear hC
  go_wp2_with fail
  refine HC.out.mono ?_
  rintro e w14 ⟨rfl, hgg⟩
  have HG14 := Lib.hid (grown_trans HG13.out hgg)
  have HBm := Lib.hid (BoxAt.grown HBm.out hgg)
  have HBt := Lib.hid (BoxAt.grown HBt.out hgg); have HSt := Lib.hid (HSt.out.grown hgg)
  have HBu := Lib.hid (BoxAt.grown HBu.out hgg); have HSu := Lib.hid (HSu.out.grown hgg)
  have HBc := Lib.hid (BoxAt.grown HBc.out hgg); have HSc := Lib.hid (HSc.out.grown hgg)
  have HBd := Lib.hid (BoxAt.grown HBd.out hgg); have HSd := Lib.hid (HSd.out.grown hgg)
  have HBk := Lib.hid (BoxAt.grown HBk.out hgg); have HSk := Lib.hid (HSk.out.grown hgg)
  clear hgg HC x0 x1 x2 x3
  obtain ⟨x0, x1, x2, x3⟩ := BoxAt.cells HBt.out
  obtain ⟨y0, y1, y2, y3⟩ := BoxAt.cells HBu.out
  have hn1 : t.states.length ≤ 140737488355328 := (valid_fits HTV.out).n
  have hn2 := (valid_fits HTV.out).arcs
  have HN1 := Lib.hid hn1; have HN2 := Lib.hid hn2
  have hn3 : c.states.length ≤ 140737488355328 := (valid_fits HCV.out).n
  have hn4 := (valid_fits HCV.out).arcs
  have HN3 := Lib.hid hn3; have HN4 := Lib.hid hn4
  clear hn1 hn2 hn3 hn4
  have hC := same_any (MachV.fill (t := t) (A := At) (c := kt) HSt.out) (MachV.fill (t := t) (A := Au) (c := ku) HSu.out) HN1.out HN2.out
  rw [show decide (t = t) = true by simp] at hC
  have HC := Lib.hid hC
  clear hC
  go_wp2_with fail
  refine HC.out.mono ?_
  rintro e w15 ⟨rfl, hgg⟩
  have HG15 := Lib.hid (grown_trans HG14.out hgg)
  have HBm := Lib.hid (BoxAt.grown HBm.out hgg)
  have HBt := Lib.hid (BoxAt.grown HBt.out hgg); have HSt := Lib.hid (HSt.out.grown hgg)
  have HBu := Lib.hid (BoxAt.grown HBu.out hgg); have HSu := Lib.hid (HSu.out.grown hgg)
  have HBc := Lib.hid (BoxAt.grown HBc.out hgg); have HSc := Lib.hid (HSc.out.grown hgg)
  have HBd := Lib.hid (BoxAt.grown HBd.out hgg); have HSd := Lib.hid (HSd.out.grown hgg)
  have HBk := Lib.hid (BoxAt.grown HBk.out hgg); have HSk := Lib.hid (HSk.out.grown hgg)
  clear hgg HC x0 x1 x2 x3 y0 y1 y2 y3
  obtain ⟨x0, x1, x2, x3⟩ := BoxAt.cells HBc.out
  obtain ⟨y0, y1, y2, y3⟩ := BoxAt.cells HBd.out
  have hC := same_any (MachV.fill (t := c) (A := Ac) (c := kc) HSc.out) (MachV.fill (t := c) (A := Ad) (c := kd) HSd.out) HN3.out HN4.out
  rw [show decide (c = c) = true by simp] at hC
  have HC := Lib.hid hC
  clear hC
  go_wp2_with fail
  refine HC.out.mono ?_
  rintro e w16 ⟨rfl, hgg⟩
  have HG16 := Lib.hid (grown_trans HG15.out hgg)
  have HBm := Lib.hid (BoxAt.grown HBm.out hgg)
  have HBt := Lib.hid (BoxAt.grown HBt.out hgg); have HSt := Lib.hid (HSt.out.grown hgg)
  have HBu := Lib.hid (BoxAt.grown HBu.out hgg); have HSu := Lib.hid (HSu.out.grown hgg)
  have HBc := Lib.hid (BoxAt.grown HBc.out hgg); have HSc := Lib.hid (HSc.out.grown hgg)
  have HBd := Lib.hid (BoxAt.grown HBd.out hgg); have HSd := Lib.hid (HSd.out.grown hgg)
  have HBk := Lib.hid (BoxAt.grown HBk.out hgg); have HSk := Lib.hid (HSk.out.grown hgg)
  clear hgg HC x0 x1 x2 x3 y0 y1 y2 y3
  obtain ⟨x0, x1, x2, x3⟩ := BoxAt.cells HBc.out
  obtain ⟨y0, y1, y2, y3⟩ := BoxAt.cells HBk.out
  have hC := same_any (MachV.fill (t := c) (A := Ac) (c := kc) HSc.out) (MachV.fill (t := c) (A := Ak) (c := kk) HSk.out) HN3.out HN4.out
  rw [show decide (c = c) = true by simp] at hC
  have HC := Lib.hid hC
  clear hC
  go_wp2_with fail
  refine HC.out.mono ?_
  rintro e w17 ⟨rfl, hgg⟩
  have HG17 := Lib.hid (grown_trans HG16.out hgg)
  have HBm := Lib.hid (BoxAt.grown HBm.out hgg)
  have HBt := Lib.hid (BoxAt.grown HBt.out hgg); have HSt := Lib.hid (HSt.out.grown hgg)
  have HBu := Lib.hid (BoxAt.grown HBu.out hgg); have HSu := Lib.hid (HSu.out.grown hgg)
  have HBc := Lib.hid (BoxAt.grown HBc.out hgg); have HSc := Lib.hid (HSc.out.grown hgg)
  have HBd := Lib.hid (BoxAt.grown HBd.out hgg); have HSd := Lib.hid (HSd.out.grown hgg)
  have HBk := Lib.hid (BoxAt.grown HBk.out hgg); have HSk := Lib.hid (HSk.out.grown hgg)
  clear hgg HC x0 x1 x2 x3 y0 y1 y2 y3
  obtain ⟨x0, x1, x2, x3⟩ := BoxAt.cells HBc.out
  obtain ⟨y0, y1, y2, y3⟩ := BoxAt.cells HBt.out
  obtain ⟨z0, z1, z2, z3⟩ := BoxAt.cells HBm.out
  have hl : (((c.states.length : Nat) : Int) != ((t.states.length : Nat) : Int)) = false := by rw [HLEN.out]; simp
  have hl2 : (((c.states.length : Nat) : Int) == ((t.states.length : Nat) : Int)) = true := by rw [HLEN.out]; simp
  have hC := empty_any (HV.out _ HG17.out) HF.out
  have HC := Lib.hid hC
  clear hC
  go_wp2_with fail
  refine HC.out.mono ?_
  rintro e w18 ⟨rfl, hgg⟩
  have HG18 := Lib.hid (grown_trans HG17.out hgg)
  have HBm := Lib.hid (BoxAt.grown HBm.out hgg)
  have HBt := Lib.hid (BoxAt.grown HBt.out hgg); have HSt := Lib.hid (HSt.out.grown hgg)
  have HBu := Lib.hid (BoxAt.grown HBu.out hgg); have HSu := Lib.hid (HSu.out.grown hgg)
  have HBc := Lib.hid (BoxAt.grown HBc.out hgg); have HSc := Lib.hid (HSc.out.grown hgg)
  have HBd := Lib.hid (BoxAt.grown HBd.out hgg); have HSd := Lib.hid (HSd.out.grown hgg)
  have HBk := Lib.hid (BoxAt.grown HBk.out hgg); have HSk := Lib.hid (HSk.out.grown hgg)
  clear hgg HC x0 x1 x2 x3 y0 y1 y2 y3 z0 z1 z2 z3 hl hl2
  cases hE : emptyB m
  · have HA := Lib.hid (HAU.out hE)
    clear hE
    obtain ⟨x0, x1, x2, x3⟩ := BoxAt.cells HBt.out
    go_wp2_with fail
    go_loopg [15] (t.states.length) (fun g i wr => ∃ s : Nat, i = .int .i64 s ∧ s ≤ t.states.length ∧ t.states.length - s = g ∧ w18.grownBy wr none)
    case atStart => exact ⟨0, rfl, by omega, by omega, World.grownBy.refl _ _⟩
    case round =>
      obtain ⟨s, rfl, hs, hgk, hgr⟩ := hrel
      have HGR := Lib.hid hgr; have HGK := Lib.hid hgk
      have HBt2 := Lib.hid (BoxAt.grown HBt.out hgr); have HSt2 := Lib.hid (HSt.out.grown hgr)
      clear hgr hgk x0 x1 x2 x3
      obtain ⟨x0, x1, x2, x3⟩ := BoxAt.cells HBt2.out
      by_cases hlt : s < t.states.length
      · have n1 : (s : Int) < (t.states.length : Int) := by omega
        have n2 : IntKind.i64.wrap ((s : Int) + 1) = (s : Int) + 1 := by have := valid_len HTV.out; rw [IntKind.wrap_i64]; omega
        have n3 : (0 : Int) ≤ (s : Int) := by omega
        go_upto_region 16 with (fail)
        have HL3 := Lib.hid (valid_len HTV.out); have HL4 := Lib.hid (fun s (hs : s ∈ t.states) => valid_row HTV.out hs)
        have hsml := HBt2.out.lt
        go_cut [16, 17] from 125 to 166 (fun pa pb wx => ∃ (ga gb Ba Ea Bb Eb : Nat) (ua ub : Value), pa = .pointer (some ⟨ga, 0, none⟩) ∧ pb = .pointer (some ⟨gb, 0, none⟩) ∧ Twin wr wx ga gb Ba Ea Bb Eb ua ub t t)
        case first =>
          refine wp_region_held_drew (S := (fun W' => W'.cell? ⟨w3.heap.size, 0, none⟩ = some (.int .i64 t.kind) ∧ W'.cell? ⟨w3.heap.size, 1, none⟩ = some (.int .i64 t.start) ∧ W'.cell? ⟨w3.heap.size, 2, none⟩ = some (.string t.lead) ∧ W'.cell? ⟨w3.heap.size, 3, none⟩ = some (.slice At t.states.length kt))) (by kernel_rfl) ⟨x0, x1, x2, x3⟩ (fun hHeld => ?_)
          have GW := Lib.hid (grown_drew wr none)
          have hz0 : wr.heap.size ≤ wr.drew.heap.size := (grown_drew wr none).size
          have s0 := hHeld.1; have s1 := hHeld.2.1; have s2 := hHeld.2.2.1; have s3 := hHeld.2.2.2
          clear x0 x1 x2 x3
          generalize wr.drew = v0 at *
          refine wpAnyH_take (i := 0) (v := .agg #[.int .i64 t.kind, .int .i64 t.start, .string t.lead, .slice At t.states.length kt]) rfl (by kernel_rfl) (by kernel_rfl) (by kernel_rfl) (fun _ _ _ h => h) (Or.inl ⟨by rfl, ?_⟩) hHeld ?_
          · intro W hSw
            (try dsimp only at hSw)
            first | (go_simp; done) | (go_simp; rfl)
          (try simp only [List.getElem_toArray, List.getElem_cons_succ, List.getElem_cons_zero, Act.put, List.setIfInBounds_toArray, List.set_cons_zero, List.set_cons_succ])
          refine wpAnyH_take (i := 2) (v := .agg #[.int .i64 t.kind, .int .i64 t.start, .string t.lead, .slice At t.states.length kt]) rfl (by kernel_rfl) (by kernel_rfl) (by kernel_rfl) (fun _ _ _ h => h) (Or.inl ⟨by rfl, ?_⟩) hHeld ?_
          · intro W hSw
            (try dsimp only at hSw)
            first | (go_simp; done) | (go_simp; rfl)
          (try simp only [List.getElem_toArray, List.getElem_cons_succ, List.getElem_cons_zero, Act.put, List.setIfInBounds_toArray, List.set_cons_zero, List.set_cons_succ])
          refine wpAnyH_ready (rs := [1, 4, 5]) (by kernel_rfl) (by simp) ?_
          refine AllReadyH.cons rfl (fun K hK => ?_) ?_
          · skip
            go_simp
            refine (clone6_any (MachV.fill (HSt2.out.grown GW.out)) HL3.out HL4.out).mono ?_
            rintro e v1 ⟨v, rfl, ⟨u', rfl, hst⟩, hgr⟩
            obtain ⟨AA, cA, _, rfl, _⟩ := hst.sl
            obtain ⟨hst1, hst2⟩ := hst.bounded
            have SA := Lib.hid hst1; have OA := Lib.hid hst2
            have hsz := hgr.size
            clear hst hst1 hst2
            refine hK.out _ _ ⟨hgr.cell s0 (by simp), hgr.cell s1 (by simp), hgr.cell s2 (by simp), hgr.cell s3 (by simp)⟩ (fun hHeld => ?_)
            clear hK K
            (try simp only [List.getElem_toArray, List.getElem_cons_succ, List.getElem_cons_zero, Act.put, List.setIfInBounds_toArray, List.set_cons_zero, List.set_cons_succ])
            have GW := Lib.hid (grown_trans GW.out hgr)
            have s0 := hgr.cell s0 (by simp); have s1 := hgr.cell s1 (by simp); have s2 := hgr.cell s2 (by simp); have s3 := hgr.cell s3 (by simp)
            clear hgr
            have hz1 := hsz
            clear hsz
            refine wpAnyH_ready (rs := [3, 4, 5]) (by kernel_rfl) (by simp) ?_
            refine AllReadyH.cons rfl (fun K hK => ?_) ?_
            · skip
              go_simp
              refine (clone6_any (MachV.fill (HSt2.out.grown GW.out)) HL3.out HL4.out).mono ?_
              rintro e v2 ⟨v, rfl, ⟨u', rfl, hst⟩, hgr⟩
              obtain ⟨AB, cB, _, rfl, _⟩ := hst.sl
              obtain ⟨hst1, hst2⟩ := hst.bounded
              have SB := Lib.hid hst1; have OB := Lib.hid hst2
              have hsz := hgr.size
              clear hst hst1 hst2
              refine hK.out _ _ ⟨hgr.cell s0 (by simp), hgr.cell s1 (by simp), hgr.cell s2 (by simp), hgr.cell s3 (by simp)⟩ (fun hHeld => ?_)
              clear hK K
              (try simp only [List.getElem_toArray, List.getElem_cons_succ, List.getElem_cons_zero, Act.put, List.setIfInBounds_toArray, List.set_cons_zero, List.set_cons_succ])
              have SA := Lib.hid (SA.out.grown hgr)
              have GW := Lib.hid (grown_trans GW.out hgr)
              have s0 := hgr.cell s0 (by simp); have s1 := hgr.cell s1 (by simp); have s2 := hgr.cell s2 (by simp); have s3 := hgr.cell s3 (by simp)
              clear hgr
              have hz2 := hsz
              clear hsz
              refine wpAnyH_ready (rs := [4, 5]) (by kernel_rfl) (by simp) ?_
              refine AllReadyH.cons rfl (fun K hK => ?_) ?_
              · skip
                go_simp
                have hgr := World.grownBy_alloc v2 (.cells #[.int .i64 0, .int .i64 0, .string ⟨#[]⟩, .slice none 0 0] 24) none
                have hbn := BoxAt.new v2 mach0 (.slice none 0 0)
                have hsz : v2.heap.size < (v2.alloc (.cells #[.int .i64 0, .int .i64 0, .string ⟨#[]⟩, .slice none 0 0] 24)).heap.size := by simp
                refine hK.out _ _ ⟨hgr.cell s0 (by simp), hgr.cell s1 (by simp), hgr.cell s2 (by simp), hgr.cell s3 (by simp)⟩ (fun hHeld => ?_)
                clear hK K
                (try simp only [List.getElem_toArray, List.getElem_cons_succ, List.getElem_cons_zero, Act.put, List.setIfInBounds_toArray, List.set_cons_zero, List.set_cons_succ])
                have BA : Hid (BoxAt (v2.alloc (.cells #[.int .i64 0, .int .i64 0, .string ⟨#[]⟩, .slice none 0 0] 24)) v2.heap.size mach0 (.slice none 0 0)) := Lib.hid hbn
                clear hbn
                have SA := Lib.hid (SA.out.grown hgr)
                have SB := Lib.hid (SB.out.grown hgr)
                have GW := Lib.hid (grown_trans GW.out hgr)
                have s0 := hgr.cell s0 (by simp); have s1 := hgr.cell s1 (by simp); have s2 := hgr.cell s2 (by simp); have s3 := hgr.cell s3 (by simp)
                clear hgr
                generalize v2.alloc (.cells #[.int .i64 0, .int .i64 0, .string ⟨#[]⟩, .slice none 0 0] 24) = v3 at *
                have hz3 := hsz
                clear hsz
                refine wpAnyH_ready (rs := [5]) (by kernel_rfl) (by simp) ?_
                refine AllReadyH.cons rfl (fun K hK => ?_) ?_
                · skip
                  go_simp
                  have hgr := World.grownBy_alloc v3 (.cells #[.int .i64 0, .int .i64 0, .string ⟨#[]⟩, .slice none 0 0] 24) none
                  have hbn := BoxAt.new v3 mach0 (.slice none 0 0)
                  have hsz : v3.heap.size < (v3.alloc (.cells #[.int .i64 0, .int .i64 0, .string ⟨#[]⟩, .slice none 0 0] 24)).heap.size := by simp
                  refine hK.out _ _ ⟨hgr.cell s0 (by simp), hgr.cell s1 (by simp), hgr.cell s2 (by simp), hgr.cell s3 (by simp)⟩ (fun hHeld => ?_)
                  clear hK K
                  (try simp only [List.getElem_toArray, List.getElem_cons_succ, List.getElem_cons_zero, Act.put, List.setIfInBounds_toArray, List.set_cons_zero, List.set_cons_succ])
                  have BB : Hid (BoxAt (v3.alloc (.cells #[.int .i64 0, .int .i64 0, .string ⟨#[]⟩, .slice none 0 0] 24)) v3.heap.size mach0 (.slice none 0 0)) := Lib.hid hbn
                  clear hbn
                  have BA := Lib.hid (BoxAt.grown BA.out hgr)
                  have SA := Lib.hid (SA.out.grown hgr)
                  have SB := Lib.hid (SB.out.grown hgr)
                  have GW := Lib.hid (grown_trans GW.out hgr)
                  have s0 := hgr.cell s0 (by simp); have s1 := hgr.cell s1 (by simp); have s2 := hgr.cell s2 (by simp); have s3 := hgr.cell s3 (by simp)
                  clear hgr
                  generalize v3.alloc (.cells #[.int .i64 0, .int .i64 0, .string ⟨#[]⟩, .slice none 0 0] 24) = v4 at *
                  have hz4 := hsz
                  clear hsz
                  have hle := GW.out.size
                  obtain ⟨a0, a1, a2, a3⟩ := BoxAt.cells BA.out
                  have fa0 := BoxAt.free BA.out 0; have fa1 := BoxAt.free BA.out 1; have fa2 := BoxAt.free BA.out 2; have fa3 := BoxAt.free BA.out 3
                  obtain ⟨hfA, hgA⟩ := box_fill (n := t) (v := .slice AA t.states.length cA) BA.out
                  have hbB := (hgA.block _ (BoxAt.lt BB.out) (by simp; omega)).trans BB.out
                  obtain ⟨b0, b1, b2, b3⟩ := BoxAt.cells hbB
                  have fb0 := BoxAt.free hbB 0; have fb1 := BoxAt.free hbB 1; have fb2 := BoxAt.free hbB 2; have fb3 := BoxAt.free hbB 3
                  obtain ⟨hfB, hgB⟩ := box_fill (n := t) (v := .slice AB t.states.length cB) hbB
                  have TW := Lib.hid (twin_fill (A := AA) (B := AB) GW.out BA.out BB.out SA.out SB.out OA.out OB.out (by omega) (by omega) (by omega) (by omega) (by omega) (by omega) (by omega) (by omega) (by omega))
                  have r0 := hgA.cell s0 (by simp; omega); have r1 := hgA.cell s1 (by simp; omega); have r2 := hgA.cell s2 (by simp; omega); have r3 := hgA.cell s3 (by simp; omega)
                  have q0 := hgB.cell r0 (by simp; omega); have q1 := hgB.cell r1 (by simp; omega); have q2 := hgB.cell r2 (by simp; omega); have q3 := hgB.cell r3 (by simp; omega)
                  clear hfA hgA hbB hfB hgB
                  refine wpAnyH_ready (rs := [6]) (by kernel_rfl) (by simp) ?_
                  refine AllReadyH.cons rfl (fun K hK => ?_) AllReadyH.nil
                  go_simp
                  refine hK.out _ _ ⟨r0, r1, r2, r3⟩ (fun hHeld => ?_)
                  clear hK K
                  (try simp only [List.getElem_toArray, List.getElem_cons_succ, List.getElem_cons_zero, Act.put, List.setIfInBounds_toArray, List.set_cons_zero, List.set_cons_succ])
                  refine wpAnyH_ready (rs := [7]) (by kernel_rfl) (by simp) ?_
                  refine AllReadyH.cons rfl (fun K hK => ?_) AllReadyH.nil
                  go_simp
                  refine hK.out _ _ ⟨q0, q1, q2, q3⟩ (fun hHeld => ?_)
                  clear hK K
                  (try simp only [List.getElem_toArray, List.getElem_cons_succ, List.getElem_cons_zero, Act.put, List.setIfInBounds_toArray, List.set_cons_zero, List.set_cons_succ])
                  refine wpAnyH_done (by kernel_rfl) ?_ _
                  go_wp2_with (fail)
                  go_meet
                  case rel => exact ⟨_, _, _, _, _, _, _, _, rfl, rfl, TW.out⟩
                exact AllReadyH.nil
              refine AllReadyH.cons rfl (fun K hK => ?_) ?_
              · skip
                go_simp
                have hgr := World.grownBy_alloc v2 (.cells #[.int .i64 0, .int .i64 0, .string ⟨#[]⟩, .slice none 0 0] 24) none
                have hbn := BoxAt.new v2 mach0 (.slice none 0 0)
                have hsz : v2.heap.size < (v2.alloc (.cells #[.int .i64 0, .int .i64 0, .string ⟨#[]⟩, .slice none 0 0] 24)).heap.size := by simp
                refine hK.out _ _ ⟨hgr.cell s0 (by simp), hgr.cell s1 (by simp), hgr.cell s2 (by simp), hgr.cell s3 (by simp)⟩ (fun hHeld => ?_)
                clear hK K
                (try simp only [List.getElem_toArray, List.getElem_cons_succ, List.getElem_cons_zero, Act.put, List.setIfInBounds_toArray, List.set_cons_zero, List.set_cons_succ])
                have BB : Hid (BoxAt (v2.alloc (.cells #[.int .i64 0, .int .i64 0, .string ⟨#[]⟩, .slice none 0 0] 24)) v2.heap.size mach0 (.slice none 0 0)) := Lib.hid hbn
                clear hbn
                have SA := Lib.hid (SA.out.grown hgr)
                have SB := Lib.hid (SB.out.grown hgr)
                have GW := Lib.hid (grown_trans GW.out hgr)
                have s0 := hgr.cell s0 (by simp); have s1 := hgr.cell s1 (by simp); have s2 := hgr.cell s2 (by simp); have s3 := hgr.cell s3 (by simp)
                clear hgr
                generalize v2.alloc (.cells #[.int .i64 0, .int .i64 0, .string ⟨#[]⟩, .slice none 0 0] 24) = v3 at *
                have hz3 := hsz
                clear hsz
                refine wpAnyH_ready (rs := [4]) (by kernel_rfl) (by simp) ?_
                refine AllReadyH.cons rfl (fun K hK => ?_) ?_
                · skip
                  go_simp
                  have hgr := World.grownBy_alloc v3 (.cells #[.int .i64 0, .int .i64 0, .string ⟨#[]⟩, .slice none 0 0] 24) none
                  have hbn := BoxAt.new v3 mach0 (.slice none 0 0)
                  have hsz : v3.heap.size < (v3.alloc (.cells #[.int .i64 0, .int .i64 0, .string ⟨#[]⟩, .slice none 0 0] 24)).heap.size := by simp
                  refine hK.out _ _ ⟨hgr.cell s0 (by simp), hgr.cell s1 (by simp), hgr.cell s2 (by simp), hgr.cell s3 (by simp)⟩ (fun hHeld => ?_)
                  clear hK K
                  (try simp only [List.getElem_toArray, List.getElem_cons_succ, List.getElem_cons_zero, Act.put, List.setIfInBounds_toArray, List.set_cons_zero, List.set_cons_succ])
                  have BA : Hid (BoxAt (v3.alloc (.cells #[.int .i64 0, .int .i64 0, .string ⟨#[]⟩, .slice none 0 0] 24)) v3.heap.size mach0 (.slice none 0 0)) := Lib.hid hbn
                  clear hbn
                  have BB := Lib.hid (BoxAt.grown BB.out hgr)
                  have SA := Lib.hid (SA.out.grown hgr)
                  have SB := Lib.hid (SB.out.grown hgr)
                  have GW := Lib.hid (grown_trans GW.out hgr)
                  have s0 := hgr.cell s0 (by simp); have s1 := hgr.cell s1 (by simp); have s2 := hgr.cell s2 (by simp); have s3 := hgr.cell s3 (by simp)
                  clear hgr
                  generalize v3.alloc (.cells #[.int .i64 0, .int .i64 0, .string ⟨#[]⟩, .slice none 0 0] 24) = v4 at *
                  have hz4 := hsz
                  clear hsz
                  have hle := GW.out.size
                  obtain ⟨a0, a1, a2, a3⟩ := BoxAt.cells BA.out
                  have fa0 := BoxAt.free BA.out 0; have fa1 := BoxAt.free BA.out 1; have fa2 := BoxAt.free BA.out 2; have fa3 := BoxAt.free BA.out 3
                  obtain ⟨hfA, hgA⟩ := box_fill (n := t) (v := .slice AA t.states.length cA) BA.out
                  have hbB := (hgA.block _ (BoxAt.lt BB.out) (by simp; omega)).trans BB.out
                  obtain ⟨b0, b1, b2, b3⟩ := BoxAt.cells hbB
                  have fb0 := BoxAt.free hbB 0; have fb1 := BoxAt.free hbB 1; have fb2 := BoxAt.free hbB 2; have fb3 := BoxAt.free hbB 3
                  obtain ⟨hfB, hgB⟩ := box_fill (n := t) (v := .slice AB t.states.length cB) hbB
                  have TW := Lib.hid (twin_fill (A := AA) (B := AB) GW.out BA.out BB.out SA.out SB.out OA.out OB.out (by omega) (by omega) (by omega) (by omega) (by omega) (by omega) (by omega) (by omega) (by omega))
                  have r0 := hgA.cell s0 (by simp; omega); have r1 := hgA.cell s1 (by simp; omega); have r2 := hgA.cell s2 (by simp; omega); have r3 := hgA.cell s3 (by simp; omega)
                  have q0 := hgB.cell r0 (by simp; omega); have q1 := hgB.cell r1 (by simp; omega); have q2 := hgB.cell r2 (by simp; omega); have q3 := hgB.cell r3 (by simp; omega)
                  clear hfA hgA hbB hfB hgB
                  refine wpAnyH_ready (rs := [6]) (by kernel_rfl) (by simp) ?_
                  refine AllReadyH.cons rfl (fun K hK => ?_) AllReadyH.nil
                  go_simp
                  refine hK.out _ _ ⟨r0, r1, r2, r3⟩ (fun hHeld => ?_)
                  clear hK K
                  (try simp only [List.getElem_toArray, List.getElem_cons_succ, List.getElem_cons_zero, Act.put, List.setIfInBounds_toArray, List.set_cons_zero, List.set_cons_succ])
                  refine wpAnyH_ready (rs := [7]) (by kernel_rfl) (by simp) ?_
                  refine AllReadyH.cons rfl (fun K hK => ?_) AllReadyH.nil
                  go_simp
                  refine hK.out _ _ ⟨q0, q1, q2, q3⟩ (fun hHeld => ?_)
                  clear hK K
                  (try simp only [List.getElem_toArray, List.getElem_cons_succ, List.getElem_cons_zero, Act.put, List.setIfInBounds_toArray, List.set_cons_zero, List.set_cons_succ])
                  refine wpAnyH_done (by kernel_rfl) ?_ _
                  go_wp2_with (fail)
                  go_meet
                  case rel => exact ⟨_, _, _, _, _, _, _, _, rfl, rfl, TW.out⟩
                exact AllReadyH.nil
              exact AllReadyH.nil
            refine AllReadyH.cons rfl (fun K hK => ?_) ?_
            · skip
              go_simp
              have hgr := World.grownBy_alloc v1 (.cells #[.int .i64 0, .int .i64 0, .string ⟨#[]⟩, .slice none 0 0] 24) none
              have hbn := BoxAt.new v1 mach0 (.slice none 0 0)
              have hsz : v1.heap.size < (v1.alloc (.cells #[.int .i64 0, .int .i64 0, .string ⟨#[]⟩, .slice none 0 0] 24)).heap.size := by simp
              refine hK.out _ _ ⟨hgr.cell s0 (by simp), hgr.cell s1 (by simp), hgr.cell s2 (by simp), hgr.cell s3 (by simp)⟩ (fun hHeld => ?_)
              clear hK K
              (try simp only [List.getElem_toArray, List.getElem_cons_succ, List.getElem_cons_zero, Act.put, List.setIfInBounds_toArray, List.set_cons_zero, List.set_cons_succ])
              have BA : Hid (BoxAt (v1.alloc (.cells #[.int .i64 0, .int .i64 0, .string ⟨#[]⟩, .slice none 0 0] 24)) v1.heap.size mach0 (.slice none 0 0)) := Lib.hid hbn
              clear hbn
              have SA := Lib.hid (SA.out.grown hgr)
              have GW := Lib.hid (grown_trans GW.out hgr)
              have s0 := hgr.cell s0 (by simp); have s1 := hgr.cell s1 (by simp); have s2 := hgr.cell s2 (by simp); have s3 := hgr.cell s3 (by simp)
              clear hgr
              generalize v1.alloc (.cells #[.int .i64 0, .int .i64 0, .string ⟨#[]⟩, .slice none 0 0] 24) = v2 at *
              have hz2 := hsz
              clear hsz
              refine wpAnyH_ready (rs := [3, 5]) (by kernel_rfl) (by simp) ?_
              refine AllReadyH.cons rfl (fun K hK => ?_) ?_
              · skip
                go_simp
                refine (clone6_any (MachV.fill (HSt2.out.grown GW.out)) HL3.out HL4.out).mono ?_
                rintro e v3 ⟨v, rfl, ⟨u', rfl, hst⟩, hgr⟩
                obtain ⟨AB, cB, _, rfl, _⟩ := hst.sl
                obtain ⟨hst1, hst2⟩ := hst.bounded
                have SB := Lib.hid hst1; have OB := Lib.hid hst2
                have hsz := hgr.size
                clear hst hst1 hst2
                refine hK.out _ _ ⟨hgr.cell s0 (by simp), hgr.cell s1 (by simp), hgr.cell s2 (by simp), hgr.cell s3 (by simp)⟩ (fun hHeld => ?_)
                clear hK K
                (try simp only [List.getElem_toArray, List.getElem_cons_succ, List.getElem_cons_zero, Act.put, List.setIfInBounds_toArray, List.set_cons_zero, List.set_cons_succ])
                have BA := Lib.hid (BoxAt.grown BA.out hgr)
                have SA := Lib.hid (SA.out.grown hgr)
                have GW := Lib.hid (grown_trans GW.out hgr)
                have s0 := hgr.cell s0 (by simp); have s1 := hgr.cell s1 (by simp); have s2 := hgr.cell s2 (by simp); have s3 := hgr.cell s3 (by simp)
                clear hgr
                have hz3 := hsz
                clear hsz
                refine wpAnyH_ready (rs := [5]) (by kernel_rfl) (by simp) ?_
                refine AllReadyH.cons rfl (fun K hK => ?_) ?_
                · skip
                  go_simp
                  have hgr := World.grownBy_alloc v3 (.cells #[.int .i64 0, .int .i64 0, .string ⟨#[]⟩, .slice none 0 0] 24) none
                  have hbn := BoxAt.new v3 mach0 (.slice none 0 0)
                  have hsz : v3.heap.size < (v3.alloc (.cells #[.int .i64 0, .int .i64 0, .string ⟨#[]⟩, .slice none 0 0] 24)).heap.size := by simp
                  refine hK.out _ _ ⟨hgr.cell s0 (by simp), hgr.cell s1 (by simp), hgr.cell s2 (by simp), hgr.cell s3 (by simp)⟩ (fun hHeld => ?_)
                  clear hK K
                  (try simp only [List.getElem_toArray, List.getElem_cons_succ, List.getElem_cons_zero, Act.put, List.setIfInBounds_toArray, List.set_cons_zero, List.set_cons_succ])
                  have BB : Hid (BoxAt (v3.alloc (.cells #[.int .i64 0, .int .i64 0, .string ⟨#[]⟩, .slice none 0 0] 24)) v3.heap.size mach0 (.slice none 0 0)) := Lib.hid hbn
                  clear hbn
                  have BA := Lib.hid (BoxAt.grown BA.out hgr)
                  have SA := Lib.hid (SA.out.grown hgr)
                  have SB := Lib.hid (SB.out.grown hgr)
                  have GW := Lib.hid (grown_trans GW.out hgr)
                  have s0 := hgr.cell s0 (by simp); have s1 := hgr.cell s1 (by simp); have s2 := hgr.cell s2 (by simp); have s3 := hgr.cell s3 (by simp)
                  clear hgr
                  generalize v3.alloc (.cells #[.int .i64 0, .int .i64 0, .string ⟨#[]⟩, .slice none 0 0] 24) = v4 at *
                  have hz4 := hsz
                  clear hsz
                  have hle := GW.out.size
                  obtain ⟨a0, a1, a2, a3⟩ := BoxAt.cells BA.out
                  have fa0 := BoxAt.free BA.out 0; have fa1 := BoxAt.free BA.out 1; have fa2 := BoxAt.free BA.out 2; have fa3 := BoxAt.free BA.out 3
                  obtain ⟨hfA, hgA⟩ := box_fill (n := t) (v := .slice AA t.states.length cA) BA.out
                  have hbB := (hgA.block _ (BoxAt.lt BB.out) (by simp; omega)).trans BB.out
                  obtain ⟨b0, b1, b2, b3⟩ := BoxAt.cells hbB
                  have fb0 := BoxAt.free hbB 0; have fb1 := BoxAt.free hbB 1; have fb2 := BoxAt.free hbB 2; have fb3 := BoxAt.free hbB 3
                  obtain ⟨hfB, hgB⟩ := box_fill (n := t) (v := .slice AB t.states.length cB) hbB
                  have TW := Lib.hid (twin_fill (A := AA) (B := AB) GW.out BA.out BB.out SA.out SB.out OA.out OB.out (by omega) (by omega) (by omega) (by omega) (by omega) (by omega) (by omega) (by omega) (by omega))
                  have r0 := hgA.cell s0 (by simp; omega); have r1 := hgA.cell s1 (by simp; omega); have r2 := hgA.cell s2 (by simp; omega); have r3 := hgA.cell s3 (by simp; omega)
                  have q0 := hgB.cell r0 (by simp; omega); have q1 := hgB.cell r1 (by simp; omega); have q2 := hgB.cell r2 (by simp; omega); have q3 := hgB.cell r3 (by simp; omega)
                  clear hfA hgA hbB hfB hgB
                  refine wpAnyH_ready (rs := [6]) (by kernel_rfl) (by simp) ?_
                  refine AllReadyH.cons rfl (fun K hK => ?_) AllReadyH.nil
                  go_simp
                  refine hK.out _ _ ⟨r0, r1, r2, r3⟩ (fun hHeld => ?_)
                  clear hK K
                  (try simp only [List.getElem_toArray, List.getElem_cons_succ, List.getElem_cons_zero, Act.put, List.setIfInBounds_toArray, List.set_cons_zero, List.set_cons_succ])
                  refine wpAnyH_ready (rs := [7]) (by kernel_rfl) (by simp) ?_
                  refine AllReadyH.cons rfl (fun K hK => ?_) AllReadyH.nil
                  go_simp
                  refine hK.out _ _ ⟨q0, q1, q2, q3⟩ (fun hHeld => ?_)
                  clear hK K
                  (try simp only [List.getElem_toArray, List.getElem_cons_succ, List.getElem_cons_zero, Act.put, List.setIfInBounds_toArray, List.set_cons_zero, List.set_cons_succ])
                  refine wpAnyH_done (by kernel_rfl) ?_ _
                  go_wp2_with (fail)
                  go_meet
                  case rel => exact ⟨_, _, _, _, _, _, _, _, rfl, rfl, TW.out⟩
                exact AllReadyH.nil
              refine AllReadyH.cons rfl (fun K hK => ?_) ?_
              · skip
                go_simp
                have hgr := World.grownBy_alloc v2 (.cells #[.int .i64 0, .int .i64 0, .string ⟨#[]⟩, .slice none 0 0] 24) none
                have hbn := BoxAt.new v2 mach0 (.slice none 0 0)
                have hsz : v2.heap.size < (v2.alloc (.cells #[.int .i64 0, .int .i64 0, .string ⟨#[]⟩, .slice none 0 0] 24)).heap.size := by simp
                refine hK.out _ _ ⟨hgr.cell s0 (by simp), hgr.cell s1 (by simp), hgr.cell s2 (by simp), hgr.cell s3 (by simp)⟩ (fun hHeld => ?_)
                clear hK K
                (try simp only [List.getElem_toArray, List.getElem_cons_succ, List.getElem_cons_zero, Act.put, List.setIfInBounds_toArray, List.set_cons_zero, List.set_cons_succ])
                have BB : Hid (BoxAt (v2.alloc (.cells #[.int .i64 0, .int .i64 0, .string ⟨#[]⟩, .slice none 0 0] 24)) v2.heap.size mach0 (.slice none 0 0)) := Lib.hid hbn
                clear hbn
                have BA := Lib.hid (BoxAt.grown BA.out hgr)
                have SA := Lib.hid (SA.out.grown hgr)
                have GW := Lib.hid (grown_trans GW.out hgr)
                have s0 := hgr.cell s0 (by simp); have s1 := hgr.cell s1 (by simp); have s2 := hgr.cell s2 (by simp); have s3 := hgr.cell s3 (by simp)
                clear hgr
                generalize v2.alloc (.cells #[.int .i64 0, .int .i64 0, .string ⟨#[]⟩, .slice none 0 0] 24) = v3 at *
                have hz3 := hsz
                clear hsz
                refine wpAnyH_ready (rs := [3]) (by kernel_rfl) (by simp) ?_
                refine AllReadyH.cons rfl (fun K hK => ?_) ?_
                · skip
                  go_simp
                  refine (clone6_any (MachV.fill (HSt2.out.grown GW.out)) HL3.out HL4.out).mono ?_
                  rintro e v4 ⟨v, rfl, ⟨u', rfl, hst⟩, hgr⟩
                  obtain ⟨AB, cB, _, rfl, _⟩ := hst.sl
                  obtain ⟨hst1, hst2⟩ := hst.bounded
                  have SB := Lib.hid hst1; have OB := Lib.hid hst2
                  have hsz := hgr.size
                  clear hst hst1 hst2
                  refine hK.out _ _ ⟨hgr.cell s0 (by simp), hgr.cell s1 (by simp), hgr.cell s2 (by simp), hgr.cell s3 (by simp)⟩ (fun hHeld => ?_)
                  clear hK K
                  (try simp only [List.getElem_toArray, List.getElem_cons_succ, List.getElem_cons_zero, Act.put, List.setIfInBounds_toArray, List.set_cons_zero, List.set_cons_succ])
                  have BA := Lib.hid (BoxAt.grown BA.out hgr)
                  have BB := Lib.hid (BoxAt.grown BB.out hgr)
                  have SA := Lib.hid (SA.out.grown hgr)
                  have GW := Lib.hid (grown_trans GW.out hgr)
                  have s0 := hgr.cell s0 (by simp); have s1 := hgr.cell s1 (by simp); have s2 := hgr.cell s2 (by simp); have s3 := hgr.cell s3 (by simp)
                  clear hgr
                  have hz4 := hsz
                  clear hsz
                  have hle := GW.out.size
                  obtain ⟨a0, a1, a2, a3⟩ := BoxAt.cells BA.out
                  have fa0 := BoxAt.free BA.out 0; have fa1 := BoxAt.free BA.out 1; have fa2 := BoxAt.free BA.out 2; have fa3 := BoxAt.free BA.out 3
                  obtain ⟨hfA, hgA⟩ := box_fill (n := t) (v := .slice AA t.states.length cA) BA.out
                  have hbB := (hgA.block _ (BoxAt.lt BB.out) (by simp; omega)).trans BB.out
                  obtain ⟨b0, b1, b2, b3⟩ := BoxAt.cells hbB
                  have fb0 := BoxAt.free hbB 0; have fb1 := BoxAt.free hbB 1; have fb2 := BoxAt.free hbB 2; have fb3 := BoxAt.free hbB 3
                  obtain ⟨hfB, hgB⟩ := box_fill (n := t) (v := .slice AB t.states.length cB) hbB
                  have TW := Lib.hid (twin_fill (A := AA) (B := AB) GW.out BA.out BB.out SA.out SB.out OA.out OB.out (by omega) (by omega) (by omega) (by omega) (by omega) (by omega) (by omega) (by omega) (by omega))
                  have r0 := hgA.cell s0 (by simp; omega); have r1 := hgA.cell s1 (by simp; omega); have r2 := hgA.cell s2 (by simp; omega); have r3 := hgA.cell s3 (by simp; omega)
                  have q0 := hgB.cell r0 (by simp; omega); have q1 := hgB.cell r1 (by simp; omega); have q2 := hgB.cell r2 (by simp; omega); have q3 := hgB.cell r3 (by simp; omega)
                  clear hfA hgA hbB hfB hgB
                  refine wpAnyH_ready (rs := [6]) (by kernel_rfl) (by simp) ?_
                  refine AllReadyH.cons rfl (fun K hK => ?_) AllReadyH.nil
                  go_simp
                  refine hK.out _ _ ⟨r0, r1, r2, r3⟩ (fun hHeld => ?_)
                  clear hK K
                  (try simp only [List.getElem_toArray, List.getElem_cons_succ, List.getElem_cons_zero, Act.put, List.setIfInBounds_toArray, List.set_cons_zero, List.set_cons_succ])
                  refine wpAnyH_ready (rs := [7]) (by kernel_rfl) (by simp) ?_
                  refine AllReadyH.cons rfl (fun K hK => ?_) AllReadyH.nil
                  go_simp
                  refine hK.out _ _ ⟨q0, q1, q2, q3⟩ (fun hHeld => ?_)
                  clear hK K
                  (try simp only [List.getElem_toArray, List.getElem_cons_succ, List.getElem_cons_zero, Act.put, List.setIfInBounds_toArray, List.set_cons_zero, List.set_cons_succ])
                  refine wpAnyH_done (by kernel_rfl) ?_ _
                  go_wp2_with (fail)
                  go_meet
                  case rel => exact ⟨_, _, _, _, _, _, _, _, rfl, rfl, TW.out⟩
                exact AllReadyH.nil
              exact AllReadyH.nil
            refine AllReadyH.cons rfl (fun K hK => ?_) ?_
            · skip
              go_simp
              have hgr := World.grownBy_alloc v1 (.cells #[.int .i64 0, .int .i64 0, .string ⟨#[]⟩, .slice none 0 0] 24) none
              have hbn := BoxAt.new v1 mach0 (.slice none 0 0)
              have hsz : v1.heap.size < (v1.alloc (.cells #[.int .i64 0, .int .i64 0, .string ⟨#[]⟩, .slice none 0 0] 24)).heap.size := by simp
              refine hK.out _ _ ⟨hgr.cell s0 (by simp), hgr.cell s1 (by simp), hgr.cell s2 (by simp), hgr.cell s3 (by simp)⟩ (fun hHeld => ?_)
              clear hK K
              (try simp only [List.getElem_toArray, List.getElem_cons_succ, List.getElem_cons_zero, Act.put, List.setIfInBounds_toArray, List.set_cons_zero, List.set_cons_succ])
              have BB : Hid (BoxAt (v1.alloc (.cells #[.int .i64 0, .int .i64 0, .string ⟨#[]⟩, .slice none 0 0] 24)) v1.heap.size mach0 (.slice none 0 0)) := Lib.hid hbn
              clear hbn
              have SA := Lib.hid (SA.out.grown hgr)
              have GW := Lib.hid (grown_trans GW.out hgr)
              have s0 := hgr.cell s0 (by simp); have s1 := hgr.cell s1 (by simp); have s2 := hgr.cell s2 (by simp); have s3 := hgr.cell s3 (by simp)
              clear hgr
              generalize v1.alloc (.cells #[.int .i64 0, .int .i64 0, .string ⟨#[]⟩, .slice none 0 0] 24) = v2 at *
              have hz2 := hsz
              clear hsz
              refine wpAnyH_ready (rs := [3, 4]) (by kernel_rfl) (by simp) ?_
              refine AllReadyH.cons rfl (fun K hK => ?_) ?_
              · skip
                go_simp
                refine (clone6_any (MachV.fill (HSt2.out.grown GW.out)) HL3.out HL4.out).mono ?_
                rintro e v3 ⟨v, rfl, ⟨u', rfl, hst⟩, hgr⟩
                obtain ⟨AB, cB, _, rfl, _⟩ := hst.sl
                obtain ⟨hst1, hst2⟩ := hst.bounded
                have SB := Lib.hid hst1; have OB := Lib.hid hst2
                have hsz := hgr.size
                clear hst hst1 hst2
                refine hK.out _ _ ⟨hgr.cell s0 (by simp), hgr.cell s1 (by simp), hgr.cell s2 (by simp), hgr.cell s3 (by simp)⟩ (fun hHeld => ?_)
                clear hK K
                (try simp only [List.getElem_toArray, List.getElem_cons_succ, List.getElem_cons_zero, Act.put, List.setIfInBounds_toArray, List.set_cons_zero, List.set_cons_succ])
                have BB := Lib.hid (BoxAt.grown BB.out hgr)
                have SA := Lib.hid (SA.out.grown hgr)
                have GW := Lib.hid (grown_trans GW.out hgr)
                have s0 := hgr.cell s0 (by simp); have s1 := hgr.cell s1 (by simp); have s2 := hgr.cell s2 (by simp); have s3 := hgr.cell s3 (by simp)
                clear hgr
                have hz3 := hsz
                clear hsz
                refine wpAnyH_ready (rs := [4]) (by kernel_rfl) (by simp) ?_
                refine AllReadyH.cons rfl (fun K hK => ?_) ?_
                · skip
                  go_simp
                  have hgr := World.grownBy_alloc v3 (.cells #[.int .i64 0, .int .i64 0, .string ⟨#[]⟩, .slice none 0 0] 24) none
                  have hbn := BoxAt.new v3 mach0 (.slice none 0 0)
                  have hsz : v3.heap.size < (v3.alloc (.cells #[.int .i64 0, .int .i64 0, .string ⟨#[]⟩, .slice none 0 0] 24)).heap.size := by simp
                  refine hK.out _ _ ⟨hgr.cell s0 (by simp), hgr.cell s1 (by simp), hgr.cell s2 (by simp), hgr.cell s3 (by simp)⟩ (fun hHeld => ?_)
                  clear hK K
                  (try simp only [List.getElem_toArray, List.getElem_cons_succ, List.getElem_cons_zero, Act.put, List.setIfInBounds_toArray, List.set_cons_zero, List.set_cons_succ])
                  have BA : Hid (BoxAt (v3.alloc (.cells #[.int .i64 0, .int .i64 0, .string ⟨#[]⟩, .slice none 0 0] 24)) v3.heap.size mach0 (.slice none 0 0)) := Lib.hid hbn
                  clear hbn
                  have BB := Lib.hid (BoxAt.grown BB.out hgr)
                  have SA := Lib.hid (SA.out.grown hgr)
                  have SB := Lib.hid (SB.out.grown hgr)
                  have GW := Lib.hid (grown_trans GW.out hgr)
                  have s0 := hgr.cell s0 (by simp); have s1 := hgr.cell s1 (by simp); have s2 := hgr.cell s2 (by simp); have s3 := hgr.cell s3 (by simp)
                  clear hgr
                  generalize v3.alloc (.cells #[.int .i64 0, .int .i64 0, .string ⟨#[]⟩, .slice none 0 0] 24) = v4 at *
                  have hz4 := hsz
                  clear hsz
                  have hle := GW.out.size
                  obtain ⟨a0, a1, a2, a3⟩ := BoxAt.cells BA.out
                  have fa0 := BoxAt.free BA.out 0; have fa1 := BoxAt.free BA.out 1; have fa2 := BoxAt.free BA.out 2; have fa3 := BoxAt.free BA.out 3
                  obtain ⟨hfA, hgA⟩ := box_fill (n := t) (v := .slice AA t.states.length cA) BA.out
                  have hbB := (hgA.block _ (BoxAt.lt BB.out) (by simp; omega)).trans BB.out
                  obtain ⟨b0, b1, b2, b3⟩ := BoxAt.cells hbB
                  have fb0 := BoxAt.free hbB 0; have fb1 := BoxAt.free hbB 1; have fb2 := BoxAt.free hbB 2; have fb3 := BoxAt.free hbB 3
                  obtain ⟨hfB, hgB⟩ := box_fill (n := t) (v := .slice AB t.states.length cB) hbB
                  have TW := Lib.hid (twin_fill (A := AA) (B := AB) GW.out BA.out BB.out SA.out SB.out OA.out OB.out (by omega) (by omega) (by omega) (by omega) (by omega) (by omega) (by omega) (by omega) (by omega))
                  have r0 := hgA.cell s0 (by simp; omega); have r1 := hgA.cell s1 (by simp; omega); have r2 := hgA.cell s2 (by simp; omega); have r3 := hgA.cell s3 (by simp; omega)
                  have q0 := hgB.cell r0 (by simp; omega); have q1 := hgB.cell r1 (by simp; omega); have q2 := hgB.cell r2 (by simp; omega); have q3 := hgB.cell r3 (by simp; omega)
                  clear hfA hgA hbB hfB hgB
                  refine wpAnyH_ready (rs := [6]) (by kernel_rfl) (by simp) ?_
                  refine AllReadyH.cons rfl (fun K hK => ?_) AllReadyH.nil
                  go_simp
                  refine hK.out _ _ ⟨r0, r1, r2, r3⟩ (fun hHeld => ?_)
                  clear hK K
                  (try simp only [List.getElem_toArray, List.getElem_cons_succ, List.getElem_cons_zero, Act.put, List.setIfInBounds_toArray, List.set_cons_zero, List.set_cons_succ])
                  refine wpAnyH_ready (rs := [7]) (by kernel_rfl) (by simp) ?_
                  refine AllReadyH.cons rfl (fun K hK => ?_) AllReadyH.nil
                  go_simp
                  refine hK.out _ _ ⟨q0, q1, q2, q3⟩ (fun hHeld => ?_)
                  clear hK K
                  (try simp only [List.getElem_toArray, List.getElem_cons_succ, List.getElem_cons_zero, Act.put, List.setIfInBounds_toArray, List.set_cons_zero, List.set_cons_succ])
                  refine wpAnyH_done (by kernel_rfl) ?_ _
                  go_wp2_with (fail)
                  go_meet
                  case rel => exact ⟨_, _, _, _, _, _, _, _, rfl, rfl, TW.out⟩
                exact AllReadyH.nil
              refine AllReadyH.cons rfl (fun K hK => ?_) ?_
              · skip
                go_simp
                have hgr := World.grownBy_alloc v2 (.cells #[.int .i64 0, .int .i64 0, .string ⟨#[]⟩, .slice none 0 0] 24) none
                have hbn := BoxAt.new v2 mach0 (.slice none 0 0)
                have hsz : v2.heap.size < (v2.alloc (.cells #[.int .i64 0, .int .i64 0, .string ⟨#[]⟩, .slice none 0 0] 24)).heap.size := by simp
                refine hK.out _ _ ⟨hgr.cell s0 (by simp), hgr.cell s1 (by simp), hgr.cell s2 (by simp), hgr.cell s3 (by simp)⟩ (fun hHeld => ?_)
                clear hK K
                (try simp only [List.getElem_toArray, List.getElem_cons_succ, List.getElem_cons_zero, Act.put, List.setIfInBounds_toArray, List.set_cons_zero, List.set_cons_succ])
                have BA : Hid (BoxAt (v2.alloc (.cells #[.int .i64 0, .int .i64 0, .string ⟨#[]⟩, .slice none 0 0] 24)) v2.heap.size mach0 (.slice none 0 0)) := Lib.hid hbn
                clear hbn
                have BB := Lib.hid (BoxAt.grown BB.out hgr)
                have SA := Lib.hid (SA.out.grown hgr)
                have GW := Lib.hid (grown_trans GW.out hgr)
                have s0 := hgr.cell s0 (by simp); have s1 := hgr.cell s1 (by simp); have s2 := hgr.cell s2 (by simp); have s3 := hgr.cell s3 (by simp)
                clear hgr
                generalize v2.alloc (.cells #[.int .i64 0, .int .i64 0, .string ⟨#[]⟩, .slice none 0 0] 24) = v3 at *
                have hz3 := hsz
                clear hsz
                refine wpAnyH_ready (rs := [3]) (by kernel_rfl) (by simp) ?_
                refine AllReadyH.cons rfl (fun K hK => ?_) ?_
                · skip
                  go_simp
                  refine (clone6_any (MachV.fill (HSt2.out.grown GW.out)) HL3.out HL4.out).mono ?_
                  rintro e v4 ⟨v, rfl, ⟨u', rfl, hst⟩, hgr⟩
                  obtain ⟨AB, cB, _, rfl, _⟩ := hst.sl
                  obtain ⟨hst1, hst2⟩ := hst.bounded
                  have SB := Lib.hid hst1; have OB := Lib.hid hst2
                  have hsz := hgr.size
                  clear hst hst1 hst2
                  refine hK.out _ _ ⟨hgr.cell s0 (by simp), hgr.cell s1 (by simp), hgr.cell s2 (by simp), hgr.cell s3 (by simp)⟩ (fun hHeld => ?_)
                  clear hK K
                  (try simp only [List.getElem_toArray, List.getElem_cons_succ, List.getElem_cons_zero, Act.put, List.setIfInBounds_toArray, List.set_cons_zero, List.set_cons_succ])
                  have BA := Lib.hid (BoxAt.grown BA.out hgr)
                  have BB := Lib.hid (BoxAt.grown BB.out hgr)
                  have SA := Lib.hid (SA.out.grown hgr)
                  have GW := Lib.hid (grown_trans GW.out hgr)
                  have s0 := hgr.cell s0 (by simp); have s1 := hgr.cell s1 (by simp); have s2 := hgr.cell s2 (by simp); have s3 := hgr.cell s3 (by simp)
                  clear hgr
                  have hz4 := hsz
                  clear hsz
                  have hle := GW.out.size
                  obtain ⟨a0, a1, a2, a3⟩ := BoxAt.cells BA.out
                  have fa0 := BoxAt.free BA.out 0; have fa1 := BoxAt.free BA.out 1; have fa2 := BoxAt.free BA.out 2; have fa3 := BoxAt.free BA.out 3
                  obtain ⟨hfA, hgA⟩ := box_fill (n := t) (v := .slice AA t.states.length cA) BA.out
                  have hbB := (hgA.block _ (BoxAt.lt BB.out) (by simp; omega)).trans BB.out
                  obtain ⟨b0, b1, b2, b3⟩ := BoxAt.cells hbB
                  have fb0 := BoxAt.free hbB 0; have fb1 := BoxAt.free hbB 1; have fb2 := BoxAt.free hbB 2; have fb3 := BoxAt.free hbB 3
                  obtain ⟨hfB, hgB⟩ := box_fill (n := t) (v := .slice AB t.states.length cB) hbB
                  have TW := Lib.hid (twin_fill (A := AA) (B := AB) GW.out BA.out BB.out SA.out SB.out OA.out OB.out (by omega) (by omega) (by omega) (by omega) (by omega) (by omega) (by omega) (by omega) (by omega))
                  have r0 := hgA.cell s0 (by simp; omega); have r1 := hgA.cell s1 (by simp; omega); have r2 := hgA.cell s2 (by simp; omega); have r3 := hgA.cell s3 (by simp; omega)
                  have q0 := hgB.cell r0 (by simp; omega); have q1 := hgB.cell r1 (by simp; omega); have q2 := hgB.cell r2 (by simp; omega); have q3 := hgB.cell r3 (by simp; omega)
                  clear hfA hgA hbB hfB hgB
                  refine wpAnyH_ready (rs := [6]) (by kernel_rfl) (by simp) ?_
                  refine AllReadyH.cons rfl (fun K hK => ?_) AllReadyH.nil
                  go_simp
                  refine hK.out _ _ ⟨r0, r1, r2, r3⟩ (fun hHeld => ?_)
                  clear hK K
                  (try simp only [List.getElem_toArray, List.getElem_cons_succ, List.getElem_cons_zero, Act.put, List.setIfInBounds_toArray, List.set_cons_zero, List.set_cons_succ])
                  refine wpAnyH_ready (rs := [7]) (by kernel_rfl) (by simp) ?_
                  refine AllReadyH.cons rfl (fun K hK => ?_) AllReadyH.nil
                  go_simp
                  refine hK.out _ _ ⟨q0, q1, q2, q3⟩ (fun hHeld => ?_)
                  clear hK K
                  (try simp only [List.getElem_toArray, List.getElem_cons_succ, List.getElem_cons_zero, Act.put, List.setIfInBounds_toArray, List.set_cons_zero, List.set_cons_succ])
                  refine wpAnyH_done (by kernel_rfl) ?_ _
                  go_wp2_with (fail)
                  go_meet
                  case rel => exact ⟨_, _, _, _, _, _, _, _, rfl, rfl, TW.out⟩
                exact AllReadyH.nil
              exact AllReadyH.nil
            exact AllReadyH.nil
          refine AllReadyH.cons rfl (fun K hK => ?_) ?_
          · skip
            go_simp
            have hgr := World.grownBy_alloc v0 (.cells #[.int .i64 0, .int .i64 0, .string ⟨#[]⟩, .slice none 0 0] 24) none
            have hbn := BoxAt.new v0 mach0 (.slice none 0 0)
            have hsz : v0.heap.size < (v0.alloc (.cells #[.int .i64 0, .int .i64 0, .string ⟨#[]⟩, .slice none 0 0] 24)).heap.size := by simp
            refine hK.out _ _ ⟨hgr.cell s0 (by simp), hgr.cell s1 (by simp), hgr.cell s2 (by simp), hgr.cell s3 (by simp)⟩ (fun hHeld => ?_)
            clear hK K
            (try simp only [List.getElem_toArray, List.getElem_cons_succ, List.getElem_cons_zero, Act.put, List.setIfInBounds_toArray, List.set_cons_zero, List.set_cons_succ])
            have BA : Hid (BoxAt (v0.alloc (.cells #[.int .i64 0, .int .i64 0, .string ⟨#[]⟩, .slice none 0 0] 24)) v0.heap.size mach0 (.slice none 0 0)) := Lib.hid hbn
            clear hbn
            have GW := Lib.hid (grown_trans GW.out hgr)
            have s0 := hgr.cell s0 (by simp); have s1 := hgr.cell s1 (by simp); have s2 := hgr.cell s2 (by simp); have s3 := hgr.cell s3 (by simp)
            clear hgr
            generalize v0.alloc (.cells #[.int .i64 0, .int .i64 0, .string ⟨#[]⟩, .slice none 0 0] 24) = v1 at *
            have hz1 := hsz
            clear hsz
            refine wpAnyH_ready (rs := [1, 5]) (by kernel_rfl) (by simp) ?_
            refine AllReadyH.cons rfl (fun K hK => ?_) ?_
            · skip
              go_simp
              refine (clone6_any (MachV.fill (HSt2.out.grown GW.out)) HL3.out HL4.out).mono ?_
              rintro e v2 ⟨v, rfl, ⟨u', rfl, hst⟩, hgr⟩
              obtain ⟨AA, cA, _, rfl, _⟩ := hst.sl
              obtain ⟨hst1, hst2⟩ := hst.bounded
              have SA := Lib.hid hst1; have OA := Lib.hid hst2
              have hsz := hgr.size
              clear hst hst1 hst2
              refine hK.out _ _ ⟨hgr.cell s0 (by simp), hgr.cell s1 (by simp), hgr.cell s2 (by simp), hgr.cell s3 (by simp)⟩ (fun hHeld => ?_)
              clear hK K
              (try simp only [List.getElem_toArray, List.getElem_cons_succ, List.getElem_cons_zero, Act.put, List.setIfInBounds_toArray, List.set_cons_zero, List.set_cons_succ])
              have BA := Lib.hid (BoxAt.grown BA.out hgr)
              have GW := Lib.hid (grown_trans GW.out hgr)
              have s0 := hgr.cell s0 (by simp); have s1 := hgr.cell s1 (by simp); have s2 := hgr.cell s2 (by simp); have s3 := hgr.cell s3 (by simp)
              clear hgr
              have hz2 := hsz
              clear hsz
              refine wpAnyH_ready (rs := [3, 5]) (by kernel_rfl) (by simp) ?_
              refine AllReadyH.cons rfl (fun K hK => ?_) ?_
              · skip
                go_simp
                refine (clone6_any (MachV.fill (HSt2.out.grown GW.out)) HL3.out HL4.out).mono ?_
                rintro e v3 ⟨v, rfl, ⟨u', rfl, hst⟩, hgr⟩
                obtain ⟨AB, cB, _, rfl, _⟩ := hst.sl
                obtain ⟨hst1, hst2⟩ := hst.bounded
                have SB := Lib.hid hst1; have OB := Lib.hid hst2
                have hsz := hgr.size
                clear hst hst1 hst2
                refine hK.out _ _ ⟨hgr.cell s0 (by simp), hgr.cell s1 (by simp), hgr.cell s2 (by simp), hgr.cell s3 (by simp)⟩ (fun hHeld => ?_)
                clear hK K
                (try simp only [List.getElem_toArray, List.getElem_cons_succ, List.getElem_cons_zero, Act.put, List.setIfInBounds_toArray, List.set_cons_zero, List.set_cons_succ])
                have BA := Lib.hid (BoxAt.grown BA.out hgr)
                have SA := Lib.hid (SA.out.grown hgr)
                have GW := Lib.hid (grown_trans GW.out hgr)
                have s0 := hgr.cell s0 (by simp); have s1 := hgr.cell s1 (by simp); have s2 := hgr.cell s2 (by simp); have s3 := hgr.cell s3 (by simp)
                clear hgr
                have hz3 := hsz
                clear hsz
                refine wpAnyH_ready (rs := [5]) (by kernel_rfl) (by simp) ?_
                refine AllReadyH.cons rfl (fun K hK => ?_) ?_
                · skip
                  go_simp
                  have hgr := World.grownBy_alloc v3 (.cells #[.int .i64 0, .int .i64 0, .string ⟨#[]⟩, .slice none 0 0] 24) none
                  have hbn := BoxAt.new v3 mach0 (.slice none 0 0)
                  have hsz : v3.heap.size < (v3.alloc (.cells #[.int .i64 0, .int .i64 0, .string ⟨#[]⟩, .slice none 0 0] 24)).heap.size := by simp
                  refine hK.out _ _ ⟨hgr.cell s0 (by simp), hgr.cell s1 (by simp), hgr.cell s2 (by simp), hgr.cell s3 (by simp)⟩ (fun hHeld => ?_)
                  clear hK K
                  (try simp only [List.getElem_toArray, List.getElem_cons_succ, List.getElem_cons_zero, Act.put, List.setIfInBounds_toArray, List.set_cons_zero, List.set_cons_succ])
                  have BB : Hid (BoxAt (v3.alloc (.cells #[.int .i64 0, .int .i64 0, .string ⟨#[]⟩, .slice none 0 0] 24)) v3.heap.size mach0 (.slice none 0 0)) := Lib.hid hbn
                  clear hbn
                  have BA := Lib.hid (BoxAt.grown BA.out hgr)
                  have SA := Lib.hid (SA.out.grown hgr)
                  have SB := Lib.hid (SB.out.grown hgr)
                  have GW := Lib.hid (grown_trans GW.out hgr)
                  have s0 := hgr.cell s0 (by simp); have s1 := hgr.cell s1 (by simp); have s2 := hgr.cell s2 (by simp); have s3 := hgr.cell s3 (by simp)
                  clear hgr
                  generalize v3.alloc (.cells #[.int .i64 0, .int .i64 0, .string ⟨#[]⟩, .slice none 0 0] 24) = v4 at *
                  have hz4 := hsz
                  clear hsz
                  have hle := GW.out.size
                  obtain ⟨a0, a1, a2, a3⟩ := BoxAt.cells BA.out
                  have fa0 := BoxAt.free BA.out 0; have fa1 := BoxAt.free BA.out 1; have fa2 := BoxAt.free BA.out 2; have fa3 := BoxAt.free BA.out 3
                  obtain ⟨hfA, hgA⟩ := box_fill (n := t) (v := .slice AA t.states.length cA) BA.out
                  have hbB := (hgA.block _ (BoxAt.lt BB.out) (by simp; omega)).trans BB.out
                  obtain ⟨b0, b1, b2, b3⟩ := BoxAt.cells hbB
                  have fb0 := BoxAt.free hbB 0; have fb1 := BoxAt.free hbB 1; have fb2 := BoxAt.free hbB 2; have fb3 := BoxAt.free hbB 3
                  obtain ⟨hfB, hgB⟩ := box_fill (n := t) (v := .slice AB t.states.length cB) hbB
                  have TW := Lib.hid (twin_fill (A := AA) (B := AB) GW.out BA.out BB.out SA.out SB.out OA.out OB.out (by omega) (by omega) (by omega) (by omega) (by omega) (by omega) (by omega) (by omega) (by omega))
                  have r0 := hgA.cell s0 (by simp; omega); have r1 := hgA.cell s1 (by simp; omega); have r2 := hgA.cell s2 (by simp; omega); have r3 := hgA.cell s3 (by simp; omega)
                  have q0 := hgB.cell r0 (by simp; omega); have q1 := hgB.cell r1 (by simp; omega); have q2 := hgB.cell r2 (by simp; omega); have q3 := hgB.cell r3 (by simp; omega)
                  clear hfA hgA hbB hfB hgB
                  refine wpAnyH_ready (rs := [6]) (by kernel_rfl) (by simp) ?_
                  refine AllReadyH.cons rfl (fun K hK => ?_) AllReadyH.nil
                  go_simp
                  refine hK.out _ _ ⟨r0, r1, r2, r3⟩ (fun hHeld => ?_)
                  clear hK K
                  (try simp only [List.getElem_toArray, List.getElem_cons_succ, List.getElem_cons_zero, Act.put, List.setIfInBounds_toArray, List.set_cons_zero, List.set_cons_succ])
                  refine wpAnyH_ready (rs := [7]) (by kernel_rfl) (by simp) ?_
                  refine AllReadyH.cons rfl (fun K hK => ?_) AllReadyH.nil
                  go_simp
                  refine hK.out _ _ ⟨q0, q1, q2, q3⟩ (fun hHeld => ?_)
                  clear hK K
                  (try simp only [List.getElem_toArray, List.getElem_cons_succ, List.getElem_cons_zero, Act.put, List.setIfInBounds_toArray, List.set_cons_zero, List.set_cons_succ])
                  refine wpAnyH_done (by kernel_rfl) ?_ _
                  go_wp2_with (fail)
                  go_meet
                  case rel => exact ⟨_, _, _, _, _, _, _, _, rfl, rfl, TW.out⟩
                exact AllReadyH.nil
              refine AllReadyH.cons rfl (fun K hK => ?_) ?_
              · skip
                go_simp
                have hgr := World.grownBy_alloc v2 (.cells #[.int .i64 0, .int .i64 0, .string ⟨#[]⟩, .slice none 0 0] 24) none
                have hbn := BoxAt.new v2 mach0 (.slice none 0 0)
                have hsz : v2.heap.size < (v2.alloc (.cells #[.int .i64 0, .int .i64 0, .string ⟨#[]⟩, .slice none 0 0] 24)).heap.size := by simp
                refine hK.out _ _ ⟨hgr.cell s0 (by simp), hgr.cell s1 (by simp), hgr.cell s2 (by simp), hgr.cell s3 (by simp)⟩ (fun hHeld => ?_)
                clear hK K
                (try simp only [List.getElem_toArray, List.getElem_cons_succ, List.getElem_cons_zero, Act.put, List.setIfInBounds_toArray, List.set_cons_zero, List.set_cons_succ])
                have BB : Hid (BoxAt (v2.alloc (.cells #[.int .i64 0, .int .i64 0, .string ⟨#[]⟩, .slice none 0 0] 24)) v2.heap.size mach0 (.slice none 0 0)) := Lib.hid hbn
                clear hbn
                have BA := Lib.hid (BoxAt.grown BA.out hgr)
                have SA := Lib.hid (SA.out.grown hgr)
                have GW := Lib.hid (grown_trans GW.out hgr)
                have s0 := hgr.cell s0 (by simp); have s1 := hgr.cell s1 (by simp); have s2 := hgr.cell s2 (by simp); have s3 := hgr.cell s3 (by simp)
                clear hgr
                generalize v2.alloc (.cells #[.int .i64 0, .int .i64 0, .string ⟨#[]⟩, .slice none 0 0] 24) = v3 at *
                have hz3 := hsz
                clear hsz
                refine wpAnyH_ready (rs := [3]) (by kernel_rfl) (by simp) ?_
                refine AllReadyH.cons rfl (fun K hK => ?_) ?_
                · skip
                  go_simp
                  refine (clone6_any (MachV.fill (HSt2.out.grown GW.out)) HL3.out HL4.out).mono ?_
                  rintro e v4 ⟨v, rfl, ⟨u', rfl, hst⟩, hgr⟩
                  obtain ⟨AB, cB, _, rfl, _⟩ := hst.sl
                  obtain ⟨hst1, hst2⟩ := hst.bounded
                  have SB := Lib.hid hst1; have OB := Lib.hid hst2
                  have hsz := hgr.size
                  clear hst hst1 hst2
                  refine hK.out _ _ ⟨hgr.cell s0 (by simp), hgr.cell s1 (by simp), hgr.cell s2 (by simp), hgr.cell s3 (by simp)⟩ (fun hHeld => ?_)
                  clear hK K
                  (try simp only [List.getElem_toArray, List.getElem_cons_succ, List.getElem_cons_zero, Act.put, List.setIfInBounds_toArray, List.set_cons_zero, List.set_cons_succ])
                  have BA := Lib.hid (BoxAt.grown BA.out hgr)
                  have BB := Lib.hid (BoxAt.grown BB.out hgr)
                  have SA := Lib.hid (SA.out.grown hgr)
                  have GW := Lib.hid (grown_trans GW.out hgr)
                  have s0 := hgr.cell s0 (by simp); have s1 := hgr.cell s1 (by simp); have s2 := hgr.cell s2 (by simp); have s3 := hgr.cell s3 (by simp)
                  clear hgr
                  have hz4 := hsz
                  clear hsz
                  have hle := GW.out.size
                  obtain ⟨a0, a1, a2, a3⟩ := BoxAt.cells BA.out
                  have fa0 := BoxAt.free BA.out 0; have fa1 := BoxAt.free BA.out 1; have fa2 := BoxAt.free BA.out 2; have fa3 := BoxAt.free BA.out 3
                  obtain ⟨hfA, hgA⟩ := box_fill (n := t) (v := .slice AA t.states.length cA) BA.out
                  have hbB := (hgA.block _ (BoxAt.lt BB.out) (by simp; omega)).trans BB.out
                  obtain ⟨b0, b1, b2, b3⟩ := BoxAt.cells hbB
                  have fb0 := BoxAt.free hbB 0; have fb1 := BoxAt.free hbB 1; have fb2 := BoxAt.free hbB 2; have fb3 := BoxAt.free hbB 3
                  obtain ⟨hfB, hgB⟩ := box_fill (n := t) (v := .slice AB t.states.length cB) hbB
                  have TW := Lib.hid (twin_fill (A := AA) (B := AB) GW.out BA.out BB.out SA.out SB.out OA.out OB.out (by omega) (by omega) (by omega) (by omega) (by omega) (by omega) (by omega) (by omega) (by omega))
                  have r0 := hgA.cell s0 (by simp; omega); have r1 := hgA.cell s1 (by simp; omega); have r2 := hgA.cell s2 (by simp; omega); have r3 := hgA.cell s3 (by simp; omega)
                  have q0 := hgB.cell r0 (by simp; omega); have q1 := hgB.cell r1 (by simp; omega); have q2 := hgB.cell r2 (by simp; omega); have q3 := hgB.cell r3 (by simp; omega)
                  clear hfA hgA hbB hfB hgB
                  refine wpAnyH_ready (rs := [6]) (by kernel_rfl) (by simp) ?_
                  refine AllReadyH.cons rfl (fun K hK => ?_) AllReadyH.nil
                  go_simp
                  refine hK.out _ _ ⟨r0, r1, r2, r3⟩ (fun hHeld => ?_)
                  clear hK K
                  (try simp only [List.getElem_toArray, List.getElem_cons_succ, List.getElem_cons_zero, Act.put, List.setIfInBounds_toArray, List.set_cons_zero, List.set_cons_succ])
                  refine wpAnyH_ready (rs := [7]) (by kernel_rfl) (by simp) ?_
                  refine AllReadyH.cons rfl (fun K hK => ?_) AllReadyH.nil
                  go_simp
                  refine hK.out _ _ ⟨q0, q1, q2, q3⟩ (fun hHeld => ?_)
                  clear hK K
                  (try simp only [List.getElem_toArray, List.getElem_cons_succ, List.getElem_cons_zero, Act.put, List.setIfInBounds_toArray, List.set_cons_zero, List.set_cons_succ])
                  refine wpAnyH_done (by kernel_rfl) ?_ _
                  go_wp2_with (fail)
                  go_meet
                  case rel => exact ⟨_, _, _, _, _, _, _, _, rfl, rfl, TW.out⟩
                exact AllReadyH.nil
              exact AllReadyH.nil
            refine AllReadyH.cons rfl (fun K hK => ?_) ?_
            · skip
              go_simp
              have hgr := World.grownBy_alloc v1 (.cells #[.int .i64 0, .int .i64 0, .string ⟨#[]⟩, .slice none 0 0] 24) none
              have hbn := BoxAt.new v1 mach0 (.slice none 0 0)
              have hsz : v1.heap.size < (v1.alloc (.cells #[.int .i64 0, .int .i64 0, .string ⟨#[]⟩, .slice none 0 0] 24)).heap.size := by simp
              refine hK.out _ _ ⟨hgr.cell s0 (by simp), hgr.cell s1 (by simp), hgr.cell s2 (by simp), hgr.cell s3 (by simp)⟩ (fun hHeld => ?_)
              clear hK K
              (try simp only [List.getElem_toArray, List.getElem_cons_succ, List.getElem_cons_zero, Act.put, List.setIfInBounds_toArray, List.set_cons_zero, List.set_cons_succ])
              have BB : Hid (BoxAt (v1.alloc (.cells #[.int .i64 0, .int .i64 0, .string ⟨#[]⟩, .slice none 0 0] 24)) v1.heap.size mach0 (.slice none 0 0)) := Lib.hid hbn
              clear hbn
              have BA := Lib.hid (BoxAt.grown BA.out hgr)
              have GW := Lib.hid (grown_trans GW.out hgr)
              have s0 := hgr.cell s0 (by simp); have s1 := hgr.cell s1 (by simp); have s2 := hgr.cell s2 (by simp); have s3 := hgr.cell s3 (by simp)
              clear hgr
              generalize v1.alloc (.cells #[.int .i64 0, .int .i64 0, .string ⟨#[]⟩, .slice none 0 0] 24) = v2 at *
              have hz2 := hsz
              clear hsz
              refine wpAnyH_ready (rs := [1]) (by kernel_rfl) (by simp) ?_
              refine AllReadyH.cons rfl (fun K hK => ?_) ?_
              · skip
                go_simp
                refine (clone6_any (MachV.fill (HSt2.out.grown GW.out)) HL3.out HL4.out).mono ?_
                rintro e v3 ⟨v, rfl, ⟨u', rfl, hst⟩, hgr⟩
                obtain ⟨AA, cA, _, rfl, _⟩ := hst.sl
                obtain ⟨hst1, hst2⟩ := hst.bounded
                have SA := Lib.hid hst1; have OA := Lib.hid hst2
                have hsz := hgr.size
                clear hst hst1 hst2
                refine hK.out _ _ ⟨hgr.cell s0 (by simp), hgr.cell s1 (by simp), hgr.cell s2 (by simp), hgr.cell s3 (by simp)⟩ (fun hHeld => ?_)
                clear hK K
                (try simp only [List.getElem_toArray, List.getElem_cons_succ, List.getElem_cons_zero, Act.put, List.setIfInBounds_toArray, List.set_cons_zero, List.set_cons_succ])
                have BA := Lib.hid (BoxAt.grown BA.out hgr)
                have BB := Lib.hid (BoxAt.grown BB.out hgr)
                have GW := Lib.hid (grown_trans GW.out hgr)
                have s0 := hgr.cell s0 (by simp); have s1 := hgr.cell s1 (by simp); have s2 := hgr.cell s2 (by simp); have s3 := hgr.cell s3 (by simp)
                clear hgr
                have hz3 := hsz
                clear hsz
                refine wpAnyH_ready (rs := [3]) (by kernel_rfl) (by simp) ?_
                refine AllReadyH.cons rfl (fun K hK => ?_) ?_
                · skip
                  go_simp
                  refine (clone6_any (MachV.fill (HSt2.out.grown GW.out)) HL3.out HL4.out).mono ?_
                  rintro e v4 ⟨v, rfl, ⟨u', rfl, hst⟩, hgr⟩
                  obtain ⟨AB, cB, _, rfl, _⟩ := hst.sl
                  obtain ⟨hst1, hst2⟩ := hst.bounded
                  have SB := Lib.hid hst1; have OB := Lib.hid hst2
                  have hsz := hgr.size
                  clear hst hst1 hst2
                  refine hK.out _ _ ⟨hgr.cell s0 (by simp), hgr.cell s1 (by simp), hgr.cell s2 (by simp), hgr.cell s3 (by simp)⟩ (fun hHeld => ?_)
                  clear hK K
                  (try simp only [List.getElem_toArray, List.getElem_cons_succ, List.getElem_cons_zero, Act.put, List.setIfInBounds_toArray, List.set_cons_zero, List.set_cons_succ])
                  have BA := Lib.hid (BoxAt.grown BA.out hgr)
                  have BB := Lib.hid (BoxAt.grown BB.out hgr)
                  have SA := Lib.hid (SA.out.grown hgr)
                  have GW := Lib.hid (grown_trans GW.out hgr)
                  have s0 := hgr.cell s0 (by simp); have s1 := hgr.cell s1 (by simp); have s2 := hgr.cell s2 (by simp); have s3 := hgr.cell s3 (by simp)
                  clear hgr
                  have hz4 := hsz
                  clear hsz
                  have hle := GW.out.size
                  obtain ⟨a0, a1, a2, a3⟩ := BoxAt.cells BA.out
                  have fa0 := BoxAt.free BA.out 0; have fa1 := BoxAt.free BA.out 1; have fa2 := BoxAt.free BA.out 2; have fa3 := BoxAt.free BA.out 3
                  obtain ⟨hfA, hgA⟩ := box_fill (n := t) (v := .slice AA t.states.length cA) BA.out
                  have hbB := (hgA.block _ (BoxAt.lt BB.out) (by simp; omega)).trans BB.out
                  obtain ⟨b0, b1, b2, b3⟩ := BoxAt.cells hbB
                  have fb0 := BoxAt.free hbB 0; have fb1 := BoxAt.free hbB 1; have fb2 := BoxAt.free hbB 2; have fb3 := BoxAt.free hbB 3
                  obtain ⟨hfB, hgB⟩ := box_fill (n := t) (v := .slice AB t.states.length cB) hbB
                  have TW := Lib.hid (twin_fill (A := AA) (B := AB) GW.out BA.out BB.out SA.out SB.out OA.out OB.out (by omega) (by omega) (by omega) (by omega) (by omega) (by omega) (by omega) (by omega) (by omega))
                  have r0 := hgA.cell s0 (by simp; omega); have r1 := hgA.cell s1 (by simp; omega); have r2 := hgA.cell s2 (by simp; omega); have r3 := hgA.cell s3 (by simp; omega)
                  have q0 := hgB.cell r0 (by simp; omega); have q1 := hgB.cell r1 (by simp; omega); have q2 := hgB.cell r2 (by simp; omega); have q3 := hgB.cell r3 (by simp; omega)
                  clear hfA hgA hbB hfB hgB
                  refine wpAnyH_ready (rs := [6]) (by kernel_rfl) (by simp) ?_
                  refine AllReadyH.cons rfl (fun K hK => ?_) AllReadyH.nil
                  go_simp
                  refine hK.out _ _ ⟨r0, r1, r2, r3⟩ (fun hHeld => ?_)
                  clear hK K
                  (try simp only [List.getElem_toArray, List.getElem_cons_succ, List.getElem_cons_zero, Act.put, List.setIfInBounds_toArray, List.set_cons_zero, List.set_cons_succ])
                  refine wpAnyH_ready (rs := [7]) (by kernel_rfl) (by simp) ?_
                  refine AllReadyH.cons rfl (fun K hK => ?_) AllReadyH.nil
                  go_simp
                  refine hK.out _ _ ⟨q0, q1, q2, q3⟩ (fun hHeld => ?_)
                  clear hK K
                  (try simp only [List.getElem_toArray, List.getElem_cons_succ, List.getElem_cons_zero, Act.put, List.setIfInBounds_toArray, List.set_cons_zero, List.set_cons_succ])
                  refine wpAnyH_done (by kernel_rfl) ?_ _
                  go_wp2_with (fail)
                  go_meet
                  case rel => exact ⟨_, _, _, _, _, _, _, _, rfl, rfl, TW.out⟩
                exact AllReadyH.nil
              exact AllReadyH.nil
            exact AllReadyH.nil
          refine AllReadyH.cons rfl (fun K hK => ?_) ?_
          · skip
            go_simp
            have hgr := World.grownBy_alloc v0 (.cells #[.int .i64 0, .int .i64 0, .string ⟨#[]⟩, .slice none 0 0] 24) none
            have hbn := BoxAt.new v0 mach0 (.slice none 0 0)
            have hsz : v0.heap.size < (v0.alloc (.cells #[.int .i64 0, .int .i64 0, .string ⟨#[]⟩, .slice none 0 0] 24)).heap.size := by simp
            refine hK.out _ _ ⟨hgr.cell s0 (by simp), hgr.cell s1 (by simp), hgr.cell s2 (by simp), hgr.cell s3 (by simp)⟩ (fun hHeld => ?_)
            clear hK K
            (try simp only [List.getElem_toArray, List.getElem_cons_succ, List.getElem_cons_zero, Act.put, List.setIfInBounds_toArray, List.set_cons_zero, List.set_cons_succ])
            have BB : Hid (BoxAt (v0.alloc (.cells #[.int .i64 0, .int .i64 0, .string ⟨#[]⟩, .slice none 0 0] 24)) v0.heap.size mach0 (.slice none 0 0)) := Lib.hid hbn
            clear hbn
            have GW := Lib.hid (grown_trans GW.out hgr)
            have s0 := hgr.cell s0 (by simp); have s1 := hgr.cell s1 (by simp); have s2 := hgr.cell s2 (by simp); have s3 := hgr.cell s3 (by simp)
            clear hgr
            generalize v0.alloc (.cells #[.int .i64 0, .int .i64 0, .string ⟨#[]⟩, .slice none 0 0] 24) = v1 at *
            have hz1 := hsz
            clear hsz
            refine wpAnyH_ready (rs := [1, 4]) (by kernel_rfl) (by simp) ?_
            refine AllReadyH.cons rfl (fun K hK => ?_) ?_
            · skip
              go_simp
              refine (clone6_any (MachV.fill (HSt2.out.grown GW.out)) HL3.out HL4.out).mono ?_
              rintro e v2 ⟨v, rfl, ⟨u', rfl, hst⟩, hgr⟩
              obtain ⟨AA, cA, _, rfl, _⟩ := hst.sl
              obtain ⟨hst1, hst2⟩ := hst.bounded
              have SA := Lib.hid hst1; have OA := Lib.hid hst2
              have hsz := hgr.size
              clear hst hst1 hst2
              refine hK.out _ _ ⟨hgr.cell s0 (by simp), hgr.cell s1 (by simp), hgr.cell s2 (by simp), hgr.cell s3 (by simp)⟩ (fun hHeld => ?_)
              clear hK K
              (try simp only [List.getElem_toArray, List.getElem_cons_succ, List.getElem_cons_zero, Act.put, List.setIfInBounds_toArray, List.set_cons_zero, List.set_cons_succ])
              have BB := Lib.hid (BoxAt.grown BB.out hgr)
              have GW := Lib.hid (grown_trans GW.out hgr)
              have s0 := hgr.cell s0 (by simp); have s1 := hgr.cell s1 (by simp); have s2 := hgr.cell s2 (by simp); have s3 := hgr.cell s3 (by simp)
              clear hgr
              have hz2 := hsz
              clear hsz
              refine wpAnyH_ready (rs := [3, 4]) (by kernel_rfl) (by simp) ?_
              refine AllReadyH.cons rfl (fun K hK => ?_) ?_
              · skip
                go_simp
                refine (clone6_any (MachV.fill (HSt2.out.grown GW.out)) HL3.out HL4.out).mono ?_
                rintro e v3 ⟨v, rfl, ⟨u', rfl, hst⟩, hgr⟩
                obtain ⟨AB, cB, _, rfl, _⟩ := hst.sl
                obtain ⟨hst1, hst2⟩ := hst.bounded
                have SB := Lib.hid hst1; have OB := Lib.hid hst2
                have hsz := hgr.size
                clear hst hst1 hst2
                refine hK.out _ _ ⟨hgr.cell s0 (by simp), hgr.cell s1 (by simp), hgr.cell s2 (by simp), hgr.cell s3 (by simp)⟩ (fun hHeld => ?_)
                clear hK K
                (try simp only [List.getElem_toArray, List.getElem_cons_succ, List.getElem_cons_zero, Act.put, List.setIfInBounds_toArray, List.set_cons_zero, List.set_cons_succ])
                have BB := Lib.hid (BoxAt.grown BB.out hgr)
                have SA := Lib.hid (SA.out.grown hgr)
                have GW := Lib.hid (grown_trans GW.out hgr)
                have s0 := hgr.cell s0 (by simp); have s1 := hgr.cell s1 (by simp); have s2 := hgr.cell s2 (by simp); have s3 := hgr.cell s3 (by simp)
                clear hgr
                have hz3 := hsz
                clear hsz
                refine wpAnyH_ready (rs := [4]) (by kernel_rfl) (by simp) ?_
                refine AllReadyH.cons rfl (fun K hK => ?_) ?_
                · skip
                  go_simp
                  have hgr := World.grownBy_alloc v3 (.cells #[.int .i64 0, .int .i64 0, .string ⟨#[]⟩, .slice none 0 0] 24) none
                  have hbn := BoxAt.new v3 mach0 (.slice none 0 0)
                  have hsz : v3.heap.size < (v3.alloc (.cells #[.int .i64 0, .int .i64 0, .string ⟨#[]⟩, .slice none 0 0] 24)).heap.size := by simp
                  refine hK.out _ _ ⟨hgr.cell s0 (by simp), hgr.cell s1 (by simp), hgr.cell s2 (by simp), hgr.cell s3 (by simp)⟩ (fun hHeld => ?_)
                  clear hK K
                  (try simp only [List.getElem_toArray, List.getElem_cons_succ, List.getElem_cons_zero, Act.put, List.setIfInBounds_toArray, List.set_cons_zero, List.set_cons_succ])
                  have BA : Hid (BoxAt (v3.alloc (.cells #[.int .i64 0, .int .i64 0, .string ⟨#[]⟩, .slice none 0 0] 24)) v3.heap.size mach0 (.slice none 0 0)) := Lib.hid hbn
                  clear hbn
                  have BB := Lib.hid (BoxAt.grown BB.out hgr)
                  have SA := Lib.hid (SA.out.grown hgr)
                  have SB := Lib.hid (SB.out.grown hgr)
                  have GW := Lib.hid (grown_trans GW.out hgr)
                  have s0 := hgr.cell s0 (by simp); have s1 := hgr.cell s1 (by simp); have s2 := hgr.cell s2 (by simp); have s3 := hgr.cell s3 (by simp)
                  clear hgr
                  generalize v3.alloc (.cells #[.int .i64 0, .int .i64 0, .string ⟨#[]⟩, .slice none 0 0] 24) = v4 at *
                  have hz4 := hsz
                  clear hsz
                  have hle := GW.out.size
                  obtain ⟨a0, a1, a2, a3⟩ := BoxAt.cells BA.out
                  have fa0 := BoxAt.free BA.out 0; have fa1 := BoxAt.free BA.out 1; have fa2 := BoxAt.free BA.out 2; have fa3 := BoxAt.free BA.out 3
                  obtain ⟨hfA, hgA⟩ := box_fill (n := t) (v := .slice AA t.states.length cA) BA.out
                  have hbB := (hgA.block _ (BoxAt.lt BB.out) (by simp; omega)).trans BB.out
                  obtain ⟨b0, b1, b2, b3⟩ := BoxAt.cells hbB
                  have fb0 := BoxAt.free hbB 0; have fb1 := BoxAt.free hbB 1; have fb2 := BoxAt.free hbB 2; have fb3 := BoxAt.free hbB 3
                  obtain ⟨hfB, hgB⟩ := box_fill (n := t) (v := .slice AB t.states.length cB) hbB
                  have TW := Lib.hid (twin_fill (A := AA) (B := AB) GW.out BA.out BB.out SA.out SB.out OA.out OB.out (by omega) (by omega) (by omega) (by omega) (by omega) (by omega) (by omega) (by omega) (by omega))
                  have r0 := hgA.cell s0 (by simp; omega); have r1 := hgA.cell s1 (by simp; omega); have r2 := hgA.cell s2 (by simp; omega); have r3 := hgA.cell s3 (by simp; omega)
                  have q0 := hgB.cell r0 (by simp; omega); have q1 := hgB.cell r1 (by simp; omega); have q2 := hgB.cell r2 (by simp; omega); have q3 := hgB.cell r3 (by simp; omega)
                  clear hfA hgA hbB hfB hgB
                  refine wpAnyH_ready (rs := [6]) (by kernel_rfl) (by simp) ?_
                  refine AllReadyH.cons rfl (fun K hK => ?_) AllReadyH.nil
                  go_simp
                  refine hK.out _ _ ⟨r0, r1, r2, r3⟩ (fun hHeld => ?_)
                  clear hK K
                  (try simp only [List.getElem_toArray, List.getElem_cons_succ, List.getElem_cons_zero, Act.put, List.setIfInBounds_toArray, List.set_cons_zero, List.set_cons_succ])
                  refine wpAnyH_ready (rs := [7]) (by kernel_rfl) (by simp) ?_
                  refine AllReadyH.cons rfl (fun K hK => ?_) AllReadyH.nil
                  go_simp
                  refine hK.out _ _ ⟨q0, q1, q2, q3⟩ (fun hHeld => ?_)
                  clear hK K
                  (try simp only [List.getElem_toArray, List.getElem_cons_succ, List.getElem_cons_zero, Act.put, List.setIfInBounds_toArray, List.set_cons_zero, List.set_cons_succ])
                  refine wpAnyH_done (by kernel_rfl) ?_ _
                  go_wp2_with (fail)
                  go_meet
                  case rel => exact ⟨_, _, _, _, _, _, _, _, rfl, rfl, TW.out⟩
                exact AllReadyH.nil
              refine AllReadyH.cons rfl (fun K hK => ?_) ?_
              · skip
                go_simp
                have hgr := World.grownBy_alloc v2 (.cells #[.int .i64 0, .int .i64 0, .string ⟨#[]⟩, .slice none 0 0] 24) none
                have hbn := BoxAt.new v2 mach0 (.slice none 0 0)
                have hsz : v2.heap.size < (v2.alloc (.cells #[.int .i64 0, .int .i64 0, .string ⟨#[]⟩, .slice none 0 0] 24)).heap.size := by simp
                refine hK.out _ _ ⟨hgr.cell s0 (by simp), hgr.cell s1 (by simp), hgr.cell s2 (by simp), hgr.cell s3 (by simp)⟩ (fun hHeld => ?_)
                clear hK K
                (try simp only [List.getElem_toArray, List.getElem_cons_succ, List.getElem_cons_zero, Act.put, List.setIfInBounds_toArray, List.set_cons_zero, List.set_cons_succ])
                have BA : Hid (BoxAt (v2.alloc (.cells #[.int .i64 0, .int .i64 0, .string ⟨#[]⟩, .slice none 0 0] 24)) v2.heap.size mach0 (.slice none 0 0)) := Lib.hid hbn
                clear hbn
                have BB := Lib.hid (BoxAt.grown BB.out hgr)
                have SA := Lib.hid (SA.out.grown hgr)
                have GW := Lib.hid (grown_trans GW.out hgr)
                have s0 := hgr.cell s0 (by simp); have s1 := hgr.cell s1 (by simp); have s2 := hgr.cell s2 (by simp); have s3 := hgr.cell s3 (by simp)
                clear hgr
                generalize v2.alloc (.cells #[.int .i64 0, .int .i64 0, .string ⟨#[]⟩, .slice none 0 0] 24) = v3 at *
                have hz3 := hsz
                clear hsz
                refine wpAnyH_ready (rs := [3]) (by kernel_rfl) (by simp) ?_
                refine AllReadyH.cons rfl (fun K hK => ?_) ?_
                · skip
                  go_simp
                  refine (clone6_any (MachV.fill (HSt2.out.grown GW.out)) HL3.out HL4.out).mono ?_
                  rintro e v4 ⟨v, rfl, ⟨u', rfl, hst⟩, hgr⟩
                  obtain ⟨AB, cB, _, rfl, _⟩ := hst.sl
                  obtain ⟨hst1, hst2⟩ := hst.bounded
                  have SB := Lib.hid hst1; have OB := Lib.hid hst2
                  have hsz := hgr.size
                  clear hst hst1 hst2
                  refine hK.out _ _ ⟨hgr.cell s0 (by simp), hgr.cell s1 (by simp), hgr.cell s2 (by simp), hgr.cell s3 (by simp)⟩ (fun hHeld => ?_)
                  clear hK K
                  (try simp only [List.getElem_toArray, List.getElem_cons_succ, List.getElem_cons_zero, Act.put, List.setIfInBounds_toArray, List.set_cons_zero, List.set_cons_succ])
                  have BA := Lib.hid (BoxAt.grown BA.out hgr)
                  have BB := Lib.hid (BoxAt.grown BB.out hgr)
                  have SA := Lib.hid (SA.out.grown hgr)
                  have GW := Lib.hid (grown_trans GW.out hgr)
                  have s0 := hgr.cell s0 (by simp); have s1 := hgr.cell s1 (by simp); have s2 := hgr.cell s2 (by simp); have s3 := hgr.cell s3 (by simp)
                  clear hgr
                  have hz4 := hsz
                  clear hsz
                  have hle := GW.out.size
                  obtain ⟨a0, a1, a2, a3⟩ := BoxAt.cells BA.out
                  have fa0 := BoxAt.free BA.out 0; have fa1 := BoxAt.free BA.out 1; have fa2 := BoxAt.free BA.out 2; have fa3 := BoxAt.free BA.out 3
                  obtain ⟨hfA, hgA⟩ := box_fill (n := t) (v := .slice AA t.states.length cA) BA.out
                  have hbB := (hgA.block _ (BoxAt.lt BB.out) (by simp; omega)).trans BB.out
                  obtain ⟨b0, b1, b2, b3⟩ := BoxAt.cells hbB
                  have fb0 := BoxAt.free hbB 0; have fb1 := BoxAt.free hbB 1; have fb2 := BoxAt.free hbB 2; have fb3 := BoxAt.free hbB 3
                  obtain ⟨hfB, hgB⟩ := box_fill (n := t) (v := .slice AB t.states.length cB) hbB
                  have TW := Lib.hid (twin_fill (A := AA) (B := AB) GW.out BA.out BB.out SA.out SB.out OA.out OB.out (by omega) (by omega) (by omega) (by omega) (by omega) (by omega) (by omega) (by omega) (by omega))
                  have r0 := hgA.cell s0 (by simp; omega); have r1 := hgA.cell s1 (by simp; omega); have r2 := hgA.cell s2 (by simp; omega); have r3 := hgA.cell s3 (by simp; omega)
                  have q0 := hgB.cell r0 (by simp; omega); have q1 := hgB.cell r1 (by simp; omega); have q2 := hgB.cell r2 (by simp; omega); have q3 := hgB.cell r3 (by simp; omega)
                  clear hfA hgA hbB hfB hgB
                  refine wpAnyH_ready (rs := [6]) (by kernel_rfl) (by simp) ?_
                  refine AllReadyH.cons rfl (fun K hK => ?_) AllReadyH.nil
                  go_simp
                  refine hK.out _ _ ⟨r0, r1, r2, r3⟩ (fun hHeld => ?_)
                  clear hK K
                  (try simp only [List.getElem_toArray, List.getElem_cons_succ, List.getElem_cons_zero, Act.put, List.setIfInBounds_toArray, List.set_cons_zero, List.set_cons_succ])
                  refine wpAnyH_ready (rs := [7]) (by kernel_rfl) (by simp) ?_
                  refine AllReadyH.cons rfl (fun K hK => ?_) AllReadyH.nil
                  go_simp
                  refine hK.out _ _ ⟨q0, q1, q2, q3⟩ (fun hHeld => ?_)
                  clear hK K
                  (try simp only [List.getElem_toArray, List.getElem_cons_succ, List.getElem_cons_zero, Act.put, List.setIfInBounds_toArray, List.set_cons_zero, List.set_cons_succ])
                  refine wpAnyH_done (by kernel_rfl) ?_ _
                  go_wp2_with (fail)
                  go_meet
                  case rel => exact ⟨_, _, _, _, _, _, _, _, rfl, rfl, TW.out⟩
                exact AllReadyH.nil
              exact AllReadyH.nil
            refine AllReadyH.cons rfl (fun K hK => ?_) ?_
            · skip
              go_simp
              have hgr := World.grownBy_alloc v1 (.cells #[.int .i64 0, .int .i64 0, .string ⟨#[]⟩, .slice none 0 0] 24) none
              have hbn := BoxAt.new v1 mach0 (.slice none 0 0)
              have hsz : v1.heap.size < (v1.alloc (.cells #[.int .i64 0, .int .i64 0, .string ⟨#[]⟩, .slice none 0 0] 24)).heap.size := by simp
              refine hK.out _ _ ⟨hgr.cell s0 (by simp), hgr.cell s1 (by simp), hgr.cell s2 (by simp), hgr.cell s3 (by simp)⟩ (fun hHeld => ?_)
              clear hK K
              (try simp only [List.getElem_toArray, List.getElem_cons_succ, List.getElem_cons_zero, Act.put, List.setIfInBounds_toArray, List.set_cons_zero, List.set_cons_succ])
              have BA : Hid (BoxAt (v1.alloc (.cells #[.int .i64 0, .int .i64 0, .string ⟨#[]⟩, .slice none 0 0] 24)) v1.heap.size mach0 (.slice none 0 0)) := Lib.hid hbn
              clear hbn
              have BB := Lib.hid (BoxAt.grown BB.out hgr)
              have GW := Lib.hid (grown_trans GW.out hgr)
              have s0 := hgr.cell s0 (by simp); have s1 := hgr.cell s1 (by simp); have s2 := hgr.cell s2 (by simp); have s3 := hgr.cell s3 (by simp)
              clear hgr
              generalize v1.alloc (.cells #[.int .i64 0, .int .i64 0, .string ⟨#[]⟩, .slice none 0 0] 24) = v2 at *
              have hz2 := hsz
              clear hsz
              refine wpAnyH_ready (rs := [1]) (by kernel_rfl) (by simp) ?_
              refine AllReadyH.cons rfl (fun K hK => ?_) ?_
              · skip
                go_simp
                refine (clone6_any (MachV.fill (HSt2.out.grown GW.out)) HL3.out HL4.out).mono ?_
                rintro e v3 ⟨v, rfl, ⟨u', rfl, hst⟩, hgr⟩
                obtain ⟨AA, cA, _, rfl, _⟩ := hst.sl
                obtain ⟨hst1, hst2⟩ := hst.bounded
                have SA := Lib.hid hst1; have OA := Lib.hid hst2
                have hsz := hgr.size
                clear hst hst1 hst2
                refine hK.out _ _ ⟨hgr.cell s0 (by simp), hgr.cell s1 (by simp), hgr.cell s2 (by simp), hgr.cell s3 (by simp)⟩ (fun hHeld => ?_)
                clear hK K
                (try simp only [List.getElem_toArray, List.getElem_cons_succ, List.getElem_cons_zero, Act.put, List.setIfInBounds_toArray, List.set_cons_zero, List.set_cons_succ])
                have BA := Lib.hid (BoxAt.grown BA.out hgr)
                have BB := Lib.hid (BoxAt.grown BB.out hgr)
                have GW := Lib.hid (grown_trans GW.out hgr)
                have s0 := hgr.cell s0 (by simp); have s1 := hgr.cell s1 (by simp); have s2 := hgr.cell s2 (by simp); have s3 := hgr.cell s3 (by simp)
                clear hgr
                have hz3 := hsz
                clear hsz
                refine wpAnyH_ready (rs := [3]) (by kernel_rfl) (by simp) ?_
                refine AllReadyH.cons rfl (fun K hK => ?_) ?_
                · skip
                  go_simp
                  refine (clone6_any (MachV.fill (HSt2.out.grown GW.out)) HL3.out HL4.out).mono ?_
                  rintro e v4 ⟨v, rfl, ⟨u', rfl, hst⟩, hgr⟩
                  obtain ⟨AB, cB, _, rfl, _⟩ := hst.sl
                  obtain ⟨hst1, hst2⟩ := hst.bounded
                  have SB := Lib.hid hst1; have OB := Lib.hid hst2
                  have hsz := hgr.size
                  clear hst hst1 hst2
                  refine hK.out _ _ ⟨hgr.cell s0 (by simp), hgr.cell s1 (by simp), hgr.cell s2 (by simp), hgr.cell s3 (by simp)⟩ (fun hHeld => ?_)
                  clear hK K
                  (try simp only [List.getElem_toArray, List.getElem_cons_succ, List.getElem_cons_zero, Act.put, List.setIfInBounds_toArray, List.set_cons_zero, List.set_cons_succ])
                  have BA := Lib.hid (BoxAt.grown BA.out hgr)
                  have BB := Lib.hid (BoxAt.grown BB.out hgr)
                  have SA := Lib.hid (SA.out.grown hgr)
                  have GW := Lib.hid (grown_trans GW.out hgr)
                  have s0 := hgr.cell s0 (by simp); have s1 := hgr.cell s1 (by simp); have s2 := hgr.cell s2 (by simp); have s3 := hgr.cell s3 (by simp)
                  clear hgr
                  have hz4 := hsz
                  clear hsz
                  have hle := GW.out.size
                  obtain ⟨a0, a1, a2, a3⟩ := BoxAt.cells BA.out
                  have fa0 := BoxAt.free BA.out 0; have fa1 := BoxAt.free BA.out 1; have fa2 := BoxAt.free BA.out 2; have fa3 := BoxAt.free BA.out 3
                  obtain ⟨hfA, hgA⟩ := box_fill (n := t) (v := .slice AA t.states.length cA) BA.out
                  have hbB := (hgA.block _ (BoxAt.lt BB.out) (by simp; omega)).trans BB.out
                  obtain ⟨b0, b1, b2, b3⟩ := BoxAt.cells hbB
                  have fb0 := BoxAt.free hbB 0; have fb1 := BoxAt.free hbB 1; have fb2 := BoxAt.free hbB 2; have fb3 := BoxAt.free hbB 3
                  obtain ⟨hfB, hgB⟩ := box_fill (n := t) (v := .slice AB t.states.length cB) hbB
                  have TW := Lib.hid (twin_fill (A := AA) (B := AB) GW.out BA.out BB.out SA.out SB.out OA.out OB.out (by omega) (by omega) (by omega) (by omega) (by omega) (by omega) (by omega) (by omega) (by omega))
                  have r0 := hgA.cell s0 (by simp; omega); have r1 := hgA.cell s1 (by simp; omega); have r2 := hgA.cell s2 (by simp; omega); have r3 := hgA.cell s3 (by simp; omega)
                  have q0 := hgB.cell r0 (by simp; omega); have q1 := hgB.cell r1 (by simp; omega); have q2 := hgB.cell r2 (by simp; omega); have q3 := hgB.cell r3 (by simp; omega)
                  clear hfA hgA hbB hfB hgB
                  refine wpAnyH_ready (rs := [6]) (by kernel_rfl) (by simp) ?_
                  refine AllReadyH.cons rfl (fun K hK => ?_) AllReadyH.nil
                  go_simp
                  refine hK.out _ _ ⟨r0, r1, r2, r3⟩ (fun hHeld => ?_)
                  clear hK K
                  (try simp only [List.getElem_toArray, List.getElem_cons_succ, List.getElem_cons_zero, Act.put, List.setIfInBounds_toArray, List.set_cons_zero, List.set_cons_succ])
                  refine wpAnyH_ready (rs := [7]) (by kernel_rfl) (by simp) ?_
                  refine AllReadyH.cons rfl (fun K hK => ?_) AllReadyH.nil
                  go_simp
                  refine hK.out _ _ ⟨q0, q1, q2, q3⟩ (fun hHeld => ?_)
                  clear hK K
                  (try simp only [List.getElem_toArray, List.getElem_cons_succ, List.getElem_cons_zero, Act.put, List.setIfInBounds_toArray, List.set_cons_zero, List.set_cons_succ])
                  refine wpAnyH_done (by kernel_rfl) ?_ _
                  go_wp2_with (fail)
                  go_meet
                  case rel => exact ⟨_, _, _, _, _, _, _, _, rfl, rfl, TW.out⟩
                exact AllReadyH.nil
              exact AllReadyH.nil
            exact AllReadyH.nil
          exact AllReadyH.nil
        case rest =>
          obtain ⟨ga, gb, Ba, Ea, Bb, Eb, ua, ub, rfl, rfl, htw⟩ := hcut
          obtain ⟨ra, capa, hua, hra, hra2⟩ := htw.sa.form (by omega)
          subst hua
          obtain ⟨rb, capb, hub, hrb, hrb2⟩ := htw.sb.form (by omega)
          subst hub
          have HT0 := Lib.hid htw
          clear htw hra hra2 hrb hrb2 x0 x1 x2 x3
          go_wp2
          generalize wc = wd at *
          go_loopw [18] (fun i wy => ∃ q : Nat, i = .int .i64 q ∧ q ≤ t.states.length ∧ Twin wr wy ga gb Ba Ea Bb Eb (.slice (some ⟨ra, 0, none⟩) t.states.length capa) (.slice (some ⟨rb, 0, none⟩) t.states.length capb) ⟨t.kind, t.start, t.lead, partM bare t.states q⟩ t) (fun i _ => t.states.length - (intOf i).toNat)
          case atStart => exact ⟨0, rfl, by omega, by rw [part_zero]; exact HT0.out⟩
          case round =>
            obtain ⟨q, rfl, hq, htw⟩ := hrel
            have HT1 := Lib.hid htw
            obtain ⟨_, _, _, b3⟩ := htw.ba.cells
            clear htw
            by_cases hql : q < t.states.length
            · have m1 : (q : Int) < (t.states.length : Int) := by omega
              have m2 : IntKind.i64.wrap ((q : Int) + 1) = (q : Int) + 1 := by have := valid_len HTV.out; rw [IntKind.wrap_i64]; omega
              have m3 : (0 : Int) ≤ (q : Int) := by omega
              have hst : t.states[q]? = some t.states[q] := List.getElem?_eq_getElem hql
              generalize t.states[q] = st at hst
              have hpg := part_get bare hst
              have hsa := HT1.out.sa
              rw [show t.states.length = (partM bare t.states q).length from (part_len bare t.states q).symm] at hsa
              obtain ⟨_, z0, _, _, hfree⟩ := hsa.at_ hpg
              have f0 := hfree (q * 2)
              have ht2 := HT1.out.fin (part_len bare t.states q) hpg ByteArray.empty
              rw [show (partM bare t.states q).set q ⟨ByteArray.empty, st.arcs⟩ = partM bare t.states (q + 1) from part_set bare hst] at ht2
              have HT2 := Lib.hid ht2
              clear hst hpg hsa hfree ht2
              go_wp2
              go_roundw
              case rel => exact ⟨q + 1, by go_num, by omega, HT2.out⟩
              case measure => simp [intOf]; omega
            · have m1 : ¬ (q : Int) < (t.states.length : Int) := by omega
              have ht1 := HT1.out
              rw [part_end bare (by omega)] at ht1
              have hst : t.states[s]? = some t.states[s] := List.getElem?_eq_getElem hlt
              have hso := stOf_at hst
              generalize t.states[s] = st at hst hso
              have hmg : (t.states.map bare)[s]? = some (bare st) := by rw [List.getElem?_map, hst]; rfl
              have hml : (t.states.map bare).length = t.states.length := by simp
              have hsa := ht1.sa
              rw [show t.states.length = (t.states.map bare).length from hml.symm] at hsa
              obtain ⟨_, z0, _, _, hfree⟩ := hsa.at_ hmg
              have f0 := hfree (s * 2)
              have ht2 := ht1.fin hml hmg t.lead
              have he : (⟨t.kind, t.start, t.lead, (t.states.map bare).set s ⟨t.lead, (bare st).arcs⟩⟩ : Mach) = endAt t s := by unfold endAt; rw [hso]; rfl
              rw [he] at ht2
              have ht3 := ht2.begin (s : Int)
              have HT3 := Lib.hid (show Twin _ _ ga gb Ba Ea Bb Eb _ _ (endAt t s) (startAt t s) from ht3)
              obtain ⟨_, _, c2, _⟩ := BoxAt.cells (BoxAt.grown HBt2.out ht1.gr)
              obtain ⟨_, d1, _, _⟩ := ht2.bb.cells
              have fd := ht2.bb.free 1
              have hEa : emptyB (endAt t s) = false := by unfold emptyB; rw [endAt_valid HTV.out]; simp only [Bool.true_and]; exact decide_eq_false (endAt_useful HTV.out HA.out hlt)
              have hEb : emptyB (startAt t s) = false := by unfold emptyB; rw [startAt_valid HTV.out hlt]; simp only [Bool.true_and]; exact decide_eq_false (startAt_useful HTV.out HA.out hlt)
              have HEa := Lib.hid hEa; have HEb := Lib.hid hEb
              clear ht1 hst hso hmg hml hsa hfree ht2 he ht3 hEa hEb
              go_upto_region 23 with (fail)
              generalize (World.setCell wr ⟨ra, s * 2, none⟩ (.string t.lead)).setCell ⟨gb, 1, none⟩ (.int .i64 (s : Int)) = we at *
              clear b3 z0 f0 c2 d1 fd
              obtain ⟨b0, b1, b2, b3⟩ := BoxAt.cells HT3.out.ba
              obtain ⟨d0, d1, d2, d3⟩ := BoxAt.cells HT3.out.bb
              by_cases h40 : s < 40
              · have n4 : (s : Int) < 40 := by omega
                have hC := empty_any (m := endAt t s) ⟨_, rfl, HT3.out.sa.sl⟩ (valid_fits (endAt_valid HTV.out s))
                rw [HEa.out] at hC
                have HC := Lib.hid hC
                clear hC
                go_wp2_with fail
                refine HC.out.mono ?_
                rintro e wf ⟨rfl, hgf⟩
                have HB5 := Lib.hid (BoxAt.grown HT3.out.bb hgf)
                have HG5 := Lib.hid (grown_trans HT3.out.gr hgf)
                have hC := empty_any (m := startAt t s) ⟨_, rfl, HT3.out.sb.sl.grown hgf⟩ (valid_fits (startAt_valid HTV.out hlt))
                rw [HEb.out] at hC
                have HC := Lib.hid hC
                clear hC hgf b0 b1 b2 b3 d0 d1 d2 d3
                obtain ⟨d0, d1, d2, d3⟩ := BoxAt.cells HB5.out
                go_wp2_with fail
                refine HC.out.mono ?_
                rintro e wg ⟨rfl, hgf⟩
                have HG6 := Lib.hid (grown_trans HGR.out (grown_trans HG5.out hgf))
                clear hgf d0 d1 d2 d3
                go_wp2
                go_roundg (t.states.length - (s + 1))
                case rel => exact ⟨s + 1, by go_num, by omega, rfl, HG6.out⟩
                case measure => have := HGK.out; omega
              · have n4 : ¬ (s : Int) < 40 := by omega
                have HG6 := Lib.hid (grown_trans HGR.out HT3.out.gr)
                clear b0 b1 b2 b3 d0 d1 d2 d3
                go_wp2
                go_roundg (t.states.length - (s + 1))
                case rel => exact ⟨s + 1, by go_num, by omega, rfl, HG6.out⟩
                case measure => have := HGK.out; omega
      · have n1 : ¬ (s : Int) < (t.states.length : Int) := by omega
        go_wp2_with fail
        refine (awake_any _).mono ?_
        rintro e wz ⟨rfl, hgz⟩
        have HGZ := Lib.hid (grown_trans (grown_trans HG18.out HGR.out) hgz)
        clear hgz
        go_wp2
        go_ret
        exact ⟨rfl, HGZ.out⟩
  · have HTN := Lib.hid (HEM.out hE)
    have hk := (head_parts (valid_head HMV.out)).1
    have hN := nothing_any m.kind
    rw [show nothingM m.kind = (t, 0) by unfold nothingM; rw [if_pos hk, ← HTN.out]] at hN
    have HN := Lib.hid hN
    clear hE hk hN
    obtain ⟨x0, x1, x2, x3⟩ := BoxAt.cells HBm.out
    go_wp2_with fail
    refine (HN.out _).mono ?_
    intro e wn h3
    obtain ⟨An, kn, rfl, hst3, hg3⟩ := h3.open6
    have hga := World.grownBy_alloc wn (.cells #[.int .i64 t.kind, .int .i64 t.start, .string t.lead, .slice An t.states.length kn] 24) none
    have hgg := grown_trans hg3 hga
    have HGn := Lib.hid (grown_trans HG18.out hgg)
    have HBt := Lib.hid (BoxAt.grown HBt.out hgg); have HSt := Lib.hid (HSt.out.grown hgg)
    have HBn := Lib.hid (BoxAt.new wn t (.slice An t.states.length kn))
    have HSn := Lib.hid ((hst3.kept (kept_grown hga _)).sl)
    clear h3 hst3 hg3 hga hgg HN x0 x1 x2 x3
    go_upto_region 12 with (fail)
    generalize wn.alloc (.cells #[.int .i64 t.kind, .int .i64 t.start, .string t.lead, .slice An t.states.length kn] 24) = wo at *
    obtain ⟨x0, x1, x2, x3⟩ := BoxAt.cells HBt.out
    obtain ⟨y0, y1, y2, y3⟩ := BoxAt.cells HBn.out
    have hC := same_any (MachV.fill (t := t) (A := At) (c := kt) HSt.out) (MachV.fill (t := t) (A := An) (c := kn) HSn.out) HN1.out HN2.out
    rw [show decide (t = t) = true by simp] at hC
    have HC := Lib.hid hC
    clear hC
    go_wp2_with fail
    refine HC.out.mono ?_
    rintro e wp ⟨rfl, hgg⟩
    have HGp := Lib.hid (grown_trans HGn.out hgg)
    clear hgg HC x0 x1 x2 x3 y0 y1 y2 y3
    go_wp2_with fail
    refine (awake_any _).mono ?_
    rintro e wq ⟨rfl, hgg⟩
    have HGq := Lib.hid (grown_trans HGp.out hgg)
    clear hgg
    go_wp2
    go_ret
    exact ⟨rfl, HGq.out⟩
end Go.Proofs.YtbmonhnojkiapaaGreatDoor
