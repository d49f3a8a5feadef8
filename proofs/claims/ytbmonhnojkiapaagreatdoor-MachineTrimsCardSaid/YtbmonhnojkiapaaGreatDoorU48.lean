/- The reference's Trim. -/
import Derived.Test.YtbmonhnojkiapaaGreatDoorU38
import Derived.Test.YtbmonhnojkiapaaGreatDoorU47
import Derived.Test.YtbmonhnojkiapaaGreatDoorU43
set_option linter.unusedVariables false
set_option linter.unusedSimpArgs false
namespace Go.Proofs.YtbmonhnojkiapaaGreatDoor
open Go.RowKit

open Classical in
/-- The useful states below k. -/
noncomputable def useP (m : Mach) (k : Nat) : List Nat := (List.range k).filter (fun x => decide (Useful m x))
open Classical in
/-- Their numbers, the first k laid. -/
noncomputable def useN (m : Mach) (k x : Nat) : Int := if x < k then (if Useful m x then ((useP m x).length : Int) else -1) else 0
theorem useP_end (m : Mach) : useP m m.states.length = usefulL m := rfl
theorem useP_yes {m : Mach} {k : Nat} (h : Useful m k) : useP m (k + 1) = useP m k ++ [k] := by
  unfold useP; rw [List.range_succ, List.filter_append]; simp [h]
theorem useP_no {m : Mach} {k : Nat} (h : ¬ Useful m k) : useP m (k + 1) = useP m k := by
  unfold useP; rw [List.range_succ, List.filter_append]; simp [h]
theorem useP_len (m : Mach) (k : Nat) : (useP m k).length ≤ k := by
  unfold useP
  exact Nat.le_trans (List.length_filter_le _ _) (by simp)
theorem useP_split {m : Mach} {x : Nat} (hu : Useful m x) : ∀ n, x < n → ∃ t, useP m n = useP m x ++ x :: t
  | 0, h => by omega
  | n + 1, h => by
    by_cases e : x = n
    · subst e; exact ⟨[], useP_yes hu⟩
    · obtain ⟨t, ht⟩ := useP_split hu n (by omega)
      by_cases hn : Useful m n
      · exact ⟨t ++ [n], by rw [useP_yes hn, ht]; simp⟩
      · exact ⟨t, by rw [useP_no hn, ht]⟩
theorem useN_end {m : Mach} (hw : Wf m) {x : Nat} (hx : x < m.states.length) : useN m m.states.length x = numF (usefulL m) x := by
  unfold useN numF
  rw [if_pos hx]
  by_cases hu : Useful m x
  · rw [if_pos hu, if_pos ((useful_mem hw).2 hu)]
    obtain ⟨t, ht⟩ := useP_split hu _ hx
    have hi : (usefulL m).idxOf x = (useP m x).length := by
      apply idx_get (useful_nodup m)
      rw [← useP_end, ht, List.getElem?_append_right (Nat.le_refl _), Nat.sub_self]; rfl
    rw [hi]
  · rw [if_neg hu, if_neg (fun h => hu ((useful_mem hw).1 h))]
theorem useN_yes {m : Mach} {k : Nat} (h : Useful m k) (x : Nat) : (if x = k then ((useP m k).length : Int) else if x = k then -1 else useN m k x) = useN m (k + 1) x := by
  unfold useN
  by_cases e : x = k
  · subst e; rw [if_pos rfl, if_pos (by omega), if_pos h]
  · rw [if_neg e, if_neg e]
    by_cases h2 : x < k
    · have h3 : x < k + 1 := by omega
      simp only [h2, h3, if_true]
    · rw [if_neg h2, if_neg (by omega)]
theorem useN_no {m : Mach} {k : Nat} (h : ¬ Useful m k) (x : Nat) : (if x = k then -1 else useN m k x) = useN m (k + 1) x := by
  unfold useN
  by_cases e : x = k
  · subst e; rw [if_pos rfl, if_pos (by omega), if_neg h]
  · rw [if_neg e]
    by_cases h2 : x < k
    · have h3 : x < k + 1 := by omega
      simp only [h2, h3, if_true]
    · rw [if_neg h2, if_neg (by omega)]
set_option maxRecDepth 20000 in
set_option maxHeartbeats 8000000 in
theorem rtrim_any {w : World} {v : Value} {m : Mach} (hv : MachV w v m) (hf : Fits m) : Calls Tryz.prog 29 #[v] w (MPost (trimV m) w) := by
  have hval := fun w' (h : w.grownBy w' none) => rvalid6_any (hv.grown h) hf
  have HV := Lib.hid hval
  clear hval
  have hv0 := hv
  obtain ⟨i0, hi, hz0, hz1, hz2⟩ := info_parts6 info_int6
  obtain ⟨u, rfl, hst0⟩ := hv
  obtain ⟨A, cap, us, rfl, hS0⟩ := StAt.of hst0
  have hg : w.grownBy (w.alloc (.cells #[.int .i64 m.kind, .int .i64 m.start, .string m.lead, .slice A m.states.length cap] 24)) none := World.grownBy_alloc _ _ _
  have hbx := BoxAt.new w m (.slice A m.states.length cap)
  have hg2 := World.grownBy_alloc (w.alloc (.cells #[.int .i64 m.kind, .int .i64 m.start, .string m.lead, .slice A m.states.length cap] 24)) (.cells #[.int .i64 mach0.kind, .int .i64 mach0.start, .string mach0.lead, .slice none 0 0] 24) none
  have hb2 := BoxAt.new (w.alloc (.cells #[.int .i64 m.kind, .int .i64 m.start, .string m.lead, .slice A m.states.length cap] 24)) mach0 (.slice none 0 0)
  have e1 : (w.alloc (.cells #[.int .i64 m.kind, .int .i64 m.start, .string m.lead, .slice A m.states.length cap] 24)).heap.size = w.heap.size + 1 := by simp
  rw [e1] at hb2
  have hsz2 : w.heap.size + 2 ≤ ((w.alloc (.cells #[.int .i64 m.kind, .int .i64 m.start, .string m.lead, .slice A m.states.length cap] 24)).alloc (.cells #[.int .i64 mach0.kind, .int .i64 mach0.start, .string mach0.lead, .slice none 0 0] 24)).heap.size := by simp
  have HSZ2 := Lib.hid hsz2
  have HV0 := Lib.hid hv0; have HB1 := Lib.hid (hbx.grown hg2); have HB2 := Lib.hid hb2; have HG := Lib.hid (grown_trans hg hg2)
  obtain ⟨x0, x1, x2, x3⟩ := BoxAt.cells HB1.out
  clear hbx hg hst0 hS0 hv0 hg2 hb2 e1 hsz2
  go_enter Tryz.func29, Tryz.ntmps29
  go_wp2_with fail
  refine (HV.out _ HG.out).mono ?_
  rintro e w1 ⟨rfl, hg1⟩
  have HSZ1 : Hid (w.heap.size + 2 ≤ w1.heap.size) := Lib.hid (Nat.le_trans HSZ2.out hg1.size)
  have HG1 := Lib.hid (grown_trans HG.out hg1)
  have HB1a := Lib.hid (BoxAt.grown HB1.out hg1)
  have HB2a := Lib.hid (BoxAt.grown HB2.out hg1)
  clear hg1 HSZ2 HB1 HB2 HG x0 x1 x2 x3
  obtain ⟨x0, x1, x2, x3⟩ := BoxAt.cells HB1a.out
  cases hB : validB m
  · have HN : Hid (trimV m = (mach0, 1)) := Lib.hid (by unfold trimV; rw [hB]; rfl)
    have hle := HSZ1.out
    have HGZ := HG1
    have hbz := HB2a.out
    have hsz := StN.nil w1 (w.heap.size + 2)
    clear hB x0 x1 x2 x3
    obtain ⟨v0, v1, v2, v3⟩ := hbz.cells
    have f0 := hbz.free 0; have f1 := hbz.free 1; have f2 := hbz.free 2; have f3 := hbz.free 3
    obtain ⟨hbf0, hgf0⟩ := box_fill (n := mach0) (v := .slice none 0 0) hbz
    have hbf := (show BoxAt ((((w1.setCell ⟨w.heap.size + 1, 0, none⟩ (.int .i64 0)).setCell ⟨w.heap.size + 1, 1, none⟩ (.int .i64 0)).setCell ⟨w.heap.size + 1, 2, none⟩ (.string ⟨#[]⟩)).setCell ⟨w.heap.size + 1, 3, none⟩ (.slice none 0 0)) (w.heap.size + 1) mach0 (.slice none 0 0) from hbf0)
    have hgf := (show w1.grownBy ((((w1.setCell ⟨w.heap.size + 1, 0, none⟩ (.int .i64 0)).setCell ⟨w.heap.size + 1, 1, none⟩ (.int .i64 0)).setCell ⟨w.heap.size + 1, 2, none⟩ (.string ⟨#[]⟩)).setCell ⟨w.heap.size + 1, 3, none⟩ (.slice none 0 0)) (some (w.heap.size + 1)) from hgf0)
    have HGF := Lib.hid (grown_step (g := w.heap.size + 1) HGZ.out hgf (by omega))
    have T := Lib.hid ((hsz.kept (kept_step hgf (by omega))).mono (C := w.heap.size) (by omega))
    have HBF := Lib.hid hbf
    clear hsz hbz hbf hgf hbf0 hgf0
    simp only [mach0] at v0 v1 v2
    go_wp2_with fail
    generalize ((((w1.setCell ⟨w.heap.size + 1, 0, none⟩ (.int .i64 0)).setCell ⟨w.heap.size + 1, 1, none⟩ (.int .i64 0)).setCell ⟨w.heap.size + 1, 2, none⟩ (.string ⟨#[]⟩)).setCell ⟨w.heap.size + 1, 3, none⟩ (.slice none 0 0)) = WW at *
    obtain ⟨c0, c1, c2, c3⟩ := BoxAt.cells HBF.out
    exact bodyPost_ret (v := .tuple #[.agg #[.int .i64 mach0.kind, .int .i64 mach0.start, .string mach0.lead, .slice none 0 0], .int .i64 1]) (by simp [results, Tryz.results29, go_sem, c0, c1, c2, c3]) rfl (by rw [HN.out]; exact ⟨_, rfl, ⟨_, rfl, T.out⟩, HGF.out⟩)
  · have HT := Lib.hid (ruseful_any (HV0.out.grown HG1.out) hB)
    have HN : Hid (trimV m = (trimM m, 0)) := Lib.hid (trimV_of hB)
    have HB := Lib.hid hB
    have hw := valid_wf hB
    have HW := Lib.hid hw
    have hst := hw.start
    have hstl : m.start.toNat < m.states.length := by omega
    have hn3 := valid_len hB
    clear hB hw
    go_wp2_with fail
    refine HT.out.mono ?_
    rintro e w2 ⟨g2, rfl, hgB, hmk, hg2⟩
    have HMK := Lib.hid hmk
    have HG2 := Lib.hid (grown_trans HG1.out hg2)
    have HB1b := Lib.hid (BoxAt.grown HB1a.out hg2)
    have HB2b := Lib.hid (BoxAt.grown HB2a.out hg2)
    have HSZ2 : Hid (w.heap.size + 2 ≤ w2.heap.size) := Lib.hid (Nat.le_trans HSZ1.out hg2.size)
    have hgl : g2 < w2.heap.size := by obtain ⟨zs, hz, _⟩ := hmk; exact hz.lt
    obtain ⟨hyes, hno⟩ := hmk.read hstl
    clear hmk hg2 x0 x1 x2 x3 HB1a HB2a
    obtain ⟨x0, x1, x2, x3⟩ := BoxAt.cells HB1b.out
    by_cases hu : Useful m m.start.toNat
    · have c0 := hyes hu
      have HU := Lib.hid hu
      clear hyes hno hu
      go_wp2_with (at_make; refine wpList_make_full _ rfl _ _ 41 rfl w2.heap.size 3 i0 (.int .i64 0) 1 Tryz.underlying41 hi hz0 hz1 _ _ _ _ m.states.length rfl rfl rfl rfl (by rw [hz2]; omega) (by unfold maxLen; omega) (Nat.le_refl _) ?_)
      intro W hown hgr
      have ht := TabI.of_full hown
      have hgW := hgr
      have hsW := ht.lt
      have HT := Lib.hid ht
      have HBW := Lib.hid (below_of hgr)
      clear hown hgr ht x0 x1 x2 x3 c0
      go_wp2
      go_loopw [5, 7] (fun o i wr => ∃ k : Nat, i = .int .i64 k ∧ k ≤ m.states.length ∧ TabI wr w2.heap.size m.states.length (useN m k) ∧ QAt wr W.heap.size o (useP m k) ∧ Below w2.heap.size w2 wr ∧ W.heap.size ≤ wr.heap.size) (fun _ i _ => m.states.length - (intOf i).toNat)
      case atStart => exact ⟨0, rfl, by omega, HT.out.congr (fun x hx => by unfold useN; rw [if_neg (by omega)]), QAt.nil _ _, HBW.out, Nat.le_refl _⟩
      case round =>
        obtain ⟨k, rfl, hk, ht, hq, hbl, hsr⟩ := hrel
        have HT2 := Lib.hid ht; have HQ2 := Lib.hid hq; have HBL := Lib.hid hbl
        have hbx := (hbl.block w.heap.size (by have := HSZ2.out; omega)).trans HB1b.out
        have HBX := Lib.hid (show BoxAt wr w.heap.size m (.slice A m.states.length cap) from hbx)
        obtain ⟨x0, x1, x2, x3⟩ := BoxAt.cells HBX.out
        have hql := useP_len m k
        obtain ⟨a0, cq, hov, _⟩ := hq
        subst hov
        clear ht hbl hbx
        by_cases hlt : k < m.states.length
        · have c0 := HT2.out.cell hlt
          have c1 := HT2.out.free k
          have n1 : (k : Int) < (m.states.length : Int) := by omega
          have n2 : IntKind.i64.wrap ((k : Int) + 1) = (k : Int) + 1 := by rw [IntKind.wrap_i64]; omega
          have n3 : (0 : Int) ≤ (k : Int) := by omega
          obtain ⟨hyes, hno⟩ := HMK.out.read hlt
          have hsb := HT2.out.set (x := k) (-1)
          have gs := grown_setCell wr ⟨w2.heap.size, k, none⟩ (.int .i64 (-1))
          have hgne : g2 ≠ w2.heap.size := by omega
          by_cases hu : Useful m k
          · have cm := (HBL.out.cell (p := ⟨g2, k, none⟩) hgl).trans (hyes hu)
            have HP := Lib.hid (useP_yes hu)
            have hT3 := (hsb.set (x := k) ((useP m k).length : Int)).congr (f' := useN m (k + 1)) (fun x _ => useN_yes hu x)
            have HT3 := Lib.hid hT3
            have gs2 := grown_setCell (wr.setCell ⟨w2.heap.size, k, none⟩ (.int .i64 (-1))) ⟨w2.heap.size, k, none⟩ (.int .i64 ((useP m k).length : Int))
            have hg12 := World.grownBy.trans gs gs2
            have hq3 := HQ2.out.grown hg12 (fun b e => by cases e; omega)
            have hB3 := (HBL.out.grown hg12 HBL.out.size (fun b e => by cases e; exact Nat.le_refl _))
            have hga := World.grownBy_alloc ((wr.setCell ⟨w2.heap.size, k, none⟩ (.int .i64 (-1))).setCell ⟨w2.heap.size, k, none⟩ (.int .i64 ((useP m k).length : Int))) (.cells #[.int .i64 (k : Int)] 3) none
            have hs12 := hg12.size
            have HQ4 := Lib.hid (hq3.grown hga (by simp))
            have HB4 := Lib.hid (hB3.trans ((below_of hga).mono (by omega)))
            have HT4 := Lib.hid (HT3.out.kept hga (by simp))
            have HCA := Lib.hid (new_cell6 ((wr.setCell ⟨w2.heap.size, k, none⟩ (.int .i64 (-1))).setCell ⟨w2.heap.size, k, none⟩ (.int .i64 ((useP m k).length : Int))) k)
            have hs4 := hga.size
            clear hyes hno hsb hT3 gs gs2 hg12 hq3 hB3 hga hu
            go_wp2_with (at_builtin; refine wpList_push HQ4.out (by simp; omega) rfl _ _ rfl rfl _ _ k rfl ?ca (by omega) ?_)
            case ca =>
              have := HCA.out
              simp only [World.size_alloc, World.size_setCell] at this ⊢
              first | exact this | simpa using this
            intro v' w5 hq5 hb5
            have HQ5 := Lib.hid hq5
            have HB5 := Lib.hid (HB4.out.trans (hb5.mono (by omega)))
            have HT5 := Lib.hid (show TabI w5 w2.heap.size m.states.length (useN m (k + 1)) from (hb5.block w2.heap.size (by omega)).trans HT4.out)
            have hs5 := hb5.size
            clear hq5 hb5
            go_wp2
            go_roundw
            case rel => exact ⟨k + 1, by go_num, by omega, HT5.out, by rw [HP.out]; exact HQ5.out, HB5.out, by omega⟩
            case measure => simp [intOf]; omega
          · have cm := (HBL.out.cell (p := ⟨g2, k, none⟩) hgl).trans (hno hu)
            have HP := Lib.hid (useP_no hu)
            have HT3 := Lib.hid (hsb.congr (f' := useN m (k + 1)) (fun x _ => useN_no hu x))
            have HQ3 := Lib.hid (HQ2.out.grown gs (fun b e => by cases e; show w2.heap.size < W.heap.size; omega))
            have HB3 := Lib.hid (HBL.out.grown gs HBL.out.size (fun b e => by cases e; exact Nat.le_refl _))
            have hs3 := gs.size
            clear hyes hno hsb gs hu
            go_wp2
            go_roundw
            case rel => exact ⟨k + 1, by go_num, by omega, HT3.out, by rw [HP.out]; exact HQ3.out, HB3.out, by omega⟩
            case measure => simp [intOf]; omega
        · have n1 : ¬ (k : Int) < (m.states.length : Int) := by omega
          have hke : k = m.states.length := by omega
          subst hke
          have hus : usefulL m ≠ [] := fun e => (useful_nil HW.out).1 e HU.out
          have HNM := Lib.hid (trimM_some hus)
          have hT9 := HT2.out.congr (f' := numF (usefulL m)) (fun x hx => useN_end HW.out hx)
          have hgw2 := grown_below HBL.out
          have hnsl := HQ2.out.nsl
          rw [useP_end] at hnsl
          have HRR := Lib.hid (rrenumber_any (cn := m.states.length) (HV0.out.grown (grown_trans HG2.out hgw2)) (valid_small HB.out) hnsl (useful_below m) (by have := short_list (useful_nodup m) (useful_below m); omega) (useful_has HW.out hus) hT9)
          have HGr := Lib.hid (grown_trans HG2.out hgw2)
          have HB2c := Lib.hid (BoxAt.grown HB2b.out hgw2)
          have hszr := HBL.out.size
          clear hT9 hgw2 hnsl hus
          generalize renumM m (usefulL m) = t at *
          go_wp2_with fail
          refine HRR.out.mono ?_
          rintro e w5 ⟨v5, rfl, hmo, hg5⟩
          obtain ⟨u5, rfl, hso⟩ := hmo
          obtain ⟨A5, k5, us5, rfl, _⟩ := hso.sl
          have hle := HSZ2.out
          have hsz := hso.stN (Nat.le_refl _)
          have HGZ := Lib.hid (grown_trans HGr.out hg5)
          have hbz := BoxAt.grown HB2c.out hg5
          clear hso hg5 x0 x1 x2 x3
          obtain ⟨v0, v1, v2, v3⟩ := hbz.cells
          simp only [mach0] at v0 v1 v2
          have f0 := hbz.free 0; have f1 := hbz.free 1; have f2 := hbz.free 2; have f3 := hbz.free 3
          obtain ⟨hbf, hgf⟩ := box_fill (n := t) (v := .slice A5 t.states.length k5) hbz
          have HGF := Lib.hid (grown_step (g := w.heap.size + 1) HGZ.out hgf (by omega))
          have T := Lib.hid ((hsz.kept (kept_step hgf (by omega))).mono (C := w.heap.size) (by omega))
          obtain ⟨c0, c1, c2, c3⟩ := hbf.cells
          clear hsz hbz hbf hgf
          go_wp2_with fail
          generalize (((w5.setCell ⟨w.heap.size + 1, 0, none⟩ (.int .i64 t.kind)).setCell ⟨w.heap.size + 1, 1, none⟩ (.int .i64 t.start)).setCell ⟨w.heap.size + 1, 2, none⟩ (.string t.lead)).setCell ⟨w.heap.size + 1, 3, none⟩ (.slice A5 t.states.length k5) = WW at *
          exact bodyPost_ret (v := .tuple #[.agg #[.int .i64 t.kind, .int .i64 t.start, .string t.lead, .slice A5 t.states.length k5], .int .i64 0]) (by simp [results, Tryz.results29, go_sem, c0, c1, c2, c3]) rfl (by rw [HN.out, HNM.out]; exact ⟨_, rfl, ⟨_, rfl, T.out⟩, HGF.out⟩)
    · have c0 := hno hu
      have hus : usefulL m = [] := (useful_nil HW.out).2 hu
      have HNM := Lib.hid (trimM_nil hus)
      have hkd : nothingM m.kind = (noneM m.kind, 0) := by unfold nothingM; rw [if_pos (head_parts (valid_head HB.out)).1]
      have hno3 := rnothing_any m.kind w2
      rw [hkd] at hno3
      have HNO := Lib.hid hno3
      clear hyes hno hu hus hkd hno3
      generalize noneM m.kind = t at *
      go_wp2_with fail
      refine HNO.out.mono ?_
      intro e w5 h5
      obtain ⟨A5, k5, rfl, hsz, hg5⟩ := h5.open6
      have hle := HSZ2.out
      have HGZ := Lib.hid (grown_trans HG2.out hg5)
      have hbz := BoxAt.grown HB2b.out hg5
      clear h5 hg5 x0 x1 x2 x3
      obtain ⟨v0, v1, v2, v3⟩ := hbz.cells
      simp only [mach0] at v0 v1 v2
      have f0 := hbz.free 0; have f1 := hbz.free 1; have f2 := hbz.free 2; have f3 := hbz.free 3
      obtain ⟨hbf, hgf⟩ := box_fill (n := t) (v := .slice A5 t.states.length k5) hbz
      have HGF := Lib.hid (grown_step (g := w.heap.size + 1) HGZ.out hgf (by omega))
      have T := Lib.hid ((hsz.kept (kept_step hgf (by omega))).mono (C := w.heap.size) (by omega))
      obtain ⟨c0, c1, c2, c3⟩ := hbf.cells
      clear hsz hbz hbf hgf
      go_wp2_with fail
      generalize (((w5.setCell ⟨w.heap.size + 1, 0, none⟩ (.int .i64 t.kind)).setCell ⟨w.heap.size + 1, 1, none⟩ (.int .i64 t.start)).setCell ⟨w.heap.size + 1, 2, none⟩ (.string t.lead)).setCell ⟨w.heap.size + 1, 3, none⟩ (.slice A5 t.states.length k5) = WW at *
      exact bodyPost_ret (v := .tuple #[.agg #[.int .i64 t.kind, .int .i64 t.start, .string t.lead, .slice A5 t.states.length k5], .int .i64 0]) (by simp [results, Tryz.results29, go_sem, c0, c1, c2, c3]) rfl (by rw [HN.out, HNM.out]; exact ⟨_, rfl, ⟨_, rfl, T.out⟩, HGF.out⟩)
end Go.Proofs.YtbmonhnojkiapaaGreatDoor
