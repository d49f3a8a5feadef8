/- UA1 -/
import Derived.Test.YtaogepcaoogpgaaGreatDoorV37
import Derived.Test.YtaogepcaoogpgaaGreatDoorV41
set_option linter.unusedVariables false
set_option linter.unusedSimpArgs false
namespace Go.Proofs.YtaogepcaoogpgaaGreatDoor
open Go.RowKit
section
variable {k : Int}
theorem toE_fit (hk : IsKind k) {l : List MState} (h : ToFits hk l) {i : Nat} (hi : i < l.length) : FitE (toE hk l i) := by
 have h1 := solve_fit7 hk (Nat.le_refl _) h.2 i hi 0 (by omega)
 rw [solveF_is _ _ _ _ _ (Nat.le_refl _) i 0 hi] at h1
 exact h1
theorem enters_Total1 : Enters 58 := enters_of Tryz.func58 (by kernel_rfl) rfl
@[go_sem] theorem field_cal7 (k : Int) (w : World) : (Instr.field 64 (.agg #[.int .i64 k, .string (zeroT k), .string (oneT k)]) 0).run Tryz.prog w = .ok (.agg #[.int .i64 k, .string (zeroT k), .string (oneT k)]) w := by kernel_rfl
noncomputable def totE (hk : IsKind k) (l : List MState) (ld : ByteArray) (s0 : Nat) : El k := (srE k hk).mul (vE hk ld) (toE hk l s0)
def TotFits (hk : IsKind k) (l : List MState) (ld : ByteArray) (s0 : Nat) : Prop := ToFits hk l ∧ FitE (totE hk l ld s0)
set_option maxRecDepth 20000 in
set_option maxHeartbeats 4000000 in
theorem Total1_any (hk : IsKind k) (l : List MState) (us : List Value) (As : Option Addr) (cs g s0 : Nat) (ld : ByteArray) (w : World) (hok : StsOk k l) (hst : StsR w l us As cs) (hs0 : s0 < l.length) (hld : ∃ v, Val k ld v) (hb : MBox w g k (s0 : Int) ld As l.length cs) :
  Calls Tryz.prog 58 #[.pointer (some ⟨g, 0, none⟩)] w (OrDieQ (TotFits hk l ld s0) (fun v w' => v = .string (tx (totE hk l ld s0))) w) := by
 have hof := fun w' => of_any7 k w'
 have hto := fun (w' : World) (hg : w.grownBy w' none) => toEnd_any hk l us As cs (s0 : Int) ld w' hok (hst.grown hg)
 have hlt := vE_tx hk hld
 have hmul := fun (hf : ToFits hk l) (w' : World) => (show Calls Tryz.prog 59 #[calV k, .string ld, .string (tx (toE hk l s0))] w' (OrDie7 (FitE (totE hk l ld s0)) (.string (tx (totE hk l ld s0))) w') from by
  have h := ctimes_any hk hlt.2 (toE_fit hk hf hs0) w'
  rw [← hlt.1] at h
  exact h)
 have HO := Lib.hid hof; have HT := Lib.hid hto; have HM := Lib.hid hmul; have HN := Lib.hid (And.intro hok.n60 (And.intro hs0 hlt))
 obtain ⟨x0, x1, x2, x3⟩ := hb
 have d0 : w.drew.cell? ⟨g, 0, none⟩ = some (.int .i64 k) := x0
 have d1 : w.drew.cell? ⟨g, 1, none⟩ = some (.int .i64 (s0 : Int)) := x1
 have d2 : w.drew.cell? ⟨g, 2, none⟩ = some (.string ld) := x2
 have d3 : w.drew.cell? ⟨g, 3, none⟩ = some (.slice As l.length cs) := x3
 have i1 : (s0 : Int) < (l.length : Int) := by omega
 have i2 : (0 : Int) ≤ (s0 : Int) := by omega
 clear hof hto hmul hok hst hs0 hld hlt x0 x1 x2 x3
 unfold calV at *
 go_enter Tryz.func58, Tryz.ntmps58
 go_upto_region 1 with (fail)
 refine wp_region_held_drew (S := fun W' : World => W'.cell? ⟨g, 0, none⟩ = some (.int .i64 k) ∧ W'.cell? ⟨g, 1, none⟩ = some (.int .i64 (s0 : Int)) ∧ W'.cell? ⟨g, 2, none⟩ = some (.string ld) ∧ W'.cell? ⟨g, 3, none⟩ = some (.slice As l.length cs)) (by kernel_rfl) ⟨d0, d1, d2, d3⟩ (fun hHeld => ?_)
 refine wpAnyH_take (i := 0) (v := .pointer (some ⟨g, 0, none⟩)) rfl (by kernel_rfl) (by kernel_rfl) (by kernel_rfl) (fun _ _ _ h => h) (Or.inl ⟨by rfl, ?_⟩) hHeld ?_
 ·intro W hSw
  (try dsimp only at hSw)
  first | (go_simp; done) | (go_simp; rfl)
 (try simp only [List.getElem_toArray, List.getElem_cons_succ, List.getElem_cons_zero, Act.put, List.setIfInBounds_toArray, List.set_cons_zero, List.set_cons_succ])
 refine wpAnyH_take (i := 1) (v := .int .i64 k) rfl (by kernel_rfl) (by kernel_rfl) (by kernel_rfl) (fun _ _ _ h => h) (Or.inl ⟨by rfl, ?_⟩) hHeld ?_
 ·intro W hSw
  (try dsimp only at hSw)
  first | (go_simp; done) | (go_simp; rfl)
 (try simp only [List.getElem_toArray, List.getElem_cons_succ, List.getElem_cons_zero, Act.put, List.setIfInBounds_toArray, List.set_cons_zero, List.set_cons_succ])
 refine wpAnyH_take (i := 4) (v := .pointer (some ⟨g, 2, none⟩)) rfl (by kernel_rfl) (by kernel_rfl) (by kernel_rfl) (fun _ _ _ h => h) (Or.inl ⟨by rfl, ?_⟩) hHeld ?_
 ·intro W hSw
  (try dsimp only at hSw)
  first | (go_simp; done) | (go_simp; rfl)
 (try simp only [List.getElem_toArray, List.getElem_cons_succ, List.getElem_cons_zero, Act.put, List.setIfInBounds_toArray, List.set_cons_zero, List.set_cons_succ])
 refine wpAnyH_take (i := 5) (v := .string ld) rfl (by kernel_rfl) (by kernel_rfl) (by kernel_rfl) (fun _ _ _ h => h) (Or.inl ⟨by rfl, ?_⟩) hHeld ?_
 ·intro W hSw
  (try dsimp only at hSw)
  first | (go_simp; done) | (go_simp; rfl)
 (try simp only [List.getElem_toArray, List.getElem_cons_succ, List.getElem_cons_zero, Act.put, List.setIfInBounds_toArray, List.set_cons_zero, List.set_cons_succ])
 refine wpAnyH_take (i := 6) (v := .agg #[.int .i64 k, .int .i64 (s0 : Int), .string ld, .slice As l.length cs]) rfl (by kernel_rfl) (by kernel_rfl) (by kernel_rfl) (fun _ _ _ h => h) (Or.inl ⟨by rfl, ?_⟩) hHeld ?_
 ·intro W hSw
  (try dsimp only at hSw)
  first | (go_simp; done) | (go_simp; rfl)
 (try simp only [List.getElem_toArray, List.getElem_cons_succ, List.getElem_cons_zero, Act.put, List.setIfInBounds_toArray, List.set_cons_zero, List.set_cons_succ])
 refine wpAnyH_take (i := 8) (v := .pointer (some ⟨g, 1, none⟩)) rfl (by kernel_rfl) (by kernel_rfl) (by kernel_rfl) (fun _ _ _ h => h) (Or.inl ⟨by rfl, ?_⟩) hHeld ?_
 ·intro W hSw
  (try dsimp only at hSw)
  first | (go_simp; done) | (go_simp; rfl)
 (try simp only [List.getElem_toArray, List.getElem_cons_succ, List.getElem_cons_zero, Act.put, List.setIfInBounds_toArray, List.set_cons_zero, List.set_cons_succ])
 refine wpAnyH_take (i := 9) (v := .int .i64 (s0 : Int)) rfl (by kernel_rfl) (by kernel_rfl) (by kernel_rfl) (fun _ _ _ h => h) (Or.inl ⟨by rfl, ?_⟩) hHeld ?_
 ·intro W hSw
  (try dsimp only at hSw)
  first | (go_simp; done) | (go_simp; rfl)
 (try simp only [List.getElem_toArray, List.getElem_cons_succ, List.getElem_cons_zero, Act.put, List.setIfInBounds_toArray, List.set_cons_zero, List.set_cons_succ])
 refine wpAnyH_ready (rs := [2]) (by kernel_rfl) (by simp) ?_
 refine AllReadyH.cons rfl (fun K hK => ?_) AllReadyH.nil
 go_simp
 refine (HO.out _).mono ?_
 rintro e w1 ⟨rfl, hg1⟩
 have S1 : (fun W' : World => W'.cell? ⟨g, 0, none⟩ = some (.int .i64 k) ∧ W'.cell? ⟨g, 1, none⟩ = some (.int .i64 (s0 : Int)) ∧ W'.cell? ⟨g, 2, none⟩ = some (.string ld) ∧ W'.cell? ⟨g, 3, none⟩ = some (.slice As l.length cs)) w1 := ⟨hg1.cell hHeld.1 (by simp), hg1.cell hHeld.2.1 (by simp), hg1.cell hHeld.2.2.1 (by simp), hg1.cell hHeld.2.2.2 (by simp)⟩
 refine hK.out _ _ S1 (fun hHeld => ?_)
 clear hK K
 have HG1 := Lib.hid hg1
 clear hg1
 refine wpAnyH_take (i := 3) (v := .agg #[.int .i64 k, .string (zeroT k), .string (oneT k)]) rfl (by kernel_rfl) (by kernel_rfl) (by kernel_rfl) (fun _ _ _ h => h) (Or.inl ⟨by rfl, ?_⟩) hHeld ?_
 ·intro W hSw
  (try dsimp only at hSw)
  first | (go_simp; done) | (go_simp; rfl)
 (try simp only [List.getElem_toArray, List.getElem_cons_succ, List.getElem_cons_zero, Act.put, List.setIfInBounds_toArray, List.set_cons_zero, List.set_cons_succ])
 refine wpAnyH_ready (rs := [7]) (by kernel_rfl) (by simp) ?_
 refine AllReadyH.cons rfl (fun K hK => ?_) AllReadyH.nil
 go_simp
 refine (HT.out _ (grown_trans (grown_drew w none) HG1.out)).mono ?_
 rintro e w2 (⟨hp2, v2, rfl, ⟨g2, rfl, hgs2, hr2⟩, hg2⟩ | ⟨hn2, rfl, hg2⟩)
 rotate_left 1
 ·exact ⟨rfl, .inr ⟨fun h => hn2 h.1, rfl, grown_trans (grown_trans (grown_drew w none) HG1.out) hg2⟩⟩
 have S2 : (fun W' : World => W'.cell? ⟨g, 0, none⟩ = some (.int .i64 k) ∧ W'.cell? ⟨g, 1, none⟩ = some (.int .i64 (s0 : Int)) ∧ W'.cell? ⟨g, 2, none⟩ = some (.string ld) ∧ W'.cell? ⟨g, 3, none⟩ = some (.slice As l.length cs)) w2 := ⟨hg2.cell hHeld.1 (by simp), hg2.cell hHeld.2.1 (by simp), hg2.cell hHeld.2.2.1 (by simp), hg2.cell hHeld.2.2.2 (by simp)⟩
 refine hK.out _ _ S2 (fun hHeld => ?_)
 clear hK K
 have rc : w2.cell? ⟨g2, s0, none⟩ = some (.string (tx (toE hk l s0))) := by have h := hr2.2 s0 HN.out.2.1; rw [Nat.zero_add] at h; exact h
 have H2 := Lib.hid (And.intro hp2 (grown_trans (grown_trans (grown_drew w none) HG1.out) hg2))
 clear hp2 hgs2 hr2 hg2
 refine wpAnyH_take (i := 10) (v := .pointer (some ⟨g2, s0, none⟩)) rfl (by kernel_rfl) (by kernel_rfl) (by kernel_rfl) (fun _ _ _ h => h) (Or.inl ⟨by rfl, ?_⟩) hHeld ?_
 ·intro W hSw
  (try dsimp only at hSw)
  first | (go_simp; done) | (go_simp; rfl)
 (try simp only [List.getElem_toArray, List.getElem_cons_succ, List.getElem_cons_zero, Act.put, List.setIfInBounds_toArray, List.set_cons_zero, List.set_cons_succ])
 refine wpAnyH_ready (rs := [11]) (by kernel_rfl) (by simp) ?_
 refine AllReadyH.cons rfl (fun K hK => ?_) AllReadyH.nil
 go_simp
 refine hK.out _ _ hHeld (fun hHeld => ?_)
 clear hK K
 refine wpAnyH_ready (rs := [12]) (by kernel_rfl) (by simp) ?_
 refine AllReadyH.cons rfl (fun K hK => ?_) AllReadyH.nil
 go_simp
 refine (HM.out H2.out.1 _).mono ?_
 rintro e w3 (⟨hp3, rfl, hg3⟩ | ⟨hn3, rfl, hg3⟩)
 rotate_left 1
 ·exact ⟨rfl, .inr ⟨fun h => hn3 h.2, rfl, grown_trans H2.out.2 hg3⟩⟩
 have S3 : (fun W' : World => W'.cell? ⟨g, 0, none⟩ = some (.int .i64 k) ∧ W'.cell? ⟨g, 1, none⟩ = some (.int .i64 (s0 : Int)) ∧ W'.cell? ⟨g, 2, none⟩ = some (.string ld) ∧ W'.cell? ⟨g, 3, none⟩ = some (.slice As l.length cs)) w3 := ⟨hg3.cell hHeld.1 (by simp), hg3.cell hHeld.2.1 (by simp), hg3.cell hHeld.2.2.1 (by simp), hg3.cell hHeld.2.2.2 (by simp)⟩
 refine hK.out _ _ S3 (fun hHeld => ?_)
 clear hK K
 have H3 := Lib.hid (And.intro hp3 hg3)
 clear hp3 hg3
 refine wpAnyH_ready (rs := [13]) (by kernel_rfl) (by simp) ?_
 refine AllReadyH.cons rfl (fun K hK => ?_) AllReadyH.nil
 go_simp
 refine hK.out _ _ hHeld (fun hHeld => ?_)
 clear hK K
 refine wpAnyH_done (by kernel_rfl) ?_ _
 go_wp2
 go_ret
 exact .inl ⟨⟨H2.out.1, H3.out.1⟩, _, rfl, rfl, grown_trans H2.out.2 H3.out.2⟩
end
theorem trim_len7 {m : Mach} (hv : validB m = true) : (trimM m).states.length ≤ m.states.length := by
 have h1 := (head_parts (valid_head hv)).2.1
 by_cases h : usefulL m = []
 ·rw [trimM_nil h]
  show 1 ≤ _
  exact h1
 ·rw [trimM_some h]
  unfold renumM usefulL
  rw [List.length_map]
  refine Nat.le_trans (List.length_filter_le _ _) ?_
  rw [List.length_range]
  exact Nat.le_refl _
def TotalPost (m : Mach) (w : World) (e : Ending) (w' : World) : Prop :=
 (checkC m ≠ 0 ∧ w.grownBy w' none ∧ e = .returned (.tuple #[.string ⟨#[]⟩, .int .i64 (checkC m)])) ∨ (checkC m = 0 ∧ ∃ hk : IsKind m.kind, w.grownBy w' none ∧
  ((TotFits hk (trimM m).states (trimM m).lead (trimM m).start.toNat ∧ e = .returned (.tuple #[.string (tx (totE hk (trimM m).states (trimM m).lead (trimM m).start.toNat)), .int .i64 0])) ∨
    (¬ TotFits hk (trimM m).states (trimM m).lead (trimM m).start.toNat ∧ e = .returned (.tuple #[.string ⟨#[]⟩, .int .i64 2]))))
set_option maxRecDepth 20000 in
set_option maxHeartbeats 4000000 in
theorem Total_any {w : World} {v : Value} {m : Mach} (hv : MachV w v m) (hf : MFits m) : Calls Tryz.prog 20 #[v] w (TotalPost m w) := by
 have hmf : ∀ (fn : Fn) (first cap : Array Value) (w : World), (Instr.makeFunc fn first cap).run Tryz.prog w = .ok (.func fn first cap) w := fun _ _ _ _ => rfl
 have hv0 := hv
 obtain ⟨u, rfl, hst⟩ := hv
 obtain ⟨A, cs, us, rfl, hsr⟩ := stsR_of hst
 have hal := World.grownBy_alloc w (.cells #[.int .i64 m.kind, .int .i64 m.start, .string m.lead, .slice A m.states.length cs] 31) none
 have hck := check_any (w := w.alloc (.cells #[.int .i64 m.kind, .int .i64 m.start, .string m.lead, .slice A m.states.length cs] 31)) (v := .agg #[.int .i64 m.kind, .int .i64 m.start, .string m.lead, .slice A m.states.length cs]) (m := m) ⟨_, rfl, hst.below (below_of7 hal)⟩ hf
 have htr := fun (w1 : World) (hg : w.grownBy w1 none) => ptrim_any (w := w1) (v := .agg #[.int .i64 m.kind, .int .i64 m.start, .string m.lead, .slice A m.states.length cs]) (m := m) ⟨_, rfl, hst.below (below_of7 hg)⟩ hf
 obtain ⟨x0, x1, x2, x3⟩ := MBox.new w m.kind m.start m.lead A m.states.length cs
 have hbk := new_block w (.cells #[.int .i64 m.kind, .int .i64 m.start, .string m.lead, .slice A m.states.length cs] 31)
 have HC := Lib.hid hck; have HW := Lib.hid hal; have HT := Lib.hid htr; have HB := Lib.hid hbk
 clear hck hal hsr hst hv0 hf htr hbk
 unfold TotalPost
 go_enter Tryz.func20, Tryz.ntmps20
 go_wp2_with fail
 refine HC.out.mono ?_
 rintro e w1 ⟨rfl, hg1⟩
 have y0 := hg1.cell x0 (by simp)
 have y1 := hg1.cell x1 (by simp)
 have y2 := hg1.cell x2 (by simp)
 have y3 := hg1.cell x3 (by simp)
 have hb1 := (hg1.block w.heap.size (by simp) (by simp)).trans HB.out
 have HG := Lib.hid (grown_trans HW.out hg1); have HB1 := Lib.hid hb1
 clear hg1 HC x0 x1 x2 x3 hb1 HB HW
 obtain ⟨c, hc⟩ : ∃ c, checkC m = c := ⟨_, rfl⟩
 rw [hc]
 have HCC := Lib.hid hc
 clear hc
 by_cases h0 : c = 0
 ·subst h0
  obtain ⟨hvalid, h60⟩ := checkC_zero HCC.out
  have hok := valid_ok7 (trim_valid hvalid)
  have hk0 := (valid_ok7 hvalid).kind
  have hlen := trim_len7 hvalid
  have htv : trimV m = (trimM m, 0) := by unfold trimV; rw [if_pos hvalid]
  have htk := trimM_kind m
  obtain ⟨t, ht⟩ : ∃ t, trimM m = t := ⟨_, rfl⟩
  rw [ht] at hok hlen htv htk
  have HTM := Lib.hid ht
  clear ht
  obtain ⟨s0, hs0, hs1⟩ := hok.start
  have HOK := Lib.hid (And.intro hok (And.intro hs1 (And.intro hlen (And.intro h60 (And.intro hk0 (And.intro htv htk))))))
  have HS0 := Lib.hid hs0
  clear hok hvalid h60 hk0 hlen htv htk hs1
  go_wp2_with fail
  refine (HT.out w1 HG.out).mono ?_
  intro e w2 hq
  rw [HOK.out.2.2.2.2.2.1] at hq
  obtain ⟨At, ct, rfl, hstn, hg2⟩ := hq.open6
  rw [hs0]
  rw [HOK.out.2.2.2.2.2.2]
  have hb2 := (hg2.block w.heap.size (Array.getElem?_eq_some_iff.1 HB1.out).1 (by simp)).trans HB1.out
  have q0 := cell_of_row w2 _ 0 _ _ (0, 0) hb2
  have q1 := cell_of_row w2 _ 1 _ _ (0, 0) hb2
  have q2 := cell_of_row w2 _ 2 _ _ (0, 0) hb2
  have q3 := cell_of_row w2 _ 3 _ _ (0, 0) hb2
  have z0 := frozen_of_row w2 _ 0 _ _ hb2
  have z1 := frozen_of_row w2 _ 1 _ _ hb2
  have z2 := frozen_of_row w2 _ 2 _ _ hb2
  have z3 := frozen_of_row w2 _ 3 _ _ hb2
  have H2 := Lib.hid (And.intro hstn (And.intro hg2 hb2))
  clear hq hstn hg2 hb2 y0 y1 y2 y3 hs0
  have hsg : w.grownBy w2 none := grown_trans HG.out H2.out.2.1
  have hset := grown_set47 w2 w.heap.size (.int .i64 m.kind) (.int .i64 (s0 : Int)) (.string t.lead) (.slice At t.states.length ct)
  have hg3 := grown_step hsg hset (Nat.le_refl _)
  have hws : w.heap.size + 1 ≤ w1.heap.size := by have := (Array.getElem?_eq_some_iff.1 HB1.out).1; omega
  have hst3 := H2.out.1.kept ((kept_step hset (by omega : w.heap.size < w1.heap.size)))
  obtain ⟨A3, c3, us3, e3, hsr3⟩ := stsR_of hst3.sl
  obtain ⟨rfl, rfl⟩ : At = A3 ∧ ct = c3 := by simp at e3; exact e3
  have hrow3 := row_set47 (u0 := .int .i64 m.kind) (u1 := .int .i64 (s0 : Int)) (u2 := .string t.lead) (u3 := .slice At t.states.length ct) rfl H2.out.2.2
  obtain ⟨W3, hW3⟩ : ∃ W3, W3 = ((((w2.setCell ⟨w.heap.size, 0, none⟩ (.int .i64 m.kind)).setCell ⟨w.heap.size, 1, none⟩ (.int .i64 (s0 : Int))).setCell ⟨w.heap.size, 2, none⟩ (.string t.lead)).setCell ⟨w.heap.size, 3, none⟩ (.slice At t.states.length ct)) := ⟨_, rfl⟩
  rw [← hW3] at hg3 hst3 hsr3 hrow3
  have HW3 := Lib.hid hW3
  have hbx : MBox W3 w.heap.size m.kind (s0 : Int) t.lead At t.states.length ct := ⟨cell_of_row W3 _ 0 _ _ (0, 0) hrow3, cell_of_row W3 _ 1 _ _ (0, 0) hrow3, cell_of_row W3 _ 2 _ _ (0, 0) hrow3, cell_of_row W3 _ 3 _ _ (0, 0) hrow3⟩
  have hal3 := World.grownBy_alloc W3 (.cells #[.int .i64 0] 24) none
  have hsts := HOK.out.1.sts (by have := HOK.out; omega)
  have hld := HOK.out.1.lead
  rw [HOK.out.2.2.2.2.2.2] at hsts hld
  have h1 := Total1_any HOK.out.2.2.2.2.1 t.states us3 At ct w.heap.size s0 t.lead (W3.alloc (.cells #[.int .i64 0] 24)) hsts (hsr3.grown hal3) HOK.out.2.1 hld (hbx.grown hal3)
  have hat := attempt_str (WB := W3.heap.size) 58 enters_Total1 #[] #[.pointer (some ⟨w.heap.size, 0, none⟩)] (TotFits HOK.out.2.2.2.2.1 t.states t.lead s0) (fun v _ => v = .string (tx (totE HOK.out.2.2.2.2.1 t.states t.lead s0)))
   (fun v wa wb b hb hg e hq => hq) W3 rfl (h1.mono (fun e w' h => by
    rcases h with ⟨hp, v, h1, rfl, h4⟩ | h
    ·exact .inl ⟨hp, _, h1, ⟨⟨_, rfl⟩, rfl⟩, h4⟩
    ·exact .inr h))
  rw [hW3] at hat
  have HAT := Lib.hid hat; have HG3 := Lib.hid hg3
  clear hat h1 hal3 hsts hld hbx hrow3 hst3 hsr3 e3 hws hset hsg hg3 hW3
  go_wp2_with fail
  refine HAT.out.mono ?_
  rintro e w4 (⟨hp, v, rfl, rfl, hg4⟩ | ⟨hn2, rfl, hg4⟩)
  ·rw [← HW3.out] at hg4
   have H4 := Lib.hid (And.intro hp (grown_trans HG3.out hg4))
   clear hp hg4
   go_wp2
   exact bodyPost_ret (v := .tuple #[.string (tx (totE HOK.out.2.2.2.2.1 t.states t.lead s0)), .int .i64 0]) (by simp [results, Tryz.results20, go_sem]) rfl (.inr ⟨HCC.out, HOK.out.2.2.2.2.1, H4.out.2, .inl ⟨by rw [HTM.out, HS0.out]; exact H4.out.1, by rw [HTM.out, HS0.out]; rfl⟩⟩)
  ·rw [← HW3.out] at hg4
   have H4 := Lib.hid (And.intro hn2 (grown_trans HG3.out hg4))
   clear hn2 hg4
   go_wp2
   exact bodyPost_ret (v := .tuple #[.string ⟨#[]⟩, .int .i64 2]) (by simp [results, Tryz.results20, go_sem]) rfl (.inr ⟨HCC.out, HOK.out.2.2.2.2.1, H4.out.2, .inr ⟨by rw [HTM.out, HS0.out]; exact H4.out.1, rfl⟩⟩)
 ·have t1 : (c == 0) = false := by simpa using h0
  have t2 : (c != 0) = true := by simpa using h0
  have H0 := Lib.hid h0
  clear h0
  go_wp2
  exact bodyPost_ret (v := .tuple #[.string ⟨#[]⟩, .int .i64 c]) (by simp [results, Tryz.results20, go_sem]) rfl (.inl ⟨by rw [HCC.out]; exact H0.out, HG.out, by rw [HCC.out]⟩)
end Go.Proofs.YtaogepcaoogpgaaGreatDoor
