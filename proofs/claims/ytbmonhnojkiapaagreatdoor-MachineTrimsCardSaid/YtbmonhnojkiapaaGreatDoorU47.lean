/- The reference's renumber. -/
import Derived.Test.YtbmonhnojkiapaaGreatDoorU39
set_option linter.unusedVariables false
set_option linter.unusedSimpArgs false
namespace Go.Proofs.YtbmonhnojkiapaaGreatDoor
open Go.RowKit

def renHd (m : Mach) (l : List Nat) : Mach := ⟨m.kind, numF l m.start.toNat, m.lead, []⟩
def renP (m : Mach) (l : List Nat) (k : Nat) : List MState := (l.take k).map (fun x => renumS l (stOf m x))
theorem renP_len {m : Mach} {l : List Nat} {k : Nat} (h : k ≤ l.length) : (renP m l k).length = k := by unfold renP; simp; omega
theorem renP_next {m : Mach} {l : List Nat} {k x : Nat} {s : MState} (h : l[k]? = some x) (hs : m.states[x]? = some s) : renP m l (k + 1) = renP m l k ++ [⟨s.fin, s.arcs.filterMap (keepA l)⟩] := by
  unfold renP
  rw [take_one h, List.map_append, List.map_singleton, stOf_at hs]
  rfl
theorem renP_end {m : Mach} {l : List Nat} {k : Nat} (h : l.length ≤ k) : renP m l k = (renumM m l).states := by unfold renP renumM; rw [List.take_of_length_le h]
theorem at_of {gg n : Nat} {x : Option Nat} {v' : Value} (hv : v'.ownBlock = some gg) (h : v'.ownBlock = x ∨ v'.ownBlock = some n) : x = some gg ∨ gg = n := by
  rcases h with h | h
  · exact .inl (h.symm.trans hv)
  · rw [hv] at h; cases h; exact .inr rfl
set_option maxRecDepth 20000 in
set_option maxHeartbeats 16000000 in
theorem rrenumber_any {w : World} {v lv : Value} {m : Mach} {l : List Nat} {gn cn : Nat} (hv : MachV w v m) (hm : Small m) (hl : NSl w lv l) (hb : ∀ x ∈ l, x < m.states.length) (hll : l.length ≤ 3000) (hs0 : m.start.toNat ∈ l) (ht : TabI w gn m.states.length (numF l)) :
    Calls Tryz.prog 51 #[v, lv, .slice (some ⟨gn, 0, none⟩) m.states.length cn] w (MOPost (renumM m l) w) := by
  obtain ⟨i1, hi, hz0, hz1, hz2⟩ := info_parts6 info_arc
  obtain ⟨i2, hj0, hq0, hq1, hq2⟩ := info_parts6 info_st
  obtain ⟨u0, rfl, hst0⟩ := hv
  obtain ⟨A, cap, us0, rfl, hS0⟩ := StAt.of hst0
  obtain ⟨Al, capl, rfl, hrl⟩ := hl
  have g1 : w.grownBy (w.alloc (.cells #[.int .i64 m.kind, .int .i64 m.start, .string m.lead, .slice A m.states.length cap] 24)) none := World.grownBy_alloc _ _ _
  have b1 := BoxAt.new w m (.slice A m.states.length cap)
  have e1 : (w.alloc (.cells #[.int .i64 m.kind, .int .i64 m.start, .string m.lead, .slice A m.states.length cap] 24)).heap.size = w.heap.size + 1 := by simp
  have g2 := World.grownBy_alloc (w.alloc (.cells #[.int .i64 m.kind, .int .i64 m.start, .string m.lead, .slice A m.states.length cap] 24)) (.cells #[.int .i64 0, .int .i64 0, .string ⟨#[]⟩, .slice none 0 0] 24) none
  have b2 := BoxAt.new (w.alloc (.cells #[.int .i64 m.kind, .int .i64 m.start, .string m.lead, .slice A m.states.length cap] 24)) mach0 (.slice none 0 0)
  rw [e1] at b2
  have hb1 := b1.grown g2
  have hg := grown_trans g1 g2
  have hsz2 : ((w.alloc (.cells #[.int .i64 m.kind, .int .i64 m.start, .string m.lead, .slice A m.states.length cap] 24)).alloc (.cells #[.int .i64 0, .int .i64 0, .string ⟨#[]⟩, .slice none 0 0] 24)).heap.size = w.heap.size + 2 := by simp
  have HSZ2 := Lib.hid hsz2
  have HG := Lib.hid hg; have HB1 := Lib.hid hb1
  have HB2 := Lib.hid (show BoxAt ((w.alloc (.cells #[.int .i64 m.kind, .int .i64 m.start, .string m.lead, .slice A m.states.length cap] 24)).alloc (.cells #[.int .i64 0, .int .i64 0, .string ⟨#[]⟩, .slice none 0 0] 24)) (w.heap.size + 1) mach0 (.slice none 0 0) from b2)
  have HS := Lib.hid hS0; have HM := Lib.hid hm; have HRL := Lib.hid hrl; have HBL := Lib.hid hb; have HS0 := Lib.hid hs0
  have HT := Lib.hid ht
  have hn3 := hm.n
  obtain ⟨x0, x1, x2, x3⟩ := hb1.cells
  have hst := hm.wf.start
  have hstl : m.start.toNat < m.states.length := by omega
  have c0 := (ht.kept hg (by simp)).cell hstl
  clear hst0 hS0 hrl g1 g2 b1 b2 e1 hb1 hg hm hb hs0 ht hsz2
  go_enter Tryz.func51, Tryz.ntmps51
  go_upto_region 1 with (fail)
  generalize ((w.alloc (.cells #[.int .i64 m.kind, .int .i64 m.start, .string m.lead, .slice A m.states.length cap] 24)).alloc (.cells #[.int .i64 0, .int .i64 0, .string ⟨#[]⟩, .slice none 0 0] 24)) = w2 at *
  have d0 : w2.drew.cell? ⟨w.heap.size, 0, none⟩ = some (.int .i64 m.kind) := x0
  have d1 : w2.drew.cell? ⟨w.heap.size, 1, none⟩ = some (.int .i64 m.start) := x1
  have d2 : w2.drew.cell? ⟨w.heap.size, 2, none⟩ = some (.string m.lead) := x2
  have d3 : w2.drew.cell? ⟨gn, m.start.toNat, none⟩ = some (.int .i64 (numF l m.start.toNat)) := c0
  go_cut [7] from 13 to 22 (fun b wx => ∃ g : Nat, b = .pointer (some ⟨g, 0, none⟩) ∧ w.heap.size + 2 ≤ g ∧ g < wx.heap.size ∧ BoxAt wx g (renHd m l) (.slice none 0 0) ∧ w2.grownBy wx none)
  case first =>
    go_region_held3 (fun W' => W'.cell? ⟨w.heap.size, 0, none⟩ = some (.int .i64 m.kind) ∧ W'.cell? ⟨w.heap.size, 1, none⟩ = some (.int .i64 m.start) ∧ W'.cell? ⟨w.heap.size, 2, none⟩ = some (.string m.lead) ∧ W'.cell? ⟨gn, m.start.toNat, none⟩ = some (.int .i64 (numF l m.start.toNat))) (go_keep) (fail)
    go_wp2_with (fail)
    go_meet
    case rel => exact ⟨w2.heap.size, rfl, by rw [HSZ2.out]; omega, by simp, BoxAt.new w2.drew (renHd m l) (.slice none 0 0), grown_trans (grown_drew w2 none) (World.grownBy_alloc w2.drew _ none)⟩
  case rest =>
    obtain ⟨g, rfl, hgs, hgx, hbn, hgc⟩ := hcut
    generalize wc = w3 at *
    have HBN := Lib.hid hbn; have HB1 := Lib.hid (BoxAt.grown HB1.out hgc); have HB2 := Lib.hid (BoxAt.grown HB2.out hgc)
    have HG := Lib.hid (grown_trans HG.out hgc)
    clear hbn hgc x0 x1 x2 x3 d0 d1 d2 d3 c0 HSZ2
    go_wp2
    go_loopw [8] (fun i wr => ∃ (k : Nat) (u : Value), i = .int .i64 k ∧ k ≤ l.length ∧ StOwn wr w3.heap.size (fun b => w3.heap.size ≤ b) u (renP m l k) ∧ BoxAt wr g (renHd m l) u ∧ BoxAt wr (w.heap.size + 1) mach0 (.slice none 0 0) ∧ BoxAt wr w.heap.size m (.slice A m.states.length cap) ∧ w.grownBy wr none ∧ w3.heap.size ≤ wr.heap.size) (fun i _ => l.length - (intOf i).toNat)
    case atStart => exact ⟨0, _, rfl, by omega, StOwn.nil _ _ _, HBN.out, HB2.out, HB1.out, HG.out, Nat.le_refl _⟩
    case round =>
      obtain ⟨k, u, rfl, hk, hst, hbn, hbr, hbm, hgr, hC⟩ := hrel
      have HST := Lib.hid hst; have HBN2 := Lib.hid hbn; have HBR2 := Lib.hid hbr; have HGR := Lib.hid hgr; have HBM2 := Lib.hid hbm
      obtain ⟨_, _, _, y3⟩ := hbm.cells
      by_cases hlt : k < l.length
      · obtain ⟨ado, x, hA, hx, hcx⟩ := reads_nat ((HRL.out.below (below_of hgr)).more (below_of hgr).size) hlt
        subst hA
        have hxn := HBL.out x (List.mem_of_getElem? hx)
        obtain ⟨ad, s, B, cb, hA2, hs, hu, ⟨z0, z1⟩, hra⟩ := (HS.out.below (below_of hgr)).at_ hxn
        subst hA2
        have n1 : (k : Int) < (l.length : Int) := by omega
        have n2 : IntKind.i64.wrap ((k : Int) + 1) = (k : Int) + 1 := by rw [IntKind.wrap_i64]; omega
        have n3 : (0 : Int) ≤ (k : Int) := by omega
        have n4 : (0 : Int) ≤ (x : Int) := by omega
        have n5 : (x : Int) < (m.states.length : Int) := by omega
        have hal := HM.out.a s (List.mem_of_getElem? hs)
        have HSS := Lib.hid hs; have HU := Lib.hid hu; have HX := Lib.hid hx
        clear hst hbn hbr hbm hgr hx hs hu hra
        go_upto_region 5 with (fail)
        have d0 : wr.drew.cell? ⟨w.heap.size, 3, none⟩ = some (.slice (some ad) m.states.length cap) := y3
        have d1 : wr.drew.cell? (ado.add k) = some (.int .i64 (x : Int)) := hcx
        have d2 : wr.drew.cell? (ad.add (x * 2)) = some (.string s.fin) := z0
        have d3 : wr.drew.cell? { block := (ad.add (x * 2)).block, off := (ad.add (x * 2)).off + 1, spot := none } = some (.slice B s.arcs.length cb) := z1
        go_cut [9] from 29 to 36 (fun b wx => b = .pointer (some ⟨wr.heap.size, 0, none⟩) ∧ wx.heap[wr.heap.size]? = some (.cells #[.string s.fin, .slice B s.arcs.length cb] 29 (0, 0)) ∧ wx.heap.size = wr.heap.size + 1 ∧ wr.grownBy wx none)
        case first =>
          go_region_held3 (fun W' => W'.cell? ⟨w.heap.size, 3, none⟩ = some (.slice (some ad) m.states.length cap) ∧ W'.cell? (ado.add k) = some (.int .i64 (x : Int)) ∧ W'.cell? (ad.add (x * 2)) = some (.string s.fin) ∧ W'.cell? { block := (ad.add (x * 2)).block, off := (ad.add (x * 2)).off + 1, spot := none } = some (.slice B s.arcs.length cb)) (go_keep) (fail)
          go_wp2_with (fail)
          go_meet
          case rel => exact ⟨rfl, block_new6 wr.drew _ _, by simp, grown_trans (grown_drew wr none) (World.grownBy_alloc wr.drew _ none)⟩
        case rest =>
          obtain ⟨rfl, hsb0, hsz0, hg0⟩ := hcut
          generalize wc = w4 at *
          clear y3 hcx z0 z1 d0 d1 d2 d3
          have c0 : w4.cell? ⟨wr.heap.size, 0, none⟩ = some (.string s.fin) := by rw [cell_of_row w4 _ 0 _ _ (0, 0) hsb0]; rfl
          have HSB0 := Lib.hid hsb0; have HG0 := Lib.hid hg0; have HSZ0 := Lib.hid hsz0
          clear hsb0 hg0 hsz0
          go_upto_region 7 with (fail)
          have hga := World.grownBy_alloc w4 (.cells #[.string s.fin, .slice none 0 0] 29) none
          have hsb := block_new6 w4 #[.string s.fin, .slice none 0 0] 29
          have hsz5 : (w4.alloc (.cells #[.string s.fin, .slice none 0 0] 29)).heap.size = w4.heap.size + 1 := by simp
          have HSB := Lib.hid hsb; have HGA := Lib.hid hga; have HSZ5 := Lib.hid hsz5
          clear c0 hga hsb hsz5
          generalize w4.alloc (.cells #[.string s.fin, .slice none 0 0] 29) = w5 at *
          generalize wr = wv at *
          go_wp2
          go_loopw [11] (fun i wi => ∃ (j : Nat) (v : Value), i = .int .i64 j ∧ j ≤ s.arcs.length ∧ wi.heap[w4.heap.size]? = some (.cells #[.string s.fin, v] 29 (0, 0)) ∧ wi.ownsRow w5.heap.size 35 4 v (keepP l s.arcs j).length ((keepP l s.arcs j).flatMap arcC) ∧ w4.grownBy wi none) (fun i _ => s.arcs.length - (intOf i).toNat)
          case atStart => exact ⟨0, _, rfl, by omega, HSB.out, by unfold keepP; exact World.ownsRow_nil _ _ _ _, HGA.out⟩
          case round =>
            obtain ⟨j, v, rfl, hj, hsb, hown, hgi⟩ := hrel
            have HSBi := Lib.hid hsb; have HOWN := Lib.hid hown; have HGi := Lib.hid hgi
            have hszi := lt_of_block hsb
            have hwv4 : wv.heap.size < w4.heap.size := by rw [HSZ0.out]; omega
            have hs9 := (hgi.block wv.heap.size hwv4 (by simp)).trans HSB0.out
            have hgw := grown_trans (grown_trans HGR.out HG0.out) hgi
            have HGW := Lib.hid hgw
            have c9 : wr.cell? ⟨wv.heap.size, 1, none⟩ = some (.slice B s.arcs.length cb) := by rw [cell_of_row wr _ 1 _ _ (0, 0) hs9]; rfl
            have hql := keepP_len l s.arcs j
            by_cases hjl : j < s.arcs.length
            · obtain ⟨ad5, a, hBr, hab, haj, hat⟩ := row_arc ((HS.out.below (below_of hgw)).arcs_at HSS.out HU.out) hjl
              subst hBr
              obtain ⟨z0, z1, z2, z3⟩ := hat
              have harc := HM.out.wf.arcs s (List.mem_of_getElem? HSS.out) a (List.mem_of_getElem? haj)
              obtain ⟨y, hy⟩ : ∃ y : Nat, a.t = (y : Int) := ⟨a.t.toNat, by omega⟩
              have hyn : y < m.states.length := by omega
              have hyt : a.t.toNat = y := by omega
              have c0 := (HT.out.kept hgw (by simp)).cell hyn
              rw [hy] at z3
              have n15 : (j : Int) < (s.arcs.length : Int) := by omega
              have n16 : IntKind.i64.wrap ((j : Int) + 1) = (j : Int) + 1 := by rw [IntKind.wrap_i64]; omega
              have n17 : (0 : Int) ≤ (y : Int) := by omega
              have n18 : (y : Int) < (m.states.length : Int) := by omega
              have n20 : (0 : Int) ≤ (j : Int) := by omega
              have HAJ := Lib.hid haj; have HY := Lib.hid hy; have HYT := Lib.hid hyt
              clear haj harc hy hyt hsb hown hgi hs9 hgw
              by_cases hyl : y ∈ l
              · have hnum : numF l y = (l.idxOf y : Int) := by unfold numF; rw [if_pos hyl]
                rw [hnum] at c0
                have n19 : (0 : Int) ≤ (l.idxOf y : Int) := by omega
                have hkeep : keepA l a = some ⟨a.i, a.o, a.w, (l.idxOf y : Int)⟩ := by unfold keepA; rw [HYT.out, if_pos hyl]
                have HK := Lib.hid (keepP_keep HAJ.out hkeep)
                have c0b := (World.grownBy_alloc wr (.cells #[.int .i64 a.i, .int .i64 a.o, .string a.w, .int .i64 (y : Int)] 35) none).cell c0 (by simp)
                have c1 : wr.cell? ⟨w4.heap.size, 1, none⟩ = some v := by rw [cell_of_row wr _ 1 _ _ (0, 0) HSBi.out]; rfl
                have f1 := frozen_of_row wr w4.heap.size 1 _ _ HSBi.out
                have hg2 : wr.grownBy ((wr.alloc (.cells #[.int .i64 a.i, .int .i64 a.o, .string a.w, .int .i64 (l.idxOf y : Int)] 35)).alloc (.cells #[.int .i64 a.i, .int .i64 a.o, .string a.w, .int .i64 (l.idxOf y : Int)] 35)) none := grown_trans (World.grownBy_alloc _ _ _) (World.grownBy_alloc _ _ _)
                have HG2a := Lib.hid hg2
                have hown2 : World.ownsRow ((wr.alloc (.cells #[.int .i64 a.i, .int .i64 a.o, .string a.w, .int .i64 (l.idxOf y : Int)] 35)).alloc (.cells #[.int .i64 a.i, .int .i64 a.o, .string a.w, .int .i64 (l.idxOf y : Int)] 35)) w5.heap.size 35 4 v (keepP l s.arcs j).length ((keepP l s.arcs j).flatMap arcC) := HOWN.out.kept hg2 (by cases v.ownBlock <;> simp)
                have HOWN2 := Lib.hid hown2
                have hbl : ((wr.alloc (.cells #[.int .i64 a.i, .int .i64 a.o, .string a.w, .int .i64 (l.idxOf y : Int)] 35)).alloc (.cells #[.int .i64 a.i, .int .i64 a.o, .string a.w, .int .i64 (l.idxOf y : Int)] 35)).heap[wr.heap.size + 1]? = some (.cells #[.int .i64 a.i, .int .i64 a.o, .string a.w, .int .i64 (l.idxOf y : Int)] 35 (0, 0)) := by
                  have h := block_new6 (wr.alloc (.cells #[.int .i64 a.i, .int .i64 a.o, .string a.w, .int .i64 (l.idxOf y : Int)] 35)) #[.int .i64 a.i, .int .i64 a.o, .string a.w, .int .i64 (l.idxOf y : Int)] 35
                  rw [show (wr.alloc (.cells #[.int .i64 a.i, .int .i64 a.o, .string a.w, .int .i64 (l.idxOf y : Int)] 35)).heap.size = wr.heap.size + 1 by simp] at h
                  exact h
                have HBLK := Lib.hid hbl
                have hw5 : w5.heap.size ≤ wr.heap.size := by rw [HSZ5.out]; omega
                clear hnum hkeep hyl hg2 hown2 hbl
                go_wp2_with (at_builtin; refine wpList_append_own_at _ rfl _ _ 27 rfl w5.heap.size 35 i1 (.agg #[.int .i64 0, .int .i64 0, .string ByteArray.empty, .int .i64 0]) 4 40 Tryz.underlying27 hi hz0 hz1 hz2 rfl (by omega) v (keepP l s.arcs j).length _ rfl HOWN2.out ⟨wr.heap.size + 1, 0, none⟩ 1 1 [.int .i64 a.i, .int .i64 a.o, .string a.w, .int .i64 (l.idxOf y : Int)] rfl rfl (World.news_of_block HBLK.out) (by simp [Value.oneCell']) (by unfold maxLen; omega) (by omega) (by simp; omega) ?_)
                intro v' w6 k1 k2 _ k4
                obtain ⟨gg, cc, rfl, hgg, _⟩ := k1.form (by omega)
                have hne : some w4.heap.size ≠ v.ownBlock := fun e => by have := (HOWN.out.lt _ e.symm).1; rw [HSZ5.out] at this; omega
                have s0 := k2.cell (HG2a.out.cell c1 (by simp)) hne
                have hbs := (k2.block w4.heap.size (by have := HG2a.out.size; omega) hne).trans ((HG2a.out.block w4.heap.size hszi (by simp)).trans HSBi.out)
                have s2 := frozen_of_row w6 w4.heap.size 1 _ _ hbs
                have gst := grown_setCell w6 ⟨w4.heap.size, 1, none⟩ (.slice (some ⟨gg, 0, none⟩) ((keepP l s.arcs j).length + 1) cc)
                have hsb6 := heap_setCell_same w6 w4.heap.size 1 _ _ (.slice (some ⟨gg, 0, none⟩) ((keepP l s.arcs j).length + 1) cc) hbs
                have hown6 := k1.kept gst (.inr (by show some gg ≠ some w4.heap.size; intro e; cases e; rw [HSZ5.out] at hgg; omega))
                rw [show (keepP l s.arcs j).flatMap arcC ++ [.int .i64 a.i, .int .i64 a.o, .string a.w, .int .i64 (l.idxOf y : Int)] = (keepP l s.arcs (j + 1)).flatMap arcC by rw [HK.out, List.flatMap_append]; rfl] at hown6
                have hlen : (keepP l s.arcs j).length + 1 = (keepP l s.arcs (j + 1)).length := by rw [HK.out]; simp
                have hg6 := (grown_step (g := w4.heap.size) (grown_many (grown_trans HGi.out HG2a.out) k2 (fun b' e => by have := (HOWN.out.lt b' e).1; rw [HSZ5.out] at this; omega)) gst (by omega))
                rw [hlen] at hsb6 hown6 hg6
                have HSB6 := Lib.hid hsb6; have HOWN6 := Lib.hid hown6; have HG6 := Lib.hid hg6
                have HLEN := Lib.hid hlen
                clear k1 k2 k4 hne hgg hbs gst hsb6 hown6 hg6 c0 c0b c1 f1 z0 z1 z2 z3 hlen c9 hql
                go_wp2
                rw [HLEN.out]
                go_roundw
                case rel => exact ⟨j + 1, _, by go_num, by omega, HSB6.out, HOWN6.out, HG6.out⟩
                case measure => simp [intOf]; omega
              · have hnum : numF l y = -1 := by unfold numF; rw [if_neg hyl]
                rw [hnum] at c0
                have c0b := (World.grownBy_alloc wr (.cells #[.int .i64 a.i, .int .i64 a.o, .string a.w, .int .i64 (y : Int)] 35) none).cell c0 (by simp)
                have n19 : ¬ (0 : Int) ≤ -1 := by omega
                have hkeep : keepA l a = none := by unfold keepA; rw [HYT.out, if_neg hyl]
                have hk2 := keepP_skip HAJ.out hkeep
                have hga := World.grownBy_alloc wr (.cells #[.int .i64 a.i, .int .i64 a.o, .string a.w, .int .i64 (y : Int)] 35) none
                have HSB6 := Lib.hid ((hga.block w4.heap.size hszi (by simp)).trans HSBi.out)
                have hown6 := HOWN.out.kept hga (by cases v.ownBlock <;> simp)
                rw [← hk2] at hown6
                have HOWN6 := Lib.hid hown6; have HG6 := Lib.hid (grown_trans HGi.out hga)
                clear hnum hkeep hk2 hga hown6 hyl hql
                go_wp2
                go_roundw
                case rel => exact ⟨j + 1, _, by go_num, by omega, HSB6.out, HOWN6.out, HG6.out⟩
                case measure => simp [intOf]; omega
            · have n15 : ¬ (j : Int) < (s.arcs.length : Int) := by omega
              have hke : keepP l s.arcs j = s.arcs.filterMap (keepA l) := keepP_end (by omega)
              rw [hke] at hown hql
              have hrn := renP_next (m := m) HX.out HSS.out
              generalize s.arcs.filterMap (keepA l) = ka at *
              obtain ⟨Av, cv, hv, hrv⟩ := arcs_of_own hown
              subst hv
              have hbn := BoxAt.grown HBN2.out (grown_trans HG0.out hgi)
              obtain ⟨_, _, _, y3⟩ := hbn.cells
              have c0 : wr.cell? ⟨w4.heap.size, 0, none⟩ = some (.string s.fin) := by rw [cell_of_row wr _ 0 _ _ (0, 0) hsb]; rfl
              have c1 : wr.cell? ⟨w4.heap.size, 1, none⟩ = some (.slice Av ka.length cv) := by rw [cell_of_row wr _ 1 _ _ (0, 0) hsb]; rfl
              obtain ⟨us, hsp⟩ := (HST.out.grown (grown_trans HG0.out hgi)).p (by have := (grown_trans HG0.out hgi).size; omega)
              obtain ⟨us0', hsp0⟩ := HST.out.p hC
              have HSP0 := Lib.hid hsp0
              have hX := World.grownBy_alloc wr (.cells #[.string s.fin, .slice Av ka.length cv] 29) none
              have hsp2 := hsp.grown hX
              have hk1 := renP_len (m := m) (l := l) (k := k) (by omega)
              have hown2 := hsp2.own
              rw [hk1] at hown2
              have HOWN2 := Lib.hid hown2; have HSP2 := Lib.hid hsp2; have HX2 := Lib.hid hX
              have HBLK := Lib.hid (block_new6 wr #[.string s.fin, .slice Av ka.length cv] 29)
              have HAR := Lib.hid ((arcs_of_own hown).grown hX)
              have HOWN := Lib.hid hown; have HRN := Lib.hid hrn; have HK1 := Lib.hid hk1
              have HBNi := Lib.hid hbn
              have hwi : w3.heap.size ≤ wr.heap.size := by have := (grown_trans HG0.out hgi).size; omega
              clear hke hown hrn hrv hbn hsp hX hsp2 hk1 hown2 hsb hs9 hgw hgi hsp0
              go_wp2_with (at_builtin; refine wpList_append_own_at _ rfl _ _ 22 rfl w3.heap.size 29 i2 (.agg #[.string ByteArray.empty, .slice none 0 0]) 2 40 Tryz.underlying22 hj0 hq0 hq1 hq2 rfl (by omega) u k _ rfl HOWN2.out ⟨wr.heap.size, 0, none⟩ 1 1 [.string s.fin, .slice Av ka.length cv] rfl rfl (World.news_of_block HBLK.out) (by simp [Value.oneCell']) (by unfold maxLen; omega) (by omega) (by simp; omega) ?_)
              intro v' w8 k1 k2 _ k4
              obtain ⟨gg, cc, rfl, hgg, _⟩ := k1.form (by omega)
              have hlo : ∀ b, u.ownBlock = some b → w3.heap.size ≤ b ∧ b < wv.heap.size := fun b e => HSP0.out.lt e
              have N0 : some g ≠ u.ownBlock := fun e => by have := (hlo _ e.symm).1; omega
              have N1 : some w.heap.size ≠ u.ownBlock := fun e => by have := (hlo _ e.symm).1; omega
              have N2 : some (w.heap.size + 1) ≠ u.ownBlock := fun e => by have := (hlo _ e.symm).1; omega
              have s3 := k2.cell (HX2.out.cell y3 (by simp)) N0
              have hbx8 := (k2.block g (by have := HX2.out.size; omega) N0).trans (BoxAt.grown HBNi.out HX2.out)
              have s4 := BoxAt.free (show BoxAt w8 g (renHd m l) u from hbx8) 3
              have hkh : u.ownBlock = some gg ∨ gg = (wr.alloc (.cells #[.string s.fin, .slice Av ka.length cv] 29)).heap.size := by
                have h := at_of (gg := gg) rfl k4
                rcases h with h | h
                · exact .inl h
                · exact .inr (by simp; exact h)
              have hsp8 := HSP2.out.push (x := .slice Av ka.length cv) (s := ⟨s.fin, ka⟩) HAR.out (fun h0 e => by
                obtain ⟨b, hb, _⟩ := ArcsSl.block HAR.out h0
                rw [hb] at e
                have h1 := (HOWN.out.lt b hb).1; have h2 := (hlo b e.symm).2; have h3 := HSZ0.out; rw [HSZ5.out] at h1; omega)
                (fun _ b hb => by have h1 := (HOWN.out.lt b hb).1; have h3 := HSZ0.out; rw [HSZ5.out] at h1; omega) (by rw [HK1.out]; exact k1) k2 hkh
              rw [HK1.out, ← HRN.out] at hsp8
              have gst := grown_setCell w8 ⟨g, 3, none⟩ (.slice (some ⟨gg, 0, none⟩) (k + 1) cc)
              have hst8 := hsp8.st.other gst (by show some gg ≠ some g; intro e; cases e; omega) (by show ¬ w3.heap.size ≤ g; omega)
              have hgw := grown_many (grown_trans HGW.out HX2.out) k2 (fun b e => by have := (hlo b e).1; omega)
              have HGW8 := Lib.hid (grown_step (g := g) hgw gst (by omega))
              have HBN8 := Lib.hid (BoxAt.set3 (v := .slice (some ⟨gg, 0, none⟩) (k + 1) cc) hbx8)
              have hX4 := grown_trans (grown_trans HG0.out HGi.out) HX2.out
              have hl0 := HGR.out.size
              have hs4 := hX4.size
              have hs8 := k2.size
              have HBR8 := Lib.hid (show BoxAt _ (w.heap.size + 1) mach0 (.slice none 0 0) from (gst.block (w.heap.size + 1) (by omega) (by intro e; injection e with e; change _ = g at e; omega)).trans ((k2.block (w.heap.size + 1) (by omega) N2).trans (BoxAt.grown HBR2.out hX4)))
              have HBM8 := Lib.hid (show BoxAt _ w.heap.size m (.slice (some ad) m.states.length cap) from (gst.block w.heap.size (by omega) (by intro e; injection e with e; change _ = g at e; omega)).trans ((k2.block w.heap.size (by omega) N1).trans (BoxAt.grown HBM2.out hX4)))
              have HST8 := Lib.hid hst8
              have HC8 := Lib.hid (show w3.heap.size ≤ (w8.setCell ⟨g, 3, none⟩ (.slice (some ⟨gg, 0, none⟩) (k + 1) cc)).heap.size by have := gst.size; omega)
              clear hsp8 hst8 gst hgw hbx8 k1 k2 k4 hkh c0 c1 y3 hX4 hl0 hs4 hs8 N0 N1 N2
              go_wp2
              go_roundw
              case rel => exact ⟨k + 1, _, by go_num, by omega, HST8.out, HBN8.out, HBR8.out, HBM8.out, HGW8.out, HC8.out⟩
              case measure => simp [intOf]; omega
      · have n1 : ¬ (k : Int) < (l.length : Int) := by omega
        obtain ⟨v0, v1, v2, v3⟩ := hbr.cells
        rw [renP_end (by omega)] at hst
        obtain ⟨Au, cu, usu, hu0, _⟩ := hst.sl
        subst hu0
        obtain ⟨w0, w1, w2', w3'⟩ := hbn.cells
        simp only [mach0] at v0 v1 v2
        have f0 := hbr.free 0; have f1 := hbr.free 1; have f2 := hbr.free 2; have f3 := hbr.free 3
        obtain ⟨hbf, hgf⟩ := box_fill (n := renHd m l) (v := .slice Au (renumM m l).states.length cu) hbr
        have HGF := Lib.hid (grown_step (g := w.heap.size + 1) hgr hgf (by omega))
        obtain ⟨us, hsp⟩ := hst.p hC
        have hst2 := hst.other hgf (by intro e; have := (hsp.lt e).1; omega) (by omega)
        have T := Lib.hid (hst2.mono (B' := w.heap.size) (P' := fun b => w.heap.size ≤ b) (by omega) (fun b hb => by omega))
        have HN : Hid (numF l m.start.toNat = (renumM m l).start) := Lib.hid (by unfold numF; rw [if_pos HS0.out]; rfl)
        obtain ⟨c0, c1, c2, c3⟩ := hbf.cells
        clear hbf hgf hst hst2 hsp hbn hbr hbm hgr y3
        go_wp2_with fail
        generalize (((wr.setCell ⟨w.heap.size + 1, 0, none⟩ (.int .i64 (renHd m l).kind)).setCell ⟨w.heap.size + 1, 1, none⟩ (.int .i64 (renHd m l).start)).setCell ⟨w.heap.size + 1, 2, none⟩ (.string (renHd m l).lead)).setCell ⟨w.heap.size + 1, 3, none⟩ (.slice Au (renumM m l).states.length cu) = WW at *
        exact bodyPost_ret (v := .agg #[.int .i64 (renHd m l).kind, .int .i64 (renHd m l).start, .string (renHd m l).lead, .slice Au (renumM m l).states.length cu]) (by simp [results, Tryz.results51, go_sem, c0, c1, c2, c3]) rfl ⟨_, rfl, ⟨_, by show Value.agg #[.int .i64 m.kind, .int .i64 (numF l m.start.toNat), .string m.lead, _] = _; rw [HN.out]; rfl, T.out⟩, HGF.out⟩
end Go.Proofs.YtbmonhnojkiapaaGreatDoor
