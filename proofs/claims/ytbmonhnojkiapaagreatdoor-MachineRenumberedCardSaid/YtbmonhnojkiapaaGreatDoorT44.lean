/- MachineRenumbered, walked. -/
import Derived.Test.YtbmonhnojkiapaaGreatDoorT35
import Derived.Test.YtbmonhnojkiapaaGreatDoorT36
import Derived.Test.YtbmonhnojkiapaaGreatDoorT33
import Derived.Test.YtbmonhnojkiapaaGreatDoorT38
import Derived.Test.YtbmonhnojkiapaaGreatDoorT43
set_option linter.unusedVariables false
set_option linter.unusedSimpArgs false
namespace Go.Proofs.YtbmonhnojkiapaaGreatDoor
open Go.RowKit

/-- The arcs of a state are replaced. -/
theorem ORows.set_arcs {W : World} {C g k : Nat} {ss : List MState} {us : List Value} {s : MState} {v : Value} {al : List MArc} (h : ORows W C g ss us) (hs : ss[k]? = some s) (hv : W.ownsRow C 35 4 v al.length (al.flatMap arcC))
    (hd : ∀ b, v.ownBlock = some b → ∀ (j : Nat) (u : Value), us[j]? = some u → u.ownBlock ≠ some b) : ORows (W.setCell ⟨g, k * 2 + 1, none⟩ v) C g (ss.set k ⟨s.fin, al⟩) (us.set k v) := by
  have hk := (List.getElem?_eq_some_iff.1 hs).1
  have hku : k < us.length := by rw [h.len]; exact hk
  have hu : us[k]? = some us[k] := List.getElem?_eq_getElem hku
  have hz : (ss.zip us)[k]? = some (s, us[k]) := by rw [List.getElem?_zip_eq_some]; exact ⟨hs, hu⟩
  have hfl := flat_set stC 2 stC_len (ss.zip us) k 1 _ (⟨s.fin, al⟩, v) v hz (by omega) rfl
  rw [← zip_set] at hfl
  have gs := grown_setCell W ⟨g, k * 2 + 1, none⟩ v
  have hr := h.hr
  refine ⟨?_, by rw [List.length_set, List.length_set]; exact h.len, fun i t x hi hx => ?_, fun i j u u' hne hi hj => ?_, h.hr, by have := h.hC; simp; exact this⟩
  · rw [heap_setCell_same W g _ _ _ _ h.row, hfl]; simp
  · by_cases e : i = k
    · subst e
      rw [List.getElem?_set_self hk] at hi
      rw [List.getElem?_set_self hku] at hx
      cases hi; cases hx
      exact hv.kept gs (by
        cases eb : v.ownBlock with
        | none => exact .inl rfl
        | some b => exact .inr (by have := (hv.lt b eb).1; show some b ≠ some g; intro e; cases e; omega))
    · rw [List.getElem?_set_ne (Ne.symm e)] at hi hx
      have ho := h.own i t x hi hx
      exact ho.kept gs (by
        cases eb : x.ownBlock with
        | none => exact .inl rfl
        | some b => exact .inr (by have := (ho.lt b eb).1; show some b ≠ some g; intro e; cases e; omega))
  · by_cases ea : i = k
    · subst ea
      rw [List.getElem?_set_self hku] at hi
      rw [List.getElem?_set_ne hne] at hj
      cases hi
      cases eb : v.ownBlock with
      | none => exact .inl rfl
      | some b => exact .inr (Ne.symm (hd b eb j u' hj))
    · rw [List.getElem?_set_ne (Ne.symm ea)] at hi
      by_cases eb : j = k
      · subst eb
        rw [List.getElem?_set_self hku] at hj
        cases hj
        cases e2 : u.ownBlock with
        | none => exact .inl rfl
        | some c => exact .inr (fun e => hd c e.symm i u hi e2)
      · rw [List.getElem?_set_ne (Ne.symm eb)] at hj
        exact h.dis i j u u' hne hi hj
theorem ownsRow_mono {w : World} {B B' n k : Nat} {e : TypeId} {v : Value} {xs : List Value} (h : w.ownsRow B e k v n xs) (hb : B' ≤ B) : w.ownsRow B' e k v n xs := by
  refine ⟨h.1, ?_⟩
  rcases h.2 with h | ⟨g, cap, cur, h1, h2, h3⟩
  · exact .inl h
  · exact .inr ⟨g, cap, cur, h1, by omega, h3⟩
/-- A whole state is stored. -/
theorem ORows.put {W : World} {C g k : Nat} {ss : List MState} {us : List Value} {s : MState} {v : Value} {f : ByteArray} {al : List MArc} (h : ORows W C g ss us) (hs : ss[k]? = some s) (hv : W.ownsRow C 35 4 v al.length (al.flatMap arcC))
    (hd : ∀ b, v.ownBlock = some b → ∀ (j : Nat) (u : Value), us[j]? = some u → u.ownBlock ≠ some b) : ORows ((W.setCell ⟨g, k * 2, none⟩ (.string f)).setCell ⟨g, k * 2 + 1, none⟩ v) C g (ss.set k ⟨f, al⟩) (us.set k v) := by
  have h1 := h.set_fin hs f
  have hk := (List.getElem?_eq_some_iff.1 hs).1
  have hr := h.hr
  have h2 := h1.set_arcs (s := ⟨f, s.arcs⟩) (by rw [List.getElem?_set_self hk]) (hv.kept (grown_setCell W ⟨g, k * 2, none⟩ (.string f)) (by
    cases eb : v.ownBlock with
    | none => exact .inl rfl
    | some b => exact .inr (by have := (hv.lt b eb).1; show some b ≠ some g; intro e; cases e; omega))) hd
  rw [List.set_set] at h2
  exact h2
def accT (n b : Nat) (l : List MArc) (j : Nat) : List MArc := ((l.map (turnA n b)).reverse).take j
theorem accT_len {n b j : Nat} {l : List MArc} (h : j ≤ l.length) : (accT n b l j).length = j := by unfold accT; simp; omega
theorem accT_next {n b j : Nat} {l : List MArc} {a : MArc} (hj : j < l.length) (h : l[l.length - 1 - j]? = some a) : accT n b l (j + 1) = accT n b l j ++ [turnA n b a] := by
  unfold accT
  have hg : ((l.map (turnA n b)).reverse)[j]? = some (turnA n b a) := by
    rw [List.getElem?_reverse (by simpa using hj), List.length_map, List.getElem?_map, h]; rfl
  exact take_one hg
theorem accT_end {n b j : Nat} {l : List MArc} (h : l.length ≤ j) : accT n b l j = (l.map (turnA n b)).reverse := by unfold accT; rw [List.take_of_length_le (by simpa using h)]
theorem tmod_back {a n : Int} (hn : 0 < n) : -n < Int.tmod a n ∧ Int.tmod a n < n := by
  have h1 := Int.tmod_lt_of_pos a hn
  have h2 := Int.tmod_lt_of_pos (-a) hn
  rw [Int.neg_tmod] at h2
  omega
theorem turn_by {by' : Int} {n : Nat} (hn : 0 < n) : ∃ b : Nat, b < n ∧ Int.tmod (Int.tmod by' (n : Int) + (n : Int)) (n : Int) = (b : Int) := by
  have h1 := tmod_back (a := by') (n := (n : Int)) (by omega)
  have h2 := Int.tmod_nonneg (n : Int) (a := Int.tmod by' (n : Int) + (n : Int)) (by omega)
  have h3 := Int.tmod_lt_of_pos (Int.tmod by' (n : Int) + (n : Int)) (b := (n : Int)) (by omega)
  exact ⟨(Int.tmod (Int.tmod by' (n : Int) + (n : Int)) (n : Int)).toNat, by omega, by omega⟩
theorem turn_at {n b x : Nat} (hx : x < n) : Int.tmod ((x : Int) + (b : Int)) (n : Int) = (turnF n b x : Int) := by
  unfold turnF
  rw [← Int.natCast_add, Int.ofNat_tmod]
theorem tmod_own {n x : Nat} (hx : x < n) : Int.tmod (x : Int) (n : Int) = (x : Int) := Int.tmod_eq_of_lt (by omega) (by omega)
set_option maxRecDepth 20000 in
set_option maxHeartbeats 16000000 in
theorem renumbered_walk (by' : Int) {w : World} {v : Value} {m : Mach} (hv : MachV w v m) (hf : Fits m) : Calls Tryz.prog 7 #[v, .int .i64 by'] w (ValPost (.bool true) w) := by
  have hvv := fun w' (h : w.grownBy w' none) => hv.grown h
  have HV := Lib.hid hvv
  have HF := Lib.hid hf
  obtain ⟨u, rfl, hst0⟩ := hv
  obtain ⟨A, cap, us, rfl, hS0⟩ := StAt.of hst0
  have hg : w.grownBy (w.alloc (.cells #[.int .i64 m.kind, .int .i64 m.start, .string m.lead, .slice A m.states.length cap] 24)) none := World.grownBy_alloc _ _ _
  have hbx := BoxAt.new w m (.slice A m.states.length cap)
  have HG := Lib.hid hg; have HBm := Lib.hid hbx; have HS := Lib.hid hS0
  obtain ⟨x0, x1, x2, x3⟩ := hbx.cells
  have HL := Lib.hid (large_any6 (HV.out _ hg) hf)
  clear hg hbx hst0 hvv hf hS0
  go_enter Tryz.func7, Tryz.ntmps7
  go_wp2_with fail
  refine HL.out.mono ?_
  rintro e w1 ⟨rfl, hg1⟩
  generalize hW : w.alloc (.cells #[.int .i64 m.kind, .int .i64 m.start, .string m.lead, .slice A m.states.length cap] 24) = W at *
  clear hW x0 x1 x2 x3 HL
  have HG1 := Lib.hid (grown_trans HG.out hg1)
  have HBm := Lib.hid (BoxAt.grown HBm.out hg1)
  clear hg1 HG
  obtain ⟨x0, x1, x2, x3⟩ := BoxAt.cells HBm.out
  cases hB : smallB m
  · clear hB
    go_wp2_with fail
    refine (awake_any _).mono ?_
    rintro e w2 ⟨rfl, hg2⟩
    have HG2 := Lib.hid (grown_trans HG1.out hg2)
    clear hg2
    go_wp2
    go_ret
    exact ⟨rfl, HG2.out⟩
  clear hB
  go_wp2_with fail
  refine (deterministic_any (HV.out _ HG1.out) HF.out).mono ?_
  rintro e w2 ⟨rfl, hg2⟩
  have HG2 := Lib.hid (grown_trans HG1.out hg2)
  have HBm := Lib.hid (BoxAt.grown HBm.out hg2)
  clear hg2 x0 x1 x2 x3 HG1
  obtain ⟨x0, x1, x2, x3⟩ := BoxAt.cells HBm.out
  cases hD : detB m
  · clear hD
    go_wp2_with fail
    refine (awake_any _).mono ?_
    rintro e w3 ⟨rfl, hg3⟩
    have HG3 := Lib.hid (grown_trans HG2.out hg3)
    clear hg3
    go_wp2
    go_ret
    exact ⟨rfl, HG3.out⟩
  have hB : validB m = true := by
    unfold detB at hD
    simp only [Bool.and_eq_true] at hD
    exact every_valid hD.1.1
  have hw := valid_wf hB
  have hst := hw.start
  have hwl := BoxAt.lt HBm.out
  have hn0 : 0 < m.states.length := by omega
  have hn3 := valid_len hB
  obtain ⟨b, hb, hbe⟩ := turn_by (by' := by') hn0
  have HD := Lib.hid hD; have HB := Lib.hid hB; have HW := Lib.hid hw
  have h1 := tmod_back (a := by') (n := (m.states.length : Int)) (by omega)
  have r1 : IntKind.i64.wrap (Int.tmod by' (m.states.length : Int)) = Int.tmod by' (m.states.length : Int) := by rw [IntKind.wrap_i64]; omega
  have r2 : IntKind.i64.wrap (Int.tmod by' (m.states.length : Int) + (m.states.length : Int)) = Int.tmod by' (m.states.length : Int) + (m.states.length : Int) := by rw [IntKind.wrap_i64]; omega
  have r3 : IntKind.i64.wrap (b : Int) = (b : Int) := by rw [IntKind.wrap_i64]; omega
  have r0 : ¬ (m.states.length : Int) = 0 := by omega
  clear hD hB hw h1
  have hst0 : m.start.toNat < m.states.length := by omega
  have hse : m.start = (m.start.toNat : Int) := by omega
  have t1 : Int.tmod m.start (m.states.length : Int) = m.start := by rw [hse]; exact tmod_own hst0
  have t2 : IntKind.i64.wrap m.start = m.start := by rw [IntKind.wrap_i64]; omega
  have t3 : IntKind.i64.wrap (m.start + (b : Int)) = m.start + (b : Int) := by rw [IntKind.wrap_i64]; omega
  have t4 : Int.tmod (m.start + (b : Int)) (m.states.length : Int) = (turnF m.states.length b m.start.toNat : Int) := by
    have h := turn_at (b := b) hst0
    rw [← hse] at h
    exact h
  have hlt0 := turn_lt (n := m.states.length) (b := b) (x := m.start.toNat) hn0
  have t5 : IntKind.i64.wrap (turnF m.states.length b m.start.toNat : Int) = (turnF m.states.length b m.start.toNat : Int) := by rw [IntKind.wrap_i64]; omega
  have r0b : ((m.states.length : Int) == 0) = false := by simp; intro h; rw [h] at hn0; simp at hn0
  have r0c : ¬ m.states = [] := fun h => by rw [h] at hn0; simp at hn0
  have r0d : ¬ m.states.length = 0 := by omega
  clear hse
  go_upto_region 5 with (fail)
  have d0 : w2.drew.cell? ⟨w.heap.size, 0, none⟩ = some (.int .i64 m.kind) := x0
  have d1 : w2.drew.cell? ⟨w.heap.size, 1, none⟩ = some (.int .i64 m.start) := x1
  have d2 : w2.drew.cell? ⟨w.heap.size, 2, none⟩ = some (.string m.lead) := x2
  have q0 := World.new_ne w2 _ x0
  obtain ⟨mk, hmk, hmg, hms, hmh⟩ := mk_states (n := m.states.length) hn3
  have HMG := Lib.hid hmg; have HMH := Lib.hid hmh
  have p0 := (hmg w2.drew).cell d0 (by simp); have p1 := (hmg w2.drew).cell d1 (by simp); have p2 := (hmg w2.drew).cell d2 (by simp)
  have hal : w2.drew.grownBy (w2.alloc (.cells #[.int .i64 0, .int .i64 0, .string ⟨#[]⟩, .slice none 0 0] 24)).drew none := World.grownBy_alloc w2.drew _ none
  have hbn : BoxAt (mk (w2.alloc (.cells #[.int .i64 0, .int .i64 0, .string ⟨#[]⟩, .slice none 0 0] 24)).drew) w2.heap.size mach0 (.slice none 0 0) := (BoxAt.new w2.drew mach0 (.slice none 0 0)).grown (hmg (w2.alloc (.cells #[.int .i64 0, .int .i64 0, .string ⟨#[]⟩, .slice none 0 0] 24)).drew)
  have HBN := Lib.hid hbn
  obtain ⟨u0, u1, u2, u3⟩ := hbn.cells
  have f0 := hbn.free 0; have f1 := hbn.free 1; have f2 := hbn.free 2; have f3 := hbn.free 3
  simp only [mach0] at u0 u1 u2
  have hmg2 := grown_trans hal (hmg (w2.alloc (.cells #[.int .i64 0, .int .i64 0, .string ⟨#[]⟩, .slice none 0 0] 24)).drew)
  have y0 := hmg2.cell d0 (by simp); have y1 := hmg2.cell d1 (by simp); have y2 := hmg2.cell d2 (by simp)
  have q2 := World.new_ne (mk w2.drew) _ p0
  clear hmg hmh hal hmg2 hbn
  go_cut [6] from 33 to 47 (fun bb wx => ∃ g r : Nat, bb = .pointer (some ⟨g, 0, none⟩) ∧ w2.grownBy wx none ∧ g ≠ r ∧ w2.heap.size ≤ g ∧ w2.heap.size ≤ r ∧ BoxAt wx g ⟨m.kind, turnF m.states.length b m.start.toNat, m.lead, []⟩ (.slice (some ⟨r, 0, none⟩) m.states.length m.states.length) ∧ wx.heap[r]? = some (.cells ((List.replicate m.states.length (st0, Value.slice none 0 0)).flatMap stC).toArray 29 (0, 0)))
  case first =>
    go_region_held3 (fun W' => W'.cell? ⟨w.heap.size, 0, none⟩ = some (.int .i64 m.kind) ∧ W'.cell? ⟨w.heap.size, 1, none⟩ = some (.int .i64 m.start) ∧ W'.cell? ⟨w.heap.size, 2, none⟩ = some (.string m.lead)) (go_keep) (fail)
    · go_wp2_with (fail)
      go_meet
      case rel =>
        have hga := World.grownBy_alloc (mk w2.drew) (.cells #[.int .i64 m.kind, .int .i64 (turnF m.states.length b m.start.toNat : Int), .string m.lead, .slice (some ⟨w2.heap.size, 0, none⟩) m.states.length m.states.length] 24) none
        have hsz : (mk w2.drew).heap.size = w2.heap.size + 1 := hms w2.drew
        have hbn := BoxAt.new (mk w2.drew) ⟨m.kind, turnF m.states.length b m.start.toNat, m.lead, []⟩ (.slice (some ⟨w2.heap.size, 0, none⟩) m.states.length m.states.length)
        rw [hsz] at hbn
        exact ⟨w2.heap.size + 1, w2.heap.size, rfl, grown_trans (grown_trans (grown_drew w2 none) (HMG.out w2.drew)) hga, by omega, by omega, by omega, hbn, (hga.block w2.heap.size (by omega) (by simp)).trans (HMH.out w2.drew)⟩
    · go_wp2_with (fail)
      go_meet
      case rel =>
        obtain ⟨hbf, hgf⟩ := box_fill (n := ⟨m.kind, turnF m.states.length b m.start.toNat, m.lead, []⟩) (v := .slice (some ⟨w2.heap.size + 1, 0, none⟩) m.states.length m.states.length) HBN.out
        have hsz := hms (w2.alloc (.cells #[.int .i64 0, .int .i64 0, .string ⟨#[]⟩, .slice none 0 0] 24)).drew
        have hsz2 : (w2.alloc (.cells #[.int .i64 0, .int .i64 0, .string ⟨#[]⟩, .slice none 0 0] 24)).drew.heap.size = w2.heap.size + 1 := by simp
        have hrw := HMH.out (w2.alloc (.cells #[.int .i64 0, .int .i64 0, .string ⟨#[]⟩, .slice none 0 0] 24)).drew
        rw [hsz2] at hsz hrw
        exact ⟨w2.heap.size, w2.heap.size + 1, rfl, grown_step (g := w2.heap.size) (grown_trans (grown_trans (World.grownBy_alloc w2 _ none) (grown_drew _ none)) (HMG.out _)) hgf (by omega), by omega, by omega, by omega, hbf, (hgf.block _ (by omega) (by simp)).trans hrw⟩
  case rest =>
    obtain ⟨g, r, rfl, hgc, hgr, hg0, hr0, hbox, hrow⟩ := hcut
    clear x0 x1 x2 x3 hmk hms HMG HMH HBN d0 d1 d2 q0 q2 p0 p1 p2 y0 y1 y2 u0 u1 u2 u3 f0 f1 f2 f3 t1 t2 t3 t4 t5 r1 r2
    have hro := ORows.start hrow
    rw [show List.replicate m.states.length (⟨ByteArray.empty, []⟩ : MState) = turnP m b 0 from (turnP_zero m b).symm] at hro
    have HO0 := Lib.hid hro
    have HBo := Lib.hid hbox
    have HBm := Lib.hid (BoxAt.grown HBm.out hgc)
    have HGc := Lib.hid (grown_trans HG2.out hgc)
    have hgC := hbox.lt
    have hCs := hro.hC
    clear hro hbox hrow hgc
    go_wp2
    generalize wc = wd at *
    go_loopw [7] (fun i wr => ∃ (k : Nat) (us' : List Value), i = .int .i64 k ∧ k ≤ m.states.length ∧ ORows wr wd.heap.size r (turnP m b k) us' ∧ BoxAt wr g ⟨m.kind, turnF m.states.length b m.start.toNat, m.lead, []⟩ (.slice (some ⟨r, 0, none⟩) m.states.length m.states.length) ∧ BoxAt wr w.heap.size m (.slice A m.states.length cap) ∧ w.grownBy wr none) (fun i _ => m.states.length - (intOf i).toNat)
    case atStart => exact ⟨0, _, rfl, by omega, HO0.out, HBo.out, HBm.out, HGc.out⟩
    case round =>
      obtain ⟨k, us', rfl, hk, hor, hbo, hbm, hgr⟩ := hrel
      have HOR := Lib.hid hor; have HBO := Lib.hid hbo; have HBM := Lib.hid hbm; have HGR := Lib.hid hgr
      obtain ⟨x0, x1, x2, x3⟩ := hbm.cells
      have hS2 := HS.out.below (below_of hgr)
      clear hor hbo hbm hgr
      by_cases hlt : k < m.states.length
      · obtain ⟨ad, s, B, cb, hA, hs, hu, ⟨z0, z1⟩, hra⟩ := hS2.at_ hlt
        subst hA
        have n1 : (k : Int) < (m.states.length : Int) := by omega
        have n2 : IntKind.i64.wrap ((k : Int) + 1) = (k : Int) + 1 := by rw [IntKind.wrap_i64]; omega
        have n3 : (0 : Int) ≤ (k : Int) := by omega
        have hal := valid_row HB.out (List.mem_of_getElem? hs)
        have n4 : IntKind.i64.wrap ((s.arcs.length : Int) - 1) = (s.arcs.length : Int) - 1 := by rw [IntKind.wrap_i64]; omega
        have hga := World.grownBy_alloc wr (.cells #[.string s.fin, .slice none 0 0] 29) none
        have HSS := Lib.hid hs; have HU := Lib.hid hu
        clear hs hu hra hS2
        go_upto_region 10 with (fail)
        have HOk := Lib.hid (HOR.out.next hga); have HBOk := Lib.hid (BoxAt.grown HBO.out hga); have HBMk := Lib.hid (BoxAt.grown HBM.out hga)
        have HGk := Lib.hid hga
        have hsb : (wr.alloc (.cells #[.string s.fin, .slice none 0 0] 29)).heap[wr.heap.size]? = some (.cells #[.string s.fin, .slice none 0 0] 29 (0, 0)) := block_new6 wr _ _
        have HSB := Lib.hid hsb
        have hwd : wd.heap.size ≤ wr.heap.size := HOR.out.hC
        clear hga hsb z0 z1 x0 x1 x2 x3
        obtain ⟨x0, x1, x2, x3⟩ := BoxAt.cells HBMk.out
        obtain ⟨ad', s', B', cb', hA', hs', hu', ⟨z0, z1⟩, _⟩ := (HS.out.below (below_of (grown_trans HGR.out HGk.out))).at_ hlt
        cases hA'
        rw [HSS.out] at hs'
        cases hs'
        rw [HU.out] at hu'
        cases hu'
        generalize hWk : (wr.alloc (.cells #[.string s.fin, .slice none 0 0] 29)) = wk at *
        clear hWk
        generalize wr = wv at *
        go_wp2
        clear x0 x1 x2 x3 z0 z1
        obtain ⟨i1, hi, hz0, hz1, hz2⟩ := info_parts6 info_arc
        go_loopw [9] (fun i wi => ∃ (p : Nat) (z : Int) (v : Value), i = .int .i64 z ∧ z = (p : Int) - 1 ∧ p ≤ s.arcs.length ∧ wi.heap[wv.heap.size]? = some (.cells #[.string s.fin, v] 29 (0, 0)) ∧ wi.ownsRow (wv.heap.size + 1) 35 4 v (s.arcs.length - p) ((accT m.states.length b s.arcs (s.arcs.length - p)).flatMap arcC) ∧ wv.grownBy wi none) (fun i _ => (intOf i + 1).toNat)
        case atStart => exact ⟨s.arcs.length, (s.arcs.length : Int) - 1, .slice none 0 0, rfl, rfl, by omega, HSB.out, by rw [Nat.sub_self]; exact World.ownsRow_nil _ _ _ _, HGk.out⟩
        case round =>
          obtain ⟨p, z, v, rfl, hz, hp, hsb, hown, hgi⟩ := hrel
          have HSBi := Lib.hid hsb; have HOWN := Lib.hid hown; have HGi := Lib.hid hgi
          have hBMi := BoxAt.grown HBM.out hgi
          have hSi := HS.out.below (below_of (grown_trans HGR.out hgi))
          have hszi := lt_of_block hsb
          have hgi2 := hgi
          clear hsb hown hgi
          cases p with
          | succ q =>
            obtain rfl : z = (q : Int) := by omega
            clear hz
            obtain ⟨x0, x1, x2, x3⟩ := hBMi.cells
            obtain ⟨ad', s', B', cb', hA', hs', hu', ⟨z0, z1⟩, _⟩ := hSi.at_ hlt
            cases hA'
            rw [HSS.out] at hs'
            cases hs'
            rw [HU.out] at hu'
            cases hu'
            have hql : q < s.arcs.length := by omega
            obtain ⟨ad2, a, hBr, hab, haj, hat⟩ := row_arc (hSi.arcs_at HSS.out HU.out) hql
            subst hBr
            obtain ⟨y0, y1, y2, y3⟩ := hat
            have harc := HW.out.arcs s (List.mem_of_getElem? HSS.out) a (List.mem_of_getElem? haj)
            obtain ⟨y, hy⟩ : ∃ y : Nat, a.t = (y : Int) := ⟨a.t.toNat, by omega⟩
            have hyn : y < m.states.length := by omega
            rw [hy] at y3
            have hly := turn_lt (n := m.states.length) (b := b) (x := y) hn0
            have e1 := tmod_own hyn
            have e2 : IntKind.i64.wrap (y : Int) = (y : Int) := by rw [IntKind.wrap_i64]; omega
            have e3 : IntKind.i64.wrap ((y : Int) + (b : Int)) = (y : Int) + (b : Int) := by rw [IntKind.wrap_i64]; omega
            have e4 := turn_at (b := b) hyn
            have e5 : IntKind.i64.wrap (turnF m.states.length b y : Int) = (turnF m.states.length b y : Int) := by rw [IntKind.wrap_i64]; omega
            have m1 : (0 : Int) ≤ (q : Int) := by omega
            have m2 : IntKind.i64.wrap ((q : Int) - 1) = (q : Int) - 1 := by rw [IntKind.wrap_i64]; omega
            have m3 : (q : Int) < (s.arcs.length : Int) := by omega
            have m4 : (k : Int) < (m.states.length : Int) := by omega
            have hnx := accT_next (n := m.states.length) (b := b) (l := s.arcs) (j := s.arcs.length - (q + 1)) (by omega) (by rw [show s.arcs.length - 1 - (s.arcs.length - (q + 1)) = q by omega]; exact haj)
            rw [show s.arcs.length - (q + 1) + 1 = s.arcs.length - q by omega, show turnA m.states.length b a = ⟨a.i, a.o, a.w, (turnF m.states.length b y : Int)⟩ by unfold turnA; rw [hy]; simp] at hnx
            have HNX := Lib.hid hnx
            have c0 : wr.cell? ⟨wv.heap.size, 0, none⟩ = some (.string s.fin) := by rw [cell_of_row wr _ 0 _ _ (0, 0) HSBi.out]; rfl
            have c1 : wr.cell? ⟨wv.heap.size, 1, none⟩ = some v := by rw [cell_of_row wr _ 1 _ _ (0, 0) HSBi.out]; rfl
            have f1 := frozen_of_row wr wv.heap.size 1 _ _ HSBi.out
            clear haj harc hy hnx hSi hBMi hgi2
            have hg2 : wr.grownBy ((wr.alloc (.cells #[.int .i64 a.i, .int .i64 a.o, .string a.w, .int .i64 (turnF m.states.length b y : Int)] 35)).alloc (.cells #[.int .i64 a.i, .int .i64 a.o, .string a.w, .int .i64 (turnF m.states.length b y : Int)] 35)) none := grown_trans (World.grownBy_alloc _ _ _) (World.grownBy_alloc _ _ _)
            have HG2a := Lib.hid hg2
            have hown2 : World.ownsRow ((wr.alloc (.cells #[.int .i64 a.i, .int .i64 a.o, .string a.w, .int .i64 (turnF m.states.length b y : Int)] 35)).alloc (.cells #[.int .i64 a.i, .int .i64 a.o, .string a.w, .int .i64 (turnF m.states.length b y : Int)] 35)) (wv.heap.size + 1) 35 4 v (s.arcs.length - (q + 1)) ((accT m.states.length b s.arcs (s.arcs.length - (q + 1))).flatMap arcC) := HOWN.out.kept hg2 (by cases v.ownBlock <;> simp)
            have HOWN2 := Lib.hid hown2
            have hbl : ((wr.alloc (.cells #[.int .i64 a.i, .int .i64 a.o, .string a.w, .int .i64 (turnF m.states.length b y : Int)] 35)).alloc (.cells #[.int .i64 a.i, .int .i64 a.o, .string a.w, .int .i64 (turnF m.states.length b y : Int)] 35)).heap[wr.heap.size + 1]? = some (.cells #[.int .i64 a.i, .int .i64 a.o, .string a.w, .int .i64 (turnF m.states.length b y : Int)] 35 (0, 0)) := by
              have h := block_new6 (wr.alloc (.cells #[.int .i64 a.i, .int .i64 a.o, .string a.w, .int .i64 (turnF m.states.length b y : Int)] 35)) #[.int .i64 a.i, .int .i64 a.o, .string a.w, .int .i64 (turnF m.states.length b y : Int)] 35
              rw [show (wr.alloc (.cells #[.int .i64 a.i, .int .i64 a.o, .string a.w, .int .i64 (turnF m.states.length b y : Int)] 35)).heap.size = wr.heap.size + 1 by simp] at h
              exact h
            have HBL := Lib.hid hbl
            clear hg2 hown2 hbl
            go_wp2_with (at_builtin; refine wpList_append_own_at _ rfl _ _ 27 rfl (wv.heap.size + 1) 35 i1 (.agg #[.int .i64 0, .int .i64 0, .string ByteArray.empty, .int .i64 0]) 4 40 Tryz.underlying27 hi hz0 hz1 hz2 rfl (by omega) v (s.arcs.length - (q + 1)) _ rfl HOWN2.out ⟨wr.heap.size + 1, 0, none⟩ 1 1 [.int .i64 a.i, .int .i64 a.o, .string a.w, .int .i64 (turnF m.states.length b y : Int)] rfl rfl (World.news_of_block HBL.out) (by simp [Value.oneCell']) (by unfold maxLen; omega) (by omega) (by simp; omega) ?_)
            intro v' w5 k1 k2 _ k4
            obtain ⟨gg, cc, rfl, hgg, _⟩ := k1.form (by omega)
            have hne : some wv.heap.size ≠ v.ownBlock := fun e => by have := (HOWN.out.lt _ e.symm).1; omega
            have s0 := k2.cell (HG2a.out.cell c0 (by simp)) hne
            have s1 := k2.cell (HG2a.out.cell c1 (by simp)) hne
            have hbs := (k2.block wv.heap.size (by have := HG2a.out.size; omega) hne).trans ((HG2a.out.block wv.heap.size hszi (by simp)).trans HSBi.out)
            have s2 := frozen_of_row w5 wv.heap.size 1 _ _ hbs
            have gst := grown_setCell w5 ⟨wv.heap.size, 1, none⟩ (.slice (some ⟨gg, 0, none⟩) (s.arcs.length - (q + 1) + 1) cc)
            have hsb6 := heap_setCell_same w5 wv.heap.size 1 _ _ (.slice (some ⟨gg, 0, none⟩) (s.arcs.length - (q + 1) + 1) cc) hbs
            have hown6 := k1.kept gst (.inr (by show some gg ≠ some wv.heap.size; intro e; cases e; omega))
            rw [show (accT m.states.length b s.arcs (s.arcs.length - (q + 1))).flatMap arcC ++ [.int .i64 a.i, .int .i64 a.o, .string a.w, .int .i64 (turnF m.states.length b y : Int)] = (accT m.states.length b s.arcs (s.arcs.length - q)).flatMap arcC by rw [HNX.out, List.flatMap_append]; rfl] at hown6
            have hlen : s.arcs.length - (q + 1) + 1 = s.arcs.length - q := by omega
            rw [hlen] at hsb6 hown6
            have HSB6 := Lib.hid hsb6; have HOWN6 := Lib.hid hown6
            have hg6 := (grown_step (g := wv.heap.size) (grown_many (grown_trans HGi.out HG2a.out) k2 (fun b' e => by have := (HOWN.out.lt b' e).1; omega)) gst (by omega))
            rw [hlen] at hg6
            have HG6 := Lib.hid hg6
            clear k1 k2 k4 hne hgg hbs gst hsb6 hown6 hg6 c0 c1 f1 x0 x1 x2 x3 y0 y1 y2 y3 z0 z1
            go_wp2
            go_roundw
            case rel => exact ⟨q, (q : Int) - 1, _, by go_num, rfl, by omega, HSB6.out, HOWN6.out, HG6.out⟩
            case measure => simp [intOf]
          | zero =>
            obtain rfl : z = -1 := by omega
            clear hz
            have m1 : ¬ (0 : Int) ≤ -1 := by omega
            have hidx := turn_lt (n := m.states.length) (b := b) (x := k) hn0
            have e3 : IntKind.i64.wrap ((k : Int) + (b : Int)) = (k : Int) + (b : Int) := by rw [IntKind.wrap_i64]; omega
            have e4 := turn_at (b := b) hlt
            have e5 : IntKind.i64.wrap (turnF m.states.length b k : Int) = (turnF m.states.length b k : Int) := by rw [IntKind.wrap_i64]; omega
            have m2 : (0 : Int) ≤ (turnF m.states.length b k : Int) := by omega
            have m3 : (turnF m.states.length b k : Int) < (m.states.length : Int) := by omega
            have hown := HOWN.out
            rw [Nat.sub_zero, accT_end (by omega)] at hown
            obtain ⟨Av, cv, hv, _⟩ := arcs_of_own (by rw [show s.arcs.length = ((s.arcs.map (turnA m.states.length b)).reverse).length by simp] at hown; exact hown)
            subst hv
            have HOW := Lib.hid hown
            have hgd := hgi2
            have hoi := HOR.out.next hgd
            have hsg := turnP_get (m := m) (b := b) (k := k) hb hlt
            rw [if_neg (Nat.lt_irrefl k)] at hsg
            obtain ⟨x', hux, w0, w1, hfree, _⟩ := hoi.at_ hsg
            have f0 := hfree (turnF m.states.length b k * 2); have f1 := hfree (turnF m.states.length b k * 2 + 1)
            have hrr := HOR.out.hr
            have hownd : wr.ownsRow wd.heap.size 35 4 (.slice Av ((s.arcs.map (turnA m.states.length b)).reverse).length cv) ((s.arcs.map (turnA m.states.length b)).reverse).length (((s.arcs.map (turnA m.states.length b)).reverse).flatMap arcC) := by
              have h := ownsRow_mono (B' := wd.heap.size) hown (by omega)
              rw [show s.arcs.length = ((s.arcs.map (turnA m.states.length b)).reverse).length by simp] at h
              exact h
            have hput := hoi.put (f := s.fin) hsg hownd (fun b' hb' j u hj e => by
              have h1 := (hown.lt b' hb').1
              obtain ⟨t2, ht2⟩ : ∃ t2, (turnP m b k)[j]? = some t2 := ⟨_, List.getElem?_eq_getElem (by have := (List.getElem?_eq_some_iff.1 hj).1; rw [HOR.out.len] at this; exact this)⟩
              have h2 := ((HOR.out.own j t2 u ht2 hj).lt b' e).2
              omega)
            rw [show (⟨s.fin, (s.arcs.map (turnA m.states.length b)).reverse⟩ : MState) = turnS m.states.length b (stOf m k) by rw [stOf_at HSS.out]; rfl, turnP_next hb hlt] at hput
            have gs1 := grown_setCell wr ⟨r, turnF m.states.length b k * 2, none⟩ (.string s.fin)
            have gs2 := grown_setCell (wr.setCell ⟨r, turnF m.states.length b k * 2, none⟩ (.string s.fin)) ⟨r, turnF m.states.length b k * 2 + 1, none⟩ (.slice Av ((s.arcs.map (turnA m.states.length b)).reverse).length cv)
            have gs3 := World.grownBy.trans (World.grownBy.trans gs1 gs2) (grown_drew _ (some r))
            have hl : ((s.arcs.map (turnA m.states.length b)).reverse).length = s.arcs.length := by simp
            rw [hl] at hput gs3
            have HPUT := Lib.hid (hput.next (grown_drew _ none))
            have hw2 := HG2.out.size
            have HG9 := Lib.hid (grown_step (g := r) (grown_trans HGR.out hgd) gs3 (by omega))
            have hbo9 := BoxAt.grown HBO.out hgd
            have HBO9 := Lib.hid (show BoxAt _ g _ _ from (gs3.block g hbo9.lt (by simpa using hgr)).trans hbo9)
            have hbm9 := BoxAt.grown HBM.out hgd
            have HBM9 := Lib.hid (show BoxAt _ w.heap.size _ _ from (gs3.block w.heap.size hbm9.lt (by simp; omega)).trans hbm9)
            have c0 : wr.cell? ⟨wv.heap.size, 0, none⟩ = some (.string s.fin) := by rw [cell_of_row wr _ 0 _ _ (0, 0) HSBi.out]; rfl
            have c1 : wr.cell? ⟨wv.heap.size, 1, none⟩ = some (.slice Av s.arcs.length cv) := by rw [cell_of_row wr _ 1 _ _ (0, 0) HSBi.out, ← hl]; rfl
            obtain ⟨_, _, _, c3⟩ := hbo9.cells
            have k3 := gs3.cell c3 (by simpa using hgr)
            have k0 := gs3.cell c0 (by simp; omega)
            have k1 := gs3.cell c1 (by simp; omega)
            simp only [] at w0 w1
            have w0b : wr.cell? ⟨r, turnF m.states.length b k * 2, none⟩ = some (.string ByteArray.empty) := w0
            have w1b : wr.cell? ⟨r, turnF m.states.length b k * 2 + 1, none⟩ = some x' := w1
            have f0b : wr.frozen? ⟨r, turnF m.states.length b k * 2, none⟩ = false := f0
            have f1b : wr.frozen? ⟨r, turnF m.states.length b k * 2 + 1, none⟩ = false := f1
            have d1 : r ≠ g := fun e => hgr e.symm
            have d2 : r ≠ wv.heap.size := by omega
            have d3 : wv.heap.size ≠ r := by omega
            clear hown hgd hoi hsg hux hfree hrr hownd hput gs1 gs2 gs3 hbo9 hbm9 hSi hBMi hgi2 hw2
            go_upto_region 16 with (fail)
            go_region_held3 (fun W' => W'.cell? ⟨g, 3, none⟩ = some (.slice (some ⟨r, 0, none⟩) m.states.length m.states.length) ∧ W'.cell? ⟨wv.heap.size, 0, none⟩ = some (.string s.fin) ∧ W'.cell? ⟨wv.heap.size, 1, none⟩ = some (.slice Av s.arcs.length cv)) (first | go_keep | exact ⟨k3, k0, k1⟩) (fail)
            clear c0 c1 c3 w0 w1 f0 f1 w0b w1b f0b f1b d1 d2 d3 k3 k0 k1 hl
            go_wp2
            go_roundw
            case rel => exact ⟨k + 1, _, by go_num, by omega, HPUT.out, HBO9.out, HBM9.out, HG9.out⟩
            case measure => simp [intOf]; omega
      · have n1 : ¬ (k : Int) < (m.states.length : Int) := by omega
        have hke : k = m.states.length := by omega
        subst hke
        have hst := HOR.out.sl (cap := m.states.length)
        rw [turnP_len] at hst
        have hvo : MachV wr (.agg #[.int .i64 m.kind, .int .i64 (turnF m.states.length b m.start.toNat : Int), .string m.lead, .slice (some ⟨r, 0, none⟩) m.states.length m.states.length]) (turnM m b) := ⟨_, rfl, hst⟩
        have HVO := Lib.hid hvo
        have htv := turn_valid HB.out hb
        have hC1 := pcanon_any (HV.out _ HGR.out) HF.out
        rw [canonV_of HB.out] at hC1
        have HC1 := Lib.hid hC1
        have hcv := canon_valid HB.out
        have HCE := Lib.hid (show canonV (turnM m b) = (canonM m, 0) by rw [canonV_of htv, turn_canon HB.out HD.out hb])
        have HCV := Lib.hid hcv; have HTV := Lib.hid htv
        clear hst hvo hC1 hcv htv hS2
        generalize canonM m = c at *
        go_wp2_with fail
        refine HC1.out.mono ?_
        intro e w5 h5
        obtain ⟨Ac, kc, rfl, hst5, hg5⟩ := h5.open6
        have hga := World.grownBy_alloc w5 (.cells #[.int .i64 c.kind, .int .i64 c.start, .string c.lead, .slice Ac c.states.length kc] 24) none
        have hgg := grown_trans hg5 hga
        have HG6 := Lib.hid (grown_trans HGR.out hgg)
        have HBO6 := Lib.hid (BoxAt.grown HBO.out hgg)
        have HVO6 := Lib.hid (HVO.out.grown hgg)
        have HBc := Lib.hid (BoxAt.new w5 c (.slice Ac c.states.length kc))
        have HSc := Lib.hid ((hst5.kept (kept_grown hga _)).sl)
        clear h5 hst5 hg5 hga hgg HC1 x0 x1 x2 x3
        go_upto_region 18 with (fail)
        generalize w5.alloc (.cells #[.int .i64 c.kind, .int .i64 c.start, .string c.lead, .slice Ac c.states.length kc] 24) = w6 at *
        obtain ⟨x0, x1, x2, x3⟩ := BoxAt.cells HBO6.out
        have hC := pcanon_any HVO6.out (valid_fits HTV.out)
        rw [HCE.out] at hC
        have HC := Lib.hid hC
        clear hC
        go_wp2_with fail
        refine HC.out.mono ?_
        intro e w7 h7
        obtain ⟨Ad, kd, rfl, hst7, hg7⟩ := h7.open6
        have hga := World.grownBy_alloc w7 (.cells #[.int .i64 c.kind, .int .i64 c.start, .string c.lead, .slice Ad c.states.length kd] 24) none
        have hgg := grown_trans hg7 hga
        have HG8 := Lib.hid (grown_trans HG6.out hgg)
        have HBc8 := Lib.hid (BoxAt.grown HBc.out hgg); have HSc8 := Lib.hid (HSc.out.grown hgg)
        have HBd := Lib.hid (BoxAt.new w7 c (.slice Ad c.states.length kd))
        have HSd := Lib.hid ((hst7.kept (kept_grown hga _)).sl)
        clear h7 hst7 hg7 hga hgg HC x0 x1 x2 x3
        go_upto_region 19 with (fail)
        generalize w7.alloc (.cells #[.int .i64 c.kind, .int .i64 c.start, .string c.lead, .slice Ad c.states.length kd] 24) = w8 at *
        obtain ⟨x0, x1, x2, x3⟩ := BoxAt.cells HBc8.out
        obtain ⟨y0, y1, y2, y3⟩ := BoxAt.cells HBd.out
        have hC := same_any (MachV.fill (t := c) HSc8.out) (MachV.fill (t := c) HSd.out) (valid_fits HCV.out).n (valid_fits HCV.out).arcs
        rw [show decide (c = c) = true by simp] at hC
        have HC := Lib.hid hC
        clear hC
        go_wp2_with fail
        refine HC.out.mono ?_
        rintro e w9 ⟨rfl, hgg⟩
        have HG9 := Lib.hid (grown_trans HG8.out hgg)
        clear hgg HC x0 x1 x2 x3 y0 y1 y2 y3
        go_wp2_with fail
        refine (awake_any _).mono ?_
        rintro e w10 ⟨rfl, hgg⟩
        have HG10 := Lib.hid (grown_trans HG9.out hgg)
        clear hgg
        go_wp2
        go_ret
        exact ⟨rfl, HG10.out⟩
end Go.Proofs.YtbmonhnojkiapaaGreatDoor
