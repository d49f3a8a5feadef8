/- The reference's Canon. -/
import Derived.Test.YtbmonhnojkiapaaGreatDoorU46
import Derived.Test.YtbmonhnojkiapaaGreatDoorU48
set_option linter.unusedVariables false
set_option linter.unusedSimpArgs false
namespace Go.Proofs.YtbmonhnojkiapaaGreatDoor
open Go.RowKit

theorem numF_one (s x : Nat) : (if x = s then 0 else (-1 : Int)) = numF [s] x := by
  unfold numF
  by_cases e : x = s
  · subst e; simp
  · rw [if_neg e, if_neg (by simp [e])]
theorem numF_push {l : List Nat} {y : Nat} (h : y ∉ l) (x : Nat) : (if x = y then (l.length : Int) else numF l x) = numF (l ++ [y]) x := by
  unfold numF
  by_cases e : x = y
  · subst e
    have hi : (l ++ [x]).idxOf x = l.length := by rw [List.idxOf_append, if_neg h]; simp
    rw [if_pos rfl, if_pos (by simp), hi]
  · rw [if_neg e]
    by_cases hx : x ∈ l
    · have hi : (l ++ [y]).idxOf x = l.idxOf x := by rw [List.idxOf_append, if_pos hx]
      rw [if_pos hx, if_pos (by simp [hx]), hi]
    · rw [if_neg hx, if_neg (by simp [hx, e])]
def stepsS (s : MState) : List Nat := (sortA s.arcs).map (fun a => a.t.toNat)
theorem stepsM_sort {t : Mach} {x : Nat} {s : MState} (h : t.states[x]? = some s) : stepsM (sortM t) x = stepsS s := by
  have h2 : (sortM t).states[x]? = some ⟨s.fin, sortA s.arcs⟩ := by show (t.states.map _)[x]? = _; rw [List.getElem?_map, h]; rfl
  rw [stepsM_at h2]; rfl
theorem stepsS_get {s : MState} {j : Nat} {a : MArc} (h : (sortA s.arcs)[j]? = some a) : (stepsS s)[j]? = some a.t.toNat := by unfold stepsS; rw [List.getElem?_map, h]; rfl
theorem stepsS_len (s : MState) : (stepsS s).length = s.arcs.length := by unfold stepsS; rw [List.length_map, sortA_len]
def sorS (l : List MState) (k : Nat) : List MState := (l.take k).map (fun s => (⟨s.fin, sortA s.arcs⟩ : MState)) ++ l.drop k
theorem sorS_get {l : List MState} {k : Nat} {s : MState} (h : l[k]? = some s) : (sorS l k)[k]? = some s := by
  have hk := (List.getElem?_eq_some_iff.1 h).1
  unfold sorS
  rw [List.getElem?_append_right (by simp; omega), List.getElem?_drop, List.length_map, List.length_take, Nat.min_eq_left (by omega), Nat.sub_self, Nat.add_zero, h]
theorem sorS_next {l : List MState} {k : Nat} {s : MState} (h : l[k]? = some s) : (sorS l k).set k ⟨s.fin, sortA s.arcs⟩ = sorS l (k + 1) := by
  have hk := (List.getElem?_eq_some_iff.1 h).1
  have hd : l.drop k = s :: l.drop (k + 1) := by rw [List.drop_eq_getElem_cons hk, (List.getElem?_eq_some_iff.1 h).2]
  unfold sorS
  rw [List.set_append_right _ _ (by simp; omega), List.length_map, List.length_take, Nat.min_eq_left (by omega), Nat.sub_self, hd, List.set_cons_zero, take_one h, List.map_append]
  simp
theorem sorS_end {l : List MState} {k : Nat} (h : l.length ≤ k) : sorS l k = l.map (fun s => (⟨s.fin, sortA s.arcs⟩ : MState)) := by unfold sorS; rw [List.take_of_length_le h, List.drop_of_length_le h, List.append_nil]
/-- What the search holds in memory: the numbers, the list of the states that are found. -/
structure CMem (w5 W : World) (gt Bq n : Nat) (o : Value) (od : List Nat) : Prop where
  tab : TabI W gt n (numF od)
  que : QAt W Bq o od
  bel : Below gt w5 W
  hB : gt < Bq
  hs : Bq ≤ W.heap.size
  ne : od ≠ []
theorem CMem.next {w5 W W' : World} {gt Bq n : Nat} {o : Value} {od : List Nat} (h : CMem w5 W gt Bq n o od) (hg : W.grownBy W' none) : CMem w5 W' gt Bq n o od :=
  ⟨h.tab.kept hg (by simp), h.que.grown hg (by simp), h.bel.grown hg (by have := h.hB; have := h.hs; omega) (by simp), h.hB, Nat.le_trans h.hs hg.size, h.ne⟩
/-- A state is found: it gets its number, and is put behind. -/
theorem CMem.push {w5 W W2 W7 : World} {gt Bq n y : Nat} {o o' : Value} {od : List Nat} (h : CMem w5 W gt Bq n o od) (hy : y ∉ od) (hg : (W.setCell ⟨gt, y, none⟩ (.int .i64 (od.length : Int))).grownBy W2 none) (hq : QAt W7 Bq o' (od ++ [y])) (hg7 : W2.grownBy W7 o.ownBlock) : CMem w5 W7 gt Bq n o' (od ++ [y]) := by
  have hB := h.hB; have hs := h.hs
  have hown : ∀ b, o.ownBlock = some b → Bq ≤ b := fun b hb => (h.que.owns h.ne hb).1
  have g1 := grown_setCell W ⟨gt, y, none⟩ (.int .i64 (od.length : Int))
  have hs1 := g1.size; have hs2 := hg.size; have hs7 := hg7.size
  refine ⟨?_, hq, ?_, hB, by omega, by simp⟩
  · have ht := (h.tab.set (x := y) (od.length : Int)).congr (f' := numF (od ++ [y])) (fun x _ => numF_push hy x)
    exact (ht.kept hg (by simp)).kept hg7 (fun e => by have := hown gt e.symm; omega)
  · exact ((h.bel.grown g1 (by omega) (fun b e => by cases e; exact Nat.le_refl _)).grown hg (by omega) (by simp)).grown hg7 (by omega) (fun b e => by have := hown b e; omega)
/-- A row of arcs that lies elsewhere, behind the same steps. -/
theorem ArcsOff.push {W W2 W7 : World} {gt y : Nat} {x u o' : Value} {r : Option Nat} {l : List MArc} (h : ArcsOff W r x l) (ht : 0 < l.length → ∃ b, x.ownBlock = some b ∧ gt < b) (hg : (W.setCell ⟨gt, y, none⟩ u).grownBy W2 none) (hg7 : W2.grownBy W7 r) (hb : o'.ownBlock = r ∨ o'.ownBlock = some W2.heap.size) : ArcsOff W7 o'.ownBlock x l := by
  have h1 : ArcsOff W (some gt) x l := ⟨h.1, fun h0 e => by obtain ⟨b, hb, hlt⟩ := ht h0; rw [hb] at e; cases e; omega⟩
  have h2 := (h1.grown (grown_setCell W ⟨gt, y, none⟩ u)).1.grown hg
  have h3 : ArcsOff W2 r x l := ⟨h2, h.2⟩
  refine ⟨(h3.grown hg7).1, fun h0 => ?_⟩
  rcases hb with e | e
  · rw [e]; exact h.2 h0
  · rw [e]
    obtain ⟨b, hb, hlt⟩ := h2.block h0
    rw [hb]; intro e2; cases e2; omega
theorem qat_one {W : World} {B qb x : Nat} (h : W.heap[qb]? = some (.cells #[.int .i64 (x : Int)] 3 (0, 0))) (hB : B ≤ qb) : QAt W B (.slice (some ⟨qb, 0, none⟩) 1 1) [x] :=
  ⟨_, 1, rfl, .inr ⟨qb, 0, _, rfl, hB, h, by simp, by simp, fun i y hy => by
    match i, hy with
    | 0, hy => simp at hy; subst hy; rfl
    | i + 1, hy => simp at hy⟩⟩
set_option maxRecDepth 20000 in
set_option maxHeartbeats 16000000 in
theorem rcanon_any {w : World} {v : Value} {m : Mach} (hv : MachV w v m) (hf : Fits m) : Calls Tryz.prog 30 #[v] w (MPost (canonV m) w) := by
  have htr := fun w' (h : w.grownBy w' none) => rtrim_any (hv.grown h) hf
  have HTR := Lib.hid htr
  clear htr
  obtain ⟨i0, hi, hz0, hz1, hz2⟩ := info_parts6 info_int6
  obtain ⟨u, rfl, hst0⟩ := hv
  obtain ⟨A, cap, us, rfl, hS0⟩ := StAt.of hst0
  have hg : w.grownBy (w.alloc (.cells #[.int .i64 m.kind, .int .i64 m.start, .string m.lead, .slice A m.states.length cap] 24)) none := World.grownBy_alloc _ _ _
  have hbx := BoxAt.new w m (.slice A m.states.length cap)
  have hg2 := World.grownBy_alloc (w.alloc (.cells #[.int .i64 m.kind, .int .i64 m.start, .string m.lead, .slice A m.states.length cap] 24)) (.cells #[.int .i64 mach0.kind, .int .i64 mach0.start, .string mach0.lead, .slice none 0 0] 24) none
  have hb2 := BoxAt.new (w.alloc (.cells #[.int .i64 m.kind, .int .i64 m.start, .string m.lead, .slice A m.states.length cap] 24)) mach0 (.slice none 0 0)
  have e1 : (w.alloc (.cells #[.int .i64 m.kind, .int .i64 m.start, .string m.lead, .slice A m.states.length cap] 24)).heap.size = w.heap.size + 1 := by simp
  rw [e1] at hb2
  have hsz2 : w.heap.size + 2 ≤ ((w.alloc (.cells #[.int .i64 m.kind, .int .i64 m.start, .string m.lead, .slice A m.states.length cap] 24)).alloc (.cells #[.int .i64 mach0.kind, .int .i64 mach0.start, .string mach0.lead, .slice none 0 0] 24)).heap.size := by simp
  have HSZ1 := Lib.hid hsz2
  have HB1 := Lib.hid (hbx.grown hg2); have HB2 := Lib.hid hb2; have HG := Lib.hid (grown_trans hg hg2)
  obtain ⟨x0, x1, x2, x3⟩ := BoxAt.cells HB1.out
  clear hbx hg hst0 hS0 hg2 hb2 e1 hsz2
  cases hB : validB m
  · have hT := HTR.out _ HG.out
    rw [show trimV m = (mach0, 1) by unfold trimV; rw [hB]; rfl] at hT
    have HT := Lib.hid hT
    have HN : Hid (canonV m = (mach0, 1)) := Lib.hid (by unfold canonV; rw [hB]; rfl)
    clear hT hB
    go_enter Tryz.func30, Tryz.ntmps30
    go_wp2_with fail
    refine HT.out.mono ?_
    intro e w2 h2
    obtain ⟨A2, k2, rfl, hst2, hg2⟩ := h2.open6
    have hb1 := BoxAt.grown HB1.out hg2
    have HB2a := Lib.hid (BoxAt.grown HB2.out hg2)
    have HG2 := Lib.hid (grown_trans HG.out hg2)
    have HSZ2 : Hid (w.heap.size + 2 ≤ w2.heap.size) := Lib.hid (Nat.le_trans HSZ1.out hg2.size)
    clear h2 hst2 hg2 x0 x1 x2 x3
    obtain ⟨y0, y1, y2, y3⟩ := hb1.cells
    have f0 := hb1.free 0; have f1 := hb1.free 1; have f2 := hb1.free 2; have f3 := hb1.free 3
    obtain ⟨hbf, hgf⟩ := box_fill (n := mach0) (v := .slice A2 mach0.states.length k2) hb1
    have HG3 := Lib.hid (grown_step (g := w.heap.size) HG2.out hgf (by omega))
    have HB2b := Lib.hid (show BoxAt _ (w.heap.size + 1) mach0 (.slice none 0 0) from (hgf.block _ (HB2a.out.lt) (by simp)).trans HB2a.out)
    have hsz3 := hgf.size
    have HSZ3 : Hid (w.heap.size + 2 ≤ ((((w2.setCell ⟨w.heap.size, 0, none⟩ (.int .i64 mach0.kind)).setCell ⟨w.heap.size, 1, none⟩ (.int .i64 mach0.start)).setCell ⟨w.heap.size, 2, none⟩ (.string mach0.lead)).setCell ⟨w.heap.size, 3, none⟩ (.slice A2 mach0.states.length k2)).heap.size) := Lib.hid (Nat.le_trans HSZ2.out hsz3)
    clear hb1 hbf hgf hsz3
    go_upto_region 2 with (fail)
    generalize ((((w2.setCell ⟨w.heap.size, 0, none⟩ (.int .i64 mach0.kind)).setCell ⟨w.heap.size, 1, none⟩ (.int .i64 mach0.start)).setCell ⟨w.heap.size, 2, none⟩ (.string mach0.lead)).setCell ⟨w.heap.size, 3, none⟩ (.slice A2 mach0.states.length k2)) = w3 at *
    clear y0 y1 y2 y3 f0 f1 f2 f3
    have hle := HSZ3.out
    have hbz := HB2b.out
    have hsz := StN.nil w3 (w.heap.size + 2)
    obtain ⟨v0, v1, v2, v3⟩ := hbz.cells
    have f0 := hbz.free 0; have f1 := hbz.free 1; have f2 := hbz.free 2; have f3 := hbz.free 3
    obtain ⟨hbf0, hgf0⟩ := box_fill (n := mach0) (v := .slice none 0 0) hbz
    have hbf := (show BoxAt ((((w3.setCell ⟨w.heap.size + 1, 0, none⟩ (.int .i64 0)).setCell ⟨w.heap.size + 1, 1, none⟩ (.int .i64 0)).setCell ⟨w.heap.size + 1, 2, none⟩ (.string ⟨#[]⟩)).setCell ⟨w.heap.size + 1, 3, none⟩ (.slice none 0 0)) (w.heap.size + 1) mach0 (.slice none 0 0) from hbf0)
    have hgf := (show w3.grownBy ((((w3.setCell ⟨w.heap.size + 1, 0, none⟩ (.int .i64 0)).setCell ⟨w.heap.size + 1, 1, none⟩ (.int .i64 0)).setCell ⟨w.heap.size + 1, 2, none⟩ (.string ⟨#[]⟩)).setCell ⟨w.heap.size + 1, 3, none⟩ (.slice none 0 0)) (some (w.heap.size + 1)) from hgf0)
    have HGF := Lib.hid (grown_step (g := w.heap.size + 1) HG3.out hgf (by omega))
    have T := Lib.hid ((hsz.kept (kept_step hgf (by omega))).mono (C := w.heap.size) (by omega))
    have HBF := Lib.hid hbf
    clear hsz hbz hbf hgf hbf0 hgf0
    simp only [mach0] at v0 v1 v2
    go_wp2_with fail
    generalize ((((w3.setCell ⟨w.heap.size + 1, 0, none⟩ (.int .i64 0)).setCell ⟨w.heap.size + 1, 1, none⟩ (.int .i64 0)).setCell ⟨w.heap.size + 1, 2, none⟩ (.string ⟨#[]⟩)).setCell ⟨w.heap.size + 1, 3, none⟩ (.slice none 0 0)) = WW at *
    obtain ⟨c0, c1, c2, c3⟩ := BoxAt.cells HBF.out
    exact bodyPost_ret (v := .tuple #[.agg #[.int .i64 mach0.kind, .int .i64 mach0.start, .string mach0.lead, .slice none 0 0], .int .i64 1]) (by simp [results, Tryz.results30, go_sem, c0, c1, c2, c3]) rfl (by rw [HN.out]; exact ⟨_, rfl, ⟨_, rfl, T.out⟩, HGF.out⟩)
  · have hT := HTR.out _ HG.out
    rw [trimV_of hB] at hT
    have HT := Lib.hid hT
    have HN : Hid (canonV m = (sortM (renumM (trimM m) (orderM (sortM (trimM m)))), 0)) := Lib.hid (by rw [canonV_of hB, canonM_of, canonT_ref])
    have hTV := trim_valid hB
    clear hT hB
    generalize trimM m = t at *
    have HTV := Lib.hid hTV
    have hTS := sort_valid hTV
    have HTW := Lib.hid (valid_wf hTV)
    have HSW := Lib.hid (valid_wf hTS)
    have hst := (valid_wf hTV).start
    have hstl : t.start.toNat < t.states.length := by omega
    have hn3 := valid_len hTV
    clear hTV hTS
    go_enter Tryz.func30, Tryz.ntmps30
    go_wp2_with fail
    refine HT.out.mono ?_
    intro e w2 h2
    obtain ⟨A2, k2, rfl, hst2, hg2⟩ := h2.open6
    have hb1 := BoxAt.grown HB1.out hg2
    have HB2a := Lib.hid (BoxAt.grown HB2.out hg2)
    have HG2 := Lib.hid (grown_trans HG.out hg2)
    have HSZ2 : Hid (w.heap.size + 2 ≤ w2.heap.size) := Lib.hid (Nat.le_trans HSZ1.out hg2.size)
    clear h2 hg2 x0 x1 x2 x3
    obtain ⟨y0, y1, y2, y3⟩ := hb1.cells
    have f0 := hb1.free 0; have f1 := hb1.free 1; have f2 := hb1.free 2; have f3 := hb1.free 3
    obtain ⟨hbf, hgf⟩ := box_fill (n := t) (v := .slice A2 t.states.length k2) hb1
    have HG3 := Lib.hid (grown_step (g := w.heap.size) HG2.out hgf (by omega))
    have HB1b := Lib.hid hbf
    have HB2b := Lib.hid (show BoxAt _ (w.heap.size + 1) mach0 (.slice none 0 0) from (hgf.block _ (HB2a.out.lt) (by simp)).trans HB2a.out)
    have hsz3 := hgf.size
    have HSZ3 : Hid (w.heap.size + 2 ≤ ((((w2.setCell ⟨w.heap.size, 0, none⟩ (.int .i64 t.kind)).setCell ⟨w.heap.size, 1, none⟩ (.int .i64 t.start)).setCell ⟨w.heap.size, 2, none⟩ (.string t.lead)).setCell ⟨w.heap.size, 3, none⟩ (.slice A2 t.states.length k2)).heap.size) := Lib.hid (Nat.le_trans HSZ2.out hsz3)
    have HST3 := Lib.hid (hst2.kept (kept_step hgf (by have := HSZ1.out; omega))).sl
    clear hb1 hbf hgf hsz3 hst2
    go_upto_region 2 with (fail)
    generalize ((((w2.setCell ⟨w.heap.size, 0, none⟩ (.int .i64 t.kind)).setCell ⟨w.heap.size, 1, none⟩ (.int .i64 t.start)).setCell ⟨w.heap.size, 2, none⟩ (.string t.lead)).setCell ⟨w.heap.size, 3, none⟩ (.slice A2 t.states.length k2)) = w3 at *
    clear y0 y1 y2 y3 f0 f1 f2 f3
    obtain ⟨A2', k2', us2, he2, hS2⟩ := StAt.of HST3.out
    cases he2
    have HS := Lib.hid hS2
    have hle3 := HSZ3.out
    clear hS2
    obtain ⟨x0, x1, x2, x3⟩ := BoxAt.cells HB1b.out
    go_wp2_with (at_make; refine wpList_make_full _ rfl _ _ 41 rfl w3.heap.size 3 i0 (.int .i64 0) 1 Tryz.underlying41 hi hz0 hz1 _ _ _ _ t.states.length rfl rfl rfl rfl (by rw [hz2]; omega) (by unfold maxLen; omega) (Nat.le_refl _) ?_)
    intro W hown hgr
    have ht := TabI.of_full hown
    have hsW := ht.lt
    have HTA := Lib.hid ht
    have HBW := Lib.hid (below_of hgr)
    clear hown hgr ht x0 x1 x2 x3
    go_wp2
    go_loopw [6] (fun i wr => ∃ k : Nat, i = .int .i64 k ∧ k ≤ t.states.length ∧ TabI wr w3.heap.size t.states.length (fun x => if x < k then -1 else 0) ∧ W.grownBy wr (some w3.heap.size)) (fun i _ => t.states.length - (intOf i).toNat)
    case atStart => exact ⟨0, rfl, by omega, HTA.out.congr (fun x hx => by simp), World.grownBy.refl _ _⟩
    case round =>
      obtain ⟨k, rfl, hk, ht, hgr⟩ := hrel
      have HT2 := Lib.hid ht; have HGR := Lib.hid hgr
      clear ht hgr
      by_cases hlt2 : k < t.states.length
      · have c0 := HT2.out.cell hlt2
        have c1 := HT2.out.free k
        have n1 : (k : Int) < (t.states.length : Int) := by omega
        have n2 : IntKind.i64.wrap ((k : Int) + 1) = (k : Int) + 1 := by rw [IntKind.wrap_i64]; omega
        have n3 : (0 : Int) ≤ (k : Int) := by omega
        have HT3 := Lib.hid ((HT2.out.set (x := k) (-1)).congr (f' := fun x => if x < k + 1 then -1 else 0) (fun x hx => by
          by_cases e : x = k
          · simp [e]
          · by_cases e2 : x < k
            · simp [e, e2]; omega
            · simp [e, e2]; omega))
        have HG2 := Lib.hid (World.grownBy.trans HGR.out (grown_setCell wr ⟨w3.heap.size, k, none⟩ (.int .i64 (-1))))
        go_wp2
        go_roundw
        case rel => exact ⟨k + 1, by go_num, by omega, HT3.out, HG2.out⟩
        case measure => simp [intOf]; omega
      · have n1 : ¬ (k : Int) < (t.states.length : Int) := by omega
        have hT3 := HT2.out.congr (f' := fun _ => -1) (fun x hx => if_pos (by omega))
        have hbl := HBW.out.grown HGR.out HBW.out.size (fun b e => by cases e; exact Nat.le_refl _)
        have hbx := (hbl.block w.heap.size (by omega)).trans HB1b.out
        obtain ⟨x0, x1, x2, x3⟩ := BoxAt.cells (show BoxAt wr w.heap.size t (.slice A2 t.states.length k2) from hbx)
        have c0 := hT3.cell hstl
        have c1 := hT3.free t.start.toNat
        have hne : w.heap.size ≠ w3.heap.size := by omega
        have gs := grown_setCell wr ⟨w3.heap.size, t.start.toNat, none⟩ (.int .i64 0)
        have hT4 := (hT3.set (x := t.start.toNat) 0).congr (f' := numF [t.start.toNat]) (fun x _ => numF_one t.start.toNat x)
        have hga := World.grownBy_alloc (wr.setCell ⟨w3.heap.size, t.start.toNat, none⟩ (.int .i64 0)) (.cells #[.int .i64 t.start] 3) none
        have hsr := HGR.out.size
        have hss := gs.size
        have hqb := block_new6 (wr.setCell ⟨w3.heap.size, t.start.toNat, none⟩ (.int .i64 0)) #[.int .i64 t.start] 3
        have hsc : t.start = (t.start.toNat : Int) := by omega
        have hsz4 : (wr.setCell ⟨w3.heap.size, t.start.toNat, none⟩ (.int .i64 0)).heap.size = wr.heap.size := by simp
        rw [hsz4] at hqb
        have hq0 : QAt ((wr.setCell ⟨w3.heap.size, t.start.toNat, none⟩ (.int .i64 0)).alloc (.cells #[.int .i64 t.start] 3)) (w3.heap.size + 1) (.slice (some ⟨wr.heap.size, 0, none⟩) 1 1) [t.start.toNat] := qat_one (by rw [← hsc]; exact hqb) (by omega)
        have HC0 : Hid (CMem w3 ((wr.setCell ⟨w3.heap.size, t.start.toNat, none⟩ (.int .i64 0)).alloc (.cells #[.int .i64 t.start] 3)) w3.heap.size (w3.heap.size + 1) t.states.length (.slice (some ⟨wr.heap.size, 0, none⟩) 1 1) [t.start.toNat]) :=
          Lib.hid ⟨hT4.kept hga (by simp), hq0, (hbl.grown gs (by omega) (fun b e => by cases e; exact Nat.le_refl _)).grown hga (by omega) (by simp), by omega, by have := hga.size; omega, by simp⟩
        clear hT3 hbl hbx gs hT4 hga hss hqb hsc hq0
        go_wp2
        clear x0 x1 x2 x3 c0 c1
        generalize (wr.setCell ⟨w3.heap.size, t.start.toNat, none⟩ (.int .i64 0)).alloc (.cells #[.int .i64 t.start] 3) = W4 at *
        go_loopw [7, 8] (fun o i wr => ∃ (q : Nat) (od : List Nat), i = .int .i64 q ∧ q ≤ od.length ∧ od.Nodup ∧ (∀ x ∈ od, x < t.states.length) ∧ (∃ f, f + q = t.states.length ∧ srch (stepsM (sortM t)) f q od = orderM (sortM t)) ∧ CMem w3 wr w3.heap.size (w3.heap.size + 1) t.states.length o od) (fun _ i _ => t.states.length - (intOf i).toNat)
        case atStart => exact ⟨0, [t.start.toNat], rfl, by simp, by simp, by simp; omega, ⟨t.states.length, rfl, by unfold orderM; rw [show (sortM t).states.length = t.states.length by simp [sortM]]; rfl⟩, HC0.out⟩
        case round =>
          obtain ⟨q, od, rfl, hq, hnd, hbd, hsr2, hcm⟩ := hrel
          have HND := Lib.hid hnd; have HBD := Lib.hid hbd; have HSR := Lib.hid hsr2; have HCM := Lib.hid hcm
          have hol := nodup_short hnd hbd
          have hgw := grown_below hcm.bel
          have hbx := (hcm.bel.block w.heap.size (by omega)).trans HB1b.out
          have HBX := Lib.hid (show BoxAt wr w.heap.size t (.slice A2 t.states.length k2) from hbx)
          obtain ⟨x0, x1, x2, x3⟩ := HBX.out.cells
          have HGW := Lib.hid hgw
          obtain ⟨ao, co, rfl, hat⟩ := hcm.que.at_
          clear hnd hbd hsr2 hcm hbx
          by_cases hlt : q < od.length
          · have hx : od[q]? = some od[q] := List.getElem?_eq_getElem hlt
            generalize od[q] = x at hx
            have hxn := HBD.out x (List.mem_of_getElem? hx)
            obtain ⟨gq, off, rfl, hcq⟩ := hat q x hx
            have hS3 := HS.out.below (below_of hgw)
            obtain ⟨ad, s, B, cb, hA2, hs, hu, ⟨z0, z1⟩, hra⟩ := hS3.at_ hxn
            subst hA2
            have n1 : (q : Int) < (od.length : Int) := by omega
            have n2 : IntKind.i64.wrap ((q : Int) + 1) = (q : Int) + 1 := by rw [IntKind.wrap_i64]; omega
            have n3 : (0 : Int) ≤ (q : Int) := by omega
            have n4 : (0 : Int) ≤ (x : Int) := by omega
            have n5 : (x : Int) < (t.states.length : Int) := by omega
            have hal := valid_row HTV.out (List.mem_of_getElem? hs)
            have HX := Lib.hid hx; have HSS := Lib.hid hs
            have HSO := Lib.hid (rsorted_any (w := wr.drew) (l := s.arcs) (v := .slice B s.arcs.length cb) (ArcsSl.grown ⟨B, cb, rfl, hS3.arcs_at hs hu⟩ (grown_drew wr none)) (by omega))
            clear hx hs hu hra hat hgw hS3
            go_upto_region 14 with (fail)
            go_cut [9] from 48 to 57 (fun b wx => wx.ownsRow wr.heap.size 35 4 b (sortA s.arcs).length ((sortA s.arcs).flatMap arcC) ∧ wr.grownBy wx none)
            case first =>
              have d0 : wr.drew.cell? ⟨w.heap.size, 3, none⟩ = some (.slice (some ad) t.states.length k2) := x3
              have d1 : wr.drew.cell? ⟨gq, off + q, none⟩ = some (.int .i64 (x : Int)) := hcq
              have d2 : wr.drew.cell? { block := (ad.add (x * 2)).block, off := (ad.add (x * 2)).off + 1, spot := none } = some (.slice B s.arcs.length cb) := z1
              go_region_held3 (fun W' => W'.cell? ⟨w.heap.size, 3, none⟩ = some (.slice (some ad) t.states.length k2) ∧ W'.cell? ⟨gq, off + q, none⟩ = some (.int .i64 (x : Int)) ∧ W'.cell? { block := (ad.add (x * 2)).block, off := (ad.add (x * 2)).off + 1, spot := none } = some (.slice B s.arcs.length cb)) (go_keep)
                ((go_at_call 52; refine HSO.out.mono ?_; rintro e w6 ⟨v6, rfl, hO6, hg6⟩; have s0 := hg6.cell d0 (by simp); have s1 := hg6.cell d1 (by simp); have s2 := hg6.cell d2 (by simp); have HO6 := Lib.hid hO6; have HG6 := Lib.hid (grown_trans (grown_drew wr none) hg6); clear hO6 hg6))
              go_wp2_with (fail)
              go_meet
              case rel => exact ⟨HO6.out, HG6.out⟩
            case rest =>
              obtain ⟨hO6, hg6⟩ := hcut
              generalize wc = w6 at *
              obtain ⟨A6, c6, hv6, hr6⟩ := arcs_of_own hO6
              subst hv6
              have ha6 : ArcsSl w6 (.slice A6 (sortA s.arcs).length c6) (sortA s.arcs) := ⟨A6, c6, rfl, hr6⟩
              have hx6 : 0 < (sortA s.arcs).length → ∃ b, (Value.slice A6 (sortA s.arcs).length c6).ownBlock = some b ∧ wr.heap.size ≤ b := fun h0 => by
                obtain ⟨b, hb, _⟩ := ha6.block h0
                exact ⟨b, hb, (hO6.lt b hb).1⟩
              have hcm6 := HCM.out.next hg6
              have hoff : ArcsOff w6 (Value.slice (some ⟨gq, off, none⟩) od.length co).ownBlock (.slice A6 (sortA s.arcs).length c6) (sortA s.arcs) := ⟨ha6, fun h0 e => by
                obtain ⟨b, hb, hlb⟩ := hx6 h0
                rw [hb] at e
                have := (HCM.out.que.owns HCM.out.ne e.symm).2
                omega⟩
              have hlow : w3.heap.size < wr.heap.size := by have := HCM.out.hB; have := HCM.out.hs; omega
              have HX6 : Hid (0 < (sortA s.arcs).length → ∃ b, (Value.slice A6 (sortA s.arcs).length c6).ownBlock = some b ∧ w3.heap.size < b) := Lib.hid (fun h0 => by
                obtain ⟨b, hb, hlb⟩ := hx6 h0
                exact ⟨b, hb, by omega⟩)
              have HOFF := Lib.hid hoff; have HCM6 := Lib.hid hcm6
              have HLA := Lib.hid (sortA_len s.arcs)
              have hla : (sortA s.arcs).length ≤ 30000 := by rw [HLA.out]; omega
              clear hO6 hr6 ha6 hx6 hcm6 hoff x0 x1 x2 x3 z0 z1 hcq HSO
              generalize wr = wv at *
              go_wp2
              go_loopw [7, 10] (fun o i wr => ∃ (j : Nat) (od' : List Nat), i = .int .i64 j ∧ j ≤ (sortA s.arcs).length ∧ od' = ((stepsS s).take j).foldl pushN od ∧ CMem w3 wr w3.heap.size (w3.heap.size + 1) t.states.length o od' ∧ ArcsOff wr o.ownBlock (.slice A6 (sortA s.arcs).length c6) (sortA s.arcs)) (fun _ i _ => (sortA s.arcs).length - (intOf i).toNat)
              case atStart => exact ⟨0, od, rfl, by omega, rfl, HCM6.out, HOFF.out⟩
              case round =>
                obtain ⟨j, od', rfl, hj, hod, hcm, hoff⟩ := hrel
                have hnd' : od'.Nodup := by rw [hod]; exact folds_nodup HND.out
                have hsb : ∀ y ∈ stepsS s, y < t.states.length := fun y hy => by
                  have h := steps_below HSW.out x y (by rw [stepsM_sort HSS.out]; exact hy)
                  simpa [sortM] using h
                have hbd' : ∀ y ∈ od', y < t.states.length := by rw [hod]; exact folds_below HBD.out (fun y hy => hsb y (List.mem_of_mem_take hy))
                have hol' := nodup_short hnd' hbd'
                have HOD := Lib.hid hod; have HCMi := Lib.hid hcm; have HOFi := Lib.hid hoff; have HND' := Lib.hid hnd'; have HBD' := Lib.hid hbd'
                obtain ⟨ao', co', ho', _⟩ := hcm.que
                subst ho'
                by_cases hjl : j < (sortA s.arcs).length
                · obtain ⟨A6', c6', he6, hr6⟩ := hoff.1
                  cases he6
                  obtain ⟨ad6, a, hA6, hab, haj, ⟨z0, z1, z2, z3⟩⟩ := row_arc hr6 hjl
                  subst hA6
                  have hyn : a.t.toNat < t.states.length := hsb _ (List.mem_of_getElem? (stepsS_get haj))
                  have harc := HTW.out.arcs s (List.mem_of_getElem? HSS.out) a (sortA_mem.1 (List.mem_of_getElem? haj))
                  obtain ⟨y, hy⟩ : ∃ y : Nat, a.t = (y : Int) := ⟨a.t.toNat, by omega⟩
                  have hyt : a.t.toNat = y := by omega
                  rw [hyt] at hyn
                  have c0 := hcm.tab.cell hyn
                  have f0 := hcm.tab.free y
                  rw [hy] at z3
                  have n6 : (j : Int) < ((sortA s.arcs).length : Int) := by omega
                  have n7 : IntKind.i64.wrap ((j : Int) + 1) = (j : Int) + 1 := by rw [IntKind.wrap_i64]; omega
                  have n8 : (0 : Int) ≤ (j : Int) := by omega
                  have n9 : (0 : Int) ≤ (y : Int) := by omega
                  have n10 : (y : Int) < (t.states.length : Int) := by omega
                  have hnx : ((stepsS s).take (j + 1)).foldl pushN od = pushN od' y := by
                    rw [take_one (stepsS_get haj), folds_snoc, ← hod, hyt]
                  have hbne : ad6.block ≠ w3.heap.size := by
                    obtain ⟨b, hb, hlb⟩ := HX6.out (by omega)
                    cases hb
                    omega
                  have HNX := Lib.hid hnx
                  clear hod hcm hoff hnd' hbd' hsb hr6 haj harc hy hyt hnx
                  by_cases hyo : y ∈ od'
                  · have hnum : numF od' y = (od'.idxOf y : Int) := by unfold numF; rw [if_pos hyo]
                    rw [hnum] at c0
                    have n11 : ¬ ((od'.idxOf y : Int) < 0) := by omega
                    have HP := Lib.hid (show pushN od' y = od' by unfold pushN; rw [if_pos hyo])
                    clear hnum hyo
                    go_wp2
                    go_roundw
                    case rel => exact ⟨j + 1, od', by go_num, by omega, by rw [HNX.out, HP.out], HCMi.out, HOFi.out⟩
                    case measure => simp [intOf]; omega
                  · have hnum : numF od' y = -1 := by unfold numF; rw [if_neg hyo]
                    rw [hnum] at c0
                    have HP := Lib.hid (show pushN od' y = od' ++ [y] by unfold pushN; rw [if_neg hyo])
                    have gs := grown_setCell wr ⟨w3.heap.size, y, none⟩ (.int .i64 (od'.length : Int))
                    have hga := World.grownBy_alloc (wr.setCell ⟨w3.heap.size, y, none⟩ (.int .i64 (od'.length : Int))) (.cells #[.int .i64 (y : Int)] 3) none
                    have hB6 := HCMi.out.hB
                    have HQ6 := Lib.hid ((HCMi.out.que.grown gs (fun b e => by cases e; exact hB6)).grown hga (by simp))
                    have hhs := HCMi.out.hs
                    have hs1 := gs.size; have hs2 := hga.size
                    have HCA := Lib.hid (new_cell6 (wr.setCell ⟨w3.heap.size, y, none⟩ (.int .i64 (od'.length : Int))) y)
                    have HYO := Lib.hid hyo
                    have zz := gs.cell z3 (by intro e; injection e with e; change (ad6.add (j * 4)).block = w3.heap.size at e; rw [block_of_add] at e; exact hbne e)
                    have hle7 : w3.heap.size + 1 ≤ ((wr.setCell ⟨w3.heap.size, y, none⟩ (.int .i64 (od'.length : Int))).alloc (.cells #[.int .i64 (y : Int)] 3)).heap.size := by omega
                    have HLE7 := Lib.hid hle7
                    have HGA := Lib.hid hga
                    clear hnum hyo gs hga hle7
                    go_wp2_with (at_builtin; refine wpList_push2 HQ6.out HLE7.out rfl _ _ rfl rfl _ _ y rfl ?ca (by omega) ?_)
                    case ca =>
                      have := HCA.out
                      simp only [World.size_alloc, World.size_setCell] at this ⊢
                      first | exact this | simpa using this
                    intro v' w7 hq7 hg7 hat7
                    have HCM7 := Lib.hid (HCMi.out.push HYO.out HGA.out hq7 hg7)
                    have HOF7 := Lib.hid (HOFi.out.push HX6.out HGA.out hg7 (hat7.imp id (fun h => h.trans (by simp))))
                    clear hq7 hg7 hat7 z0 z1 z2 z3 zz c0 f0
                    go_wp2
                    go_roundw
                    case rel => exact ⟨j + 1, _, by go_num, by omega, by rw [HNX.out, HP.out], HCM7.out, HOF7.out⟩
                    case measure => simp [intOf]; omega
                · have n6 : ¬ (j : Int) < ((sortA s.arcs).length : Int) := by omega
                  have hod2 : od' = (stepsM (sortM t) x).foldl pushN od := by
                    rw [hod, stepsM_sort HSS.out, List.take_of_length_le (by rw [stepsS_len]; have := HLA.out; omega)]
                  obtain ⟨f, hf, hsr3⟩ := HSR.out
                  have hsr4 : srch (stepsM (sortM t)) (f - 1) (q + 1) od' = orderM (sortM t) := by
                    rw [hod2, ← hsr3, show f = (f - 1) + 1 by omega, srch_next HX.out]
                    rfl
                  have HSR4 : Hid (∃ f, f + (q + 1) = t.states.length ∧ srch (stepsM (sortM t)) f (q + 1) od' = orderM (sortM t)) := Lib.hid ⟨f - 1, by omega, hsr4⟩
                  have HPR : Hid (q + 1 ≤ od'.length) := Lib.hid (by have := (folds_prefix (stepsM (sortM t) x) od).length_le; rw [← hod2] at this; omega)
                  clear hod hcm hoff hnd' hbd' hsb hod2 hf hsr3 hsr4
                  go_wp2
                  go_roundw
                  case rel => exact ⟨q + 1, od', by go_num, HPR.out, HND'.out, HBD'.out, HSR4.out, HCMi.out⟩
                  case measure => simp [intOf]; omega
          · have n1 : ¬ (q : Int) < (od.length : Int) := by omega
            obtain ⟨f, _, hsr3⟩ := HSR.out
            rw [srch_stop (by omega)] at hsr3
            have hso0 := HCM.out.que.nsl
            have htb0 := HCM.out.tab
            have hne0 := HCM.out.ne
            have hms : t.start.toNat ∈ od := by rw [hsr3]; exact order_mem_start (sortM t)
            have HRR := Lib.hid (rrenumber_any (cn := t.states.length) (MachV.fill (StSl.grown HST3.out HGW.out)) (valid_small HTV.out) hso0 HBD.out (by omega) hms htb0)
            have hrv := renum_valid HTV.out HND.out HBD.out hms
            rw [← hsr3] at HN
            have HG5 := Lib.hid (grown_trans HG3.out HGW.out)
            have hb2c := (HCM.out.bel.block (w.heap.size + 1) (by omega)).trans HB2b.out
            have HB2c := Lib.hid (show BoxAt wr (w.heap.size + 1) mach0 (.slice none 0 0) from hb2c)
            have hlr : w.heap.size + 2 ≤ wr.heap.size := by have := HGW.out.size; omega
            have HLR := Lib.hid hlr
            clear hsr3 hso0 htb0 hms hgw hat hb2c hne0 hlr
            generalize renumM t od = r at *
            have hrl := valid_len hrv
            have hr1 := (valid_wf hrv).start
            have HRV := Lib.hid hrv
            clear hrv
            go_wp2_with fail
            refine HRR.out.mono ?_
            rintro e w8 ⟨v8, rfl, hmo, hg8⟩
            obtain ⟨u8, rfl, hso⟩ := hmo
            obtain ⟨g8, c8, rfl, hg8b, hg8l⟩ := hso.form (by omega)
            have hga := World.grownBy_alloc w8 (.cells #[.int .i64 r.kind, .int .i64 r.start, .string r.lead, .slice (some ⟨g8, 0, none⟩) r.states.length c8] 24) none
            have hgg := grown_trans hg8 hga
            have HG9 := Lib.hid (grown_trans HG5.out hgg)
            have HB9 := Lib.hid (BoxAt.grown HB2c.out hgg)
            have HN9 := Lib.hid (BoxAt.new w8 r (.slice (some ⟨g8, 0, none⟩) r.states.length c8))
            have HS9 := Lib.hid (hso.grown hga)
            have hs8 := hg8.size
            clear hso hg8 hga hgg x0 x1 x2 x3
            go_upto_region 22 with (fail)
            generalize w8.alloc (.cells #[.int .i64 r.kind, .int .i64 r.start, .string r.lead, .slice (some ⟨g8, 0, none⟩) r.states.length c8] 24) = w9 at *
            go_wp2
            generalize wr = wq at *
            go_loopw [12] (fun i wr => ∃ k : Nat, i = .int .i64 k ∧ k ≤ r.states.length ∧ StOwn wr wq.heap.size (fun b => wq.heap.size ≤ b) (.slice (some ⟨g8, 0, none⟩) (sorS r.states k).length c8) (sorS r.states k) ∧ BoxAt wr w8.heap.size r (.slice (some ⟨g8, 0, none⟩) r.states.length c8) ∧ BoxAt wr (w.heap.size + 1) mach0 (.slice none 0 0) ∧ w.grownBy wr none) (fun i _ => r.states.length - (intOf i).toNat)
            case atStart => exact ⟨0, rfl, by omega, by rw [show sorS r.states 0 = r.states by simp [sorS]]; exact HS9.out, HN9.out, HB9.out, HG9.out⟩
            case round =>
              obtain ⟨k, rfl, hk, hso, hbn, hbr, hgr⟩ := hrel
              have HSOk := Lib.hid hso; have HBNk := Lib.hid hbn; have HBRk := Lib.hid hbr; have HGRk := Lib.hid hgr
              obtain ⟨y0, y1, y2, y3⟩ := hbn.cells
              by_cases hlt : k < r.states.length
              · obtain ⟨s, hs⟩ : ∃ s, r.states[k]? = some s := ⟨_, List.getElem?_eq_getElem hlt⟩
                obtain ⟨x, z0, z1, hoff, hfree⟩ := hso.at_ (sorS_get hs)
                obtain ⟨Bx, cx, hx, hra⟩ := hoff.1
                subst hx
                have hal := valid_row HRV.out (List.mem_of_getElem? hs)
                have n2 : (k : Int) < (r.states.length : Int) := by omega
                have n3 : IntKind.i64.wrap ((k : Int) + 1) = (k : Int) + 1 := by rw [IntKind.wrap_i64]; omega
                have n4 : (0 : Int) ≤ (k : Int) := by omega
                have HSS := Lib.hid hs
                have HC := Lib.hid (rsorted_any (w := wr.drew) (l := s.arcs) (v := .slice Bx s.arcs.length cx) (ArcsSl.grown ⟨Bx, cx, rfl, hra⟩ (grown_drew wr none)) (by omega))
                have HFR := Lib.hid (hfree (k * 2 + 1))
                have hgw : g8 < wr.heap.size := by
                  obtain ⟨_, _, ho, _⟩ := hso
                  exact (ho.lt g8 rfl).2
                have d1 : w8.heap.size ≠ g8 := by omega
                clear hso hbn hbr hgr hs hoff hra hfree
                go_upto_region 25 with (fail)
                refine wp_region_chain (e := 12) (n := 12) (fun W' : World => W'.cell? ⟨w8.heap.size, 3, none⟩ = some (.slice (some ⟨g8, 0, none⟩) r.states.length c8) ∧ W'.cell? ⟨g8, k * 2 + 1, none⟩ = some (.slice Bx s.arcs.length cx)) (by kernel_rfl) (by kernel_rfl) rfl ?_
                have hS0 : (fun W' : World => W'.cell? ⟨w8.heap.size, 3, none⟩ = some (.slice (some ⟨g8, 0, none⟩) r.states.length c8) ∧ W'.cell? ⟨g8, k * 2 + 1, none⟩ = some (.slice Bx s.arcs.length cx)) wr.drew := ⟨y3, z1⟩
                refine wpAnyH_take (i := 0) (v := .pointer (some ⟨w8.heap.size, 3, none⟩)) rfl (by kernel_rfl) (by kernel_rfl) (by kernel_rfl) (fun _ _ _ h => h) (Or.inl ⟨by rfl, ?_⟩) hS0 ?_
                · intro W hSw
                  (try dsimp only at hSw)
                  first | (go_simp; done) | (go_simp; rfl)
                (try simp only [Act.put, List.setIfInBounds_toArray, List.set_cons_zero, List.set_cons_succ])
                refine wpAnyH_take (i := 1) (v := .slice (some ⟨g8, 0, none⟩) r.states.length c8) rfl (by kernel_rfl) (by kernel_rfl) (by kernel_rfl) (fun _ _ _ h => h) (Or.inl ⟨by rfl, ?_⟩) hS0 ?_
                · intro W hSw
                  (try dsimp only at hSw)
                  first | (go_simp; done) | (go_simp; rfl)
                (try simp only [Act.put, List.setIfInBounds_toArray, List.set_cons_zero, List.set_cons_succ])
                refine wpAnyH_take (i := 2) (v := .int .i64 (k : Int)) rfl (by kernel_rfl) (by kernel_rfl) (by kernel_rfl) (fun _ _ _ h => h) (Or.inl ⟨by rfl, ?_⟩) hS0 ?_
                · intro W hSw
                  (try dsimp only at hSw)
                  first | (go_simp; done) | (go_simp; rfl)
                (try simp only [Act.put, List.setIfInBounds_toArray, List.set_cons_zero, List.set_cons_succ])
                refine wpAnyH_take (i := 3) (v := .pointer (some ⟨w8.heap.size, 3, none⟩)) rfl (by kernel_rfl) (by kernel_rfl) (by kernel_rfl) (fun _ _ _ h => h) (Or.inl ⟨by rfl, ?_⟩) hS0 ?_
                · intro W hSw
                  (try dsimp only at hSw)
                  first | (go_simp; done) | (go_simp; rfl)
                (try simp only [Act.put, List.setIfInBounds_toArray, List.set_cons_zero, List.set_cons_succ])
                refine wpAnyH_take (i := 4) (v := .slice (some ⟨g8, 0, none⟩) r.states.length c8) rfl (by kernel_rfl) (by kernel_rfl) (by kernel_rfl) (fun _ _ _ h => h) (Or.inl ⟨by rfl, ?_⟩) hS0 ?_
                · intro W hSw
                  (try dsimp only at hSw)
                  first | (go_simp; done) | (go_simp; rfl)
                (try simp only [Act.put, List.setIfInBounds_toArray, List.set_cons_zero, List.set_cons_succ])
                refine wpAnyH_take (i := 5) (v := .int .i64 (k : Int)) rfl (by kernel_rfl) (by kernel_rfl) (by kernel_rfl) (fun _ _ _ h => h) (Or.inl ⟨by rfl, ?_⟩) hS0 ?_
                · intro W hSw
                  (try dsimp only at hSw)
                  first | (go_simp; done) | (go_simp; rfl)
                (try simp only [Act.put, List.setIfInBounds_toArray, List.set_cons_zero, List.set_cons_succ])
                refine wpAnyH_take (i := 6) (v := .pointer (some ⟨g8, k * 2, none⟩)) rfl (by kernel_rfl) (by kernel_rfl) (by kernel_rfl) (fun _ _ _ h => h) (Or.inl ⟨by rfl, ?_⟩) hS0 ?_
                · intro W hSw
                  (try dsimp only at hSw)
                  first | (go_simp; done) | (go_simp; rfl)
                (try simp only [Act.put, List.setIfInBounds_toArray, List.set_cons_zero, List.set_cons_succ])
                refine wpAnyH_take (i := 7) (v := .pointer (some ⟨g8, k * 2 + 1, none⟩)) rfl (by kernel_rfl) (by kernel_rfl) (by kernel_rfl) (fun _ _ _ h => h) (Or.inl ⟨by rfl, ?_⟩) hS0 ?_
                · intro W hSw
                  (try dsimp only at hSw)
                  first | (go_simp; done) | (go_simp; rfl)
                (try simp only [Act.put, List.setIfInBounds_toArray, List.set_cons_zero, List.set_cons_succ])
                refine wpAnyH_take (i := 8) (v := .slice Bx s.arcs.length cx) rfl (by kernel_rfl) (by kernel_rfl) (by kernel_rfl) (fun _ _ _ h => h) (Or.inl ⟨by rfl, ?_⟩) hS0 ?_
                · intro W hSw
                  (try dsimp only at hSw)
                  first | (go_simp; done) | (go_simp; rfl)
                (try simp only [Act.put, List.setIfInBounds_toArray, List.set_cons_zero, List.set_cons_succ])
                refine wpAnyH_ready (rs := [9]) (by kernel_rfl) (by simp) ?_
                refine AllReadyH.cons rfl (fun K hK => ?_) AllReadyH.nil
                go_simp
                refine HC.out.mono ?_
                rintro e w6 ⟨v6, rfl, hO6, hg6⟩
                obtain ⟨A6, c6, hv6, _⟩ := arcs_of_own hO6
                subst hv6
                have s1 := hg6.cell (show wr.drew.cell? _ = _ from y3) (by simp); have s2 := hg6.cell (show wr.drew.cell? _ = _ from z1) (by simp)
                have s4 := (World.frozen?_of_block (hg6.block g8 hgw (by simp))).trans HFR.out
                refine hK.out _ _ ⟨s1, s2⟩ (fun hHeld => ?_)
                (try simp only [List.getElem_toArray, List.getElem_cons_succ, List.getElem_cons_zero, Act.put, List.setIfInBounds_toArray, List.set_cons_zero, List.set_cons_succ])
                refine wpAnyH_take (i := 10) (v := .pointer (some ⟨g8, k * 2, none⟩)) rfl (by kernel_rfl) (by kernel_rfl) (by kernel_rfl) (fun _ _ _ h => h) (Or.inl ⟨by rfl, ?_⟩) hHeld ?_
                · intro W hSw
                  (try dsimp only at hSw)
                  first | (go_simp; done) | (go_simp; rfl)
                (try simp only [Act.put, List.setIfInBounds_toArray, List.set_cons_zero, List.set_cons_succ])
                refine wpAnyH_take (i := 11) (v := .pointer (some ⟨g8, k * 2 + 1, none⟩)) rfl (by kernel_rfl) (by kernel_rfl) (by kernel_rfl) (fun _ _ _ h => h) (Or.inl ⟨by rfl, ?_⟩) hHeld ?_
                · intro W hSw
                  (try dsimp only at hSw)
                  first | (go_simp; done) | (go_simp; rfl)
                (try simp only [Act.put, List.setIfInBounds_toArray, List.set_cons_zero, List.set_cons_succ])
                refine wpAnyH_done (by kernel_rfl) ?_ _
                refine lastQ_step (by rfl) (fun K hK => ?_)
                go_simp
                refine hK _ _ ?_
                have hso3 := HSOk.out.grown (grown_trans (grown_drew wr none) hg6)
                have hg8' : wr.grownBy w6 none := grown_trans (grown_drew wr none) hg6
                have hoff5 := arcs_own_off (g := g8) hO6 (show g8 < wr.drew.heap.size from hgw)
                have hwq : wq.heap.size ≤ wr.drew.heap.size := by show wq.heap.size ≤ wr.heap.size; omega
                have hso4 := hso3.set_arcs (sorS_get HSS.out) hoff5 (fun hl b hb => by have h2 := (hO6.lt b hb).1; omega)
                rw [sorS_next HSS.out] at hso4
                have HSO4 := Lib.hid hso4
                have gst := grown_setCell w6 ⟨g8, k * 2 + 1, none⟩ (.slice A6 (sortA s.arcs).length c6)
                have hbn9 := BoxAt.grown HBNk.out hg8'
                have hbr9 := BoxAt.grown HBRk.out hg8'
                have HBN4 := Lib.hid (show BoxAt _ w8.heap.size r (.slice (some ⟨g8, 0, none⟩) r.states.length c8) from (gst.block w8.heap.size hbn9.lt (by simpa using d1)).trans hbn9)
                have HBR4 := Lib.hid (show BoxAt _ (w.heap.size + 1) mach0 (.slice none 0 0) from (gst.block (w.heap.size + 1) hbr9.lt (by intro e; injection e with e; change _ = g8 at e; have := HLR.out; omega)).trans hbr9)
                have HGF := Lib.hid (grown_step (g := g8) (grown_trans HGRk.out hg8') gst (by have := HLR.out; omega))
                clear s1 s2 s4 hO6 hg6 hso3 hg8' hoff5 hso4 gst hbn9 hbr9 y0 y1 y2 y3 z0 z1
                go_wp2
                go_roundw
                case rel => exact ⟨k + 1, by go_num, by omega, HSO4.out, HBN4.out, HBR4.out, HGF.out⟩
                case measure => simp [intOf]; omega
              · have n2 : ¬ (k : Int) < (r.states.length : Int) := by omega
                rw [sorS_end (by omega), show (r.states.map (fun s => (⟨s.fin, sortA s.arcs⟩ : MState))).length = (sortM r).states.length from rfl] at hso
                have hln : (sortM r).states.length = r.states.length := by simp [sortM]
                have hso2 : StOwn wr wq.heap.size (fun b => wq.heap.size ≤ b) (.slice (some ⟨g8, 0, none⟩) (sortM r).states.length c8) (sortM r).states := hso
                rw [hln] at hso2
                have hle := HLR.out
                have HGZ := Lib.hid hgr
                have hbz := hbr
                have hgw : wq.heap.size ≤ g8 := by omega
                have hst9 := hso2.mono (B' := w.heap.size + 2) (P' := fun b => w.heap.size + 2 ≤ b) (by omega) (fun b hb => by omega)
                have hsz := hst9.stN (Nat.le_refl _)
                clear hso hso2 hbn hbr hgr hst9
                obtain ⟨v0, v1, v2, v3⟩ := hbz.cells
                simp only [mach0] at v0 v1 v2
                have f0 := hbz.free 0; have f1 := hbz.free 1; have f2 := hbz.free 2; have f3 := hbz.free 3
                obtain ⟨hbf, hgf⟩ := box_fill (n := r) (v := .slice (some ⟨g8, 0, none⟩) r.states.length c8) hbz
                have HGF := Lib.hid (grown_step (g := w.heap.size + 1) HGZ.out hgf (by omega))
                have T := Lib.hid ((hsz.kept (kept_step hgf (by omega))).mono (C := w.heap.size) (by omega))
                obtain ⟨c0, c1, c2, c3⟩ := hbf.cells
                clear hsz hbz hbf hgf
                go_wp2_with fail
                generalize (((wr.setCell ⟨w.heap.size + 1, 0, none⟩ (.int .i64 r.kind)).setCell ⟨w.heap.size + 1, 1, none⟩ (.int .i64 r.start)).setCell ⟨w.heap.size + 1, 2, none⟩ (.string r.lead)).setCell ⟨w.heap.size + 1, 3, none⟩ (.slice (some ⟨g8, 0, none⟩) r.states.length c8) = WW at *
                exact bodyPost_ret (v := .tuple #[.agg #[.int .i64 r.kind, .int .i64 r.start, .string r.lead, .slice (some ⟨g8, 0, none⟩) r.states.length c8], .int .i64 0]) (by simp [results, Tryz.results30, go_sem, c0, c1, c2, c3]) rfl (by rw [HN.out]; exact ⟨_, rfl, ⟨_, rfl, T.out⟩, HGF.out⟩)
end Go.Proofs.YtbmonhnojkiapaaGreatDoor
