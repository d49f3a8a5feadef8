/- combine with each of its closures; addTimes, subTimes. -/
import Derived.Test.YtlkjfhidicgjiaaDoorWb
set_option linter.unusedVariables false
set_option linter.unusedSimpArgs false
namespace Go.Proofs.YtlkjfhidicgjiaaDoor
open Go.RowKit

/-- What was there before is as it was, but for two blocks. -/
structure Kept2 (g h : Nat) (w w' : World) : Prop where
  os : w'.os = w.os
  tape : w'.tape = w.tape
  output : w'.output = w.output
  size : w.heap.size ≤ w'.heap.size
  block : ∀ k, k < w.heap.size → k ≠ g → k ≠ h → w'.heap[k]? = w.heap[k]?
theorem Kept2.refl (g h : Nat) (w : World) : Kept2 g h w w := ⟨rfl, rfl, rfl, Nat.le_refl _, fun _ _ _ _ => rfl⟩
theorem Kept2.left {g h : Nat} {a b c : World} (k : Kept2 g h a b) (m : b.grownBy c (some g)) : Kept2 g h a c :=
  ⟨m.os.trans k.os, m.tape.trans k.tape, m.output.trans k.output, Nat.le_trans k.size m.size, fun i hi h1 h2 => (m.block i (Nat.lt_of_lt_of_le hi k.size) (by simpa using h1)).trans (k.block i hi h1 h2)⟩
theorem Kept2.right {g h : Nat} {a b c : World} (k : Kept2 g h a b) (m : b.grownBy c (some h)) : Kept2 g h a c :=
  ⟨m.os.trans k.os, m.tape.trans k.tape, m.output.trans k.output, Nat.le_trans k.size m.size, fun i hi h1 h2 => (m.block i (Nat.lt_of_lt_of_le hi k.size) (by simpa using h2)).trans (k.block i hi h1 h2)⟩

/-- The block g holds these cells. -/
def Cells (w : World) (g : Nat) (l : List Value) : Prop := w.heap[g]? = some (.cells l.toArray 22 (0, 0))
theorem Cells.cell {w : World} {g : Nat} {l : List Value} (h : Cells w g l) (k : Nat) : w.cell? ⟨g, k, none⟩ = l[k]? := by
  rw [cell_row h]; simp
theorem Cells.free {w : World} {g : Nat} {l : List Value} (h : Cells w g l) (k : Nat) : w.frozen? ⟨g, k, none⟩ = false := frozen_of_row w g k _ _ h
theorem Cells.set {w : World} {g : Nat} {l : List Value} (h : Cells w g l) (k : Nat) (u : Value) : Cells (w.setCell ⟨g, k, none⟩ u) g (l.set k u) := by
  unfold Cells
  rw [heap_setCell_same w g k _ _ u h]
  simp
theorem Cells.lt {w : World} {g : Nat} {l : List Value} (h : Cells w g l) : g < w.heap.size := lt_of_block h
theorem Cells.grown {w w' : World} {g : Nat} {l : List Value} {r : Option Nat} (h : Cells w g l) (hg : w.grownBy w' r) (hr : some g ≠ r) : Cells w' g l := (hg.block g h.lt hr).trans h

theorem mid_get (pre post : List Value) (zs xs : List Nat) (k : Nat) (hz : zs.length = k) (hk : k < xs.length) :
    (pre ++ uv (zs ++ xs.drop k) ++ post)[pre.length + k]? = some (.int .u64 (xs.getD k 0 : Nat)) := by
  rw [drop_getD xs k hk, uv_append, List.append_assoc, List.getElem?_append_right (by omega), Nat.add_sub_cancel_left, List.append_assoc, List.getElem?_append_right (by rw [uv_length]; omega), uv_length, hz, Nat.sub_self]
  rfl
theorem mid_set (pre post : List Value) (zs xs : List Nat) (k x : Nat) (hz : zs.length = k) (hk : k < xs.length) :
    (pre ++ uv (zs ++ xs.drop k) ++ post).set (pre.length + k) (.int .u64 (x : Int)) = pre ++ uv ((zs ++ [x]) ++ xs.drop (k + 1)) ++ post := by
  rw [drop_getD xs k hk, uv_append, List.append_assoc, List.set_append_right _ _ (by omega), Nat.add_sub_cancel_left, List.append_assoc, List.set_append_right _ _ (by rw [uv_length]; omega), uv_length, hz, Nat.sub_self]
  simp [uv]

def CombPost (q : List Nat × Nat) (pre post : List Value) (g gc : Nat) (w : World) (e : Ending) (w' : World) : Prop :=
  e = .returned (.tuple #[]) ∧ Cells w' g (pre ++ uv q.1 ++ post) ∧ One w' gc q.2 ∧ Kept2 g gc w w'

def TimesPost (q : List Nat × Nat) (pre post : List Value) (g : Nat) (w : World) (e : Ending) (w' : World) : Prop :=
  e = .returned (.int .u64 (q.2 : Nat)) ∧ Cells w' g (pre ++ uv q.1 ++ post) ∧ w.grownBy w' (some g)

set_option maxHeartbeats 1000000 in
theorem addComb (f c0 g gc gf cap : Nat) (pre post : List Value) (xs ys : List Nat) (vy : Value) (w : World)
    (hf : f ≤ 1000000000) (hc0 : c0 ≤ 1000000000) (hx : ∀ x ∈ xs, x < 1000000000) (hy : ∀ y ∈ ys, y < 1000000000)
    (hn : xs.length ≤ 1000000) (hp : pre.length ≤ 1000000) (hm : ys.length ≤ 1000000) (hcap : cap ≤ maxLen)
    (hg : Cells w g (pre ++ uv xs ++ post)) (hgc : One w gc c0) (hgf : One w gf f) (hB : Blks 0 w vy ys)
    (h1 : g ≠ gc) (h2 : gf ≠ gc) (h3 : gf ≠ g) (h4 : ∀ b, vy.ownBlock = some b → b ≠ g ∧ b ≠ gc) :
    Calls Tryd.prog 53 #[.slice (some ⟨g, pre.length, none⟩) xs.length cap, vy, .func (.func 64) #[] #[.pointer (some ⟨gc, 0, none⟩), .pointer (some ⟨gf, 0, none⟩)]] w
      (CombPost (comb (addT f) xs ys c0 xs.length) pre post g gc w) := by
  have hI := comb_add f xs ys hf hx hy c0 hc0
  have hbnd : ∀ k, (comb (addT f) xs ys c0 k).2 ≤ 1000000000 := fun k => (hI k).2.1
  have HG := Lib.hid hg; have HC := Lib.hid hgc; have HF := Lib.hid hgf; have HB := Lib.hid hB; have HX := Lib.hid hx; have HY := Lib.hid hy; have HBN := Lib.hid hbnd; have H4 := Lib.hid h4
  clear hg hgc hgf hB hI hbnd hx hy h4
  unfold maxLen at hcap
  go_enter Tryd.func53, Tryd.ntmps53
  go_wp2
  go_loopw [9] (fun i wr => ∃ (k : Nat), i = .int .i64 k ∧ k ≤ xs.length ∧ Cells wr g (pre ++ uv ((comb (addT f) xs ys c0 k).1 ++ xs.drop k) ++ post) ∧ One wr gc (comb (addT f) xs ys c0 k).2 ∧ Kept2 g gc w wr) (fun i _ => xs.length - (intOf i).toNat)
  case atStart => exact ⟨0, rfl, by omega, by simpa [comb] using HG.out, HC.out, Kept2.refl _ _ _⟩
  case round =>
    obtain ⟨k, rfl, hk, hgr, hcr, hkr⟩ := hrel
    by_cases hlt : k < xs.length
    · have hcell : wr.cell? ⟨g, pre.length + k, none⟩ = some (.int .u64 (xs.getD k 0 : Nat)) := by rw [hgr.cell]; exact mid_get pre post _ xs k (comb_length _ _ _ _ _) hlt
      have hz := comb_length (addT f) xs ys c0 k
      have hyr : Blks 0 wr vy ys := HB.out.keep fun b hb => hkr.block b (HB.out.lt b hb).2 (H4.out b hb).1 (H4.out b hb).2
      have hfr : One wr gf f := (hkr.block gf (lt_of_block HF.out) h3 h2).trans HF.out
      have hblk := fun w' (h : Sees w' vy ys) => block_any w' vy ys (k : Int) h hm (by omega) (by omega)
      have eb : blkAt ys (k : Int) = ys.getD k 0 := by unfold blkAt; rw [if_neg (by omega)]; rfl
      rw [eb] at hblk
      have hst := fun w' (h5 : One w' gc (comb (addT f) xs ys c0 k).2) (h6 : One w' gf f) => addStep f (comb (addT f) xs ys c0 k).2 (xs.getD k 0) (ys.getD k 0) gc gf w' hf (HBN.out k) (getD_mem_lt _ (by decide) xs HX.out k) (getD_mem_lt _ (by decide) ys HY.out k) h2 h5 h6
      have HS := Lib.hid (show comb (addT f) xs ys c0 (k + 1) = ((comb (addT f) xs ys c0 k).1 ++ [(addT f (comb (addT f) xs ys c0 k).2 (xs.getD k 0) (ys.getD k 0)).2], (addT f (comb (addT f) xs ys c0 k).2 (xs.getD k 0) (ys.getD k 0)).1) from rfl)
      have HSE := Lib.hid (show Sees wr.drew vy ys from hyr.sees)
      generalize addT f (comb (addT f) xs ys c0 k).2 (xs.getD k 0) (ys.getD k 0) = q at *
      generalize (comb (addT f) xs ys c0 k).2 = c at *
      generalize (comb (addT f) xs ys c0 k).1 = zs at *
      have HST := Lib.hid (fun r => mid_set pre post zs xs k r hz hlt)
      have hk1 : (k : Int) < (xs.length : Int) := by omega
      generalize hxa : xs.getD k 0 = a at *
      generalize hyb : ys.getD k 0 = b at *
      have HHG := Lib.hid (show Cells wr.drew g _ from hgr); have HHC := Lib.hid (show One wr.drew gc c from hcr); have HHF := Lib.hid (show One wr.drew gf f from hfr); have HK := Lib.hid (show Kept2 g gc w wr.drew from ⟨hkr.os, hkr.tape, hkr.output, hkr.size, hkr.block⟩); have HBL := Lib.hid hblk; have HSTP := Lib.hid hst
      clear hgr hcr hfr hkr hyr eb hblk hst hz hxa hyb
      go_wp2
      go_region_with (first
        | (go_at_call 65; refine (HBL.out _ HSE.out).mono ?_; rintro e w' ⟨rfl, rfl⟩)
        | (go_at_call 64; refine (HSTP.out _ HHC.out HHF.out).mono ?_; rintro e w' ⟨rfl, ho, hgw⟩; have HO := Lib.hid ho; have HGW := Lib.hid hgw; have HCG := Lib.hid (HHG.out.grown hgw (by simpa using h1)); have hcell2 := hcell; rw [show wr.cell? ⟨g, pre.length + k, none⟩ = wr.drew.cell? ⟨g, pre.length + k, none⟩ from rfl, HHG.out.cell, ← HCG.out.cell] at hcell2; have hfree2 := HCG.out.free (pre.length + k); clear ho hgw))
      all_goals
        have hnew := (HCG.out.set (pre.length + k) (.int .u64 (q.2 : Int)))
        rw [HST.out q.2] at hnew
        have hend : Cells (w'.setCell ⟨g, pre.length + k, none⟩ (.int .u64 (q.2 : Int))) g (pre ++ uv ((comb (addT f) xs ys c0 (k + 1)).1 ++ xs.drop (k + 1)) ++ post) := by rw [HS.out]; exact hnew
        have hone : One (w'.setCell ⟨g, pre.length + k, none⟩ (.int .u64 (q.2 : Int))) gc (comb (addT f) xs ys c0 (k + 1)).2 := by
          rw [HS.out]
          exact (Below.heap_setCell _ _ _ _ (fun e => h1 e.symm)).trans HO.out
        have hkept : Kept2 g gc w (w'.setCell ⟨g, pre.length + k, none⟩ (.int .u64 (q.2 : Int))) := (HK.out.right HGW.out).left (grown_setCell _ _ _)
        have HEND := Lib.hid hend; have HONE := Lib.hid hone; have HKEPT := Lib.hid hkept
        clear hnew hend hone hkept hcell hcell2 hfree2
        go_wp2
        go_roundw
        case rel => exact ⟨k + 1, by go_num, by omega, HEND.out, HONE.out, HKEPT.out⟩
        case measure => simp [intOf]; omega
    · have e : k = xs.length := by omega
      subst e
      rw [List.drop_length, List.append_nil] at hgr
      have HHG := Lib.hid hgr; have HHC := Lib.hid hcr; have HK := Lib.hid hkr
      clear hgr hcr hkr
      go_wp2
      go_end0
      exact ⟨rfl, HHG.out, HHC.out, HK.out⟩

set_option maxHeartbeats 400000 in
theorem addTimes_any (f g cap : Nat) (pre post : List Value) (xs ys : List Nat) (vy : Value) (w : World)
    (hf : f ≤ 1000000000) (hx : ∀ x ∈ xs, x < 1000000000) (hy : ∀ y ∈ ys, y < 1000000000)
    (hn : xs.length ≤ 1000000) (hp : pre.length ≤ 1000000) (hm : ys.length ≤ 1000000) (hcap : cap ≤ maxLen)
    (hg : Cells w g (pre ++ uv xs ++ post)) (hB : Blks 0 w vy ys) (h4 : vy.ownBlock ≠ some g) :
    Calls Tryd.prog 51 #[.slice (some ⟨g, pre.length, none⟩) xs.length cap, vy, .int .u64 f] w
      (TimesPost (comb (addT f) xs ys 0 xs.length) pre post g w) := by
  have hlt := hg.lt
  have hc := addComb f 0 g (w.heap.size + 1) w.heap.size cap pre post xs ys vy ((w.alloc (.cells #[.int .u64 (f : Int)] 22)).alloc (.cells #[.int .u64 0] 22)) hf (by omega) hx hy hn hp hm hcap
    (hg.grown (grown_trans (World.grownBy_alloc _ _ none) (World.grownBy_alloc _ _ none)) (by simp))
    (by have := heap_alloc_new (w.alloc (.cells #[.int .u64 (f : Int)] 22)) (.cells #[.int .u64 0] 22); rw [World.size_alloc] at this; exact this)
    ((heap_alloc_old (w.alloc (.cells #[.int .u64 (f : Int)] 22)) (.cells #[.int .u64 0] 22) (by simp)).trans (heap_alloc_new _ _))
    (hB.grown (grown_trans (World.grownBy_alloc _ _ none) (World.grownBy_alloc _ _ none)) (by simp))
    (by omega) (by omega) (by omega) (fun b hb => ⟨fun e => h4 (by rw [hb, e]), by have := (hB.lt b hb).2; omega⟩)
  have HC := Lib.hid hc
  clear hc hg hB h4 hx hy
  unfold maxLen at hcap
  have hmf : ∀ (fn : Fn) (first cap : Array Value) (w : World), (Instr.makeFunc fn first cap).run Tryd.prog w = .ok (.func fn first cap) w := fun _ _ _ _ => rfl
  go_enter Tryd.func51, Tryd.ntmps51
  go_wp2_with fail
  refine HC.out.mono ?_
  rintro e w' ⟨rfl, hcells, hone, hk⟩
  have hc1 := cell_of_one hone
  have hc2 := free_of_one hone
  have HCE := Lib.hid hcells; have HO := Lib.hid hone; have HK := Lib.hid hk
  clear hcells hone hk HC
  generalize comb (addT f) xs ys 0 xs.length = q at *
  go_wp2
  have hc3 := cell_of_one (one_setCell (u := .int .u64 (q.2 : Int)) HO.out)
  refine bodyPost_ret (v := .int .u64 (q.2 : Int)) (by simp [results, Tryd.results51, go_sem, hc3]) rfl ⟨rfl, ?_, ?_⟩
  · exact (Below.heap_setCell _ _ _ _ (by simp; omega)).trans HCE.out
  · have hk := HK.out
    refine ⟨hk.os, hk.tape, hk.output, ?_, fun i hi hne => ?_⟩
    · have := hk.size; simp [World.setCell] at this ⊢; omega
    · rw [Below.heap_setCell _ _ _ _ (by simp; omega), hk.block i (by simp; omega) (by simpa using hne) (by omega)]
      exact (heap_alloc_old _ _ (by simp; omega)).trans (heap_alloc_old _ _ hi)

set_option maxHeartbeats 1000000 in
theorem subComb (f c0 g gc gf cap : Nat) (pre post : List Value) (xs ys : List Nat) (vy : Value) (w : World)
    (hf : f ≤ 1000000000) (hc0 : c0 ≤ 1000000000) (hx : ∀ x ∈ xs, x < 1000000000) (hy : ∀ y ∈ ys, y < 1000000000)
    (hn : xs.length ≤ 1000000) (hp : pre.length ≤ 1000000) (hm : ys.length ≤ 1000000) (hcap : cap ≤ maxLen)
    (hg : Cells w g (pre ++ uv xs ++ post)) (hgc : One w gc c0) (hgf : One w gf f) (hB : Blks 0 w vy ys)
    (h1 : g ≠ gc) (h2 : gf ≠ gc) (h3 : gf ≠ g) (h4 : ∀ b, vy.ownBlock = some b → b ≠ g ∧ b ≠ gc) :
    Calls Tryd.prog 53 #[.slice (some ⟨g, pre.length, none⟩) xs.length cap, vy, .func (.func 54) #[] #[.pointer (some ⟨gc, 0, none⟩), .pointer (some ⟨gf, 0, none⟩)]] w
      (CombPost (comb (subT f) xs ys c0 xs.length) pre post g gc w) := by
  have hI := comb_sub f xs ys hf hx hy c0 hc0
  have hbnd : ∀ k, (comb (subT f) xs ys c0 k).2 ≤ 1000000000 := fun k => (hI k).2.1
  have HG := Lib.hid hg; have HC := Lib.hid hgc; have HF := Lib.hid hgf; have HB := Lib.hid hB; have HX := Lib.hid hx; have HY := Lib.hid hy; have HBN := Lib.hid hbnd; have H4 := Lib.hid h4
  clear hg hgc hgf hB hI hbnd hx hy h4
  unfold maxLen at hcap
  go_enter Tryd.func53, Tryd.ntmps53
  go_wp2
  go_loopw [9] (fun i wr => ∃ (k : Nat), i = .int .i64 k ∧ k ≤ xs.length ∧ Cells wr g (pre ++ uv ((comb (subT f) xs ys c0 k).1 ++ xs.drop k) ++ post) ∧ One wr gc (comb (subT f) xs ys c0 k).2 ∧ Kept2 g gc w wr) (fun i _ => xs.length - (intOf i).toNat)
  case atStart => exact ⟨0, rfl, by omega, by simpa [comb] using HG.out, HC.out, Kept2.refl _ _ _⟩
  case round =>
    obtain ⟨k, rfl, hk, hgr, hcr, hkr⟩ := hrel
    by_cases hlt : k < xs.length
    · have hcell : wr.cell? ⟨g, pre.length + k, none⟩ = some (.int .u64 (xs.getD k 0 : Nat)) := by rw [hgr.cell]; exact mid_get pre post _ xs k (comb_length _ _ _ _ _) hlt
      have hz := comb_length (subT f) xs ys c0 k
      have hyr : Blks 0 wr vy ys := HB.out.keep fun b hb => hkr.block b (HB.out.lt b hb).2 (H4.out b hb).1 (H4.out b hb).2
      have hfr : One wr gf f := (hkr.block gf (lt_of_block HF.out) h3 h2).trans HF.out
      have hblk := fun w' (h : Sees w' vy ys) => block_any w' vy ys (k : Int) h hm (by omega) (by omega)
      have eb : blkAt ys (k : Int) = ys.getD k 0 := by unfold blkAt; rw [if_neg (by omega)]; rfl
      rw [eb] at hblk
      have hst := fun w' (h5 : One w' gc (comb (subT f) xs ys c0 k).2) (h6 : One w' gf f) => subStep f (comb (subT f) xs ys c0 k).2 (xs.getD k 0) (ys.getD k 0) gc gf w' hf (HBN.out k) (getD_mem_lt _ (by decide) xs HX.out k) (getD_mem_lt _ (by decide) ys HY.out k) h2 h5 h6
      have HS := Lib.hid (show comb (subT f) xs ys c0 (k + 1) = ((comb (subT f) xs ys c0 k).1 ++ [(subT f (comb (subT f) xs ys c0 k).2 (xs.getD k 0) (ys.getD k 0)).2], (subT f (comb (subT f) xs ys c0 k).2 (xs.getD k 0) (ys.getD k 0)).1) from rfl)
      have HSE := Lib.hid (show Sees wr.drew vy ys from hyr.sees)
      generalize subT f (comb (subT f) xs ys c0 k).2 (xs.getD k 0) (ys.getD k 0) = q at *
      generalize (comb (subT f) xs ys c0 k).2 = c at *
      generalize (comb (subT f) xs ys c0 k).1 = zs at *
      have HST := Lib.hid (fun r => mid_set pre post zs xs k r hz hlt)
      have hk1 : (k : Int) < (xs.length : Int) := by omega
      generalize hxa : xs.getD k 0 = a at *
      generalize hyb : ys.getD k 0 = b at *
      have HHG := Lib.hid (show Cells wr.drew g _ from hgr); have HHC := Lib.hid (show One wr.drew gc c from hcr); have HHF := Lib.hid (show One wr.drew gf f from hfr); have HK := Lib.hid (show Kept2 g gc w wr.drew from ⟨hkr.os, hkr.tape, hkr.output, hkr.size, hkr.block⟩); have HBL := Lib.hid hblk; have HSTP := Lib.hid hst
      clear hgr hcr hfr hkr hyr eb hblk hst hz hxa hyb
      go_wp2
      go_region_with (first
        | (go_at_call 65; refine (HBL.out _ HSE.out).mono ?_; rintro e w' ⟨rfl, rfl⟩)
        | (go_at_call 54; refine (HSTP.out _ HHC.out HHF.out).mono ?_; rintro e w' ⟨rfl, ho, hgw⟩; have HO := Lib.hid ho; have HGW := Lib.hid hgw; have HCG := Lib.hid (HHG.out.grown hgw (by simpa using h1)); have hcell2 := hcell; rw [show wr.cell? ⟨g, pre.length + k, none⟩ = wr.drew.cell? ⟨g, pre.length + k, none⟩ from rfl, HHG.out.cell, ← HCG.out.cell] at hcell2; have hfree2 := HCG.out.free (pre.length + k); clear ho hgw))
      all_goals
        have hnew := (HCG.out.set (pre.length + k) (.int .u64 (q.2 : Int)))
        rw [HST.out q.2] at hnew
        have hend : Cells (w'.setCell ⟨g, pre.length + k, none⟩ (.int .u64 (q.2 : Int))) g (pre ++ uv ((comb (subT f) xs ys c0 (k + 1)).1 ++ xs.drop (k + 1)) ++ post) := by rw [HS.out]; exact hnew
        have hone : One (w'.setCell ⟨g, pre.length + k, none⟩ (.int .u64 (q.2 : Int))) gc (comb (subT f) xs ys c0 (k + 1)).2 := by
          rw [HS.out]
          exact (Below.heap_setCell _ _ _ _ (fun e => h1 e.symm)).trans HO.out
        have hkept : Kept2 g gc w (w'.setCell ⟨g, pre.length + k, none⟩ (.int .u64 (q.2 : Int))) := (HK.out.right HGW.out).left (grown_setCell _ _ _)
        have HEND := Lib.hid hend; have HONE := Lib.hid hone; have HKEPT := Lib.hid hkept
        clear hnew hend hone hkept hcell hcell2 hfree2
        go_wp2
        go_roundw
        case rel => exact ⟨k + 1, by go_num, by omega, HEND.out, HONE.out, HKEPT.out⟩
        case measure => simp [intOf]; omega
    · have e : k = xs.length := by omega
      subst e
      rw [List.drop_length, List.append_nil] at hgr
      have HHG := Lib.hid hgr; have HHC := Lib.hid hcr; have HK := Lib.hid hkr
      clear hgr hcr hkr
      go_wp2
      go_end0
      exact ⟨rfl, HHG.out, HHC.out, HK.out⟩

set_option maxHeartbeats 400000 in
theorem subTimes_any (f g cap : Nat) (pre post : List Value) (xs ys : List Nat) (vy : Value) (w : World)
    (hf : f ≤ 1000000000) (hx : ∀ x ∈ xs, x < 1000000000) (hy : ∀ y ∈ ys, y < 1000000000)
    (hn : xs.length ≤ 1000000) (hp : pre.length ≤ 1000000) (hm : ys.length ≤ 1000000) (hcap : cap ≤ maxLen)
    (hg : Cells w g (pre ++ uv xs ++ post)) (hB : Blks 0 w vy ys) (h4 : vy.ownBlock ≠ some g) :
    Calls Tryd.prog 42 #[.slice (some ⟨g, pre.length, none⟩) xs.length cap, vy, .int .u64 f] w
      (TimesPost (comb (subT f) xs ys 0 xs.length) pre post g w) := by
  have hlt := hg.lt
  have hc := subComb f 0 g (w.heap.size + 1) w.heap.size cap pre post xs ys vy ((w.alloc (.cells #[.int .u64 (f : Int)] 22)).alloc (.cells #[.int .u64 0] 22)) hf (by omega) hx hy hn hp hm hcap
    (hg.grown (grown_trans (World.grownBy_alloc _ _ none) (World.grownBy_alloc _ _ none)) (by simp))
    (by have := heap_alloc_new (w.alloc (.cells #[.int .u64 (f : Int)] 22)) (.cells #[.int .u64 0] 22); rw [World.size_alloc] at this; exact this)
    ((heap_alloc_old (w.alloc (.cells #[.int .u64 (f : Int)] 22)) (.cells #[.int .u64 0] 22) (by simp)).trans (heap_alloc_new _ _))
    (hB.grown (grown_trans (World.grownBy_alloc _ _ none) (World.grownBy_alloc _ _ none)) (by simp))
    (by omega) (by omega) (by omega) (fun b hb => ⟨fun e => h4 (by rw [hb, e]), by have := (hB.lt b hb).2; omega⟩)
  have HC := Lib.hid hc
  clear hc hg hB h4 hx hy
  unfold maxLen at hcap
  have hmf : ∀ (fn : Fn) (first cap : Array Value) (w : World), (Instr.makeFunc fn first cap).run Tryd.prog w = .ok (.func fn first cap) w := fun _ _ _ _ => rfl
  go_enter Tryd.func42, Tryd.ntmps42
  go_wp2_with fail
  refine HC.out.mono ?_
  rintro e w' ⟨rfl, hcells, hone, hk⟩
  have hc1 := cell_of_one hone
  have hc2 := free_of_one hone
  have HCE := Lib.hid hcells; have HO := Lib.hid hone; have HK := Lib.hid hk
  clear hcells hone hk HC
  generalize comb (subT f) xs ys 0 xs.length = q at *
  go_wp2
  have hc3 := cell_of_one (one_setCell (u := .int .u64 (q.2 : Int)) HO.out)
  refine bodyPost_ret (v := .int .u64 (q.2 : Int)) (by simp [results, Tryd.results42, go_sem, hc3]) rfl ⟨rfl, ?_, ?_⟩
  · exact (Below.heap_setCell _ _ _ _ (by simp; omega)).trans HCE.out
  · have hk := HK.out
    refine ⟨hk.os, hk.tape, hk.output, ?_, fun i hi hne => ?_⟩
    · have := hk.size; simp [World.setCell] at this ⊢; omega
    · rw [Below.heap_setCell _ _ _ _ (by simp; omega), hk.block i (by simp; omega) (by simpa using hne) (by omega)]
      exact (heap_alloc_old _ _ (by simp; omega)).trans (heap_alloc_old _ _ hi)
end Go.Proofs.YtlkjfhidicgjiaaDoor
