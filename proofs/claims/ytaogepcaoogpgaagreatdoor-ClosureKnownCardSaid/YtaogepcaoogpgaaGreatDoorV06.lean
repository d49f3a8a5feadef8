/- U85 U86 -/
import Derived.Test.YtaogepcaoogpgaaGreatDoorV02
import Derived.Test.YtaogepcaoogpgaaGreatDoorV05
import Derived.BigQuiet
import Derived.Laws.ResultCell
set_option linter.unusedVariables false
set_option linter.unusedSimpArgs false
namespace Go.Proofs.YtaogepcaoogpgaaGreatDoor
open Go.RowKit
def topN (xs : List Nat) (i : Int) : Nat := blkAt xs (i - 1) * 1000000000 + blkAt xs (i - 2)
theorem blkAt_lt {xs : List Nat} (hx : ∀ x ∈ xs, x < 1000000000) (i : Int) : blkAt xs i < 1000000000 := by
 unfold blkAt
 split
 ·decide
 ·exact getD_mem_lt 1000000000 (by decide) xs hx _
theorem topN_lt {xs : List Nat} (hx : ∀ x ∈ xs, x < 1000000000) (i : Int) : topN xs i < 1000000000000000000 := by
 unfold topN
 have h1 := blkAt_lt hx (i - 1)
 have h2 := blkAt_lt hx (i - 2)
 omega
set_option maxRecDepth 20000 in
theorem top_any (w : World) (v : Value) (xs : List Nat) (i : Int) (h : Sees w v xs) (hx : ∀ x ∈ xs, x < 1000000000) (hn : xs.length ≤ 10000) (hi : 0 ≤ i) (hi2 : i ≤ 10000) :
  Calls Tryz.prog 275 #[v, .int .i64 i] w fun e w' => e = .returned (.int .u64 (topN xs i : Nat)) ∧ w = w' := by
 have b1 := block_any w v xs (i - 1) h (by omega) (by omega) (by omega)
 have b2 := block_any w v xs (i - 2) h (by omega) (by omega) (by omega)
 have l1 := blkAt_lt hx (i - 1)
 have l2 := blkAt_lt hx (i - 2)
 have hT : topN xs i = blkAt xs (i - 1) * 1000000000 + blkAt xs (i - 2) := rfl
 generalize blkAt xs (i - 1) = p at *
 generalize blkAt xs (i - 2) = q at *
 have n1 : IntKind.i64.wrap (i - 1) = i - 1 := by rw [IntKind.wrap_i64]; omega
 have n2 : IntKind.i64.wrap (i - 2) = i - 2 := by rw [IntKind.wrap_i64]; omega
 obtain ⟨t, ht⟩ : ∃ t, p * 1000000000 = t := ⟨_, rfl⟩
 obtain ⟨T, hTT⟩ : ∃ T, topN xs i = T := ⟨_, rfl⟩
 rw [hTT]
 have n3 : IntKind.u64.wrap ((p : Int) * 1000000000) = (t : Int) := by rw [IntKind.wrap_u64]; omega
 have n4 : IntKind.u64.wrap ((t : Int) + (q : Int)) = (T : Int) := by rw [IntKind.wrap_u64]; omega
 clear hTT ht l1 l2
 have B1 := Lib.hid b1; have B2 := Lib.hid b2
 clear b1 b2 h hT
 go_enter Tryz.func275, Tryz.ntmps275
 go_wp2_with fail
 refine B1.out.mono ?_
 rintro e w' ⟨rfl, rfl⟩
 go_wp2_with fail
 refine B2.out.mono ?_
 rintro e w' ⟨rfl, rfl⟩
 go_wp2
 go_ret
 exact ⟨rfl, rfl⟩
def stV (a b c d : Nat) (sw : Bool) : Array Value := #[.int .u64 (a : Int), .int .u64 (b : Int), .int .u64 (c : Int), .int .u64 (d : Int), .bool sw]
def StepAt (w : World) (g a b c d : Nat) (sw : Bool) : Prop := w.heap[g]? = some (.cells (stV a b c d sw) 241 (0, 0))
structure StepCells (w : World) (g a b c d : Nat) (sw : Bool) : Prop where
 c0 : w.cell? ⟨g, 0, none⟩ = some (.int .u64 (a : Int))
 c1 : w.cell? ⟨g, 1, none⟩ = some (.int .u64 (b : Int))
 c2 : w.cell? ⟨g, 2, none⟩ = some (.int .u64 (c : Int))
 c3 : w.cell? ⟨g, 3, none⟩ = some (.int .u64 (d : Int))
 c4 : w.cell? ⟨g, 4, none⟩ = some (.bool sw)
 f0 : w.frozen? ⟨g, 0, none⟩ = false
 f1 : w.frozen? ⟨g, 1, none⟩ = false
 f2 : w.frozen? ⟨g, 2, none⟩ = false
 f3 : w.frozen? ⟨g, 3, none⟩ = false
 f4 : w.frozen? ⟨g, 4, none⟩ = false
theorem StepAt.cells {w : World} {g a b c d : Nat} {sw : Bool} (h : StepAt w g a b c d sw) : StepCells w g a b c d sw :=
 ⟨by rw [cell_of_row w g 0 _ _ (0, 0) h]; rfl, by rw [cell_of_row w g 1 _ _ (0, 0) h]; rfl, by rw [cell_of_row w g 2 _ _ (0, 0) h]; rfl, by rw [cell_of_row w g 3 _ _ (0, 0) h]; rfl, by rw [cell_of_row w g 4 _ _ (0, 0) h]; rfl,
  frozen_of_row w g 0 _ _ h, frozen_of_row w g 1 _ _ h, frozen_of_row w g 2 _ _ h, frozen_of_row w g 3 _ _ h, frozen_of_row w g 4 _ _ h⟩
theorem StepAt.drewN {w : World} {g a b c d : Nat} {sw : Bool} (h : StepAt w g a b c d sw) (n : Nat) : StepAt (w.drewN n) g a b c d sw := h
theorem StepAt.set0 {w : World} {g a b c d : Nat} {sw : Bool} (h : StepAt w g a b c d sw) (n : Nat) : StepAt (w.setCell ⟨g, 0, none⟩ (.int .u64 (n : Int))) g n b c d sw := heap_setCell_same w g 0 _ _ _ h
theorem StepAt.set1 {w : World} {g a b c d : Nat} {sw : Bool} (h : StepAt w g a b c d sw) (n : Nat) : StepAt (w.setCell ⟨g, 1, none⟩ (.int .u64 (n : Int))) g a n c d sw := heap_setCell_same w g 1 _ _ _ h
theorem StepAt.set2 {w : World} {g a b c d : Nat} {sw : Bool} (h : StepAt w g a b c d sw) (n : Nat) : StepAt (w.setCell ⟨g, 2, none⟩ (.int .u64 (n : Int))) g a b n d sw := heap_setCell_same w g 2 _ _ _ h
theorem StepAt.set3 {w : World} {g a b c d : Nat} {sw : Bool} (h : StepAt w g a b c d sw) (n : Nat) : StepAt (w.setCell ⟨g, 3, none⟩ (.int .u64 (n : Int))) g a b c n sw := heap_setCell_same w g 3 _ _ _ h
theorem StepAt.set4 {w : World} {g a b c d : Nat} {sw : Bool} (h : StepAt w g a b c d sw) (n : Bool) : StepAt (w.setCell ⟨g, 4, none⟩ (.bool n)) g a b c d n := heap_setCell_same w g 4 _ _ _ h
theorem grown_store5 {w wr w' : World} {u0 u1 u2 u3 u4 : Value} (h : w.grownBy wr none) (k : wr.grownBy w' none) :
  w.grownBy (((((w'.setCell ⟨w.heap.size, 0, none⟩ u0).setCell ⟨w.heap.size, 1, none⟩ u1).setCell ⟨w.heap.size, 2, none⟩ u2).setCell ⟨w.heap.size, 3, none⟩ u3).setCell ⟨w.heap.size, 4, none⟩ u4) none :=
 grown_step (grown_step (grown_step (grown_step (grown_step (grown_trans h k) (grown_setCell _ _ _) (Nat.le_refl _)) (grown_setCell _ _ _) (Nat.le_refl _)) (grown_setCell _ _ _) (Nat.le_refl _)) (grown_setCell _ _ _) (Nat.le_refl _)) (grown_setCell _ _ _) (Nat.le_refl _)
def ForePost (hx hy : Nat) (w : World) (e : Ending) (w' : World) : Prop :=
 ∃ x y a b c d ee f sw, e = .returned (.agg (stV a b c d sw)) ∧ Fore hx hy x y a b c d ee f sw ∧ w.grownBy w' none
set_option maxRecDepth 20000 in
set_option maxHeartbeats 4000000 in
theorem foresee_any (hx hy : Nat) (w : World) (h1 : hx < 1000000000000000000) (h2 : hy < 1000000000000000000) :
  Calls Tryz.prog 287 #[.int .u64 (hx : Int), .int .u64 (hy : Int)] w (ForePost hx hy w) := by
 have h1' := Lib.hid (And.intro h1 h2)
 have H18 := h1
 clear h1 h2
 go_enter Tryz.func287, Tryz.ntmps287
 go_wp2
 go_wp2
 go_wp2
 go_loopw [0, 1, 5, 6] (fun xv yv ev fv wr => ∃ (x y a b c d ee f : Nat) (sw : Bool), xv = .int .u64 (x : Int) ∧ yv = .int .u64 (y : Int) ∧ ev = .int .u64 (ee : Int) ∧ fv = .int .u64 (f : Int) ∧ Fore hx hy x y a b c d ee f sw ∧ StepAt wr w.heap.size a b c d sw ∧ w.grownBy wr none ∧ y < 1000000000000000000) (fun _ yv _ _ _ => (intOf yv).toNat)
 case atStart =>
  refine ⟨hx, hy, 0, 1, 0, 0, 0, 1, true, rfl, rfl, rfl, rfl, fore_start hx hy, ?_, ?_, h1'.out.2⟩
  ·show (w.heap.push _)[w.heap.size]? = _
   rw [Array.getElem?_push_size]; rfl
  ·exact World.grownBy_alloc _ _ _
 case round =>
  obtain ⟨x, y, a, b, c, d, ee, f, sw, rfl, rfl, rfl, rfl, hf, hst, hg, hyx⟩ := hrel
  obtain ⟨k0, k1, k2, k3, k4, z0, z1, z2, z3, z4⟩ := hst.cells
  have hfh := hf.fh
  have hdl := hf.dl
  by_cases t1 : f ≤ y
  ·have hy0 : ¬ (y : Int) = 0 := by have := hf.f1; omega
   obtain ⟨s1, hs1⟩ : ∃ s1, y + d = s1 := ⟨_, rfl⟩
   obtain ⟨s2, hs2⟩ : ∃ s2, s1 + f = s2 := ⟨_, rfl⟩
   have n1 : IntKind.u64.wrap ((y : Int) + (d : Int)) = (s1 : Int) := by rw [IntKind.wrap_u64]; omega
   have n2 : IntKind.u64.wrap ((s1 : Int) + (f : Int)) = (s2 : Int) := by rw [IntKind.wrap_u64]; omega
   have b1 : decide ((f : Int) ≤ (y : Int)) = true := by simpa using t1
   have b1n : decide (f ≤ y) = true := by simpa using t1
   have HF := Lib.hid hf; have HST := Lib.hid hst; have HG := Lib.hid hg; have HS := Lib.hid (And.intro hs1 hs2); have HR := Lib.hid (And.intro hfh (And.intro hdl (And.intro hyx t1)))
   clear hf hst hg hs1 hs2 hfh hdl hyx t1
   by_cases t2 : s2 ≤ x
   ·have b2 : decide (s2 ≤ x) = true := by simpa using t2
    have b3 : decide ((s2 : Int) ≤ (x : Int)) = true := by simpa using t2
    obtain ⟨hs1, hs2⟩ := HS.out
    obtain ⟨hfh, hdl, hyx, t1⟩ := HR.out
    obtain ⟨hstep, hlt, hfb⟩ := HF.out.step H18 t1 (by omega)
    have hq1 := hstep.fh
    have hef := hstep.ef
    obtain ⟨q, hq⟩ : ∃ q, x / y = q := ⟨_, rfl⟩
    obtain ⟨r, hr⟩ : ∃ r, x % y = r := ⟨_, rfl⟩
    rw [hq, hr] at hstep
    rw [hq] at hq1 hef
    rw [hr] at hlt
    have hxx := HF.out.whole
    have m0 : IntKind.u64.wrap ((x : Int) / (y : Int)) = (q : Int) := by
     have hqx : q ≤ x := by rw [← hq]; exact Nat.div_le_self x y
     have hx18 : x ≤ hx := by
      have h1 := Nat.mul_le_mul_right x HF.out.f1
      omega
     rw [← Int.natCast_ediv, hq, IntKind.wrap_u64]
     omega
    have m1 : IntKind.u64.wrap ((x : Int) % (y : Int)) = (r : Int) := by
     rw [← Int.natCast_emod, hr, IntKind.wrap_u64]
     omega
    obtain ⟨p1, hp1⟩ : ∃ p1, q * ee = p1 := ⟨_, rfl⟩
    obtain ⟨p2, hp2⟩ : ∃ p2, b + p1 = p2 := ⟨_, rfl⟩
    obtain ⟨p3, hp3⟩ : ∃ p3, q * f = p3 := ⟨_, rfl⟩
    obtain ⟨p4, hp4⟩ : ∃ p4, d + p3 = p4 := ⟨_, rfl⟩
    rw [hp3, hp4] at hq1
    rw [hp1, hp2, hp3, hp4] at hef hstep
    have m2 : IntKind.u64.wrap ((q : Int) * (ee : Int)) = (p1 : Int) := by rw [← Int.natCast_mul, hp1, IntKind.wrap_u64]; omega
    have m3 : IntKind.u64.wrap ((b : Int) + (p1 : Int)) = (p2 : Int) := by rw [IntKind.wrap_u64]; omega
    have m4 : IntKind.u64.wrap ((q : Int) * (f : Int)) = (p3 : Int) := by rw [← Int.natCast_mul, hp3, IntKind.wrap_u64]; omega
    have m5 : IntKind.u64.wrap ((d : Int) + (p3 : Int)) = (p4 : Int) := by rw [IntKind.wrap_u64]; omega
    have HSt := Lib.hid (And.intro hstep hlt)
    have HQ := Lib.hid (And.intro hq hr)
    clear t2 hs1 hs2 hfh hdl hyx t1 hstep hlt hfb hq1 hef hq hr hxx hp1 hp2 hp3 hp4
    go_wp2
    go_quiet (fail)
    go_wp2
    have e1 : ((x : Int) % (y : Int)) = (r : Int) := by rw [← Int.natCast_emod, HQ.out.2]
    obtain ⟨hst2, hlt2⟩ := HSt.out
    have hr18 : r < 1000000000000000000 := by have := HR.out.2.2.1; omega
    refine ⟨⟨y, r, b, ee, d, f, p2, p4, !sw, rfl, by rw [e1], rfl, rfl, hst2, ?_, ?_, hr18⟩, by rw [e1]; simpa [intOf] using hlt2⟩
    ·exact (((((StepAt.drewN HST.out _).set0 b).set1 ee).set2 d).set3 f).set4 (!sw)
    ·exact grown_store5 HG.out (grown_drewN wr none _)
   ·have b2 : decide (s2 ≤ x) = false := by simpa using t2
    have b3 : decide ((s2 : Int) ≤ (x : Int)) = false := by simpa using t2
    clear t2
    go_wp2
    refine bodyPost_ret (v := .agg (stV a b c d sw)) ?_ rfl ⟨x, y, a, b, c, d, ee, f, sw, rfl, HF.out, ?_⟩
    ·simp [results, Tryz.results287, go_sem, k0, k1, k2, k3, k4, stV]
    ·exact grown_store5 HG.out (grown_refl wr none)
  ·have b1 : decide ((f : Int) ≤ (y : Int)) = false := by simpa using t1
   have b1n : decide (f ≤ y) = false := by simpa using t1
   have HF := Lib.hid hf; have HST := Lib.hid hst; have HG := Lib.hid hg
   clear hf hst hg hfh hdl hyx t1
   go_wp2
   refine bodyPost_ret (v := .agg (stV a b c d sw)) ?_ rfl ⟨x, y, a, b, c, d, ee, f, sw, rfl, HF.out, ?_⟩
   ·simp [results, Tryz.results287, go_sem, k0, k1, k2, k3, k4, stV]
   ·exact grown_store5 HG.out (grown_refl wr none)
open Go.RowKit
def DifPost (R n : Nat) (w : World) (e : Ending) (w' : World) : Prop :=
 ∃ g zs, e = .returned (.slice (some ⟨g, 0, none⟩) zs.length n) ∧ Blks w.heap.size w' (.slice (some ⟨g, 0, none⟩) zs.length n) zs ∧
  (∀ z ∈ zs, z < 1000000000) ∧ vl 1000000000 zs = R ∧ topOk zs ∧ zs.length ≤ n ∧ w.grownBy w' none
structure DifRow (f g : Nat) (xs ys : List Nat) (n k : Nat) (w wr : World) : Prop where
 row : Cells wr w.heap.size (uv ((dif f g xs ys k).1 ++ List.replicate (n - k) 0))
 gr : w.grownBy wr none
theorem DifRow.put {f g : Nat} {xs ys : List Nat} {n k : Nat} {w wr : World} (h : DifRow f g xs ys n k w wr) (hk : k < n) (hl : (dif f g xs ys k).1.length = k) {z : Nat} (hz : (dif f g xs ys (k + 1)).1 = (dif f g xs ys k).1 ++ [z]) :
  DifRow f g xs ys n (k + 1) w (wr.setCell ⟨w.heap.size, k, none⟩ (.int .u64 (z : Int))) := by
 refine ⟨?_, grown_step h.gr (grown_setCell _ _ _) (Nat.le_refl _)⟩
 have h1 := h.row.set k (.int .u64 (z : Int))
 rw [uv_set] at h1
 have e : ((dif f g xs ys k).1 ++ List.replicate (n - k) 0).set k z = (dif f g xs ys (k + 1)).1 ++ List.replicate (n - (k + 1)) 0 := by
  rw [hz, List.set_append_right _ _ (by omega), hl, Nat.sub_self, show n - k = (n - (k + 1)) + 1 by omega, List.replicate_succ, List.set_cons_zero, List.append_assoc]
  rfl
 rw [e] at h1
 exact h1
set_option maxRecDepth 20000 in
set_option maxHeartbeats 4000000 in
theorem difference_any (f g n R : Nat) (A1 A2 : Option Addr) (c1 c2 : Nat) (xs ys : List Nat) (w : World) (hsx : ∀ w1, w.grownBy w1 none → Sees w1 (.slice A1 xs.length c1) xs) (hsy : ∀ w1, w.grownBy w1 none → Sees w1 (.slice A2 ys.length c2) ys)
  (hf : f ≤ 1000000000) (hg : g ≤ 1000000000) (hx : ∀ x ∈ xs, x < 1000000000) (hy : ∀ y ∈ ys, y < 1000000000) (hm : max xs.length ys.length = n) (hn : n ≤ 10000)
  (hR : R + g * vl 1000000000 ys = f * vl 1000000000 xs) (hlt : R < 1000000000 ^ n) :
  Calls Tryz.prog 288 #[.slice A1 xs.length c1, .int .u64 (f : Int), .slice A2 ys.length c2, .int .u64 (g : Int)] w (DifPost R n w) := by
 obtain ⟨i0, hi, hz0, hz1, hz2⟩ := info_parts info_u64
 have hend := dif_end (n := n) hf hg hx hy (by omega) (by omega) hR hlt
 have hb1 := fun (w1 : World) (k : Nat) (hk : k < n) (h : w.grownBy w1 none) => block_any w1 _ xs (k : Int) (hsx w1 h) (by omega) (by omega) (by omega)
 have hb2 := fun (w1 : World) (k : Nat) (hk : k < n) (h : w.grownBy w1 none) => block_any w1 _ ys (k : Int) (hsy w1 h) (by omega) (by omega) (by omega)
 have hd := dif_is hf hg hx hy
 have hrange := fun k => difS_range hf hg hx hy k (hd k).lo (hd k).hi
 have HE := Lib.hid hend; have HB1 := Lib.hid hb1; have HB2 := Lib.hid hb2; have HD := Lib.hid hd; have HR := Lib.hid hrange; have HM := Lib.hid hm; have HN := Lib.hid hn; have HF := Lib.hid (And.intro hf hg)
 clear hend hb1 hb2 hd hrange hsx hsy hx hy hR hlt hm hn hf hg
 rcases Nat.lt_or_ge xs.length ys.length with hxy | hxy
 all_goals
  go_enter Tryz.func288, Tryz.ntmps288
  go_wp2_with (at_make; refine wpList_make_full _ rfl _ _ 209 rfl w.heap.size 181 i0 (.int .u64 0) 1 Tryz.underlying209 hi hz0 hz1 _ _ _ _ n rfl rfl ?c0 ?c1 ?c2 (by have := HN.out; unfold maxLen; omega) (Nat.le_refl _) ?_)
  case c0 => have := HM.out; omega
  case c1 => have := HM.out; omega
  case c2 => have := HN.out; first | omega | (rw [hz2]; omega)
  intro w1 hown hgr
  rw [uv_replicate] at hown
  have hc0 := (Cells.of_full hown).1
  have HG := Lib.hid hgr; have HC0 := Lib.hid hc0
  clear hown hgr hc0
  go_wp2
  go_loopw [10, 21] (fun cv iv wr => ∃ k : Nat, cv = .int .i64 (dif f g xs ys k).2 ∧ iv = .int .i64 (k : Int) ∧ k ≤ n ∧ DifRow f g xs ys n k w wr) (fun _ iv _ => n - (intOf iv).toNat)
  case atStart => exact ⟨0, rfl, rfl, Nat.zero_le _, ⟨by simpa [dif] using HC0.out, HG.out⟩⟩
  case round =>
   obtain ⟨k, rfl, rfl, hk, hrow⟩ := hrel
   by_cases hkn : k < n
   ·have t1 : decide (k < n) = true := by simpa using hkn
    have t1' : decide ((k : Int) < (n : Int)) = true := by simpa using hkn
    obtain ⟨r1, r2, r3, r4⟩ := HR.out k
    have hb1 := HB1.out wr k hkn hrow.gr
    have hb2 := HB2.out wr k hkn hrow.gr
    have ea : blkAt xs (k : Int) = xs.getD k 0 := by unfold blkAt; rw [if_neg (by omega)]; rfl
    have eb : blkAt ys (k : Int) = ys.getD k 0 := by unfold blkAt; rw [if_neg (by omega)]; rfl
    rw [ea] at hb1
    rw [eb] at hb2
    have hS : difS f g xs ys k (dif f g xs ys k).2 = (dif f g xs ys k).2 + (((f * xs.getD k 0 : Nat) : Int) - ((g * ys.getD k 0 : Nat) : Int)) := rfl
    have hnext : (dif f g xs ys (k + 1)).1 = (dif f g xs ys k).1 ++ [(difS f g xs ys k (dif f g xs ys k).2 % 1000000000).toNat] := rfl
    have hnext2 : (dif f g xs ys (k + 1)).2 = difS f g xs ys k (dif f g xs ys k).2 / 1000000000 := rfl
    have hlow := low_cases (difS f g xs ys k (dif f g xs ys k).2)
    have hlen := (HD.out k).len
    have hlo := (HD.out k).lo
    have hhi := (HD.out k).hi
    have hm0 := Int.emod_nonneg (difS f g xs ys k (dif f g xs ys k).2) (show (1000000000 : Int) ≠ 0 by decide)
    have hm1 := Int.emod_lt_of_pos (difS f g xs ys k (dif f g xs ys k).2) (show (0 : Int) < 1000000000 by decide)
    generalize difS f g xs ys k (dif f g xs ys k).2 = S at *
    obtain ⟨c, hc⟩ : ∃ c, (dif f g xs ys k).2 = c := ⟨_, rfl⟩
    rw [hc] at hS hlo hhi ⊢
    generalize xs.getD k 0 = x at *
    generalize ys.getD k 0 = y at *
    obtain ⟨p, hp⟩ : ∃ p, f * x = p := ⟨_, rfl⟩
    obtain ⟨q, hq⟩ : ∃ q, g * y = q := ⟨_, rfl⟩
    rw [hp] at r1 hS
    rw [hq] at r2 hS
    have n1 : IntKind.u64.wrap ((f : Int) * (x : Int)) = (p : Int) := by rw [← Int.natCast_mul, hp, IntKind.wrap_u64]; omega
    have n2 : IntKind.u64.wrap ((g : Int) * (y : Int)) = (q : Int) := by rw [← Int.natCast_mul, hq, IntKind.wrap_u64]; omega
    have n3 : IntKind.i64.wrap (p : Int) = (p : Int) := by rw [IntKind.wrap_i64]; omega
    have n4 : IntKind.i64.wrap (q : Int) = (q : Int) := by rw [IntKind.wrap_i64]; omega
    obtain ⟨u, hu⟩ : ∃ u : Int, (p : Int) - (q : Int) = u := ⟨_, rfl⟩
    have n5 : IntKind.i64.wrap ((p : Int) - (q : Int)) = u := by rw [IntKind.wrap_i64]; omega
    have n6 : IntKind.i64.wrap (c + u) = S := by rw [IntKind.wrap_i64]; omega
    have n7 : IntKind.i64.wrap ((k : Int) + 1) = ((k + 1 : Nat) : Int) := by have := HN.out; rw [IntKind.wrap_i64]; omega
    have hik : (k : Int) < (n : Int) := by omega
    have hfree := hrow.row.free k
    have hcell : wr.cell? ⟨w.heap.size, k, none⟩ = some (.int .u64 0) := by
     rw [hrow.row.cell, uv_append, List.getElem?_append_right (by rw [uv_length]; omega), uv_length, hlen, Nat.sub_self, show n - k = (n - (k + 1)) + 1 by omega]
     rfl
    have HROW := Lib.hid hrow; have HX := Lib.hid (And.intro hlow (And.intro hlen (And.intro hm0 hm1))); have HNX := Lib.hid (And.intro hnext hnext2); have HS := Lib.hid (And.intro r3 (And.intro r4 (And.intro hkn hk)))
    clear hrow hnext hnext2 hlen hm0 hm1 r1 r2 r3 r4 hS hlo hhi hp hq hu ea eb hkn hk hc
    rcases hlow with ⟨l1, l2, l3⟩ | ⟨l1, l2, l3⟩
    ·obtain ⟨L, hL⟩ : ∃ L, Int.tmod S 1000000000 = L := ⟨_, rfl⟩
     obtain ⟨Q, hQ⟩ : ∃ Q, Int.tdiv S 1000000000 = Q := ⟨_, rfl⟩
     obtain ⟨r3, r4, hkn, hk⟩ := HS.out
     obtain ⟨_, hlen, hm0, hm1⟩ := HX.out
     rw [hL] at l1 l2
     rw [hQ] at l3
     obtain ⟨z, hz⟩ : ∃ z : Nat, S % 1000000000 = (z : Int) := ⟨(S % 1000000000).toNat, (Int.toNat_of_nonneg hm0).symm⟩
     have m1 : IntKind.i64.wrap (Int.tmod S 1000000000) = L := by rw [hL, IntKind.wrap_i64]; omega
     have m2 : IntKind.i64.wrap (Int.tdiv S 1000000000) = Q := by rw [hQ, IntKind.wrap_i64]; omega
     have m3 : IntKind.i64.wrap (L + 1000000000) = (z : Int) := by rw [IntKind.wrap_i64]; omega
     have m4 : IntKind.i64.wrap (Q - 1) = S / 1000000000 := by rw [IntKind.wrap_i64]; omega
     have m5 : IntKind.u64.wrap (z : Int) = (z : Int) := by rw [IntKind.wrap_u64]; omega
     have t2 : decide (L < 0) = true := by simpa using l1
     have t2' : decide (S.tmod 1000000000 < 0) = true := by rw [hL]; exact t2
     have HZ := Lib.hid hz
     clear r3 r4 hkn hk hlen hm0 hm1 l1 l2 l3 hL hQ hz
     go_wp2_with fail
     refine hb1.mono ?_
     rintro e w' ⟨rfl, rfl⟩
     go_wp2_with fail
     refine hb2.mono ?_
     rintro e w' ⟨rfl, rfl⟩
     clear hb1 hb2
     go_wp2
     have ez : S.tmod 1000000000 + 1000000000 = (z : Int) := by have := HX.out.1; have := HZ.out; have := of_decide_eq_true t2'; omega
     obtain ⟨_, _, hkn, hk⟩ := HS.out
     refine ⟨⟨k + 1, by rw [HNX.out.2], rfl, hkn, ?_⟩, by simp [intOf]; omega⟩
     rw [ez]
     exact HROW.out.put hkn (HX.out.2.1) (by rw [HNX.out.1, HZ.out]; rfl)
    ·obtain ⟨L, hL⟩ : ∃ L, Int.tmod S 1000000000 = L := ⟨_, rfl⟩
     obtain ⟨Q, hQ⟩ : ∃ Q, Int.tdiv S 1000000000 = Q := ⟨_, rfl⟩
     obtain ⟨r3, r4, hkn, hk⟩ := HS.out
     obtain ⟨_, hlen, hm0, hm1⟩ := HX.out
     rw [hL] at l1 l2
     rw [hQ] at l3
     obtain ⟨z, hz⟩ : ∃ z : Nat, S % 1000000000 = (z : Int) := ⟨(S % 1000000000).toNat, (Int.toNat_of_nonneg hm0).symm⟩
     have m1 : IntKind.i64.wrap (Int.tmod S 1000000000) = L := by rw [hL, IntKind.wrap_i64]; omega
     have m2 : IntKind.i64.wrap (Int.tdiv S 1000000000) = Q := by rw [hQ, IntKind.wrap_i64]; omega
     have m5 : IntKind.u64.wrap L = L := by rw [IntKind.wrap_u64]; omega
     have t2 : decide (L < 0) = false := by simpa using l1
     have t2' : decide (S.tmod 1000000000 < 0) = false := by rw [hL]; exact t2
     have eQ : Q = S / 1000000000 := l3.symm
     have eL : L = (z : Int) := by omega
     have HZ := Lib.hid (And.intro hz (And.intro eQ (And.intro eL (And.intro hL hQ))))
     clear r3 r4 hkn hk hlen hm0 hm1 l1 l2 l3 hL hQ hz eQ eL
     go_wp2_with fail
     refine hb1.mono ?_
     rintro e w' ⟨rfl, rfl⟩
     go_wp2_with fail
     refine hb2.mono ?_
     rintro e w' ⟨rfl, rfl⟩
     clear hb1 hb2
     go_wp2
     obtain ⟨hz, eQ, eL, hL, hQ⟩ := HZ.out
     have ez : S.tmod 1000000000 = (z : Int) := by rw [hL, eL]
     have ez2 : IntKind.u64.wrap (S.tmod 1000000000) = (z : Int) := by rw [hL, m5, eL]
     obtain ⟨_, _, hkn, hk⟩ := HS.out
     refine ⟨⟨k + 1, by rw [HNX.out.2, eQ], rfl, hkn, ?_⟩, by simp [intOf]; omega⟩
     first | rw [ez2] | rw [ez]
     exact HROW.out.put hkn (HX.out.2.1) (by rw [HNX.out.1, hz]; rfl)
   ·obtain rfl : k = n := by omega
    have t1 : decide (k < k) = false := by simp
    have t1' : decide ((k : Int) < (k : Int)) = false := by simp
    have hc := hrow.row
    rw [Nat.sub_self, List.replicate_zero, List.append_nil] at hc
    have hlen := (HD.out k).len
    have hblk : Blks w.heap.size wr (.slice (some ⟨w.heap.size, 0, none⟩) (dif f g xs ys k).1.length k) (dif f g xs ys k).1 :=
     Blks.of_cells hc (Nat.le_refl _) (by rw [uv_length, hlen]) (by have := HN.out; unfold maxLen; omega) (by rw [List.take_of_length_le (by rw [uv_length]; exact Nat.le_refl _)]) (by omega)
    have htr := trim_any w.heap.size w.heap.size k (dif f g xs ys k).1 wr hblk (by have := HN.out; omega)
    rw [hlen] at htr
    have HROW := Lib.hid hrow; have HBLK := Lib.hid hblk; have HL := Lib.hid hlen; have HTR := Lib.hid htr
    clear hrow hblk hlen hc hk hkn htr
    go_wp2_with fail
    refine HTR.out.mono ?_
    rintro e w' ⟨m, hm, rfl, rfl, hv, ht⟩
    have HP := Lib.hid (And.intro hm (And.intro hv ht))
    clear hm hv ht
    go_wp2
    go_ret
    obtain ⟨hm, hv, ht⟩ := HP.out
    have hlen := HL.out
    have hl2 : ((dif f g xs ys k).1.take m).length = m := by rw [List.length_take]; omega
    refine ⟨w.heap.size, (dif f g xs ys k).1.take m, by rw [hl2]; rfl, ?_, fun z hz => (HD.out k).lt z (List.mem_of_mem_take hz), by rw [hv]; exact HE.out, ht, by rw [hl2, ← hlen]; exact hm, HROW.out.gr⟩
    have hc := HROW.out.row
    rw [Nat.sub_self, List.replicate_zero, List.append_nil] at hc
    exact Blks.of_cells hc (Nat.le_refl _) (by rw [uv_length, hlen]) (by have := HN.out; unfold maxLen; omega) (by rw [uv_take, hl2]) (by rw [hl2, ← hlen]; exact hm)
end Go.Proofs.YtaogepcaoogpgaaGreatDoor
