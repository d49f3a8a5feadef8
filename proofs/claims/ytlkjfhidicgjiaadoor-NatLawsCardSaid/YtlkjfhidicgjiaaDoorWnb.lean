/- top, foresee, difference. -/
import Derived.Test.YtlkjfhidicgjiaaDoorWna
import Derived.Test.YtlkjfhidicgjiaaDoorWm
import Derived.BigQuiet
import Derived.Laws.ResultCell
set_option linter.unusedVariables false
set_option linter.unusedSimpArgs false
namespace Go.Proofs.YtlkjfhidicgjiaaDoor
open Go.RowKit

/-- The two blocks below a place. -/
def topN (xs : List Nat) (i : Int) : Nat := blkAt xs (i - 1) * 1000000000 + blkAt xs (i - 2)
theorem blkAt_lt {xs : List Nat} (hx : ∀ x ∈ xs, x < 1000000000) (i : Int) : blkAt xs i < 1000000000 := by
  unfold blkAt
  split
  · decide
  · exact getD_mem_lt 1000000000 (by decide) xs hx _
theorem topN_lt {xs : List Nat} (hx : ∀ x ∈ xs, x < 1000000000) (i : Int) : topN xs i < 1000000000000000000 := by
  unfold topN
  have h1 := blkAt_lt hx (i - 1)
  have h2 := blkAt_lt hx (i - 2)
  omega
set_option maxRecDepth 20000 in
theorem top_any (w : World) (v : Value) (xs : List Nat) (i : Int) (h : Sees w v xs) (hx : ∀ x ∈ xs, x < 1000000000) (hn : xs.length ≤ 10000) (hi : 0 ≤ i) (hi2 : i ≤ 10000) :
    Calls Tryd.prog 58 #[v, .int .i64 i] w fun e w' => e = .returned (.int .u64 (topN xs i : Nat)) ∧ w = w' := by
  have b1 := block_any w v xs (i - 1) h (by omega) (by omega) (by omega)
  have b2 := block_any w v xs (i - 2) h (by omega) (by omega) (by omega)
  have l1 := blkAt_lt hx (i - 1)
  have l2 := blkAt_lt hx (i - 2)
  have hT : topN xs i = blkAt xs (i - 1) * 1000000000 + blkAt xs (i - 2) := rfl
  generalize blkAt xs (i - 1) = p at *
  generalize blkAt xs (i - 2) = q at *
  have n1 : IntKind.i64.wrap (i - 1) = i - 1 := by rw [IntKind.wrap_i64]; omega
  have n2 : IntKind.i64.wrap (i - 2) = i - 2 := by rw [IntKind.wrap_i64]; omega
  obtain ⟨t, ht⟩ : ∃ t, p * 1000000000 = t := ⟨_, rfl⟩
  obtain ⟨T, hTT⟩ : ∃ T, topN xs i = T := ⟨_, rfl⟩
  rw [hTT]
  have n3 : IntKind.u64.wrap ((p : Int) * 1000000000) = (t : Int) := by rw [IntKind.wrap_u64]; omega
  have n4 : IntKind.u64.wrap ((t : Int) + (q : Int)) = (T : Int) := by rw [IntKind.wrap_u64]; omega
  clear hTT ht l1 l2
  have B1 := Lib.hid b1; have B2 := Lib.hid b2
  clear b1 b2 h hT
  go_enter Tryd.func58, Tryd.ntmps58
  go_wp2_with fail
  refine B1.out.mono ?_
  rintro e w' ⟨rfl, rfl⟩
  go_wp2_with fail
  refine B2.out.mono ?_
  rintro e w' ⟨rfl, rfl⟩
  go_wp2
  go_ret
  exact ⟨rfl, rfl⟩

/-- The row of the steps. -/
def stV (a b c d : Nat) (sw : Bool) : Array Value := #[.int .u64 (a : Int), .int .u64 (b : Int), .int .u64 (c : Int), .int .u64 (d : Int), .bool sw]
def StepAt (w : World) (g a b c d : Nat) (sw : Bool) : Prop := w.heap[g]? = some (.cells (stV a b c d sw) 79 (0, 0))
structure StepCells (w : World) (g a b c d : Nat) (sw : Bool) : Prop where
  c0 : w.cell? ⟨g, 0, none⟩ = some (.int .u64 (a : Int))
  c1 : w.cell? ⟨g, 1, none⟩ = some (.int .u64 (b : Int))
  c2 : w.cell? ⟨g, 2, none⟩ = some (.int .u64 (c : Int))
  c3 : w.cell? ⟨g, 3, none⟩ = some (.int .u64 (d : Int))
  c4 : w.cell? ⟨g, 4, none⟩ = some (.bool sw)
  f0 : w.frozen? ⟨g, 0, none⟩ = false
  f1 : w.frozen? ⟨g, 1, none⟩ = false
  f2 : w.frozen? ⟨g, 2, none⟩ = false
  f3 : w.frozen? ⟨g, 3, none⟩ = false
  f4 : w.frozen? ⟨g, 4, none⟩ = false
theorem StepAt.cells {w : World} {g a b c d : Nat} {sw : Bool} (h : StepAt w g a b c d sw) : StepCells w g a b c d sw :=
  ⟨by rw [cell_of_row w g 0 _ _ (0, 0) h]; rfl, by rw [cell_of_row w g 1 _ _ (0, 0) h]; rfl, by rw [cell_of_row w g 2 _ _ (0, 0) h]; rfl, by rw [cell_of_row w g 3 _ _ (0, 0) h]; rfl, by rw [cell_of_row w g 4 _ _ (0, 0) h]; rfl,
   frozen_of_row w g 0 _ _ h, frozen_of_row w g 1 _ _ h, frozen_of_row w g 2 _ _ h, frozen_of_row w g 3 _ _ h, frozen_of_row w g 4 _ _ h⟩
theorem StepAt.drewN {w : World} {g a b c d : Nat} {sw : Bool} (h : StepAt w g a b c d sw) (n : Nat) : StepAt (w.drewN n) g a b c d sw := h
theorem StepAt.set0 {w : World} {g a b c d : Nat} {sw : Bool} (h : StepAt w g a b c d sw) (n : Nat) : StepAt (w.setCell ⟨g, 0, none⟩ (.int .u64 (n : Int))) g n b c d sw := heap_setCell_same w g 0 _ _ _ h
theorem StepAt.set1 {w : World} {g a b c d : Nat} {sw : Bool} (h : StepAt w g a b c d sw) (n : Nat) : StepAt (w.setCell ⟨g, 1, none⟩ (.int .u64 (n : Int))) g a n c d sw := heap_setCell_same w g 1 _ _ _ h
theorem StepAt.set2 {w : World} {g a b c d : Nat} {sw : Bool} (h : StepAt w g a b c d sw) (n : Nat) : StepAt (w.setCell ⟨g, 2, none⟩ (.int .u64 (n : Int))) g a b n d sw := heap_setCell_same w g 2 _ _ _ h
theorem StepAt.set3 {w : World} {g a b c d : Nat} {sw : Bool} (h : StepAt w g a b c d sw) (n : Nat) : StepAt (w.setCell ⟨g, 3, none⟩ (.int .u64 (n : Int))) g a b c n sw := heap_setCell_same w g 3 _ _ _ h
theorem StepAt.set4 {w : World} {g a b c d : Nat} {sw : Bool} (h : StepAt w g a b c d sw) (n : Bool) : StepAt (w.setCell ⟨g, 4, none⟩ (.bool n)) g a b c d n := heap_setCell_same w g 4 _ _ _ h

theorem grown_store5 {w wr w' : World} {u0 u1 u2 u3 u4 : Value} (h : w.grownBy wr none) (k : wr.grownBy w' none) :
    w.grownBy (((((w'.setCell ⟨w.heap.size, 0, none⟩ u0).setCell ⟨w.heap.size, 1, none⟩ u1).setCell ⟨w.heap.size, 2, none⟩ u2).setCell ⟨w.heap.size, 3, none⟩ u3).setCell ⟨w.heap.size, 4, none⟩ u4) none :=
  grown_step (grown_step (grown_step (grown_step (grown_step (grown_trans h k) (grown_setCell _ _ _) (Nat.le_refl _)) (grown_setCell _ _ _) (Nat.le_refl _)) (grown_setCell _ _ _) (Nat.le_refl _)) (grown_setCell _ _ _) (Nat.le_refl _)) (grown_setCell _ _ _) (Nat.le_refl _)
def ForePost (hx hy : Nat) (w : World) (e : Ending) (w' : World) : Prop :=
  ∃ x y a b c d ee f sw, e = .returned (.agg (stV a b c d sw)) ∧ Fore hx hy x y a b c d ee f sw ∧ w.grownBy w' none

set_option maxRecDepth 20000 in
set_option maxHeartbeats 4000000 in
theorem foresee_any (hx hy : Nat) (w : World) (h1 : hx < 1000000000000000000) (h2 : hy < 1000000000000000000) :
    Calls Tryd.prog 73 #[.int .u64 (hx : Int), .int .u64 (hy : Int)] w (ForePost hx hy w) := by
  have h1' := Lib.hid (And.intro h1 h2)
  have H18 := h1
  clear h1 h2
  go_enter Tryd.func73, Tryd.ntmps73
  go_wp2
  go_wp2
  go_wp2
  go_loopw [0, 1, 5, 6] (fun xv yv ev fv wr => ∃ (x y a b c d ee f : Nat) (sw : Bool), xv = .int .u64 (x : Int) ∧ yv = .int .u64 (y : Int) ∧ ev = .int .u64 (ee : Int) ∧ fv = .int .u64 (f : Int) ∧ Fore hx hy x y a b c d ee f sw ∧ StepAt wr w.heap.size a b c d sw ∧ w.grownBy wr none ∧ y < 1000000000000000000) (fun _ yv _ _ _ => (intOf yv).toNat)
  case atStart =>
    refine ⟨hx, hy, 0, 1, 0, 0, 0, 1, true, rfl, rfl, rfl, rfl, fore_start hx hy, ?_, ?_, h1'.out.2⟩
    · show (w.heap.push _)[w.heap.size]? = _
      rw [Array.getElem?_push_size]; rfl
    · exact World.grownBy_alloc _ _ _
  case round =>
    obtain ⟨x, y, a, b, c, d, ee, f, sw, rfl, rfl, rfl, rfl, hf, hst, hg, hyx⟩ := hrel
    obtain ⟨k0, k1, k2, k3, k4, z0, z1, z2, z3, z4⟩ := hst.cells
    have hfh := hf.fh
    have hdl := hf.dl
    by_cases t1 : f ≤ y
    · have hy0 : ¬ (y : Int) = 0 := by have := hf.f1; omega
      obtain ⟨s1, hs1⟩ : ∃ s1, y + d = s1 := ⟨_, rfl⟩
      obtain ⟨s2, hs2⟩ : ∃ s2, s1 + f = s2 := ⟨_, rfl⟩
      have n1 : IntKind.u64.wrap ((y : Int) + (d : Int)) = (s1 : Int) := by rw [IntKind.wrap_u64]; omega
      have n2 : IntKind.u64.wrap ((s1 : Int) + (f : Int)) = (s2 : Int) := by rw [IntKind.wrap_u64]; omega
      have b1 : decide ((f : Int) ≤ (y : Int)) = true := by simpa using t1
      have b1n : decide (f ≤ y) = true := by simpa using t1
      have HF := Lib.hid hf; have HST := Lib.hid hst; have HG := Lib.hid hg; have HS := Lib.hid (And.intro hs1 hs2); have HR := Lib.hid (And.intro hfh (And.intro hdl (And.intro hyx t1)))
      clear hf hst hg hs1 hs2 hfh hdl hyx t1
      by_cases t2 : s2 ≤ x
      · have b2 : decide (s2 ≤ x) = true := by simpa using t2
        have b3 : decide ((s2 : Int) ≤ (x : Int)) = true := by simpa using t2
        obtain ⟨hs1, hs2⟩ := HS.out
        obtain ⟨hfh, hdl, hyx, t1⟩ := HR.out
        obtain ⟨hstep, hlt, hfb⟩ := HF.out.step H18 t1 (by omega)
        have hq1 := hstep.fh
        have hef := hstep.ef
        obtain ⟨q, hq⟩ : ∃ q, x / y = q := ⟨_, rfl⟩
        obtain ⟨r, hr⟩ : ∃ r, x % y = r := ⟨_, rfl⟩
        rw [hq, hr] at hstep
        rw [hq] at hq1 hef
        rw [hr] at hlt
        have hxx := HF.out.whole
        have m0 : IntKind.u64.wrap ((x : Int) / (y : Int)) = (q : Int) := by
          have hqx : q ≤ x := by rw [← hq]; exact Nat.div_le_self x y
          have hx18 : x ≤ hx := by
            have h1 := Nat.mul_le_mul_right x HF.out.f1
            omega
          rw [← Int.natCast_ediv, hq, IntKind.wrap_u64]
          omega
        have m1 : IntKind.u64.wrap ((x : Int) % (y : Int)) = (r : Int) := by
          rw [← Int.natCast_emod, hr, IntKind.wrap_u64]
          omega
        obtain ⟨p1, hp1⟩ : ∃ p1, q * ee = p1 := ⟨_, rfl⟩
        obtain ⟨p2, hp2⟩ : ∃ p2, b + p1 = p2 := ⟨_, rfl⟩
        obtain ⟨p3, hp3⟩ : ∃ p3, q * f = p3 := ⟨_, rfl⟩
        obtain ⟨p4, hp4⟩ : ∃ p4, d + p3 = p4 := ⟨_, rfl⟩
        rw [hp3, hp4] at hq1
        rw [hp1, hp2, hp3, hp4] at hef hstep
        have m2 : IntKind.u64.wrap ((q : Int) * (ee : Int)) = (p1 : Int) := by rw [← Int.natCast_mul, hp1, IntKind.wrap_u64]; omega
        have m3 : IntKind.u64.wrap ((b : Int) + (p1 : Int)) = (p2 : Int) := by rw [IntKind.wrap_u64]; omega
        have m4 : IntKind.u64.wrap ((q : Int) * (f : Int)) = (p3 : Int) := by rw [← Int.natCast_mul, hp3, IntKind.wrap_u64]; omega
        have m5 : IntKind.u64.wrap ((d : Int) + (p3 : Int)) = (p4 : Int) := by rw [IntKind.wrap_u64]; omega
        have HSt := Lib.hid (And.intro hstep hlt)
        have HQ := Lib.hid (And.intro hq hr)
        clear t2 hs1 hs2 hfh hdl hyx t1 hstep hlt hfb hq1 hef hq hr hxx hp1 hp2 hp3 hp4
        go_wp2
        go_quiet (fail)
        go_wp2
        have e1 : ((x : Int) % (y : Int)) = (r : Int) := by rw [← Int.natCast_emod, HQ.out.2]
        obtain ⟨hst2, hlt2⟩ := HSt.out
        have hr18 : r < 1000000000000000000 := by have := HR.out.2.2.1; omega
        refine ⟨⟨y, r, b, ee, d, f, p2, p4, !sw, rfl, by rw [e1], rfl, rfl, hst2, ?_, ?_, hr18⟩, by rw [e1]; simpa [intOf] using hlt2⟩
        · exact (((((StepAt.drewN HST.out _).set0 b).set1 ee).set2 d).set3 f).set4 (!sw)
        · exact grown_store5 HG.out (grown_drewN wr none _)
      · have b2 : decide (s2 ≤ x) = false := by simpa using t2
        have b3 : decide ((s2 : Int) ≤ (x : Int)) = false := by simpa using t2
        clear t2
        go_wp2
        refine bodyPost_ret (v := .agg (stV a b c d sw)) ?_ rfl ⟨x, y, a, b, c, d, ee, f, sw, rfl, HF.out, ?_⟩
        · simp [results, Tryd.results73, go_sem, k0, k1, k2, k3, k4, stV]
        · exact grown_store5 HG.out (grown_refl wr none)
    · have b1 : decide ((f : Int) ≤ (y : Int)) = false := by simpa using t1
      have b1n : decide (f ≤ y) = false := by simpa using t1
      have HF := Lib.hid hf; have HST := Lib.hid hst; have HG := Lib.hid hg
      clear hf hst hg hfh hdl hyx t1
      go_wp2
      refine bodyPost_ret (v := .agg (stV a b c d sw)) ?_ rfl ⟨x, y, a, b, c, d, ee, f, sw, rfl, HF.out, ?_⟩
      · simp [results, Tryd.results73, go_sem, k0, k1, k2, k3, k4, stV]
      · exact grown_store5 HG.out (grown_refl wr none)
end Go.Proofs.YtlkjfhidicgjiaaDoor
