/- U90 U96 -/
import Derived.Test.YtaogepcaoogpgaaGreatDoorV21
import Derived.Deep.RegionHeld2
set_option linter.unusedVariables false
set_option linter.unusedSimpArgs false
namespace Go.Proofs.YtaogepcaoogpgaaGreatDoor
open Go.RowKit
section
variable {k : Int}
def fstF (hk : IsKind k) (A : Nat → El k) (j : Nat) : El k := (srE k hk).mul ((srE k hk).star (A 0)) (A (j + 1))
def FstFits (hk : IsKind k) (m : Nat) (A : Nat → El k) : Prop := FitE ((srE k hk).star (A 0)) ∧ ∀ j, j < m → FitE (fstF hk A j)
def solZ : Obj := .cells #[.int .i64 0, .string ⟨#[]⟩, .string ⟨#[]⟩, .slice none 0 0] 124
set_option maxRecDepth 20000 in
set_option maxHeartbeats 4000000 in
theorem solution_any (hk : IsKind k) (m g0 off c0 : Nat) (A : Nat → El k) (w : World) (hm0 : 1 ≤ m) (hm : m ≤ 10000) (hA : RowAt w g0 off (m + 1) (txs A)) (hc1 : m + 1 ≤ c0) (hc2 : c0 ≤ maxLen) (hAf : ∀ j, j < m + 1 → FitE (A j)) :
  Calls Tryz.prog 131 #[calV k, .slice (some ⟨g0, off, none⟩) (m + 1) c0] w (OrDieQ (FstFits hk m A) (fun v w' => ∃ g, v = solV k g 0 m m ∧ w.heap.size ≤ g ∧ RowAt w' g 0 m (txs (fstF hk A))) w) := by
 have hmf : ∀ (fn : Fn) (first cap : Array Value) (w : World), (Instr.makeFunc fn first cap).run Tryz.prog w = .ok (.func fn first cap) w := fun _ _ _ _ => rfl
 have hst := fun w' => cstar_any hk (hAf 0 (by omega)) w'
 have hmap := fun (hs : FitE ((srE k hk).star (A 0))) (w5 : World) (h5 : w.grownBy w5 none) => mapped_strs 167 enters_multiple #[facV k (tx ((srE k hk).star (A 0)))] #[] m (txs (fun j => A (j + 1))) (fun j => FitE (fstF hk A j)) (fun j => tx (fstF hk A j)) (.slice (some ⟨g0, off + 1, none⟩) m (c0 - 1)) w5 hm
  ((hA.grown h5).tail.row (by omega) (by omega)) (fun i hi w' _ => multiple_any hk hs (hAf (i + 1) (by omega)) w')
 have hW : w.grownBy ((w.alloc (.cells #[.int .i64 k, .string (zeroT k), .string (oneT k)] 64)).alloc solZ) none := grown_trans (World.grownBy_alloc _ _ none) (World.grownBy_alloc _ _ none)
 have hW1 : (w.alloc (.cells #[.int .i64 k, .string (zeroT k), .string (oneT k)] 64)).grownBy ((w.alloc (.cells #[.int .i64 k, .string (zeroT k), .string (oneT k)] 64)).alloc solZ) none := World.grownBy_alloc _ _ none
 have x0 := hW1.cell (box_cell w #[.int .i64 k, .string (zeroT k), .string (oneT k)] 64 (j := 0) rfl) (by simp)
 have x1 := hW1.cell (box_cell w #[.int .i64 k, .string (zeroT k), .string (oneT k)] 64 (j := 1) rfl) (by simp)
 have x2 := hW1.cell (box_cell w #[.int .i64 k, .string (zeroT k), .string (oneT k)] 64 (j := 2) rfl) (by simp)
 have xr : ((w.alloc (.cells #[.int .i64 k, .string (zeroT k), .string (oneT k)] 64)).alloc solZ).heap[w.heap.size + 1]? = some solZ := by
  have h := new_block (w.alloc (.cells #[.int .i64 k, .string (zeroT k), .string (oneT k)] 64)) solZ
  rw [show (w.alloc (.cells #[.int .i64 k, .string (zeroT k), .string (oneT k)] 64)).heap.size = w.heap.size + 1 by simp] at h
  exact h
 have a0 : w.cell? ⟨g0, off, none⟩ = some (.string (tx (A 0))) := hA.2 0 (by omega)
 have xa := hW.cell a0 (by simp)
 have i5 : (1 : Int) ≤ (c0 : Int) := by omega
 have i6 : 1 ≤ c0 := by omega
 have i7 : (1 : Int) ≤ ((m + 1 : Nat) : Int) := by omega
 have i8 : ((m + 1 : Nat) : Int) ≤ (c0 : Int) := by omega
 have i3 : ¬ c0 = 1 := by omega
 have i9 : (0 : Int) < ((m + 1 : Nat) : Int) := by omega
 have j1 : (1 : Int) ≤ (m : Int) + 1 := by omega
 have j2 : (m : Int) + 1 ≤ (c0 : Int) := by omega
 have j3 : (0 : Int) ≤ (m : Int) := by omega
 have j4 : m + 1 ≤ c0 := by omega
 have j5 : 1 ≤ m + 1 := by omega
 have j6 : (0 : Int) < (m : Int) + 1 := by omega
 have hne1 : ¬ w.heap.size + 1 = g0 := by have := hA.1; omega
 have hne2 : ¬ g0 = w.heap.size + 1 := by have := hA.1; omega
 have HST := Lib.hid hst; have HM := Lib.hid hmap; have HX := Lib.hid (And.intro x0 (And.intro x1 (And.intro x2 (And.intro xr (And.intro xa hW)))))
 clear hst hmap x0 x1 x2 xr xa hW hW1 a0 hA hAf
 unfold calV at *
 go_enter Tryz.func131, Tryz.ntmps131
 go_upto_region 1 with (fail)
 obtain ⟨x0, x1, x2, xr, xa, hW⟩ := HX.out
 unfold solZ at x0 x1 x2 xr xa hW
 generalize ((w.alloc (.cells #[.int .i64 k, .string (zeroT k), .string (oneT k)] 64)).alloc (.cells #[.int .i64 0, .string ⟨#[]⟩, .string ⟨#[]⟩, .slice none 0 0] 124)) = W at *
 have d0 : W.drew.cell? ⟨w.heap.size, 0, none⟩ = some (.int .i64 k) := x0
 have d1 : W.drew.cell? ⟨w.heap.size, 1, none⟩ = some (.string (zeroT k)) := x1
 have d2 : W.drew.cell? ⟨w.heap.size, 2, none⟩ = some (.string (oneT k)) := x2
 have da : W.drew.cell? ⟨g0, off, none⟩ = some (.string (tx (A 0))) := xa
 have hWd : w.grownBy W.drew none := grown_trans hW (grown_drew W none)
 have HG := Lib.hid hWd; have HXR := Lib.hid (show W.drew.heap[w.heap.size + 1]? = _ from xr)
 clear x0 x1 x2 xr xa hW HX hWd
 go_region_held2 (fun W' => W'.cell? ⟨w.heap.size, 0, none⟩ = some (.int .i64 k) ∧ W'.cell? ⟨w.heap.size, 1, none⟩ = some (.string (zeroT k)) ∧ W'.cell? ⟨w.heap.size, 2, none⟩ = some (.string (oneT k)) ∧ W'.cell? ⟨g0, off, none⟩ = some (.string (tx (A 0)))) (go_keep)
  (first
  | (go_at_call 166; refine (HST.out _).mono ?_; clear HST; rintro e w5 (⟨hp, rfl, hg5⟩ | ⟨hn, rfl, hg5⟩); rotate_left 1; (exact ⟨rfl, .inr ⟨fun h => hn h.1, rfl, grown_trans HG.out hg5⟩⟩); have s0 := hg5.cell d0 (by simp); have s1 := hg5.cell d1 (by simp); have s2 := hg5.cell d2 (by simp); have sa := hg5.cell da (by simp); have H5 := Lib.hid (And.intro hp hg5); clear hg5 hp)
  | (go_at_call 165; refine (HM.out H5.out.1 w5 (grown_trans HG.out H5.out.2)).mono ?_; clear HM; rintro e w6 (⟨hp, v, rfl, ⟨rfl, hr6⟩, hg6⟩ | ⟨hn, rfl, hg6⟩); rotate_left 1; (exact ⟨rfl, .inr ⟨fun h => hn h.2, rfl, grown_trans (grown_trans HG.out H5.out.2) hg6⟩⟩); have p0 := hg6.cell s0 (by simp); have p1 := hg6.cell s1 (by simp); have p2 := hg6.cell s2 (by simp); have pa := hg6.cell sa (by simp); have hx6 := (hg6.block _ (by have := (Array.getElem?_eq_some_iff.1 HXR.out).1; have := H5.out.2.size; omega) (by simp)).trans ((H5.out.2.block _ (Array.getElem?_eq_some_iff.1 HXR.out).1 (by simp)).trans HXR.out); have q0 := cell_of_row w6 _ 0 _ _ (0, 0) hx6; have q1 := cell_of_row w6 _ 1 _ _ (0, 0) hx6; have q2 := cell_of_row w6 _ 2 _ _ (0, 0) hx6; have q3 := cell_of_row w6 _ 3 _ _ (0, 0) hx6; have z0 := frozen_of_row w6 _ 0 _ _ hx6; have z1 := frozen_of_row w6 _ 1 _ _ hx6; have z2 := frozen_of_row w6 _ 2 _ _ hx6; have z3 := frozen_of_row w6 _ 3 _ _ hx6; have H6 := Lib.hid (And.intro hp (And.intro hr6 (And.intro hg6 hx6))); clear hp hr6 hg6 hx6))
 all_goals
  go_wp2
  obtain ⟨hp, hr6, hg6, hx6⟩ := H6.out
  have hgg := grown_trans (grown_trans HG.out H5.out.2) hg6
  refine bodyPost_ret (v := solV k w5.heap.size 0 m m) ?_ rfl (.inl ⟨⟨H5.out.1, hp⟩, _, rfl, ⟨w5.heap.size, rfl, Nat.le_trans HG.out.size H5.out.2.size, ?_⟩, ?_⟩)
  ·simp [results, Tryz.results131, go_sem, q0, q1, q2, q3, solV]
  ·have hne : w5.heap.size ≠ w.heap.size + 1 := by have := (Array.getElem?_eq_some_iff.1 HXR.out).1; have := H5.out.2.size; omega
   exact (((hr6.grownB (grown_setCell _ _ _) hne).grownB (grown_setCell _ _ _) hne).grownB (grown_setCell _ _ _) hne).grownB (grown_setCell _ _ _) hne
  ·exact grown_step (grown_step (grown_step (grown_step hgg (grown_setCell _ _ _) (by show w.heap.size ≤ w.heap.size + 1; omega)) (grown_setCell _ _ _) (by show w.heap.size ≤ w.heap.size + 1; omega)) (grown_setCell _ _ _) (by show w.heap.size ≤ w.heap.size + 1; omega)) (grown_setCell _ _ _) (by show w.heap.size ≤ w.heap.size + 1; omega)
end
open Go.RowKit
set_option maxRecDepth 20000 in
set_option maxHeartbeats 1000000 in
theorem place_any7 (n t g : Nat) (L : Nat → Value) (a : ByteArray) (fv : Value) (w : World) (hn : t < n) (hf : RowR w fv n L) (h0 : L t = .string a) (hi : w.cell? ⟨g, 0, none⟩ = some (.int .i64 (t : Int))) :
  Calls Tryz.prog 144 #[fv, .pointer (some ⟨g, 0, none⟩)] w (ValPost (.string a) w) := by
 obtain ⟨A, c, rfl, h1, h2, h3⟩ := hf
 obtain ⟨ad, rfl, hb, hc⟩ := h3 t hn
 rw [h0] at hc
 have i1 : (t : Int) < (n : Int) := by omega
 have i2 : ¬ (n : Int) ≤ (t : Int) := by omega
 have i3 : ¬ (t : Int) < 0 := by omega
 clear h3 hb
 go_enter Tryz.func144, Tryz.ntmps144
 go_wp2
 go_ret
 exact ⟨rfl, World.grownBy.refl _ _⟩
theorem enters_place7 : Enters 144 := enters_of Tryz.func144 (by kernel_rfl) rfl
def TurnRows (G : Nat → Nat → ByteArray) (H n : Nat) (zs : List Value) (wr : World) : Prop :=
 ∀ t, t < zs.length → ∃ g, zs.getD t (.slice none 0 0) = .slice (some ⟨g, 0, none⟩) n n ∧ H < g ∧ RowAt wr g 0 n (fun i => .string (G i t))
set_option maxRecDepth 20000 in
set_option maxHeartbeats 2000000 in
theorem transposed_any (n : Nat) (V : Nat → Value) (G : Nat → Nat → ByteArray) (lv : Value) (w : World) (hn : n ≤ 10000) (hl : RowR w lv n V) (hrow : ∀ i, i < n → RowR w (V i) n (fun j => .string (G i j))) :
  Calls Tryz.prog 99 #[lv] w (fun e w' => ∃ zs, e = .returned (.slice (some ⟨w.heap.size, 0, none⟩) n n) ∧ zs.length = n ∧ RowAt w' w.heap.size 0 n (fun j => zs.getD j (.slice none 0 0)) ∧ TurnRows G w.heap.size n zs w' ∧ w.grownBy w' none) := by
 obtain ⟨i0, hi, hz0, hz1, hz2⟩ := info_parts info_row
 have hm : ∀ (t g : Nat) (w' : World), t < n → w.grownBy w' none → w'.cell? ⟨g, 0, none⟩ = some (.int .i64 (t : Int)) → Calls Tryz.prog 141 #[lv, .func (.func 144) #[] #[.pointer (some ⟨g, 0, none⟩)]] w' (fun e w2 => e = .returned (.slice (some ⟨w'.heap.size, 0, none⟩) n n) ∧ RowAt w2 w'.heap.size 0 n (fun i => .string (G i t)) ∧ w'.grownBy w2 none) := by
  intro t g w' ht hg hc
  have h := mapped_firsts 144 enters_place7 #[] #[.pointer (some ⟨g, 0, none⟩)] n V (fun _ => True) (fun i => G i t) lv w' hn (hl.grown hg) (fun i hi w2 hg2 => by
   have h1 := place_any7 n t g _ (G i t) (V i) w2 ht (((hrow i hi).grown hg).grown hg2) rfl (hg2.cell hc (by simp))
   exact h1.mono (fun e w3 h3 => .inl ⟨trivial, h3⟩))
  refine h.mono (fun e w2 h2 => ?_)
  rcases h2 with ⟨-, v, rfl, ⟨rfl, hr⟩, hg2⟩ | ⟨hnp, -⟩
  ·exact ⟨rfl, hr, hg2⟩
  ·exact absurd (fun _ _ => trivial) hnp
 obtain ⟨A, c, rfl, hl1, hl2, -⟩ := hl
 have HM := Lib.hid hm; have HN := Lib.hid hn
 clear hm hn hrow hl1 hl2
 have n0 : ¬ (n : Int) < 0 := by omega
 go_enter Tryz.func99, Tryz.ntmps99
 go_wp2_with (at_make; refine wpList_make_full _ rfl _ _ 22 rfl w.heap.size 33 i0 (.slice none 0 0) 1 Tryz.underlying22 hi hz0 hz1 _ _ _ _ n rfl rfl ?c0 ?c1 ?c2 (by have := HN.out; unfold maxLen; omega) (Nat.le_refl _) ?_)
 case c0 => omega
 case c1 => omega
 case c2 => have := HN.out; first | omega | (rw [hz2]; omega)
 intro w1 hown hgr
 have HFI := Lib.hid (FillRow.start hown hgr)
 clear hown hgr
 go_wp2
 go_loopw [10] (fun iv wr => ∃ zs : List Value, iv = .int .i64 (zs.length : Int) ∧ FillRow 33 (.slice none 0 0) n zs w wr ∧ TurnRows G w.heap.size n zs wr) (fun iv _ => n - (intOf iv).toNat)
 case atStart => exact ⟨[], rfl, HFI.out, fun i hi => absurd hi (by simp)⟩
 case round =>
  obtain ⟨zs, rfl, hfill, hrows⟩ := hrel
  obtain ⟨t, hzt⟩ : ∃ t, zs.length = t := ⟨_, rfl⟩
  have hle := hfill.le
  by_cases ht : t < n
  ·have t1 : decide (t < n) = true := by simpa using ht
   have t1' : decide ((t : Int) < (n : Int)) = true := by simpa using ht
   have hit : (t : Int) < (n : Int) := by omega
   have hit0 : ¬ (t : Int) < 0 := by omega
   have n1 : IntKind.i64.wrap ((t : Int) + 1) = (t : Int) + 1 := by have := HN.out; rw [IntKind.wrap_i64]; omega
   have hwr : w.heap.size < wr.heap.size := (Array.getElem?_eq_some_iff.1 hfill.row).1
   have HF := Lib.hid hfill; have HR := Lib.hid hrows; have HT := Lib.hid (And.intro ht (And.intro hzt (And.intro hle hwr)))
   rw [hzt]
   clear hfill hrows ht hle hzt hwr
   go_upto_region 5 with (fail)
   have c0 : (wr.alloc (.cells #[.int .i64 (t : Int)] 3)).cell? ⟨wr.heap.size, 0, none⟩ = some (.int .i64 (t : Int)) := box_cell wr #[.int .i64 (t : Int)] 3 (j := 0) rfl
   have hU : wr.grownBy (wr.alloc (.cells #[.int .i64 (t : Int)] 3)) none := World.grownBy_alloc _ _ none
   generalize wr.alloc (.cells #[.int .i64 (t : Int)] 3) = U at *
   have d0 : U.drew.cell? ⟨wr.heap.size, 0, none⟩ = some (.int .i64 (t : Int)) := c0
   have HG := Lib.hid (grown_trans hU (grown_drew U none))
   have hne : ¬ wr.heap.size = w.heap.size := by have := HT.out.2.2.2; omega
   clear hU
   go_region_held3 (fun W' => W'.cell? ⟨wr.heap.size, 0, none⟩ = some (.int .i64 (t : Int))) (first | exact s1 | go_keep)
    (first
     | (go_at_call 141; refine (HM.out t wr.heap.size _ HT.out.1 (grown_trans HF.out.gr HG.out) d0).mono ?_; rintro e w5 ⟨rfl, hr5, hg5⟩; have s0 := hg5.cell d0 (by simp); have s1 := set_far (w := w5) (o := t) (u := .slice (some ⟨U.drew.heap.size, 0, none⟩) n n) hne s0; have q0 := ((HF.out.grown HG.out).grown hg5).cell (by rw [HT.out.2.1]; exact HT.out.1); have z0 := ((HF.out.grown HG.out).grown hg5).free t; rw [HT.out.2.1] at q0; have H5 := Lib.hid (And.intro hr5 hg5); clear hr5 hg5))
   all_goals
    go_wp2
    have hsz := HG.out.size
    have hzt := HT.out.2.1
    have hws := HT.out.2.2.2
    have hgg := grown_trans HG.out H5.out.2
    have hput := ((HF.out.grown HG.out).grown H5.out.2).put (by rw [hzt]; exact HT.out.1) (.slice (some ⟨U.drew.heap.size, 0, none⟩) n n)
    rw [hzt] at hput
    refine ⟨⟨zs ++ [.slice (some ⟨U.drew.heap.size, 0, none⟩) n n], by simp [hzt], hput, fun i hi => ?_⟩, by have := HT.out.1; simp [intOf]; omega⟩
    by_cases hil : i < zs.length
    ·obtain ⟨gi, q1, q2, q3⟩ := HR.out i hil
     refine ⟨gi, ?_, q2, (q3.grown hgg).grownB (grown_setCell _ _ _) (by show gi ≠ w.heap.size; omega)⟩
     rw [List.getD_eq_getElem?_getD, List.getElem?_append_left hil, ← List.getD_eq_getElem?_getD]
     exact q1
    ·have hie : i = t := by simp at hi; omega
     subst hie
     refine ⟨U.drew.heap.size, ?_, by omega, H5.out.1.grownB (grown_setCell _ _ _) (by show U.drew.heap.size ≠ w.heap.size; omega)⟩
     rw [List.getD_eq_getElem?_getD, List.getElem?_append_right (by omega), hzt, Nat.sub_self]
     rfl
  ·have hte : t = n := by omega
   subst hte
   have t1 : decide (t < t) = false := by simp
   have t1' : decide ((t : Int) < (t : Int)) = false := by simp
   have HF := Lib.hid hfill; have HR := Lib.hid hrows; have HT := Lib.hid hzt
   rw [hzt]
   clear hfill hrows ht hle hzt
   go_wp2
   go_ret
   exact ⟨zs, rfl, HT.out, HF.out.rowAt HT.out, HR.out, HF.out.gr⟩
end Go.Proofs.YtaogepcaoogpgaaGreatDoor
