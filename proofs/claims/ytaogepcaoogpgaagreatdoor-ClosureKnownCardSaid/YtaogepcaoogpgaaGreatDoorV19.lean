/- U88 U91 -/
import Derived.Test.YtaogepcaoogpgaaGreatDoorV18
import Derived.Deep.RegionHeld2
set_option linter.unusedVariables false
set_option linter.unusedSimpArgs false
namespace Go.Proofs.YtaogepcaoogpgaaGreatDoor
open Go.RowKit
theorem enters_addMultiple : Enters 135 := enters_of Tryz.func135 (by kernel_rfl) rfl
theorem enters_multiple : Enters 167 := enters_of Tryz.func167 (by kernel_rfl) rfl
theorem sumRow_succ {α : Type} (S : Sr α) (row f : Nat → α) (R : Nat → Nat → α) (t j : Nat) : S.add (sumRow S row f R t j) (S.mul (f t) (R t j)) = sumRow S row f R (t + 1) j := by
 unfold sumRow
 rw [S.add_assoc]
 rfl
theorem sumRow_zero {α : Type} (S : Sr α) (row f : Nat → α) (R : Nat → Nat → α) (j : Nat) : sumRow S row f R 0 j = row j := S.add_zero _
section
variable {k : Int}
def txs (f : Nat → El k) (j : Nat) : Value := .string (tx (f j))
def SumPost (hk : IsKind k) (n m : Nat) (row f : Nat → El k) (R : Nat → Nat → El k) (g0 : Nat) (w : World) (e : Ending) (w' : World) : Prop :=
 OrDieQ (SumFits (srE k hk) FitE n m row f R) (fun v w' => ∃ g o c, v = .slice (some ⟨g, o, none⟩) m c ∧ m ≤ c ∧ c ≤ maxLen ∧ (g = g0 ∨ w.heap.size ≤ g) ∧ RowAt w' g o m (txs (sumRow (srE k hk) row f R n))) w e w'
structure SumInv (hk : IsKind k) (n m : Nat) (row f : Nat → El k) (R : Nat → Nat → El k) (g0 : Nat) (w : World) (t : Nat) (rv : Value) (wr : World) : Prop where
 le : t ≤ n
 gr : w.grownBy wr none
 rv : ∃ g o c, rv = .slice (some ⟨g, o, none⟩) m c ∧ m ≤ c ∧ c ≤ maxLen ∧ (g = g0 ∨ w.heap.size ≤ g) ∧ RowAt wr g o m (txs (sumRow (srE k hk) row f R t))
 fit : SumFits (srE k hk) FitE t m row f R
 now : ∀ j, j < m → FitE (sumRow (srE k hk) row f R t j)
theorem SumInv.skip {hk : IsKind k} {n m : Nat} {row f : Nat → El k} {R : Nat → Nat → El k} {g0 : Nat} {w : World} {t : Nat} {rv : Value} {wr : World} (h : SumInv hk n m row f R g0 w t rv wr) (ht : t < n) (hz : f t = (srE k hk).zero) : SumInv hk n m row f R g0 w (t + 1) rv wr := by
 have e : ∀ j, sumRow (srE k hk) row f R (t + 1) j = sumRow (srE k hk) row f R t j := fun j => by rw [← sumRow_succ, hz, (srE k hk).zero_mul, (srE k hk).add_zero]
 have e2 : sumRow (srE k hk) row f R (t + 1) = sumRow (srE k hk) row f R t := funext e
 refine ⟨ht, h.gr, by rw [e2]; exact h.rv, fun s hs j hj => ?_, fun j hj => by rw [e]; exact h.now j hj⟩
 by_cases hst : s < t
 ·exact h.fit s hst j hj
 ·obtain rfl : s = t := by omega
  exact ⟨by rw [hz, (srE k hk).zero_mul]; exact fit_zero hk, by rw [e]; exact h.now j hj⟩
theorem SumInv.next {hk : IsKind k} {n m : Nat} {row f : Nat → El k} {R : Nat → Nat → El k} {g0 : Nat} {w : World} {t : Nat} {rv : Value} {wr w' : World} (h : SumInv hk n m row f R g0 w t rv wr) (ht : t < n) (hm : m ≤ maxLen) (hp : ∀ j, j < m → FitE ((srE k hk).mul (f t) (R t j)) ∧ FitE (sumRow (srE k hk) row f R (t + 1) j))
  {H : Nat} (hH : w.heap.size ≤ H) (hr : RowAt w' H 0 m (fun i => .string (tx (sumRow (srE k hk) row f R (t + 1) i)))) (hg : wr.grownBy w' none) : SumInv hk n m row f R g0 w (t + 1) (.slice (some ⟨H, 0, none⟩) m m) w' := by
 refine ⟨ht, grown_trans h.gr hg, ⟨H, 0, m, rfl, Nat.le_refl _, hm, .inr hH, hr⟩, fun s hs j hj => ?_, fun j hj => (hp j hj).2⟩
 by_cases hst : s < t
 ·exact h.fit s hst j hj
 ·obtain rfl : s = t := by omega
  exact hp j hj
set_option maxRecDepth 20000 in
set_option maxHeartbeats 4000000 in
theorem sum_any7 (hk : IsKind k) (n m g0 off c0 : Nat) (row f : Nat → El k) (R : Nat → Nat → El k) (fv Rv : Value) (rs : Nat → Value) (w : World) (hm : m ≤ 10000) (hn : n ≤ 10000)
  (hrow : RowAt w g0 off m (txs row)) (hc1 : m ≤ c0) (hc2 : c0 ≤ maxLen) (hf : RowR w fv n (txs f)) (hff : ∀ j, j < n → FitE (f j)) (hrf : ∀ j, j < m → FitE (row j))
  (hR : RowR w Rv n rs) (hRs : ∀ i, i < n → RowR w (rs i) m (txs (R i))) (hRf : ∀ i, i < n → ∀ j, j < m → FitE (R i j)) :
  Calls Tryz.prog 82 #[calV k, .slice (some ⟨g0, off, none⟩) m c0, fv, Rv] w (SumPost hk n m row f R g0 w) := by
 have hmf : ∀ (fn : Fn) (first cap : Array Value) (w : World), (Instr.makeFunc fn first cap).run Tryz.prog w = .ok (.func fn first cap) w := fun _ _ _ _ => rfl
 obtain ⟨Af, cf, rfl, hf1, hf2, hf3⟩ := hf
 obtain ⟨AR, cR, rfl, hR1, hR2, hR3⟩ := hR
 have hcomb := fun (t : Nat) (ht : t < n) (g o c : Nat) (w1 : World) (hw : w.grownBy w1 none) (h1 : m ≤ c) (h2 : c ≤ maxLen) (hrw : RowAt w1 g o m (txs (sumRow (srE k hk) row f R t))) (hfit : ∀ j, j < m → FitE (sumRow (srE k hk) row f R t j)) =>
  combined_strs 135 enters_addMultiple #[facV k (tx (f t))] #[] m m (txs (sumRow (srE k hk) row f R t)) (txs (R t)) (fun j => FitE ((srE k hk).mul (f t) (R t j)) ∧ FitE (sumRow (srE k hk) row f R (t + 1) j)) (fun j => tx (sumRow (srE k hk) row f R (t + 1) j))
   (.slice (some ⟨g, o, none⟩) m c) (rs t) w1 hm (hrw.row h1 h2) ((hRs t ht).grown hw) (Nat.le_refl m) (fun i hi w' _ => by
    have h := addMultiple_any hk (hff t ht) (hRf t ht i hi) (hfit i hi) w'
    rw [sumRow_succ] at h
    exact h)
 have HC := Lib.hid hcomb; have HF := Lib.hid hf3; have HR := Lib.hid hR3; have HFF := Lib.hid hff; have HN := Lib.hid hn
 have h0 : SumInv hk n m row f R g0 w 0 (.slice (some ⟨g0, off, none⟩) m c0) w := ⟨Nat.zero_le _, grown_refl _ _, ⟨g0, off, c0, rfl, hc1, hc2, .inl rfl, by
  have e : sumRow (srE k hk) row f R 0 = row := funext fun j => sumRow_zero _ _ _ _ _
  rw [e]; exact hrow⟩, fun t ht => absurd ht (by omega), fun j hj => by rw [sumRow_zero]; exact hrf j hj⟩
 have H0 := Lib.hid h0
 clear hcomb hf1 hf2 hf3 hR1 hR2 hR3 hff hrf hRs hRf hrow hc1 hc2 hm hn h0
 unfold calV
 go_enter Tryz.func82, Tryz.ntmps82
 go_wp2
 have x0 := box_cell w #[.int .i64 k, .string (zeroT k), .string (oneT k)] 64 (j := 0) rfl
 have x1 := box_cell w #[.int .i64 k, .string (zeroT k), .string (oneT k)] 64 (j := 1) rfl
 have x2 := box_cell w #[.int .i64 k, .string (zeroT k), .string (oneT k)] 64 (j := 2) rfl
 have hW : w.grownBy (w.alloc (.cells #[.int .i64 k, .string (zeroT k), .string (oneT k)] 64)) none := World.grownBy_alloc _ _ none
 have hbs : w.heap.size < (w.alloc (.cells #[.int .i64 k, .string (zeroT k), .string (oneT k)] 64)).heap.size := by simp
 generalize w.alloc (.cells #[.int .i64 k, .string (zeroT k), .string (oneT k)] 64) = W at *
 have HX := Lib.hid (And.intro x0 (And.intro x1 (And.intro x2 (And.intro hW hbs))))
 clear x0 x1 x2 hW hbs
 go_loopw [1, 13] (fun rv iv wr => ∃ t : Nat, iv = .int .i64 (t : Int) ∧ SumInv hk n m row f R g0 w t rv wr ∧ W.grownBy wr none) (fun _ iv _ => n - (intOf iv).toNat)
 case atStart => exact ⟨0, rfl, ⟨H0.out.le, HX.out.2.2.2.1, by
  obtain ⟨g, o, c, h1, h2, h3, h4, h5⟩ := H0.out.rv
  exact ⟨g, o, c, h1, h2, h3, h4, h5.grown HX.out.2.2.2.1⟩, H0.out.fit, H0.out.now⟩, grown_refl _ _⟩
 case round =>
  obtain ⟨t, rfl, hinv, hWr⟩ := hrel
  by_cases ht : t < n
  ·obtain ⟨adf, rfl, hbf, hcf⟩ := HF.out t ht
   obtain ⟨adR, rfl, hbR, hcR⟩ := HR.out t ht
   have cf1 : wr.cell? (adf.add t) = some (.string (tx (f t))) := (cell_same (ad := adf.add t) (by rw [add_block7]; exact hinv.gr.block adf.block hbf (by simp))).trans hcf
   have cR1 : wr.cell? (adR.add t) = some (rs t) := (cell_same (ad := adR.add t) (by rw [add_block7]; exact hinv.gr.block adR.block hbR (by simp))).trans hcR
   obtain ⟨x0, x1, x2, hW, hbs⟩ := HX.out
   have y0 := hWr.cell x0 (by simp)
   have y1 := hWr.cell x1 (by simp)
   have y2 := hWr.cell x2 (by simp)
   obtain ⟨g, o, c, rfl, hmc, hcm, hgg, hrw⟩ := hinv.rv
   have t1 : decide (t < n) = true := by simpa using ht
   have t1' : decide ((t : Int) < (n : Int)) = true := by simpa using ht
   have hit : (t : Int) < (n : Int) := by omega
   have n1 : IntKind.i64.wrap ((t : Int) + 1) = (t : Int) + 1 := by have := HN.out; rw [IntKind.wrap_i64]; omega
   have HI := Lib.hid hinv; have HRW := Lib.hid (And.intro hmc (And.intro hcm hrw)); have HT := Lib.hid (And.intro ht hWr)
   clear hinv hmc hcm hgg hrw ht hWr hbf hcf hbR hcR x0 x1 x2 hW hbs
   rcases str_facts7 (tx (f t)) (zeroT k) with ⟨f1, e1⟩ | ⟨f1, e1⟩
   ·have f2 : ((tx (f t)).toList != (zeroT k).toList) = false := by simp [bne, f1]
    have hz := tx_is_zero hk (HFF.out t HT.out.1) e1
    have HZ := Lib.hid hz
    clear hz e1
    go_wp2
    exact ⟨⟨t + 1, by simp, HI.out.skip HT.out.1 HZ.out, HT.out.2⟩, by have := HT.out.1; simp [intOf]; omega⟩
   ·have f2 : ((tx (f t)).toList != (zeroT k).toList) = true := by simp [bne, f1]
    clear e1
    go_upto_region 5 with (fail)
    have hcall := HC.out t HT.out.1 g o c wr.drew (grown_trans HI.out.gr (grown_drew wr none)) HRW.out.1 HRW.out.2.1 (HRW.out.2.2.grown (grown_drew wr none)) HI.out.now
    unfold facV at hcall
    have cRd : wr.drew.cell? (adR.add t) = some (rs t) := cR1
    have yd0 : wr.drew.cell? ⟨w.heap.size, 0, none⟩ = some (.int .i64 k) := y0
    have yd1 : wr.drew.cell? ⟨w.heap.size, 1, none⟩ = some (.string (zeroT k)) := y1
    have yd2 : wr.drew.cell? ⟨w.heap.size, 2, none⟩ = some (.string (oneT k)) := y2
    have hHs : w.heap.size ≤ wr.drew.heap.size := HI.out.gr.size
    have hgd : w.grownBy wr.drew none := grown_trans HI.out.gr (grown_drew wr none)
    have hWd : W.grownBy wr.drew none := grown_trans HT.out.2 (grown_drew wr none)
    have hgdd : wr.grownBy wr.drew none := grown_drew wr none
    have HCALL := Lib.hid hcall; have HD := Lib.hid (And.intro hHs (And.intro hgd (And.intro hWd hgdd)))
    clear hcall hHs hgd hWd hgdd
    go_region_with (go_at_call 86; refine HCALL.out.mono ?_; rintro e w6 (⟨hp, v, rfl, ⟨rfl, hr6⟩, hg6⟩ | ⟨hn, rfl, hg6⟩); rotate_left 1; (go_wp2; exact ⟨rfl, .inr ⟨fun h => hn (fun i hi => h t HT.out.1 i hi), rfl, grown_trans HD.out.2.1 hg6⟩⟩); have HP6 := Lib.hid (And.intro hp (And.intro hr6 hg6)); clear hp hr6 hg6)
    all_goals
     go_wp2
     obtain ⟨hp, hr6, hg6⟩ := HP6.out
     exact ⟨⟨t + 1, by simp, HI.out.next HT.out.1 (Nat.le_trans HRW.out.1 HRW.out.2.1) hp HD.out.1 hr6 (grown_trans HD.out.2.2.2 hg6), grown_trans HD.out.2.2.1 hg6⟩, by have := HT.out.1; simp [intOf]; omega⟩
  ·have hte : t = n := by have := hinv.le; omega
   subst hte
   have t1 : decide (t < t) = false := by simp
   have t1' : decide ((t : Int) < (t : Int)) = false := by simp
   obtain ⟨g, o, c, rfl, hmc, hcm, hgg, hrw⟩ := hinv.rv
   have HI := Lib.hid hinv; have HRW := Lib.hid (And.intro hmc (And.intro hcm (And.intro hgg hrw)))
   clear hinv hmc hcm hgg hrw ht
   go_wp2
   go_ret
   obtain ⟨hmc, hcm, hgg, hrw⟩ := HRW.out
   exact .inl ⟨HI.out.fit, _, rfl, ⟨g, o, c, rfl, hmc, hcm, hgg, hrw⟩, HI.out.gr⟩
end
open Go.RowKit
section
variable {k : Int}
def mrgP (hk : IsKind k) (f : Nat → El k) (κ : Nat → Nat) (t d : Nat) : El k := sm (srE k hk) t (fun j => if κ j = d then f j else (srE k hk).zero)
theorem mrgP_at (hk : IsKind k) (f : Nat → El k) (κ : Nat → Nat) (t : Nat) : mrgP hk f κ (t + 1) (κ t) = (srE k hk).add (mrgP hk f κ t (κ t)) (f t) := by
 show (srE k hk).add (mrgP hk f κ t (κ t)) (if κ t = κ t then f t else (srE k hk).zero) = _
 rw [if_pos rfl]
theorem mrgP_off (hk : IsKind k) (f : Nat → El k) (κ : Nat → Nat) (t d : Nat) (h : d ≠ κ t) : mrgP hk f κ (t + 1) d = mrgP hk f κ t d := by
 show (srE k hk).add (mrgP hk f κ t d) (if κ t = d then f t else (srE k hk).zero) = _
 rw [if_neg (Ne.symm h), (srE k hk).add_zero]
def mrgL (hk : IsKind k) (f : Nat → El k) (κ : Nat → Nat) (K t : Nat) : List Value := (List.range K).map (fun d => .string (tx (mrgP hk f κ t d)))
theorem mrgL_get (hk : IsKind k) (f : Nat → El k) (κ : Nat → Nat) {K d : Nat} (t : Nat) (h : d < K) : (mrgL hk f κ K t)[d]? = some (.string (tx (mrgP hk f κ t d))) := by
 unfold mrgL
 rw [List.getElem?_map, List.getElem?_range h]
 rfl
theorem mrgL_zero (hk : IsKind k) (f : Nat → El k) (κ : Nat → Nat) (K : Nat) : mrgL hk f κ K 0 = List.replicate K (.string (zeroT k)) := by
 unfold mrgL
 apply List.ext_getElem?
 intro d
 rw [List.getElem?_map, List.getElem?_replicate]
 by_cases h : d < K
 ·rw [List.getElem?_range h, if_pos h, ← tx_zero hk]; rfl
 ·rw [if_neg h, List.getElem?_eq_none (by simpa using h)]; rfl
theorem mrgL_set (hk : IsKind k) (f : Nat → El k) (κ : Nat → Nat) (K t : Nat) (h : κ t < K) : (mrgL hk f κ K t).set (κ t) (.string (tx (mrgP hk f κ (t + 1) (κ t)))) = mrgL hk f κ K (t + 1) := by
 apply List.ext_getElem?
 intro d
 rw [List.getElem?_set]
 by_cases hd : d < K
 ·rw [mrgL_get hk f κ (t + 1) hd]
  by_cases e : κ t = d
  ·subst e
   rw [if_pos rfl, if_pos (by unfold mrgL; simpa using hd)]
  ·rw [if_neg e, mrgL_get hk f κ t hd, mrgP_off hk f κ t d (Ne.symm e)]
 ·rw [List.getElem?_eq_none (l := mrgL hk f κ K (t + 1)) (by unfold mrgL; simpa using hd)]
  rw [if_neg (by omega), List.getElem?_eq_none (by unfold mrgL; simpa using hd)]
structure MrgInv (hk : IsKind k) (f : Nat → El k) (κ : Nat → Nat) (n K g : Nat) (w : World) (t : Nat) (wr : World) : Prop where
 le : t ≤ n
 gr : w.grownBy wr none
 hg : w.heap.size ≤ g
 row : wr.heap[g]? = some (.cells (mrgL hk f κ K t).toArray 9 (0, 0))
 fit : ∀ s, s < t → FitE (mrgP hk f κ (s + 1) (κ s))
 now : ∀ d, FitE (mrgP hk f κ t d)
theorem MrgInv.next {hk : IsKind k} {f : Nat → El k} {κ : Nat → Nat} {n K g : Nat} {w wr w5 : World} {t : Nat} (h : MrgInv hk f κ n K g w t wr) (ht : t < n) (hκ : κ t < K) (hg : wr.grownBy w5 none) (hr : w5.heap[g]? = some (.cells (mrgL hk f κ K t).toArray 9 (0, 0)))
  (hp : FitE (mrgP hk f κ (t + 1) (κ t))) : MrgInv hk f κ n K g w (t + 1) (w5.setCell ⟨g, κ t, none⟩ (.string (tx (mrgP hk f κ (t + 1) (κ t))))) := by
 refine ⟨ht, grown_step (grown_trans h.gr hg) (grown_setCell _ _ _) h.hg, h.hg, ?_, fun s hs => ?_, fun d => ?_⟩
 ·rw [heap_setCell_same w5 g (κ t) _ _ _ hr]
  congr 2
  rw [List.setIfInBounds_toArray, mrgL_set hk f κ K t hκ]
 ·by_cases e : s < t
  ·exact h.fit s e
  ·obtain rfl : s = t := by omega
   exact hp
 ·by_cases e : d = κ t
  ·subst e; exact hp
  ·rw [mrgP_off hk f κ t d e]; exact h.now d
theorem set_far {w : World} {b g o j : Nat} {u v : Value} (hb : b ≠ g) (h : w.cell? ⟨b, j, none⟩ = some v) : (w.setCell ⟨g, o, none⟩ u).cell? ⟨b, j, none⟩ = some v := ((grown_setCell w ⟨g, o, none⟩ u).cell h (by simpa using hb))
set_option maxRecDepth 20000 in
set_option maxHeartbeats 4000000 in
theorem merged_any (hk : IsKind k) (f : Nat → El k) (κ : Nat → Nat) (n K : Nat) (fv cv : Value) (w : World) (hn : n ≤ 10000) (hK : K ≤ 10000) (hκ : ∀ j, j < n → κ j < K) (hf : RowR w fv n (fun j => Value.string (tx (f j)))) (hff : ∀ j, j < n → FitE (f j))
  (hc : RowR w cv n (fun j => .int .i64 ((κ j : Nat) : Int))) :
  Calls Tryz.prog 80 #[calV k, fv, cv, .int .i64 (K : Int)] w (OrDieQ (∀ s, s < n → FitE (mrgP hk f κ (s + 1) (κ s))) (fun v w' => ∃ g, v = .slice (some ⟨g, 0, none⟩) K K ∧ w.heap.size ≤ g ∧ RowAt w' g 0 K (fun d => .string (tx (mrgP hk f κ n d)))) w) := by
 obtain ⟨Af, cf, rfl, hf1, hf2, hf3⟩ := hf
 obtain ⟨Ac, cc, rfl, hc1, hc2, hc3⟩ := hc
 have hz := fun w' => zeros_any k K w' hK
 have HZ := Lib.hid hz; have HF := Lib.hid hf3; have HC := Lib.hid hc3; have HFF := Lib.hid hff; have HN := Lib.hid (And.intro hn (And.intro hK hκ))
 clear hz hf1 hf2 hf3 hc1 hc2 hc3 hff hn hK hκ
 unfold calV at *
 go_enter Tryz.func80, Tryz.ntmps80
 go_wp2_with fail
 refine (HZ.out _).mono ?_
 rintro e w1 ⟨g, rfl, hgW, hrow, hg1⟩
 have x0 := hg1.cell (box_cell w #[.int .i64 k, .string (zeroT k), .string (oneT k)] 64 (j := 0) rfl) (by simp)
 have x1 := hg1.cell (box_cell w #[.int .i64 k, .string (zeroT k), .string (oneT k)] 64 (j := 1) rfl) (by simp)
 have x2 := hg1.cell (box_cell w #[.int .i64 k, .string (zeroT k), .string (oneT k)] 64 (j := 2) rfl) (by simp)
 have hW : w.grownBy w1 none := grown_trans (World.grownBy_alloc _ _ none) hg1
 have hgb : w.heap.size + 1 ≤ g := by simpa using hgW
 have hinv : MrgInv hk f κ n K g w 0 w1 := ⟨Nat.zero_le _, hW, by omega, by rw [mrgL_zero]; exact hrow, fun s hs => absurd hs (by omega), fun d => fit_zero hk⟩
 have HI := Lib.hid hinv; have HX := Lib.hid (And.intro x0 (And.intro x1 (And.intro x2 hgb)))
 clear hgW hrow hg1 x0 x1 x2 hW hinv hgb
 go_wp2
 go_loopw [17] (fun iv wr => ∃ t : Nat, iv = .int .i64 (t : Int) ∧ MrgInv hk f κ n K g w t wr ∧ wr.cell? ⟨w.heap.size, 0, none⟩ = some (.int .i64 k) ∧ wr.cell? ⟨w.heap.size, 1, none⟩ = some (.string (zeroT k)) ∧ wr.cell? ⟨w.heap.size, 2, none⟩ = some (.string (oneT k))) (fun iv _ => n - (intOf iv).toNat)
 case atStart => exact ⟨0, rfl, HI.out, HX.out.1, HX.out.2.1, HX.out.2.2.1⟩
 case round =>
  obtain ⟨t, rfl, hinv, y0, y1, y2⟩ := hrel
  by_cases ht : t < n
  ·obtain ⟨adf, rfl, hbf, hcf⟩ := HF.out t ht
   obtain ⟨adc, rfl, hbc, hcc⟩ := HC.out t ht
   have cf1 : wr.drew.cell? (adf.add t) = some (.string (tx (f t))) := (cell_same (w := w) (w' := wr) (ad := adf.add t) (by rw [add_block7]; exact hinv.gr.block adf.block hbf (by simp))).trans hcf
   have cc1 : wr.cell? (adc.add t) = some (.int .i64 ((κ t : Nat) : Int)) := (cell_same (ad := adc.add t) (by rw [add_block7]; exact hinv.gr.block adc.block hbc (by simp))).trans hcc
   have hκt := HN.out.2.2 t ht
   have r1 : wr.drew.cell? ⟨g, κ t, none⟩ = some (.string (tx (mrgP hk f κ t (κ t)))) := by
    show wr.cell? _ = _
    rw [cell_of_row wr g (κ t) _ _ (0, 0) hinv.row, List.getElem?_toArray, mrgL_get hk f κ t hκt]
   have hcall := fun w' => cplus_any hk (hinv.now (κ t)) (HFF.out t ht) w'
   rw [← mrgP_at] at hcall
   have t1 : decide (t < n) = true := by simpa using ht
   have t1' : decide ((t : Int) < (n : Int)) = true := by simpa using ht
   have hit : (t : Int) < (n : Int) := by omega
   have i1 : ((κ t : Nat) : Int) < (K : Int) := by omega
   have i2 : (0 : Int) ≤ ((κ t : Nat) : Int) := by omega
   have n1 : IntKind.i64.wrap ((t : Int) + 1) = (t : Int) + 1 := by have := HN.out.1; rw [IntKind.wrap_i64]; omega
   have hne1 : ¬ w.heap.size = g := by have := HX.out.2.2.2; omega
   have hne2 : ¬ g = w.heap.size := by have := HX.out.2.2.2; omega
   have HI2 := Lib.hid hinv; have HCALL := Lib.hid hcall; have HT := Lib.hid (And.intro ht hκt)
   clear hinv hcall ht hκt hbf hcf hbc hcc
   unfold calV at HCALL
   go_upto_region 5 with (fail)
   have d0 : wr.drew.cell? ⟨w.heap.size, 0, none⟩ = some (.int .i64 k) := y0
   have d1 : wr.drew.cell? ⟨w.heap.size, 1, none⟩ = some (.string (zeroT k)) := y1
   have d2 : wr.drew.cell? ⟨w.heap.size, 2, none⟩ = some (.string (oneT k)) := y2
   clear y0 y1 y2
   go_region_with (go_at_call 87; refine (HCALL.out _).mono ?_; rintro e w5 (⟨hp, rfl, hg5⟩ | ⟨hn, rfl, hg5⟩); rotate_left 1; (go_wp2; exact ⟨rfl, .inr ⟨fun h => hn (h t HT.out.1), rfl, grown_trans (grown_trans HI2.out.gr (grown_drew wr none)) hg5⟩⟩); have s0 := hg5.cell d0 (by simp); have s1 := hg5.cell d1 (by simp); have s2 := hg5.cell d2 (by simp); have hr5 := (hg5.block g (Array.getElem?_eq_some_iff.1 HI2.out.row).1 (by simp)).trans (show wr.drew.heap[g]? = _ from HI2.out.row); have z0 := frozen_of_row w5 g (κ t) _ _ hr5; have q0 := cell_of_row w5 g (κ t) _ _ (0, 0) hr5; rw [List.getElem?_toArray, mrgL_get hk f κ t HT.out.2] at q0; have H5 := Lib.hid (And.intro hp (And.intro hg5 hr5)); clear hp hg5 hr5)
   all_goals
    go_wp2
    obtain ⟨hp, hg5, hr5⟩ := H5.out
    exact ⟨⟨t + 1, by simp, HI2.out.next HT.out.1 HT.out.2 (grown_trans (grown_drew wr none) hg5) hr5 hp, set_far hne1 s0, set_far hne1 s1, set_far hne1 s2⟩, by have := HT.out.1; simp [intOf]; omega⟩
  ·have hte : t = n := by have := hinv.le; omega
   subst hte
   have t1 : decide (t < t) = false := by simp
   have t1' : decide ((t : Int) < (t : Int)) = false := by simp
   have HI2 := Lib.hid hinv
   clear hinv ht
   go_wp2
   go_ret
   refine .inl ⟨HI2.out.fit, _, rfl, ⟨g, rfl, HI2.out.hg, (Array.getElem?_eq_some_iff.1 HI2.out.row).1, fun d hd => ?_⟩, HI2.out.gr⟩
   rw [Nat.zero_add, cell_of_row wr g d _ _ (0, 0) HI2.out.row, List.getElem?_toArray, mrgL_get hk f κ t hd]
end
end Go.Proofs.YtaogepcaoogpgaaGreatDoor
