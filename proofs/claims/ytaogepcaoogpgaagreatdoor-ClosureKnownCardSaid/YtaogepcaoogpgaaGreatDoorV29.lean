/- U72 -/
import Derived.Test.YtaogepcaoogpgaaGreatDoorV28
import Derived.Test.YtaogepcaoogpgaaGreatDoorV20
import Derived.Test.YtaogepcaoogpgaaGreatDoorV21
import Derived.Test.YtaogepcaoogpgaaGreatDoorV24
set_option linter.unusedVariables false
set_option linter.unusedSimpArgs false
namespace Go.Proofs.YtaogepcaoogpgaaGreatDoor
open Go.RowKit
section
variable {k : Int}
theorem cell_spot7 {w : World} {ad : Addr} {v : Value} (h : w.cell? ad = some v) : ad = ⟨ad.block, ad.off, none⟩ := by
 obtain ⟨b, o, s⟩ := ad
 unfold World.cell? at h
 split at h
 ·cases s with
  | none => rfl
  | some p => simp at h
 ·cases h
theorem RowR.toG {w : World} {v : Value} {m : Nat} {f : Nat → El k} (h : RowR w v m (txs f)) (hm : 1 ≤ m) : RowG w v m f := by
 obtain ⟨A, c, rfl, h1, h2, h3⟩ := h
 obtain ⟨ad, rfl, hb, hc⟩ := h3 0 (by omega)
 rw [add_zero7] at hc
 have e := cell_spot7 hc
 refine ⟨ad.block, ad.off, c, by rw [← e], h1, h2, hb, fun j hj => ?_⟩
 obtain ⟨_, e2, _, hcj⟩ := h3 j hj
 cases e2
 rw [← add_off, ← e]
 exact hcj
theorem not_errno7 {w : World} {b : Nat} {z : Int} {T : TypeId} (hb : w.heap[b]? = some (.cells #[.int .i64 z] T (0, 0))) {ad : Addr} {v : Value} (h : w.cell? ad = some v) (hv : ∀ y, v ≠ .int .i64 y) : ad.block ≠ b := by
 intro e
 have e2 := cell_spot7 h
 rw [e2, e] at h
 rw [cell_of_row w b ad.off _ _ (0, 0) hb] at h
 obtain ⟨h1, h2⟩ := Array.getElem?_eq_some_iff.1 h
 have : ad.off = 0 := by simpa using h1
 simp [this] at h2
 exact hv z h2.symm
def MatX (w : World) (v : Value) (n m : Nat) (F : Nat → Nat → El k) (b : Nat) : Prop :=
 ∃ rs : Nat → Value, (∃ A cap, v = .slice A n cap ∧ n ≤ cap ∧ cap ≤ maxLen ∧ ∀ j, j < n → ∃ ad, A = some ad ∧ ad.block < w.heap.size ∧ ad.block ≠ b ∧ w.cell? (ad.add j) = some (rs j)) ∧
  ∀ i, i < n → ∃ g o c, rs i = .slice (some ⟨g, o, none⟩) m c ∧ m ≤ c ∧ c ≤ maxLen ∧ g ≠ b ∧ RowAt w g o m (txs (F i))
theorem MatX.mat {w : World} {v : Value} {n m : Nat} {F : Nat → Nat → El k} {b : Nat} (h : MatX w v n m F b) : MatV w v n m F := by
 obtain ⟨rs, ⟨A, cap, h1, h2, h3, h4⟩, h5⟩ := h
 refine ⟨rs, ⟨A, cap, h1, h2, h3, fun j hj => ?_⟩, fun i hi => ?_⟩
 ·obtain ⟨ad, e1, e2, _, e3⟩ := h4 j hj
  exact ⟨ad, e1, e2, e3⟩
 ·obtain ⟨g, o, c, e1, e2, e3, _, e4⟩ := h5 i hi
  exact ⟨g, o, c, e1, e2, e3, e4⟩
theorem MatX.kept {w w' : World} {v : Value} {n m : Nat} {F : Nat → Nat → El k} {b : Nat} (h : MatX w v n m F b) (hg : w.grownBy w' (some b)) : MatX w' v n m F b := by
 obtain ⟨rs, ⟨A, cap, h1, h2, h3, h4⟩, h5⟩ := h
 refine ⟨rs, ⟨A, cap, h1, h2, h3, fun j hj => ?_⟩, fun i hi => ?_⟩
 ·obtain ⟨ad, e1, e2, e0, e3⟩ := h4 j hj
  exact ⟨ad, e1, Nat.lt_of_lt_of_le e2 hg.size, e0, (cell_same (ad := ad.add j) (by rw [add_block7]; exact hg.block _ e2 (by simpa using e0))).trans e3⟩
 ·obtain ⟨g, o, c, e1, e2, e3, e0, e4⟩ := h5 i hi
  exact ⟨g, o, c, e1, e2, e3, e0, e4.grownB hg e0⟩
theorem MatV.other {w : World} {v : Value} {n m : Nat} {F : Nat → Nat → El k} {b : Nat} (h : MatV w v n m F) (hm : 0 < n → 1 ≤ m) {z : Int} {T : TypeId} (hb : w.heap[b]? = some (.cells #[.int .i64 z] T (0, 0))) : MatX w v n m F b := by
 obtain ⟨rs, ⟨A, cap, h1, h2, h3, h4⟩, h5⟩ := h
 refine ⟨rs, ⟨A, cap, h1, h2, h3, fun j hj => ?_⟩, fun i hi => ?_⟩
 ·obtain ⟨ad, e1, e2, e3⟩ := h4 j hj
  obtain ⟨g, o, c, e4, _⟩ := h5 j hj
  refine ⟨ad, e1, e2, ?_, e3⟩
  rw [← add_block7 ad j]
  exact not_errno7 hb e3 (fun y => by rw [e4]; simp)
 ·obtain ⟨g, o, c, e1, e2, e3, e4⟩ := h5 i hi
  exact ⟨g, o, c, e1, e2, e3, not_errno7 (ad := ⟨g, o + 0, none⟩) hb (e4.2 0 (hm (by omega))) (fun y => by unfold txs; simp), e4⟩
theorem MatV.none {w : World} {v : Value} {m m' : Nat} {F F' : Nat → Nat → El k} (h : MatV w v 0 m F) : MatV w v 0 m' F' := by
 obtain ⟨rs, h1, _⟩ := h
 exact ⟨rs, h1, fun i hi => absurd hi (by omega)⟩
theorem MatV.shape {w : World} {v : Value} {n m : Nat} {F : Nat → Nat → El k} (h : MatV w v n m F) : ∃ A c, v = .slice A n c := by
 obtain ⟨rs, ⟨A, c, e, _⟩, _⟩ := h
 exact ⟨A, c, e⟩
theorem MatV.congr {w : World} {v : Value} {n m : Nat} {F F' : Nat → Nat → El k} (h : MatV w v n m F) (e : ∀ i, i < n → ∀ j, j < m → F i j = F' i j) : MatV w v n m F' := by
 obtain ⟨rs, h1, h2⟩ := h
 refine ⟨rs, h1, fun i hi => ?_⟩
 obtain ⟨g, o, c, e1, e2, e3, e4⟩ := h2 i hi
 refine ⟨g, o, c, e1, e2, e3, e4.1, fun j hj => (e4.2 j hj).trans ?_⟩
 unfold txs
 rw [e i hi j hj]
end
open Go.RowKit
section
variable {k : Int}
theorem enters_star1 : Enters 41 := enters_of Tryz.func41 (by kernel_rfl) rfl
theorem unit_mat (hk : IsKind k) {g n : Nat} {zs : List Value} {w : World} (hn : n ≤ 10000) (hl : zs.length = n) (h1 : RowAt w g 0 n (fun j => zs.getD j (.slice none 0 0))) (h2 : UnitRows hk g n zs w) : MatV w (.slice (some ⟨g, 0, none⟩) n n) n n (idm (srE k hk)) :=
 ⟨_, h1.row (Nat.le_refl _) (by unfold maxLen; omega), fun i hi => by
  obtain ⟨gi, e1, e2, e3⟩ := h2 i (by omega)
  exact ⟨gi, 0, n, e1, Nat.le_refl _, by unfold maxLen; omega, e3⟩⟩
theorem idm_fit (hk : IsKind k) (i j : Nat) : FitE (idm (srE k hk) i j) := by
 unfold idm
 split
 ·exact fit_one hk
 ·exact fit_zero hk
theorem solve_unit (hk : IsKind k) (n : Nat) (A : Nat → Nat → El k) (av bv : Value) (w : World) (hn : n ≤ 60) (ha : MatV w av n n A) (hb : MatV w bv n n (idm (srE k hk))) (hf : ∀ i, i < n → ∀ j, j < n → FitE (A i j)) :
  Calls Tryz.prog 43 #[calV k, av, bv] w (OrDieQ (SolveFits (srE k hk) FitE n n n A (idm (srE k hk))) (fun v w' => MatV w' v n n (stM (srE k hk) A n)) w) := by
 by_cases h0 : n = 0
 ·subst h0
  refine (solve_any hk 1 (Nat.le_refl _) 0 0 A (idm (srE k hk)) av bv w (Nat.le_refl _) (by omega) ⟨ha, hb.none, fun i hi => absurd hi (by omega), fun i hi => absurd hi (by omega)⟩).mono (fun e w' h => ?_)
  rcases h with ⟨_, v, h1, h2, h4⟩ | ⟨hn, _⟩
  ·exact .inl ⟨trivial, v, h1, h2.none, h4⟩
  ·exact absurd trivial hn
 ·refine (solve_any hk n (by omega) n n A (idm (srE k hk)) av bv w (Nat.le_refl _) (by omega) ⟨ha, hb, hf, fun i _ j _ => idm_fit hk i j⟩).mono (fun e w' h => ?_)
  rcases h with ⟨hp, v, h1, h2, h4⟩ | h
  ·refine .inl ⟨hp, v, h1, h2.congr (fun i hi j hj => ?_), h4⟩
   rw [solveF_is _ n n A _ (Nat.le_refl _) i j hi, xsol_idm _ A i hj]
  ·exact .inr h
set_option maxRecDepth 20000 in
set_option maxHeartbeats 4000000 in
theorem star1_any (hk : IsKind k) (n gk ga ca : Nat) (Aa : Option Addr) (A : Nat → Nat → El k) (w : World) (hn : n ≤ 60) (hkc : w.cell? ⟨gk, 0, none⟩ = some (.int .i64 k)) (hac : w.cell? ⟨ga, 0, none⟩ = some (.slice Aa n ca)) (ha : MatV w (.slice Aa n ca) n n A) (hf : ∀ i, i < n → ∀ j, j < n → FitE (A i j)) :
  Calls Tryz.prog 41 #[.pointer (some ⟨gk, 0, none⟩), .pointer (some ⟨ga, 0, none⟩)] w (OrDieQ (SolveFits (srE k hk) FitE n n n A (idm (srE k hk))) (fun v w' => MatV w' v n n (stM (srE k hk) A n)) w) := by
 have hof := fun w' => of_any7 k w'
 have hun := fun w' => unit_any hk n w' (by omega)
 have hso := fun (bv : Value) (w' : World) (hg : w.grownBy w' none) (hb : MatV w' bv n n (idm (srE k hk))) => solve_unit hk n A (.slice Aa n ca) bv w' hn (ha.grown hg) hb hf
 have HO := Lib.hid hof; have HU := Lib.hid hun; have HS := Lib.hid hso; have HN := Lib.hid hn
 clear hof hun hso hf ha hn
 unfold calV at *
 go_enter Tryz.func41, Tryz.ntmps41
 go_wp2_with fail
 refine (HO.out _).mono ?_
 rintro e w1 ⟨rfl, hg1⟩
 have k1 := hg1.cell hkc (by simp)
 have a1 := hg1.cell hac (by simp)
 have HG1 := Lib.hid hg1
 clear hg1 hkc hac
 go_upto_region 2 with (fail)
 have hal := World.grownBy_alloc w1 (.cells #[.int .i64 k, .string (zeroT k), .string (oneT k)] 64) none
 have x0 := box_cell w1 #[.int .i64 k, .string (zeroT k), .string (oneT k)] 64 (j := 0) rfl
 have x1 := box_cell w1 #[.int .i64 k, .string (zeroT k), .string (oneT k)] 64 (j := 1) rfl
 have x2 := box_cell w1 #[.int .i64 k, .string (zeroT k), .string (oneT k)] 64 (j := 2) rfl
 have a2 := hal.cell a1 (by simp)
 have hg2 := grown_trans HG1.out hal
 generalize w1.alloc (.cells #[.int .i64 k, .string (zeroT k), .string (oneT k)] 64) = W at *
 have d0 : W.drew.cell? ⟨w1.heap.size, 0, none⟩ = some (.int .i64 k) := x0
 have d1 : W.drew.cell? ⟨w1.heap.size, 1, none⟩ = some (.string (zeroT k)) := x1
 have d2 : W.drew.cell? ⟨w1.heap.size, 2, none⟩ = some (.string (oneT k)) := x2
 have da : W.drew.cell? ⟨ga, 0, none⟩ = some (.slice Aa n ca) := a2
 have HG := Lib.hid (grown_trans hg2 (grown_drew W none))
 clear x0 x1 x2 a1 a2 k1 hal hg2
 go_region_held2 (fun W' => W'.cell? ⟨w1.heap.size, 0, none⟩ = some (.int .i64 k) ∧ W'.cell? ⟨w1.heap.size, 1, none⟩ = some (.string (zeroT k)) ∧ W'.cell? ⟨w1.heap.size, 2, none⟩ = some (.string (oneT k)) ∧ W'.cell? ⟨ga, 0, none⟩ = some (.slice Aa n ca)) (first | exact ⟨d0, d1, d2, da⟩ | exact S5 | exact S6 | go_keep)
  (first
  | (go_at_call 44; refine (HU.out W.drew).mono ?_; rintro e w5 ⟨g, zs, rfl, hgs, hzl, hra, hru, hg5⟩; have S5 := And.intro (hg5.cell d0 (by simp)) (And.intro (hg5.cell d1 (by simp)) (And.intro (hg5.cell d2 (by simp)) (hg5.cell da (by simp)))); have H5 := Lib.hid (And.intro (unit_mat hk (by have := HN.out; omega) hzl hra hru) (grown_trans HG.out hg5)); clear hgs hzl hra hru hg5)
  | (go_at_call 43; refine (HS.out _ w5 H5.out.2 H5.out.1).mono ?_; rintro e w6 (⟨hp6, v6, rfl, hres, hg6⟩ | ⟨hn, rfl, hg6⟩); rotate_left 1; (exact ⟨rfl, .inr ⟨hn, rfl, grown_trans H5.out.2 hg6⟩⟩); have S6 := And.intro (hg6.cell S5.1 (by simp)) (And.intro (hg6.cell S5.2.1 (by simp)) (And.intro (hg6.cell S5.2.2.1 (by simp)) (hg6.cell S5.2.2.2 (by simp)))); have H6 := Lib.hid (And.intro hp6 (And.intro hres (grown_trans H5.out.2 hg6))); clear hp6 hres hg6))
 all_goals
  go_wp2
  go_ret
  exact .inl ⟨H6.out.1, _, rfl, H6.out.2.1, H6.out.2.2⟩
theorem mat_vals (hk : IsKind k) {n : Nat} {G : Nat → Nat → ByteArray} (h : ∀ i j, i < n → j < n → ∃ v, Val k (G i j) v) : ∃ A : Nat → Nat → El k, ∀ i, i < n → ∀ j, j < n → G i j = tx (A i j) ∧ FitE (A i j) := by
 have h1 : ∀ i j, ∃ v : El k, i < n → j < n → G i j = tx v ∧ FitE v := fun i j => by
  by_cases h2 : i < n ∧ j < n
  ·obtain ⟨v, hv⟩ := h i j h2.1 h2.2
   refine ⟨⟨v, hv.has⟩, fun _ _ => ⟨hv.e.text, ?_⟩⟩
   have e := hv.e
   show Fits v
   rcases v with (_ | _) | x
   ·trivial
   ·trivial
   ·exact e.short
  ·exact ⟨(srE k hk).zero, fun h3 h4 => absurd ⟨h3, h4⟩ h2⟩
 exact ⟨fun i j => Classical.choose (h1 i j), fun i hi j hj => Classical.choose_spec (h1 i j) hi hj⟩
def StarPost (k : Int) (n : Nat) (ln : Nat → Nat) (G : Nat → Nat → ByteArray) (w : World) (e : Ending) (w' : World) : Prop :=
 w.grownBy w' none ∧ ((¬ IsMat7 k n ln G ∧ e = .returned (.tuple #[.slice none 0 0, .int .i64 1])) ∨ (IsMat7 k n ln G ∧ 60 < n ∧ e = .returned (.tuple #[.slice none 0 0, .int .i64 2])) ∨
  (n ≤ 60 ∧ (∀ i, i < n → ln i = n) ∧ ∃ (hk : IsKind k) (A : Nat → Nat → El k), (∀ i, i < n → ∀ j, j < n → G i j = tx (A i j) ∧ FitE (A i j)) ∧
   ((SolveFits (srE k hk) FitE n n n A (idm (srE k hk)) ∧ ∃ v, e = .returned (.tuple #[v, .int .i64 0]) ∧ MatV w' v n n (stM (srE k hk) A n)) ∨ (¬ SolveFits (srE k hk) FitE n n n A (idm (srE k hk)) ∧ e = .returned (.tuple #[.slice none 0 0, .int .i64 2])))))
theorem MatA.mat (hk : IsKind k) {w : World} {v : Value} {n : Nat} {ln : Nat → Nat} {G : Nat → Nat → ByteArray} {A : Nat → Nat → El k} (h : MatA w v n ln G) (hl : ∀ i, i < n → ln i = n) (hA : ∀ i, i < n → ∀ j, j < n → G i j = tx (A i j) ∧ FitE (A i j)) : MatV w v n n A := by
 obtain ⟨rs, h1, h2⟩ := h
 refine ⟨rs, h1, fun i hi => ?_⟩
 have h3 := h2 i hi
 rw [hl i hi] at h3
 refine RowR.toG ?_ (by omega)
 obtain ⟨Ai, c, e1, e2, e3, e4⟩ := h3
 refine ⟨Ai, c, e1, e2, e3, fun j hj => ?_⟩
 obtain ⟨ad, q1, q2, q3⟩ := e4 j hj
 refine ⟨ad, q1, q2, q3.trans ?_⟩
 unfold txs
 rw [← (hA i hi j hj).1]
set_option maxRecDepth 20000 in
set_option maxHeartbeats 4000000 in
theorem star_any (k : Int) (n : Nat) (ln : Nat → Nat) (G : Nat → Nat → ByteArray) (av : Value) (w : World) (hn : n ≤ 10000) (ha : MatA w av n ln G) (hs : ∀ i j, (G i j).size ≤ maxLen) :
  Calls Tryz.prog 12 #[.int .i64 k, av] w (StarPost k n ln G w) := by
 have hW : w.grownBy ((w.alloc (.cells #[.int .i64 k] 3)).alloc (.cells #[av] 22)) none := grown_trans (World.grownBy_alloc _ _ none) (World.grownBy_alloc _ _ none)
 have him := isMatrix_any k n ln G av _ hn (ha.grown hW) hs
 have hav : ∃ Aa ca, av = .slice Aa n ca := by
  obtain ⟨rs, ⟨Aa, ca, e, _⟩, _⟩ := ha
  exact ⟨Aa, ca, e⟩
 obtain ⟨Aa, ca, rfl⟩ := hav
 have HI := Lib.hid him; have HA := Lib.hid ha; have HW := Lib.hid hW
 clear him ha hW hs
 have hk1 : ((w.alloc (.cells #[.int .i64 k] 3)).alloc (.cells #[.slice Aa n ca] 22)).cell? ⟨w.heap.size, 0, none⟩ = some (.int .i64 k) := (World.grownBy_alloc _ _ none).cell (box_cell w #[.int .i64 k] _ rfl) (by simp)
 have ha1 : ((w.alloc (.cells #[.int .i64 k] 3)).alloc (.cells #[.slice Aa n ca] 22)).cell? ⟨w.heap.size + 1, 0, none⟩ = some (.slice Aa n ca) := by
  have h := box_cell (w.alloc (.cells #[.int .i64 k] 3)) #[.slice Aa n ca] 22 (j := 0) (u := .slice Aa n ca) rfl
  rw [show (w.alloc (.cells #[.int .i64 k] 3)).heap.size = w.heap.size + 1 by simp] at h
  exact h
 have HX := Lib.hid (And.intro hk1 ha1)
 have hmf : ∀ (fn : Fn) (first cap : Array Value) (w : World), (Instr.makeFunc fn first cap).run Tryz.prog w = .ok (.func fn first cap) w := fun _ _ _ _ => rfl
 clear hk1 ha1
 go_enter Tryz.func12, Tryz.ntmps12
 go_wp2_with fail
 refine HI.out.mono ?_
 rintro e w1 ⟨b, rfl, hb, hg1⟩
 have k1 := hg1.cell HX.out.1 (by simp)
 have a1 := hg1.cell HX.out.2 (by simp)
 have hgw : w.grownBy w1 none := grown_trans HW.out hg1
 have HB := Lib.hid hb; have HG := Lib.hid hgw
 clear hb hg1 hgw HI HX HW
 cases b
 ·go_wp2
  refine bodyPost_ret (v := .tuple #[.slice none 0 0, .int .i64 1]) (by simp [results, Tryz.results12, go_sem]) rfl ⟨HG.out, .inl ⟨fun h => ?_, rfl⟩⟩
  have := HB.out.2 h
  cases this
 ·have hm := HB.out.1 rfl
  by_cases h60 : 60 < n
  ·have t1 : decide (60 < n) = true := by simpa using h60
   have t2 : decide ((60 : Int) < (n : Int)) = true := by simp; omega
   have t3 : (60 : Int) < (n : Int) := by omega
   have HM := Lib.hid (And.intro hm h60)
   clear hm h60
   go_wp2
   exact bodyPost_ret (v := .tuple #[.slice none 0 0, .int .i64 2]) (by simp [results, Tryz.results12, go_sem]) rfl ⟨HG.out, .inr (.inl ⟨HM.out.1, HM.out.2, rfl⟩)⟩
  ·have t1 : decide (60 < n) = false := by simpa using h60
   have t2 : decide ((60 : Int) < (n : Int)) = false := by simp; omega
   have t3 : ¬ (60 : Int) < (n : Int) := by omega
   obtain ⟨hk, hl, hv⟩ := hm
   obtain ⟨A, hA⟩ := mat_vals hk hv
   have hmat := (HA.out.grown HG.out).mat hk hl hA
   have hal := World.grownBy_alloc w1 (.cells #[.int .i64 0] 24) none
   have hst := star1_any hk n w.heap.size (w.heap.size + 1) ca Aa A (w1.alloc (.cells #[.int .i64 0] 24)) (by omega) (hal.cell k1 (by simp)) (hal.cell a1 (by simp)) (hmat.grown hal) (fun i hi j hj => (hA i hi j hj).2)
   have hat := attempt_rows (WB := w1.heap.size) 41 enters_star1 #[] #[.pointer (some ⟨w.heap.size, 0, none⟩), .pointer (some ⟨w.heap.size + 1, 0, none⟩)] (SolveFits (srE k hk) FitE n n n A (idm (srE k hk))) (fun v w' => MatX w' v n n (stM (srE k hk) A n) w1.heap.size)
    (fun v wa wb b hb hg e hq => by subst e; exact hq.kept hg) w1 rfl (hst.mono (fun e w' h => by
     rcases h with ⟨hp, v, h1, h2, h4⟩ | h
     ·obtain ⟨A1, c1, e1⟩ := h2.shape
      exact .inl ⟨hp, v, h1, ⟨⟨A1, _, c1, e1⟩, h2.other (fun h => h) ((h4.block w1.heap.size (by simp) (by simp)).trans (new_block w1 _))⟩, h4⟩
     ·exact .inr h))
   have HT := Lib.hid hat; have HF := Lib.hid (And.intro h60 (And.intro hl hA))
   clear hat hst hal hmat hA hl hv h60
   go_wp2_with fail
   refine HT.out.mono ?_
   rintro e w2 (⟨hp, v, rfl, hq, hg2⟩ | ⟨hn2, rfl, hg2⟩)
   ·have H2 := Lib.hid (And.intro hp (And.intro hq.mat (grown_trans HG.out hg2)))
    clear hp hq hg2
    go_wp2
    exact bodyPost_ret (v := .tuple #[v, .int .i64 0]) (by simp [results, Tryz.results12, go_sem]) rfl ⟨H2.out.2.2, .inr (.inr ⟨by have := HF.out.1; omega, HF.out.2.1, hk, A, HF.out.2.2, .inl ⟨H2.out.1, v, rfl, H2.out.2.1⟩⟩)⟩
   ·have H2 := Lib.hid (And.intro hn2 (grown_trans HG.out hg2))
    clear hn2 hg2
    go_wp2
    exact bodyPost_ret (v := .tuple #[.slice none 0 0, .int .i64 2]) (by simp [results, Tryz.results12, go_sem]) rfl ⟨H2.out.2, .inr (.inr ⟨by have := HF.out.1; omega, HF.out.2.1, hk, A, HF.out.2.2, .inr ⟨H2.out.1, rfl⟩⟩)⟩
end
end Go.Proofs.YtaogepcaoogpgaaGreatDoor
