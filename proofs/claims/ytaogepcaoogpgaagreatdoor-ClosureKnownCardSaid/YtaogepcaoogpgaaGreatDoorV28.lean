/- U71 -/
import Derived.Test.YtaogepcaoogpgaaGreatDoorV27
import Derived.Test.YtaogepcaoogpgaaGreatDoorV20
import Derived.Test.YtaogepcaoogpgaaGreatDoorV22
set_option linter.unusedVariables false
set_option linter.unusedSimpArgs false
namespace Go.Proofs.YtaogepcaoogpgaaGreatDoor
open Go.RowKit
section
variable {k : Int}
def MatV (w : World) (v : Value) (n m : Nat) (F : Nat → Nat → El k) : Prop := ∃ rs : Nat → Value, RowR w v n rs ∧ ∀ i, i < n → RowG w (rs i) m (F i)
theorem MatV.grown {w w' : World} {v : Value} {n m : Nat} {F : Nat → Nat → El k} (h : MatV w v n m F) (hg : w.grownBy w' none) : MatV w' v n m F := by
 obtain ⟨rs, h1, h2⟩ := h
 exact ⟨rs, h1.grown hg, fun i hi => (h2 i hi).grown hg⟩
theorem ElimRes.mat {w' : World} {B n m : Nat} {F : Nat → Nat → El k} {v : Value} (h : ElimRes B n m F v w') : MatV w' v n m F := by
 obtain ⟨zs, g, h1, h2, h3⟩ := h
 exact ⟨_, h1.rowR, fun i hi => by
  obtain ⟨gi, o, ci, e1, e2, e3, e4, e5⟩ := h3 i hi
  exact ⟨gi, o, ci, e1, e2, e3, e5⟩⟩
theorem RowsAt.mat {w : World} {H g n m : Nat} {zs : List Value} {F : Nat → Nat → El k} (h : RowsAt w H g n m zs (fun i => txs (F i))) (hn : n ≤ 10000) : MatV w (.slice (some ⟨g, 0, none⟩) n n) n m F :=
 ⟨fun j => zs.getD j (.slice none 0 0), h.2.1.row (Nat.le_refl _) (by unfold maxLen; omega), fun i hi => by
  obtain ⟨gi, o, c, h1, h2, h3, h4, h5⟩ := h.2.2 i hi
  exact ⟨gi, o, c, h1, h2, h3, h5⟩⟩
theorem enters_joined : Enters 77 := enters_of Tryz.func77 (by kernel_rfl) rfl
theorem enters_solve1 : Enters 79 := enters_of Tryz.func79 (by kernel_rfl) rfl
theorem enters_solve2 : Enters 81 := enters_of Tryz.func81 (by kernel_rfl) rfl
theorem enters_solve3 : Enters 85 := enters_of Tryz.func85 (by kernel_rfl) rfl
theorem augM_txs (A b : Nat → Nat → El k) (n i j : Nat) : (Value.string (if j < n then tx (A i j) else tx (b i (j - n)))) = txs (augM A b n i) j := by
 unfold txs augM
 split <;> rfl
theorem mrg_now7 (hk : IsKind k) (f : Nat → El k) (κ : Nat → Nat) : ∀ t, (∀ s, s < t → FitE (mrgP hk f κ (s + 1) (κ s))) → ∀ d, FitE (mrgP hk f κ t d)
 | 0, _, d => fit_zero hk
 | t + 1, h, d => by
  by_cases e : d = κ t
  ·subst e; exact h t (by omega)
  ·rw [mrgP_off hk f κ t d e]; exact mrg_now7 hk f κ t (fun s hs => h s (by omega)) d
theorem solve_fit7 (hk : IsKind k) {m : Nat} : ∀ {s n : Nat} {A b : Nat → Nat → El k}, n ≤ s → SolveFits (srE k hk) FitE s n m A b → ∀ i, i < n → ∀ j, j < m → FitE (solveF (srE k hk) s n A b i j)
 | 0, n, A, b, hn, h, i, hi, j, hj => absurd hi (by omega)
 | s + 1, n, A, b, hn, h, i, hi, j, hj => by
  unfold solveF
  unfold SolveFits at h
  by_cases hk2 : (repR n A).length = n
  ·rw [if_pos hk2] at h ⊢
   exact elim_fit7 hk h i hi j hj
  ·rw [if_neg hk2] at h ⊢
   exact h.2.2.2 i hi j hj
structure SolveIn (w : World) (n m : Nat) (A b : Nat → Nat → El k) (av bv : Value) : Prop where
 ma : MatV w av n n A
 mb : MatV w bv n m b
 fa : ∀ i, i < n → ∀ j, j < n → FitE (A i j)
 fb : ∀ i, i < n → ∀ j, j < m → FitE (b i j)
theorem SolveIn.grown {w w' : World} {n m : Nat} {A b : Nat → Nat → El k} {av bv : Value} (h : SolveIn w n m A b av bv) (hg : w.grownBy w' none) : SolveIn w' n m A b av bv := ⟨h.ma.grown hg, h.mb.grown hg, h.fa, h.fb⟩
def SolvePost (hk : IsKind k) (s n m : Nat) (A b : Nat → Nat → El k) (w : World) (e : Ending) (w' : World) : Prop := OrDieQ (SolveFits (srE k hk) FitE s n m A b) (fun v w' => MatV w' v n m (solveF (srE k hk) s n A b)) w e w'
theorem combine_joined (n m : Nat) (hnm : n + m ≤ 10000) (hm : 1 ≤ m) (A b : Nat → Nat → El k) (av bv : Value) (w : World) (h : SolveIn w n m A b av bv) :
  Calls Tryz.prog 76 #[av, bv, .func (.func 77) #[] #[]] w fun e w' => ∃ zs, e = .returned (.slice (some ⟨w.heap.size, 0, none⟩) n n) ∧ RowsAt w' w.heap.size w.heap.size n (n + m) zs (fun i => txs (augM A b n i)) ∧ w.grownBy w' none := by
 obtain ⟨ra, ha1, ha2⟩ := h.ma
 obtain ⟨rb, hb1, hb2⟩ := h.mb
 have hc := combined_rows 77 enters_joined #[] #[] n n ra rb (n + m) (fun _ => True) (fun i => txs (augM A b n i)) av bv w (by omega) ha1 hb1 (Nat.le_refl _) (fun i hi w' hw' => by
  have hj := joined_any7 n m (ra i) (rb i) (fun j => tx (A i j)) (fun j => tx (b i j)) w' (by omega) (by omega) (by omega) (by omega) ((ha2 i hi).grown hw').row ((hb2 i hi).grown hw').row
  refine hj.mono (fun e w2 hq => ?_)
  obtain ⟨g, c, rfl, h1, h2, h3, h4, h5⟩ := hq
  refine .inl ⟨trivial, _, rfl, ⟨g, 0, c, rfl, h1, h2, .inr h3, h4.1, fun j hj => (h4.2 j hj).trans ?_⟩, h5⟩
  dsimp only
  rw [augM_txs])
 refine hc.mono (fun e w2 hq => ?_)
 rcases hq with ⟨_, v, rfl, ⟨zs, rfl, hzs⟩, hg⟩ | ⟨hn, _⟩
 ·exact ⟨zs, rfl, hzs, hg⟩
 ·exact absurd (fun _ _ => trivial) hn
set_option maxRecDepth 20000 in
set_option maxHeartbeats 4000000 in
theorem solve_step (hk : IsKind k) (m : Nat) (hm : 1 ≤ m) (s n : Nat) (A b : Nat → Nat → El k) (av bv : Value) (w : World) (hns : n ≤ s + 1) (hnm : n + m ≤ 10000) (hin : SolveIn w n m A b av bv)
  (ih : ∀ (K : Nat) (A b : Nat → Nat → El k) (av bv : Value) (w : World), K < n → SolveIn w K m A b av bv → Calls Tryz.prog 43 #[calV k, av, bv] w (SolvePost hk s K m A b w)) :
  Calls Tryz.prog 43 #[calV k, av, bv] w (SolvePost hk (s + 1) n m A b w) := by
 obtain ⟨ra, ha1, ha2⟩ := hin.ma
 have hdist := fun (w1 : World) (hg : w.grownBy w1 none) => distinct_any n n A ra av w1 (by omega) (by omega) (ha1.grown hg) (fun i hi => (ha2 i hi).grown hg) hin.fa
 obtain ⟨Aa, ca, rfl, _, _, _⟩ := ha1
 obtain ⟨rb, ⟨Ab, cb, rfl, _, _, _⟩, _⟩ := hin.mb
 have hW : w.grownBy ((w.alloc (.cells #[.int .i64 k, .string (zeroT k), .string (oneT k)] 64)).alloc (.cells #[.slice Ab n cb] 22)) none := grown_trans (World.grownBy_alloc _ _ none) (World.grownBy_alloc _ _ none)
 have HD := Lib.hid hdist; have HI := Lib.hid hin; have HN := Lib.hid (And.intro hns (And.intro hnm hm)); have HA := Lib.hid ha2; have HW := Lib.hid hW
 clear hdist hin hns hnm hm ha2 hW
 unfold calV at *
 go_enter Tryz.func43, Tryz.ntmps43
 go_wp2_with fail
 refine (HD.out _ HW.out).mono ?_
 rintro e w1 ⟨rv, cv, rfl, hinv⟩
 have hs := rep_is n A
 have hrv : RowR w1 rv (repR n A).length (fun c => ((repR n A).map ra).getD c (.slice none 0 0)) := own_rowR7 hinv.own1 _
 have hcv : RowR w1 cv (clsR n A).length (fun c => ((clsR n A).map (fun x => Value.int .i64 ((x : Nat) : Int))).getD c (.int .i64 0)) := own_rowR7 hinv.own2 _
 have hg1 := hinv.gr
 obtain ⟨Ar, cr, rfl, hr1, hr2, hr3⟩ := hrv
 obtain ⟨Ac, cc, rfl, hc1, hc2, hc3⟩ := hcv
 rw [hs.len] at hc1 hc3
 have hclen : (clsR n A).length = n := hs.len
 obtain ⟨K, hK⟩ : ∃ K, (repR n A).length = K := ⟨_, rfl⟩
 rw [hK] at hr1 hr3
 rw [hK, hclen]
 have H1 := Lib.hid (And.intro hs (And.intro hK (And.intro hg1 (And.intro hr1 (And.intro hr2 (And.intro hr3 (And.intro hc1 (And.intro hc2 hc3))))))))
 clear hs hK hg1 hr1 hr2 hr3 hc1 hc2 hc3 hinv hclen
 go_upto_region 2 with (fail)
 obtain ⟨hs, hK, hg1, hr1, hr2, hr3, hc1, hc2, hc3⟩ := H1.out
 have hsz1 : w.heap.size + 2 ≤ w1.heap.size := by have := hg1.size; simpa using this
 have hal1 := World.grownBy_alloc w1 (.cells #[.slice Ar K cr] 22) none
 have hal2 := World.grownBy_alloc (w1.alloc (.cells #[.slice Ar K cr] 22)) (.cells #[.slice Ac n cc] 51) none
 have hg2 : w.grownBy ((w1.alloc (.cells #[.slice Ar K cr] 22)).alloc (.cells #[.slice Ac n cc] 51)) none := grown_trans (grown_trans (grown_trans HW.out hg1) hal1) hal2
 have hW1 := World.grownBy_alloc (w.alloc (.cells #[.int .i64 k, .string (zeroT k), .string (oneT k)] 64)) (.cells #[.slice Ab n cb] 22) none
 have xc : CalAt ((w1.alloc (.cells #[.slice Ar K cr] 22)).alloc (.cells #[.slice Ac n cc] 51)) w.heap.size k := by
  have h : CalAt (w.alloc (.cells #[.int .i64 k, .string (zeroT k), .string (oneT k)] 64)) w.heap.size k := ⟨box_cell w _ _ rfl, box_cell w _ _ rfl, box_cell w _ _ rfl⟩
  exact (((h.grown hW1).grown hg1).grown hal1).grown hal2
 have xb : ((w1.alloc (.cells #[.slice Ar K cr] 22)).alloc (.cells #[.slice Ac n cc] 51)).cell? ⟨w.heap.size + 1, 0, none⟩ = some (.slice Ab n cb) := by
  have h := box_cell (w.alloc (.cells #[.int .i64 k, .string (zeroT k), .string (oneT k)] 64)) #[.slice Ab n cb] 22 (j := 0) (u := .slice Ab n cb) rfl
  rw [show (w.alloc (.cells #[.int .i64 k, .string (zeroT k), .string (oneT k)] 64)).heap.size = w.heap.size + 1 by simp] at h
  exact hal2.cell (hal1.cell (hg1.cell h (by simp)) (by simp)) (by simp)
 have xr : ((w1.alloc (.cells #[.slice Ar K cr] 22)).alloc (.cells #[.slice Ac n cc] 51)).cell? ⟨w1.heap.size, 0, none⟩ = some (.slice Ar K cr) := hal2.cell (box_cell w1 _ _ rfl) (by simp)
 have xl : ((w1.alloc (.cells #[.slice Ar K cr] 22)).alloc (.cells #[.slice Ac n cc] 51)).cell? ⟨w1.heap.size + 1, 0, none⟩ = some (.slice Ac n cc) := by
  have h := box_cell (w1.alloc (.cells #[.slice Ar K cr] 22)) #[.slice Ac n cc] 51 (j := 0) (u := .slice Ac n cc) rfl
  rw [show (w1.alloc (.cells #[.slice Ar K cr] 22)).heap.size = w1.heap.size + 1 by simp] at h
  exact h
 have hrows : RowR ((w1.alloc (.cells #[.slice Ar K cr] 22)).alloc (.cells #[.slice Ac n cc] 51)) (.slice Ar K cr) K (fun c => ra ((repR n A).getD c 0)) := by
  have h : RowR w1 (.slice Ar K cr) K (fun c => ra ((repR n A).getD c 0)) := ⟨Ar, cr, rfl, hr1, hr2, fun j hj => by
   obtain ⟨ad, e1, e2, e3⟩ := hr3 j hj
   refine ⟨ad, e1, e2, e3.trans ?_⟩
   dsimp only
   rw [List.getD_eq_getElem?_getD, List.getElem?_map, List.getD_eq_getElem?_getD, List.getElem?_eq_getElem (by omega)]
   rfl⟩
  exact (h.grown hal1).grown hal2
 have hcls : RowR ((w1.alloc (.cells #[.slice Ar K cr] 22)).alloc (.cells #[.slice Ac n cc] 51)) (.slice Ac n cc) n (fun c => .int .i64 (((clsR n A).getD c 0 : Nat) : Int)) := by
  have h : RowR w1 (.slice Ac n cc) n (fun c => .int .i64 (((clsR n A).getD c 0 : Nat) : Int)) := ⟨Ac, cc, rfl, hc1, hc2, fun j hj => by
   obtain ⟨ad, e1, e2, e3⟩ := hc3 j hj
   refine ⟨ad, e1, e2, e3.trans ?_⟩
   dsimp only
   rw [List.getD_eq_getElem?_getD, List.getElem?_map, List.getD_eq_getElem?_getD, List.getElem?_eq_getElem (by rw [hs.len]; omega)]
   rfl⟩
  exact (h.grown hal1).grown hal2
 generalize hL : w1.heap.size = L at *
 generalize ((w1.alloc (.cells #[.slice Ar K cr] 22)).alloc (.cells #[.slice Ac n cc] 51)) = W2 at *
 have HX := Lib.hid (And.intro xc (And.intro xb (And.intro xr (And.intro xl (And.intro hrows (And.intro hcls hg2)))))); have HS := Lib.hid (And.intro hs hK)
 have d0 := xc.1
 have d1 := xc.2.1
 have d2 := xc.2.2
 clear hal1 hal2 hW1 hr1 hr2 hr3 hc1 hc2 hc3 H1 hg1 HD HW hL
 clear hs hK hg2 xc hrows hcls
 by_cases hKn : K = n
 ·subst hKn
  have t1 : ((K : Int) == (K : Int)) = true := by simp
  have hcomb := combine_joined K m HN.out.2.1 HN.out.2.2 A b (.slice Aa K ca) (.slice Ab K cb) W2.drew (HI.out.grown (grown_trans HX.out.2.2.2.2.2.2 (grown_drew _ none)))
  have helim := fun (w5 : World) (zs : List Value) (hr : RowsAt w5 W2.heap.size W2.heap.size K (K + m) zs (fun i => txs (augM A b K i))) =>
   eliminate_any hk m HN.out.2.2 K (augM A b K) W2.heap.size 0 K (fun j => zs.getD j (.slice none 0 0)) w5 HN.out.2.1 (Nat.le_refl _) (by have := HN.out.2.1; unfold maxLen; omega) hr.2.1 (fun i hi => by
    obtain ⟨gi, o, c, h1, h2, h3, h4, h5⟩ := hr.2.2 i hi
    exact ⟨gi, o, c, h1, h2, h3, h5⟩) (fun i hi j hj => by
    unfold augM
    split
    ·exact HI.out.fa i hi j (by assumption)
    ·exact HI.out.fb i hi (j - K) (by omega))
  have HC := Lib.hid hcomb; have HE := Lib.hid helim
  clear hcomb helim ih
  have hfit : SolveFits (srE k hk) FitE (s + 1) K m A b = ElimFits (srE k hk) FitE K m (augM A b K) := by
   show (if (repR K A).length = K then _ else _) = _
   rw [if_pos HS.out.2]
  have hval : solveF (srE k hk) (s + 1) K A b = elimF (srE k hk) K (augM A b K) := by
   funext i J
   show (if (repR K A).length = K then _ else _) = _
   rw [if_pos HS.out.2]
  have HFV := Lib.hid (And.intro hfit hval)
  clear hfit hval
  unfold calV at HE
  have hgd : w.grownBy W2.drew none := grown_trans HX.out.2.2.2.2.2.2 (grown_drew _ none)
  have HG := Lib.hid hgd
  clear hgd
  have e0 : W2.drew.cell? ⟨w.heap.size, 0, none⟩ = some (.int .i64 k) := d0
  have e1 : W2.drew.cell? ⟨w.heap.size, 1, none⟩ = some (.string (zeroT k)) := d1
  have e2 : W2.drew.cell? ⟨w.heap.size, 2, none⟩ = some (.string (oneT k)) := d2
  have e3 : W2.drew.cell? ⟨w.heap.size + 1, 0, none⟩ = some (.slice Ab K cb) := xb
  go_upto_region 3 with (fail)
  go_region_held2 (fun W' => W'.cell? ⟨w.heap.size, 0, none⟩ = some (.int .i64 k) ∧ W'.cell? ⟨w.heap.size, 1, none⟩ = some (.string (zeroT k)) ∧ W'.cell? ⟨w.heap.size, 2, none⟩ = some (.string (oneT k)) ∧ W'.cell? ⟨w.heap.size + 1, 0, none⟩ = some (.slice Ab K cb)) (first | exact ⟨e0, e1, e2, e3⟩ | exact S5 | exact S6 | go_keep)
   (first
   | (go_at_call 76; refine HC.out.mono ?_; rintro e w5 ⟨zs, rfl, hzs, hg5⟩; have S5 := And.intro (hg5.cell e0 (by simp)) (And.intro (hg5.cell e1 (by simp)) (And.intro (hg5.cell e2 (by simp)) (hg5.cell e3 (by simp)))); have H5 := Lib.hid (And.intro hzs hg5); clear hzs hg5)
   | (go_at_call 75; refine (HE.out w5 zs H5.out.1).mono ?_; rintro e w6 (⟨hp6, v6, rfl, hres, hg6⟩ | ⟨hn, rfl, hg6⟩); rotate_left 1; (exact ⟨rfl, .inr ⟨fun h => hn (HFV.out.1 ▸ h), rfl, grown_trans (grown_trans HG.out H5.out.2) hg6⟩⟩); have S6 := And.intro (hg6.cell S5.1 (by simp)) (And.intro (hg6.cell S5.2.1 (by simp)) (And.intro (hg6.cell S5.2.2.1 (by simp)) (hg6.cell S5.2.2.2 (by simp)))); have H6 := Lib.hid (And.intro hp6 (And.intro hres hg6)); clear hp6 hres hg6))
  all_goals
   go_wp2
   go_ret
   exact .inl ⟨HFV.out.1 ▸ H6.out.1, _, rfl, HFV.out.2 ▸ H6.out.2.1.mat, grown_trans (grown_trans HG.out H5.out.2) H6.out.2.2⟩
 ·have t1 : ((K : Int) == (n : Int)) = false := by simp; omega
  have hKlt : K < n := by have h1 := HS.out.1.le; have h2 := HS.out.2; omega
  have hκ : ∀ j, j < n → (clsR n A).getD j 0 < K := fun j hj => by have h := (HS.out.1.cl j hj).1; rw [HS.out.2] at h; exact h
  have hρ : ∀ c, c < K → (repR n A).getD c 0 < n := fun c hc => HS.out.1.rl c (by rw [HS.out.2]; exact hc)
  have hmf : ∀ (fn : Fn) (first cap : Array Value) (w : World), (Instr.makeFunc fn first cap).run Tryz.prog w = .ok (.func fn first cap) w := fun _ _ _ _ => rfl
  have hfit : SolveFits (srE k hk) FitE (s + 1) n m A b = ((∀ c, c < K → MrgFits (srE k hk) FitE n (A ((repR n A).getD c 0)) (fun j => (clsR n A).getD j 0)) ∧ (∀ c, c < K → SumFits (srE k hk) FitE n m (fun _ => (srE k hk).zero) (A ((repR n A).getD c 0)) b) ∧
    SolveFits (srE k hk) FitE s K m (mrgA (srE k hk) n A) (mrgB (srE k hk) n A b) ∧ ∀ i, i < n → ∀ J, J < m → FitE ((srE k hk).add (b i J) (solveF (srE k hk) s K (mrgA (srE k hk) n A) (mrgB (srE k hk) n A b) ((clsR n A).getD i 0) J))) := by
   show (if (repR n A).length = n then _ else _) = _
   rw [HS.out.2, if_neg hKn]
  have hval : solveF (srE k hk) (s + 1) n A b = fun i J => (srE k hk).add (b i J) (solveF (srE k hk) s K (mrgA (srE k hk) n A) (mrgB (srE k hk) n A b) ((clsR n A).getD i 0) J) := by
   funext i J
   show (if (repR n A).length = n then _ else _) = _
   rw [HS.out.2, if_neg hKn]
  obtain ⟨xc, _, xr2, xl2, hrows, hcls, hg2⟩ := HX.out
  have h1 := mapped_rows 79 enters_solve1 #[] #[.pointer (some ⟨w.heap.size, 0, none⟩), .pointer (some ⟨L + 1, 0, none⟩), .pointer (some ⟨L, 0, none⟩)] K (fun c => ra ((repR n A).getD c 0)) K
   (fun c => MrgFits (srE k hk) FitE n (A ((repR n A).getD c 0)) (fun j => (clsR n A).getD j 0)) (fun c => txs (mrgA (srE k hk) n A c)) (.slice Ar K cr) W2 (by have := HN.out.2.1; omega) hrows (fun c hc w' hw' => by
    have hr := (HA.out _ (hρ c hc)).grown (grown_trans hg2 hw')
    have h := solve1_any hk (A ((repR n A).getD c 0)) (fun j => (clsR n A).getD j 0) n K w.heap.size (L + 1) L Ac Ar cc cr (ra ((repR n A).getD c 0)) w' (by have := HN.out.2.1; omega) (by have := HN.out.2.1; omega) hκ hr.row (HI.out.fa _ (hρ c hc)) (xc.grown hw') (hw'.cell xl2 (by simp)) (hw'.cell xr2 (by simp)) (hcls.grown hw')
    refine h.mono (fun e w3 h => ?_)
    rcases h with ⟨hp, v, e1, ⟨g, e2, q1, q2⟩, q3⟩ | ⟨hp, q⟩
    ·exact .inl ⟨hp, v, e1, ⟨g, 0, K, e2, Nat.le_refl _, by have := HN.out.2.1; unfold maxLen; omega, .inr q1, q2⟩, q3⟩
    ·exact .inr ⟨hp, q⟩)
  have h2 := fun (w3 : World) (hg3 : W2.grownBy w3 none) => mapped_rows 81 enters_solve2 #[] #[.pointer (some ⟨w.heap.size, 0, none⟩), .pointer (some ⟨w.heap.size + 1, 0, none⟩)] K (fun c => ra ((repR n A).getD c 0)) m
   (fun c => SumFits (srE k hk) FitE n m (fun _ => (srE k hk).zero) (A ((repR n A).getD c 0)) b) (fun c => txs (mrgB (srE k hk) n A b c)) (.slice Ar K cr) w3 (by have := HN.out.2.1; omega) (hrows.grown hg3) (fun c hc w' hw' => by
    have hgw := grown_trans hg3 hw'
    have hr := (HA.out _ (hρ c hc)).grown (grown_trans hg2 hgw)
    obtain ⟨rb2, hb1, hb2⟩ := (HI.out.mb).grown (grown_trans hg2 hgw)
    have h := solve2_any hk (A ((repR n A).getD c 0)) b n m w.heap.size (w.heap.size + 1) Ab cb rb2 (ra ((repR n A).getD c 0)) w' (by omega) (by have := HN.out.2.1; omega) (by have := HN.out.2.1; omega) hr.row (HI.out.fa _ (hρ c hc)) (xc.grown hgw) (hgw.cell xb (by simp)) hb1 (fun i hi => (hb2 i hi).row) HI.out.fb
    refine h.mono (fun e w3 h => ?_)
    rcases h with ⟨hp, v, e1, ⟨g, o, c2, e2, q1, q2, q3, q4⟩, q5⟩ | ⟨hp, q⟩
    ·exact .inl ⟨hp, v, e1, ⟨g, o, c2, e2, q1, q2, .inr q3, q4⟩, q5⟩
    ·exact .inr ⟨hp, q⟩)
  have h3 := fun (v1 v2 : Value) (w4 : World) (hm1 : MatV w4 v1 K K (mrgA (srE k hk) n A)) (hm2 : MatV w4 v2 K m (mrgB (srE k hk) n A b)) (hp1 : ∀ c, c < K → MrgFits (srE k hk) FitE n (A ((repR n A).getD c 0)) (fun j => (clsR n A).getD j 0)) (hp2 : ∀ c, c < K → SumFits (srE k hk) FitE n m (fun _ => (srE k hk).zero) (A ((repR n A).getD c 0)) b) =>
   ih K (mrgA (srE k hk) n A) (mrgB (srE k hk) n A b) v1 v2 w4 hKlt ⟨hm1, hm2, fun i hi j hj => mrg_now7 hk _ _ n (hp1 i hi) j, fun i hi j hj => by
    obtain ⟨n', rfl⟩ : ∃ n', n = n' + 1 := ⟨n - 1, by omega⟩
    exact (hp2 i hi n' (by omega) j hj).2⟩
  have h4 := fun (w6 : World) (hg6 : W2.grownBy w6 none) (gy : Nat) (Ay : Option Addr) (cy : Nat) (ys : Nat → Value) (hyc : w6.cell? ⟨gy, 0, none⟩ = some (.slice Ay K cy)) (hy : RowR w6 (.slice Ay K cy) K ys) (hyr : ∀ d, d < K → RowG w6 (ys d) m (solveF (srE k hk) s K (mrgA (srE k hk) n A) (mrgB (srE k hk) n A b) d)) (hyf : ∀ d, d < K → ∀ j, j < m → FitE (solveF (srE k hk) s K (mrgA (srE k hk) n A) (mrgB (srE k hk) n A b) d j)) =>
   (show ∃ rb2 : Nat → Value, Calls Tryz.prog 84 #[.slice Ab n cb, .slice Ac n cc, .func (.func 85) #[] #[.pointer (some ⟨gy, 0, none⟩), .pointer (some ⟨w.heap.size, 0, none⟩)]] w6
     (RowsPost (∀ i, i < n → ∀ J, J < m → FitE ((srE k hk).add (b i J) (solveF (srE k hk) s K (mrgA (srE k hk) n A) (mrgB (srE k hk) n A b) ((clsR n A).getD i 0) J))) n m (fun i => txs (fun J => (srE k hk).add (b i J) (solveF (srE k hk) s K (mrgA (srE k hk) n A) (mrgB (srE k hk) n A b) ((clsR n A).getD i 0) J))) w6) by
    obtain ⟨rb2, hb1, hb2⟩ := (HI.out.mb).grown (grown_trans hg2 hg6)
    refine ⟨rb2, combined_cls 85 enters_solve3 #[] #[.pointer (some ⟨gy, 0, none⟩), .pointer (some ⟨w.heap.size, 0, none⟩)] n n rb2 (fun c => .int .i64 (((clsR n A).getD c 0 : Nat) : Int)) m _ _ (.slice Ab n cb) (.slice Ac n cc) w6 (by have := HN.out.2.1; omega) hb1 (hcls.grown hg6) (Nat.le_refl _) (fun i hi w' hw' => ?_)⟩
    have h := solve3_any hk (b i) (solveF (srE k hk) s K (mrgA (srE k hk) n A) (mrgB (srE k hk) n A b) ((clsR n A).getD i 0)) K m ((clsR n A).getD i 0) w.heap.size gy Ay cy ys (rb2 i) w' (by have := HN.out.2.1; omega) (hκ i hi) ((hb2 i hi).grown hw').row (HI.out.fb i hi) ((xc.grown hg6).grown hw') (hw'.cell hyc (by simp)) (hy.grown hw') ((hyr _ (hκ i hi)).grown hw').row (hyf _ (hκ i hi))
    refine h.mono (fun e w3 h => ?_)
    rcases h with ⟨hp, v, e1, ⟨e2, q2⟩, q3⟩ | ⟨hp, q⟩
    ·exact .inl ⟨hp, v, e1, ⟨w'.heap.size, 0, m, e2, Nat.le_refl _, by have := HN.out.2.1; unfold maxLen; omega, .inr (Nat.le_refl _), q2⟩, q3⟩
    ·exact .inr ⟨hp, q⟩)
  have Q1 := Lib.hid h1; have Q2 := Lib.hid h2; have Q3 := Lib.hid h3; have Q4 := Lib.hid h4; have HFV := Lib.hid (And.intro hfit hval); have HG2 := Lib.hid hg2; have HKL := Lib.hid hKlt
  clear h1 h2 h3 h4 hfit hval ih hκ hρ hrows hcls xc xr2 xl2 hg2 hKlt hKn
  go_wp2_with fail
  refine Q1.out.mono ?_
  rintro e w3 (⟨hp1, v1, rfl, ⟨zs1, rfl, hzs1⟩, hg3⟩ | ⟨hn, rfl, hg3⟩)
  rotate_left 1
  ·exact ⟨rfl, .inr ⟨fun h => hn (HFV.out.1 ▸ h).1, rfl, grown_trans HG2.out hg3⟩⟩
  have p0 := hg3.cell d0 (by simp)
  have p1 := hg3.cell d1 (by simp)
  have p2 := hg3.cell d2 (by simp)
  have pb := hg3.cell xb (by simp)
  have pr := hg3.cell xr (by simp)
  have pl := hg3.cell xl (by simp)
  have H3 := Lib.hid (And.intro hp1 (And.intro hzs1 hg3))
  clear hp1 hzs1 hg3 d0 d1 d2 xb xr xl Q1
  go_wp2_with fail
  refine (Q2.out w3 H3.out.2.2).mono ?_
  rintro e w4 (⟨hp2, v2, rfl, ⟨zs2, rfl, hzs2⟩, hg4⟩ | ⟨hn, rfl, hg4⟩)
  rotate_left 1
  ·exact ⟨rfl, .inr ⟨fun h => hn (HFV.out.1 ▸ h).2.1, rfl, grown_trans (grown_trans HG2.out H3.out.2.2) hg4⟩⟩
  have q0 := hg4.cell p0 (by simp)
  have q1 := hg4.cell p1 (by simp)
  have q2 := hg4.cell p2 (by simp)
  have qb := hg4.cell pb (by simp)
  have qr := hg4.cell pr (by simp)
  have ql := hg4.cell pl (by simp)
  have H4 := Lib.hid (And.intro hp2 (And.intro hzs2 hg4))
  clear hp2 hzs2 hg4 p0 p1 p2 pb pr pl Q2
  go_wp2_with fail
  refine (Q3.out _ _ w4 ((H3.out.2.1.mat (by have := HN.out.2.1; have := HKL.out; omega)).grown H4.out.2.2) (H4.out.2.1.mat (by have := HN.out.2.1; have := HKL.out; omega)) H3.out.1 H4.out.1).mono ?_
  rintro e w5 (⟨hp3, v3, rfl, hy, hg5⟩ | ⟨hn, rfl, hg5⟩)
  rotate_left 1
  ·exact ⟨rfl, .inr ⟨fun h => hn (HFV.out.1 ▸ h).2.2.1, rfl, grown_trans (grown_trans (grown_trans HG2.out H3.out.2.2) H4.out.2.2) hg5⟩⟩
  obtain ⟨ys, ⟨Ay, cy, rfl, hy1, hy2, hy3⟩, hyr⟩ := hy
  have r0 := hg5.cell q0 (by simp)
  have r1 := hg5.cell q1 (by simp)
  have r2 := hg5.cell q2 (by simp)
  have rb := hg5.cell qb (by simp)
  have rl := hg5.cell ql (by simp)
  have hal := World.grownBy_alloc w5 (.cells #[.slice Ay K cy] 22) none
  have s0 := hal.cell rb (by simp)
  have s1 := hal.cell rl (by simp)
  have H5 := Lib.hid (And.intro hp3 (And.intro hg5 hal))
  have hKs : K ≤ s := by have := HN.out.1; have := HKL.out; omega
  obtain ⟨rb2, hc4⟩ := Q4.out (w5.alloc (.cells #[.slice Ay K cy] 22)) (grown_trans (grown_trans (grown_trans H3.out.2.2 H4.out.2.2) hg5) hal) w5.heap.size Ay cy ys (box_cell w5 _ _ rfl) (RowR.grown ⟨Ay, cy, rfl, hy1, hy2, hy3⟩ hal) (fun d hd => (hyr d hd).grown hal) (solve_fit7 hk hKs hp3)
  have HC4 := Lib.hid hc4
  clear hp3 hg5 hal hc4 hy1 hy2 hy3 hyr q0 q1 q2 qb qr ql Q3 Q4 hKs r0 r1 r2 rb rl
  go_wp2_with fail
  refine HC4.out.mono ?_
  rintro e w7 (⟨hp4, v4, rfl, ⟨zs4, rfl, hzs4⟩, hg7⟩ | ⟨hn, rfl, hg7⟩)
  rotate_left 1
  ·exact ⟨rfl, .inr ⟨fun h => hn (HFV.out.1 ▸ h).2.2.2, rfl, grown_trans (grown_trans (grown_trans (grown_trans (grown_trans HG2.out H3.out.2.2) H4.out.2.2) H5.out.2.1) H5.out.2.2) hg7⟩⟩
  have H7 := Lib.hid (And.intro hp4 (And.intro hzs4 hg7))
  clear hp4 hzs4 hg7
  go_wp2
  go_ret
  refine .inl ⟨HFV.out.1 ▸ ⟨H3.out.1, H4.out.1, H5.out.1, H7.out.1⟩, _, rfl, ?_, grown_trans (grown_trans (grown_trans (grown_trans (grown_trans HG2.out H3.out.2.2) H4.out.2.2) H5.out.2.1) H5.out.2.2) H7.out.2.2⟩
  show MatV w7 (.slice (some ⟨w5.heap.size + 1, 0, none⟩) n n) n m (solveF (srE k hk) (s + 1) n A b)
  rw [HFV.out.2, show w5.heap.size + 1 = (w5.alloc (.cells #[.slice Ay K cy] 22)).heap.size by simp]
  exact H7.out.2.1.mat (by have := HN.out.2.1; omega)
theorem solve_any (hk : IsKind k) (m : Nat) (hm : 1 ≤ m) : ∀ (s n : Nat) (A b : Nat → Nat → El k) (av bv : Value) (w : World), n ≤ s → n + m ≤ 10000 → SolveIn w n m A b av bv →
  Calls Tryz.prog 43 #[calV k, av, bv] w (SolvePost hk s n m A b w) := by
 intro s
 induction s with
 | zero =>
  intro n A b av bv w hns hnm hin
  obtain rfl : n = 0 := by omega
  refine (solve_step hk m hm 0 0 A b av bv w (by omega) hnm hin (fun K _ _ _ _ _ h => absurd h (by omega))).mono (fun e w' h => ?_)
  rcases h with ⟨_, v, h1, ⟨rs, h2, _⟩, h4⟩ | ⟨hn, _⟩
  ·exact .inl ⟨trivial, v, h1, ⟨rs, h2, fun i hi => absurd hi (by omega)⟩, h4⟩
  ·refine absurd ?_ hn
   unfold SolveFits
   rw [if_pos (show (repR 0 A).length = 0 from rfl)]
   trivial
 | succ s ih =>
  intro n A b av bv w hns hnm hin
  exact solve_step hk m hm s n A b av bv w hns hnm hin (fun K A b av bv w hK hin2 => ih K A b av bv w (by omega) (by omega) hin2)
end
end Go.Proofs.YtaogepcaoogpgaaGreatDoor
