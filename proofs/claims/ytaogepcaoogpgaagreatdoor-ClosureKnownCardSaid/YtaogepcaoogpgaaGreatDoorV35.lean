/- U76 U77 -/
import Derived.Test.YtaogepcaoogpgaaGreatDoorV31
set_option linter.unusedVariables false
set_option linter.unusedSimpArgs false
namespace Go.Proofs.YtaogepcaoogpgaaGreatDoor
open Go.RowKit
section
variable {k : Int}
set_option maxRecDepth 20000 in
set_option maxHeartbeats 2000000 in
theorem toEnd1_any (hk : IsKind k) (gc : Nat) (fin : ByteArray) (Au : Option Addr) (nu cu : Nat) (w : World) (hf : fin = ⟨#[]⟩ ∨ ∃ v, Val k fin v) (hcal : CalAt w gc k) :
  Calls Tryz.prog 95 #[.agg #[.string fin, .slice Au nu cu], .pointer (some ⟨gc, 0, none⟩)] w fun e w' => ∃ g, e = .returned (.slice (some ⟨g, 0, none⟩) 1 1) ∧ w.heap.size ≤ g ∧ RowAt w' g 0 1 (txs (fun _ => finE hk fin)) ∧ w.grownBy w' none := by
 have hW := World.grownBy_alloc w (.cells #[.string fin, .slice Au nu cu] 57) none
 have b0 := box_cell w #[.string fin, .slice Au nu cu] 57 (j := 0) rfl
 have c0 := hW.cell hcal.1 (by simp)
 have c1 := hW.cell hcal.2.1 (by simp)
 have c2 := hW.cell hcal.2.2 (by simp)
 have hz := fun w' => zeros_any k 1 w' (by omega)
 have HZ := Lib.hid hz; have HW := Lib.hid hW
 clear hz hcal
 unfold calV at *
 by_cases he : fin = ⟨#[]⟩
 ·have hv : finE hk fin = (srE k hk).zero := by unfold finE; rw [if_pos he]
  have f1 : (fin.toList == []) = true := by rw [he, Lib.toList_data]; rfl
  have HV := Lib.hid hv
  clear hv he hf hW
  go_enter Tryz.func95, Tryz.ntmps95
  go_wp2_with fail
  refine (HZ.out _).mono ?_
  rintro e w1 ⟨g, rfl, hgW, hrow, hg1⟩
  have H1 := Lib.hid (And.intro hgW (And.intro hrow hg1))
  clear hgW hrow hg1
  go_wp2
  go_ret
  obtain ⟨hgW, hrow, hg1⟩ := H1.out
  have := HW.out.size
  refine ⟨g, rfl, by omega, ⟨(rep_row hrow).1, fun j hj => ((rep_row hrow).2 j hj).trans ?_⟩, grown_trans HW.out hg1⟩
  unfold txs
  rw [HV.out, tx_zero]
 ·have hval : ∃ v, Val k fin v := hf.resolve_left he
  have hv : finE hk fin = vE hk fin := by unfold finE; rw [if_neg he]
  have f1 : (fin.toList == []) = false := by
   rw [Bool.eq_false_iff]
   intro h
   have h2 := eq_of_beq h
   rw [Lib.toList_data] at h2
   exact he (ByteArray.ext (Array.toList_inj.1 (by rw [h2])))
  have HV := Lib.hid (And.intro hv (vE_tx hk hval).1)
  clear hv he hf hval hW
  go_enter Tryz.func95, Tryz.ntmps95
  go_wp2
  go_ret
  refine ⟨w.heap.size + 1, by simp, by omega, ?_, grown_trans HW.out (World.grownBy_alloc _ _ none)⟩
  have h := new_row (w.alloc (.cells #[.string fin, .slice Au nu cu] 57)) (.string fin) 9
  rw [show (w.alloc (.cells #[.string fin, .slice Au nu cu] 57)).heap.size = w.heap.size + 1 by simp] at h
  refine ⟨h.1, fun j hj => (h.2 j hj).trans ?_⟩
  unfold txs
  rw [HV.out.1, ← HV.out.2]
set_option maxRecDepth 20000 in
set_option maxHeartbeats 2000000 in
theorem fromStart1_any (gc : Nat) (v : Value) (fin : ByteArray) (Au : Option Addr) (nu cu : Nat) (hk : IsKind k) (w : World) (hcal : CalAt w gc k) :
  Calls Tryz.prog 98 #[.agg #[.string fin, .slice Au nu cu], .pointer (some ⟨gc, 0, none⟩)] w fun e w' => ∃ g, e = .returned (.slice (some ⟨g, 0, none⟩) 1 1) ∧ w.heap.size ≤ g ∧ RowAt w' g 0 1 (txs (fun _ => (srE k hk).zero)) ∧ w.grownBy w' none := by
 have hW := World.grownBy_alloc w (.cells #[.string fin, .slice Au nu cu] 57) none
 have c0 := hW.cell hcal.1 (by simp)
 have c1 := hW.cell hcal.2.1 (by simp)
 have c2 := hW.cell hcal.2.2 (by simp)
 have hz := fun w' => zeros_any k 1 w' (by omega)
 have HZ := Lib.hid hz; have HW := Lib.hid hW
 clear hz hcal hW
 unfold calV at *
 go_enter Tryz.func98, Tryz.ntmps98
 go_wp2_with fail
 refine (HZ.out _).mono ?_
 rintro e w1 ⟨g, rfl, hgW, hrow, hg1⟩
 have H1 := Lib.hid (And.intro hgW (And.intro hrow hg1))
 clear hgW hrow hg1
 go_wp2
 go_ret
 obtain ⟨hgW, hrow, hg1⟩ := H1.out
 have := HW.out.size
 refine ⟨g, rfl, by omega, ⟨(rep_row hrow).1, fun j hj => ((rep_row hrow).2 j hj).trans ?_⟩, grown_trans HW.out hg1⟩
 unfold txs
 rw [tx_zero]
def MBox (w : World) (g : Nat) (kd st : Int) (ld : ByteArray) (As : Option Addr) (n cs : Nat) : Prop :=
 w.cell? ⟨g, 0, none⟩ = some (.int .i64 kd) ∧ w.cell? ⟨g, 1, none⟩ = some (.int .i64 st) ∧ w.cell? ⟨g, 2, none⟩ = some (.string ld) ∧ w.cell? ⟨g, 3, none⟩ = some (.slice As n cs)
theorem MBox.grown {w w' : World} {g : Nat} {kd st : Int} {ld : ByteArray} {As : Option Addr} {n cs : Nat} (h : MBox w g kd st ld As n cs) (hg : w.grownBy w' none) : MBox w' g kd st ld As n cs :=
 ⟨hg.cell h.1 (by simp), hg.cell h.2.1 (by simp), hg.cell h.2.2.1 (by simp), hg.cell h.2.2.2 (by simp)⟩
theorem MBox.new (w : World) (kd st : Int) (ld : ByteArray) (As : Option Addr) (n cs : Nat) : MBox (w.alloc (.cells #[.int .i64 kd, .int .i64 st, .string ld, .slice As n cs] 31)) w.heap.size kd st ld As n cs := ⟨box_cell w _ _ rfl, box_cell w _ _ rfl, box_cell w _ _ rfl, box_cell w _ _ rfl⟩
noncomputable def toE (hk : IsKind k) (l : List MState) (i : Nat) : El k := xsol (srE k hk) (arcM hk l) l.length (finM hk l) i
def ToFits (hk : IsKind k) (l : List MState) : Prop := ArcFits hk l ∧ SolveFits (srE k hk) FitE l.length l.length 1 (arcM hk l) (fun x _ => finM hk l x)
theorem finals_any (hk : IsKind k) (l : List MState) (us : List Value) (As : Option Addr) (cs gc : Nat) (w : World) (hok : StsOk k l) (hst : StsR w l us As cs) (hcal : CalAt w gc k) :
  Calls Tryz.prog 94 #[.slice As l.length cs, .func (.func 95) #[] #[.pointer (some ⟨gc, 0, none⟩)]] w fun e w' => ∃ zs, e = .returned (.slice (some ⟨w.heap.size, 0, none⟩) l.length l.length) ∧ RowsAt w' w.heap.size w.heap.size l.length 1 zs (fun i => txs (fun _ => finM hk l i)) ∧ w.grownBy w' none := by
 have h := mapped_states 95 enters_toEnd1 #[] #[.pointer (some ⟨gc, 0, none⟩)] l us As cs 1 (fun _ => True) (fun i => txs (fun _ => finM hk l i)) w (by have := hok.n60; omega) hst (fun i s u hs hu w' hw' ha => by
  obtain ⟨Au, cu, rfl, _⟩ := ha
  have hil := (List.getElem?_eq_some_iff.1 hs).1
  have h1 := toEnd1_any hk gc s.fin Au s.arcs.length cu w' (by have := hok.fins i hil; rw [stF_at hs] at this; exact this) (hcal.grown hw')
  refine h1.mono (fun e w3 h => ?_)
  obtain ⟨g, e1, q1, q2, q3⟩ := h
  refine .inl ⟨trivial, _, e1, ⟨g, 0, 1, rfl, Nat.le_refl _, by unfold maxLen; omega, .inr q1, ?_⟩, q3⟩
  show RowAt w3 g 0 1 (txs (fun _ => finM hk l i))
  unfold finM
  rw [stF_at hs]
  exact q2)
 refine h.mono (fun e w3 h => ?_)
 rcases h with ⟨_, v, e1, ⟨zs, rfl, q1, _⟩, q3⟩ | ⟨hn, _⟩
 ·exact ⟨zs, e1, q1, q3⟩
 ·exact absurd (fun _ _ => trivial) hn
set_option maxRecDepth 20000 in
set_option maxHeartbeats 4000000 in
theorem toEnd_any (hk : IsKind k) (l : List MState) (us : List Value) (As : Option Addr) (cs : Nat) (st : Int) (ld : ByteArray) (w : World) (hok : StsOk k l) (hst : StsR w l us As cs) :
  Calls Tryz.prog 53 #[.agg #[.int .i64 k, .int .i64 st, .string ld, .slice As l.length cs]] w (OrDieQ (ToFits hk l) (fun v w' => ∃ g, v = .slice (some ⟨g, 0, none⟩) l.length l.length ∧ w.heap.size ≤ g ∧ RowAt w' g 0 l.length (txs (toE hk l))) w) := by
 have hmf : ∀ (fn : Fn) (first cap : Array Value) (w : World), (Instr.makeFunc fn first cap).run Tryz.prog w = .ok (.func fn first cap) w := fun _ _ _ _ => rfl
 have hof := fun w' => of_any7 k w'
 have hfin := fun (gc : Nat) (w' : World) (hg : w.grownBy w' none) (hcal : CalAt w' gc k) => finals_any hk l us As cs gc w' hok (hst.grown hg) hcal
 have hsteps := fun (w' : World) (hg : w.grownBy w' none) => steps_any hk l us As cs k st ld w' hok (hst.grown hg)
 have hsolve := fun (av bv : Value) (w' : World) (ha : MatV w' av l.length l.length (arcM hk l)) (hb : MatV w' bv l.length 1 (fun i _ => finM hk l i)) (hf : ArcFits hk l) => solve_any hk 1 (Nat.le_refl _) l.length l.length (arcM hk l) (fun x _ => finM hk l x) av bv w' (Nat.le_refl _) (by have := hok.n60; omega)
  ⟨ha, hb, fun i hi j _ => arcM_fit hk hf hi j, fun i hi j _ => finE_fit hk (hok.fins i hi)⟩
 have hcol := fun (v : Value) (w' : World) (hv : MatV w' v l.length 1 (solveF (srE k hk) l.length l.length (arcM hk l) (fun x _ => finM hk l x))) =>
  (show Calls Tryz.prog 96 #[v] w' (fun e w2 => ∃ u, e = .returned u ∧ u = .slice (some ⟨w'.heap.size, 0, none⟩) l.length l.length ∧ RowAt w2 w'.heap.size 0 l.length (fun i => .string (tx (solveF (srE k hk) l.length l.length (arcM hk l) (fun x _ => finM hk l x) i 0))) ∧ w'.grownBy w2 none) from by
   obtain ⟨rs, h1, h2⟩ := hv
   exact column_any l.length 1 rs (fun i => txs (solveF (srE k hk) l.length l.length (arcM hk l) (fun x _ => finM hk l x) i)) _ v w' (by have := hok.n60; omega) (by omega) h1 (fun i hi => (h2 i hi).row) (fun i hi => rfl))
 have hval : ∀ i, i < l.length → solveF (srE k hk) l.length l.length (arcM hk l) (fun x _ => finM hk l x) i 0 = toE hk l i := fun i hi => solveF_is _ _ _ _ _ (Nat.le_refl _) i 0 hi
 have HO := Lib.hid hof; have HF := Lib.hid hfin; have HT := Lib.hid hsteps; have HS := Lib.hid hsolve; have HC := Lib.hid hcol; have HV := Lib.hid hval; have HN := Lib.hid hok.n60
 have hal := World.grownBy_alloc w (.cells #[.int .i64 k, .int .i64 st, .string ld, .slice As l.length cs] 31) none
 obtain ⟨x0, x1, x2, x3⟩ := MBox.new w k st ld As l.length cs
 have HW := Lib.hid hal
 clear hof hfin hsteps hsolve hcol hval hok hst hal
 unfold calV at *
 go_enter Tryz.func53, Tryz.ntmps53
 go_wp2_with fail
 refine (HO.out _).mono ?_
 rintro e w1 ⟨rfl, hg1⟩
 have hal := World.grownBy_alloc w1 (.cells #[.int .i64 k, .string (zeroT k), .string (oneT k)] 64) none
 have hg2 := grown_trans hg1 hal
 have y0 := hg2.cell x0 (by simp)
 have y1 := hg2.cell x1 (by simp)
 have y2 := hg2.cell x2 (by simp)
 have y3 := hg2.cell x3 (by simp)
 have xc : CalAt (w1.alloc (.cells #[.int .i64 k, .string (zeroT k), .string (oneT k)] 64)) w1.heap.size k := ⟨box_cell w1 _ _ rfl, box_cell w1 _ _ rfl, box_cell w1 _ _ rfl⟩
 have HG2 := Lib.hid (grown_trans HW.out hg2); have HXC := Lib.hid xc
 clear x0 x1 x2 x3 hg1 hal hg2 xc HO HW
 go_wp2_with fail
 refine (HF.out w1.heap.size _ HG2.out HXC.out).mono ?_
 rintro e w3 ⟨zs, rfl, hzs, hg3⟩
 have z0 := hg3.cell y0 (by simp)
 have z1 := hg3.cell y1 (by simp)
 have z2 := hg3.cell y2 (by simp)
 have z3 := hg3.cell y3 (by simp)
 obtain ⟨c0, c1, c2⟩ := HXC.out.grown hg3
 have hfm := hzs.mat (F := fun i _ => finM hk l i) (by have := HN.out; omega)
 rw [show (w1.alloc (.cells #[.int .i64 k, .string (zeroT k), .string (oneT k)] 64)).heap.size = w1.heap.size + 1 by simp] at hfm
 have HG3 := Lib.hid (grown_trans HG2.out hg3); have HFM := Lib.hid hfm
 clear y0 y1 y2 y3 hzs hfm hg3 HXC HF
 have S3 : (fun W' : World => W'.cell? ⟨w1.heap.size, 0, none⟩ = some (.int .i64 k) ∧ W'.cell? ⟨w1.heap.size, 1, none⟩ = some (.string (zeroT k)) ∧ W'.cell? ⟨w1.heap.size, 2, none⟩ = some (.string (oneT k)) ∧ W'.cell? ⟨w.heap.size, 0, none⟩ = some (.int .i64 k) ∧ W'.cell? ⟨w.heap.size, 1, none⟩ = some (.int .i64 st) ∧ W'.cell? ⟨w.heap.size, 2, none⟩ = some (.string ld) ∧ W'.cell? ⟨w.heap.size, 3, none⟩ = some (.slice As l.length cs)) w3.drew := ⟨c0, c1, c2, z0, z1, z2, z3⟩
 have HGD := Lib.hid (grown_trans HG3.out (grown_drew w3 none))
 clear c0 c1 c2 z0 z1 z2 z3
 go_upto_region 3 with (fail)
 go_region_held2 (fun W' => W'.cell? ⟨w1.heap.size, 0, none⟩ = some (.int .i64 k) ∧ W'.cell? ⟨w1.heap.size, 1, none⟩ = some (.string (zeroT k)) ∧ W'.cell? ⟨w1.heap.size, 2, none⟩ = some (.string (oneT k)) ∧ W'.cell? ⟨w.heap.size, 0, none⟩ = some (.int .i64 k) ∧ W'.cell? ⟨w.heap.size, 1, none⟩ = some (.int .i64 st) ∧ W'.cell? ⟨w.heap.size, 2, none⟩ = some (.string ld) ∧ W'.cell? ⟨w.heap.size, 3, none⟩ = some (.slice As l.length cs)) (first | exact S3 | exact S5 | exact S6 | exact S7 | go_keep)
  (first
  | (go_at_call 97; refine (HT.out _ HGD.out).mono ?_; rintro e w5 (⟨hp, v5, rfl, hm5, hg5⟩ | ⟨hn, rfl, hg5⟩); rotate_left 1; (exact ⟨rfl, .inr ⟨fun h => hn h.1, rfl, grown_trans HGD.out hg5⟩⟩); obtain ⟨A5, e5, rfl⟩ := hm5.shape; have S5 : (fun W' : World => W'.cell? ⟨w1.heap.size, 0, none⟩ = some (.int .i64 k) ∧ W'.cell? ⟨w1.heap.size, 1, none⟩ = some (.string (zeroT k)) ∧ W'.cell? ⟨w1.heap.size, 2, none⟩ = some (.string (oneT k)) ∧ W'.cell? ⟨w.heap.size, 0, none⟩ = some (.int .i64 k) ∧ W'.cell? ⟨w.heap.size, 1, none⟩ = some (.int .i64 st) ∧ W'.cell? ⟨w.heap.size, 2, none⟩ = some (.string ld) ∧ W'.cell? ⟨w.heap.size, 3, none⟩ = some (.slice As l.length cs)) w5 := ⟨hg5.cell S3.1 (by simp), hg5.cell S3.2.1 (by simp), hg5.cell S3.2.2.1 (by simp), hg5.cell S3.2.2.2.1 (by simp), hg5.cell S3.2.2.2.2.1 (by simp), hg5.cell S3.2.2.2.2.2.1 (by simp), hg5.cell S3.2.2.2.2.2.2 (by simp)⟩; have H5 := Lib.hid (And.intro hp (And.intro hm5 hg5)); clear hp hm5 hg5)
  | (go_at_call 43; refine (HS.out _ _ w5 H5.out.2.1 ((HFM.out.grown (grown_drew w3 none)).grown H5.out.2.2) H5.out.1).mono ?_; rintro e w6 (⟨hp, v6, rfl, hm6, hg6⟩ | ⟨hn, rfl, hg6⟩); rotate_left 1; (exact ⟨rfl, .inr ⟨fun h => hn h.2, rfl, grown_trans (grown_trans HGD.out H5.out.2.2) hg6⟩⟩); obtain ⟨A6, e6, rfl⟩ := hm6.shape; have S6 : (fun W' : World => W'.cell? ⟨w1.heap.size, 0, none⟩ = some (.int .i64 k) ∧ W'.cell? ⟨w1.heap.size, 1, none⟩ = some (.string (zeroT k)) ∧ W'.cell? ⟨w1.heap.size, 2, none⟩ = some (.string (oneT k)) ∧ W'.cell? ⟨w.heap.size, 0, none⟩ = some (.int .i64 k) ∧ W'.cell? ⟨w.heap.size, 1, none⟩ = some (.int .i64 st) ∧ W'.cell? ⟨w.heap.size, 2, none⟩ = some (.string ld) ∧ W'.cell? ⟨w.heap.size, 3, none⟩ = some (.slice As l.length cs)) w6 := ⟨hg6.cell S5.1 (by simp), hg6.cell S5.2.1 (by simp), hg6.cell S5.2.2.1 (by simp), hg6.cell S5.2.2.2.1 (by simp), hg6.cell S5.2.2.2.2.1 (by simp), hg6.cell S5.2.2.2.2.2.1 (by simp), hg6.cell S5.2.2.2.2.2.2 (by simp)⟩; have H6 := Lib.hid (And.intro hp (And.intro hm6 hg6)); clear hp hm6 hg6)
  | (go_at_call 96; refine (HC.out _ w6 H6.out.2.1).mono ?_; rintro e w7 ⟨u7, rfl, rfl, hr7, hg7⟩; have S7 : (fun W' : World => W'.cell? ⟨w1.heap.size, 0, none⟩ = some (.int .i64 k) ∧ W'.cell? ⟨w1.heap.size, 1, none⟩ = some (.string (zeroT k)) ∧ W'.cell? ⟨w1.heap.size, 2, none⟩ = some (.string (oneT k)) ∧ W'.cell? ⟨w.heap.size, 0, none⟩ = some (.int .i64 k) ∧ W'.cell? ⟨w.heap.size, 1, none⟩ = some (.int .i64 st) ∧ W'.cell? ⟨w.heap.size, 2, none⟩ = some (.string ld) ∧ W'.cell? ⟨w.heap.size, 3, none⟩ = some (.slice As l.length cs)) w7 := ⟨hg7.cell S6.1 (by simp), hg7.cell S6.2.1 (by simp), hg7.cell S6.2.2.1 (by simp), hg7.cell S6.2.2.2.1 (by simp), hg7.cell S6.2.2.2.2.1 (by simp), hg7.cell S6.2.2.2.2.2.1 (by simp), hg7.cell S6.2.2.2.2.2.2 (by simp)⟩; have H7 := Lib.hid (And.intro hr7 hg7); clear hr7 hg7))
 all_goals
  go_wp2
  go_ret
  refine .inl ⟨⟨H5.out.1, H6.out.1⟩, _, rfl, ⟨w6.heap.size, rfl, ?_, H7.out.1.1, fun j hj => (H7.out.1.2 j hj).trans ?_⟩, grown_trans (grown_trans (grown_trans HGD.out H5.out.2.2) H6.out.2.2) H7.out.2⟩
  ·have h1 := HGD.out.size
   have h2 := H5.out.2.2.size
   have h3 := H6.out.2.2.size
   omega
  ·unfold txs
   rw [← HV.out j hj]
end
open Go.RowKit
section
variable {k : Int}
noncomputable def leadM (hk : IsKind k) (ld : ByteArray) (s0 : Nat) (i : Nat) : El k := if i = s0 then vE hk ld else (srE k hk).zero
noncomputable def frE (hk : IsKind k) (l : List MState) (ld : ByteArray) (s0 : Nat) (i : Nat) : El k := xsol (srE k hk) (fun x y => arcM hk l y x) l.length (leadM hk ld s0) i
def FromFits (hk : IsKind k) (l : List MState) (ld : ByteArray) (s0 : Nat) : Prop := ArcFits hk l ∧ SolveFits (srE k hk) FitE l.length l.length 1 (fun x y => arcM hk l y x) (fun x _ => leadM hk ld s0 x)
theorem leadM_fit (hk : IsKind k) {ld : ByteArray} (h : ∃ v, Val k ld v) (s0 i : Nat) : FitE (leadM hk ld s0 i) := by
 unfold leadM
 split
 ·exact (vE_tx hk h).2
 ·exact fit_zero hk
theorem leads_any (hk : IsKind k) (l : List MState) (us : List Value) (As : Option Addr) (cs gc : Nat) (w : World) (hok : StsOk k l) (hst : StsR w l us As cs) (hcal : CalAt w gc k) :
  Calls Tryz.prog 94 #[.slice As l.length cs, .func (.func 98) #[] #[.pointer (some ⟨gc, 0, none⟩)]] w fun e w' => ∃ zs : List Value, e = .returned (.slice (some ⟨w.heap.size, 0, none⟩) l.length l.length) ∧ RowsAt w' w.heap.size w.heap.size l.length 1 zs (fun i => txs (fun _ => (srE k hk).zero)) ∧ w'.heap[w.heap.size]? = some (.cells zs.toArray 33 (0, 0)) ∧ w.grownBy w' none := by
 have h := mapped_states 98 enters_fromStart1 #[] #[.pointer (some ⟨gc, 0, none⟩)] l us As cs 1 (fun _ => True) (fun i => txs (fun _ => (srE k hk).zero)) w (by have := hok.n60; omega) hst (fun i s u hs hu w' hw' ha => by
  obtain ⟨Au, cu, rfl, _⟩ := ha
  have h1 := fromStart1_any gc undef s.fin Au s.arcs.length cu hk w' (hcal.grown hw')
  refine h1.mono (fun e w3 h => ?_)
  obtain ⟨g, e1, q1, q2, q3⟩ := h
  exact .inl ⟨trivial, _, e1, ⟨g, 0, 1, rfl, Nat.le_refl _, by unfold maxLen; omega, .inr q1, q2⟩, q3⟩)
 refine h.mono (fun e w3 h => ?_)
 rcases h with ⟨_, v, e1, ⟨zs, rfl, q1, q2⟩, q3⟩ | ⟨hn, _⟩
 ·exact ⟨zs, e1, q1, q2, q3⟩
 ·exact absurd (fun _ _ => trivial) hn
theorem leads_put (hk : IsKind k) {w : World} {H n s0 gl : Nat} {zs : List Value} {ld : ByteArray} (hn : n ≤ 60) (hs : s0 < n) (hz : RowsAt w H H n 1 zs (fun i => txs (fun _ => (srE k hk).zero))) (hrow : w.heap[H]? = some (.cells zs.toArray 33 (0, 0)))
  (hgl : gl ≠ H) (hl : RowAt w gl 0 1 (txs (fun _ => vE hk ld))) :
  MatV (w.setCell ⟨H, s0, none⟩ (.slice (some ⟨gl, 0, none⟩) 1 1)) (.slice (some ⟨H, 0, none⟩) n n) n 1 (fun i _ => leadM hk ld s0 i) := by
 have hset := heap_setCell_same w H s0 _ _ (.slice (some ⟨gl, 0, none⟩) 1 1) hrow
 have hzl := hz.1
 refine ⟨fun i => if i = s0 then .slice (some ⟨gl, 0, none⟩) 1 1 else zs.getD i (.slice none 0 0), ⟨_, n, rfl, Nat.le_refl _, by unfold maxLen; omega, fun j hj => ⟨_, rfl, (Array.getElem?_eq_some_iff.1 hset).1, ?_⟩⟩, fun i hi => ?_⟩
 ·rw [add_off, Nat.zero_add, cell_of_row _ H j _ _ (0, 0) hset, List.setIfInBounds_toArray, List.getElem?_toArray, List.getElem?_set]
  by_cases e : s0 = j
  ·subst e
   rw [if_pos rfl, if_pos (by omega)]
   simp
  ·rw [if_neg e, List.getElem?_eq_getElem (by omega)]
   dsimp only
   rw [if_neg (Ne.symm e), List.getD_eq_getElem?_getD, List.getElem?_eq_getElem (by omega)]
   rfl
 ·by_cases e : i = s0
  ·subst e
   refine ⟨gl, 0, 1, by simp, Nat.le_refl _, by unfold maxLen; omega, ?_⟩
   have h := hl.grownB (grown_setCell w ⟨H, i, none⟩ (.slice (some ⟨gl, 0, none⟩) 1 1)) hgl
   refine ⟨h.1, fun j hj => (h.2 j hj).trans ?_⟩
   unfold txs leadM
   dsimp only
   rw [if_pos rfl]
  ·obtain ⟨gi, o, c, h1, h2, h3, h4, h5⟩ := hz.2.2 i hi
   refine ⟨gi, o, c, by dsimp only; rw [if_neg e]; exact h1, h2, h3, ?_⟩
   have h := h5.grownB (grown_setCell w ⟨H, s0, none⟩ (.slice (some ⟨gl, 0, none⟩) 1 1)) h4
   refine ⟨h.1, fun j hj => (h.2 j hj).trans ?_⟩
   unfold txs leadM
   dsimp only
   rw [if_neg e]
theorem turned_mat {n : Nat} {F : Nat → Nat → El k} {w : World} {v : Value} (hn : n ≤ 60) (hv : MatV w v n n F) :
  Calls Tryz.prog 99 #[v] w (fun e w' => ∃ g, e = .returned (.slice (some ⟨g, 0, none⟩) n n) ∧ MatV w' (.slice (some ⟨g, 0, none⟩) n n) n n (fun x y => F y x) ∧ w.grownBy w' none) := by
 obtain ⟨rs, h1, h2⟩ := hv
 refine (transposed_any n rs (fun i j => tx (F i j)) v w (by omega) h1 (fun i hi => (h2 i hi).row)).mono (fun e w' h => ?_)
 obtain ⟨zs, e1, e2, e3, e4, e5⟩ := h
 refine ⟨_, e1, ⟨_, e3.row (Nat.le_refl _) (by unfold maxLen; omega), fun i hi => ?_⟩, e5⟩
 obtain ⟨g, q1, q2, q3⟩ := e4 i (by omega)
 exact ⟨g, 0, n, q1, Nat.le_refl _, by unfold maxLen; omega, q3⟩
set_option maxRecDepth 20000 in
set_option maxHeartbeats 4000000 in
theorem fromStart_any (hk : IsKind k) (l : List MState) (us : List Value) (As : Option Addr) (cs s0 : Nat) (ld : ByteArray) (w : World) (hok : StsOk k l) (hst : StsR w l us As cs) (hs0 : s0 < l.length) (hld : ∃ v, Val k ld v) :
  Calls Tryz.prog 55 #[.agg #[.int .i64 k, .int .i64 (s0 : Int), .string ld, .slice As l.length cs]] w (OrDieQ (FromFits hk l ld s0) (fun v w' => ∃ g, v = .slice (some ⟨g, 0, none⟩) l.length l.length ∧ w.heap.size ≤ g ∧ RowAt w' g 0 l.length (txs (frE hk l ld s0))) w) := by
 have hmf : ∀ (fn : Fn) (first cap : Array Value) (w : World), (Instr.makeFunc fn first cap).run Tryz.prog w = .ok (.func fn first cap) w := fun _ _ _ _ => rfl
 have hof := fun w' => of_any7 k w'
 have hfin := fun (gc : Nat) (w' : World) (hg : w.grownBy w' none) (hcal : CalAt w' gc k) => leads_any hk l us As cs gc w' hok (hst.grown hg) hcal
 have hsteps := fun (w' : World) (hg : w.grownBy w' none) => steps_any hk l us As cs k (s0 : Int) ld w' hok (hst.grown hg)
 have hturn := fun (v : Value) (w' : World) (hv : MatV w' v l.length l.length (arcM hk l)) => turned_mat hok.n60 hv
 have hsolve := fun (av bv : Value) (w' : World) (ha : MatV w' av l.length l.length (fun x y => arcM hk l y x)) (hb : MatV w' bv l.length 1 (fun i _ => leadM hk ld s0 i)) (hf : ArcFits hk l) => solve_any hk 1 (Nat.le_refl _) l.length l.length (fun x y => arcM hk l y x) (fun x _ => leadM hk ld s0 x) av bv w' (Nat.le_refl _) (by have := hok.n60; omega)
  ⟨ha, hb, fun i _ j hj => arcM_fit hk hf hj i, fun i hi j _ => leadM_fit hk hld s0 i⟩
 have hcol := fun (v : Value) (w' : World) (hv : MatV w' v l.length 1 (solveF (srE k hk) l.length l.length (fun x y => arcM hk l y x) (fun x _ => leadM hk ld s0 x))) =>
  (show Calls Tryz.prog 96 #[v] w' (fun e w2 => ∃ u, e = .returned u ∧ u = .slice (some ⟨w'.heap.size, 0, none⟩) l.length l.length ∧ RowAt w2 w'.heap.size 0 l.length (fun i => .string (tx (solveF (srE k hk) l.length l.length (fun x y => arcM hk l y x) (fun x _ => leadM hk ld s0 x) i 0))) ∧ w'.grownBy w2 none) from by
   obtain ⟨rs, h1, h2⟩ := hv
   exact column_any l.length 1 rs (fun i => txs (solveF (srE k hk) l.length l.length (fun x y => arcM hk l y x) (fun x _ => leadM hk ld s0 x) i)) _ v w' (by have := hok.n60; omega) (by omega) h1 (fun i hi => (h2 i hi).row) (fun i hi => rfl))
 have hval : ∀ i, i < l.length → solveF (srE k hk) l.length l.length (fun x y => arcM hk l y x) (fun x _ => leadM hk ld s0 x) i 0 = frE hk l ld s0 i := fun i hi => solveF_is _ _ _ _ _ (Nat.le_refl _) i 0 hi
 have hlt := vE_tx hk hld
 have HO := Lib.hid hof; have HF := Lib.hid hfin; have HT := Lib.hid hsteps; have HU := Lib.hid hturn; have HS := Lib.hid hsolve; have HC := Lib.hid hcol; have HV := Lib.hid hval; have HN := Lib.hid (And.intro hok.n60 (And.intro hs0 hlt))
 have hal := World.grownBy_alloc w (.cells #[.int .i64 k, .int .i64 (s0 : Int), .string ld, .slice As l.length cs] 31) none
 obtain ⟨x0, x1, x2, x3⟩ := MBox.new w k (s0 : Int) ld As l.length cs
 have HW := Lib.hid hal
 have i1 : (s0 : Int) < (l.length : Int) := by omega
 have i2 : (0 : Int) ≤ (s0 : Int) := by omega
 clear hof hfin hsteps hturn hsolve hcol hval hok hst hal hs0 hld hlt
 unfold calV at *
 go_enter Tryz.func55, Tryz.ntmps55
 go_wp2_with fail
 refine (HO.out _).mono ?_
 rintro e w1 ⟨rfl, hg1⟩
 have hal := World.grownBy_alloc w1 (.cells #[.int .i64 k, .string (zeroT k), .string (oneT k)] 64) none
 have hg2 := grown_trans hg1 hal
 have y0 := hg2.cell x0 (by simp)
 have y1 := hg2.cell x1 (by simp)
 have y2 := hg2.cell x2 (by simp)
 have y3 := hg2.cell x3 (by simp)
 have xc : CalAt (w1.alloc (.cells #[.int .i64 k, .string (zeroT k), .string (oneT k)] 64)) w1.heap.size k := ⟨box_cell w1 _ _ rfl, box_cell w1 _ _ rfl, box_cell w1 _ _ rfl⟩
 have hws1 : w.heap.size + 1 ≤ w1.heap.size := by have := hg1.size; simpa using this
 have HG2 := Lib.hid (grown_trans HW.out hg2); have HXC := Lib.hid xc; have HWS := Lib.hid hws1
 clear x0 x1 x2 x3 hg1 hal hg2 xc HO HW hws1
 go_wp2_with fail
 refine (HF.out w1.heap.size _ HG2.out HXC.out).mono ?_
 rintro e w3 ⟨zs, rfl, hzs, hzr, hg3⟩
 have z0 := hg3.cell y0 (by simp)
 have z1 := hg3.cell y1 (by simp)
 have z2 := hg3.cell y2 (by simp)
 have z3 := hg3.cell y3 (by simp)
 have zc := HXC.out.grown hg3
 rw [show (w1.alloc (.cells #[.int .i64 k, .string (zeroT k), .string (oneT k)] 64)).heap.size = w1.heap.size + 1 by simp] at hzs hzr
 have hal := World.grownBy_alloc w3 (.cells #[.string ld] 9) none
 have hw3 : w1.heap.size + 1 < w3.heap.size := (Array.getElem?_eq_some_iff.1 hzr).1
 have hzr4 := (hal.block _ hw3 (by simp)).trans hzr
 have r0 := cell_of_row _ (w1.heap.size + 1) s0 _ _ (0, 0) hzr4
 obtain ⟨zz, hzz⟩ : ∃ zz, zs[s0]? = some zz := ⟨_, List.getElem?_eq_getElem (by have := hzs.1; have := HN.out.2.1; omega)⟩
 rw [List.getElem?_toArray, hzz] at r0
 have f0 := frozen_of_row _ (w1.heap.size + 1) s0 _ _ hzr4
 have hne1 : ¬ w.heap.size = w1.heap.size + 1 := by have := HWS.out; omega
 have hne2 : ¬ w1.heap.size + 1 = w.heap.size := by have := HWS.out; omega
 have hz4 : RowsAt (w3.alloc (.cells #[.string ld] 9)) (w1.heap.size + 1) (w1.heap.size + 1) l.length 1 zs (fun i => txs (fun _ => (srE k hk).zero)) := ⟨hzs.1, hzs.2.1.grown hal, fun i hi => by
  obtain ⟨gi, o, c, q1, q2, q3, q4, q5⟩ := hzs.2.2 i hi
  exact ⟨gi, o, c, q1, q2, q3, q4, q5.grown hal⟩⟩
 have hlr : RowAt (w3.alloc (.cells #[.string ld] 9)) w3.heap.size 0 1 (txs (fun _ => vE hk ld)) := by
  have h := new_row w3 (.string ld) 9
  refine ⟨h.1, fun j hj => (h.2 j hj).trans ?_⟩
  unfold txs
  rw [← HN.out.2.2.1]
 have hmat := leads_put hk (ld := ld) HN.out.1 HN.out.2.1 hz4 hzr4 (by omega) hlr
 have hg4 : w.grownBy ((w3.alloc (.cells #[.string ld] 9)).setCell ⟨w1.heap.size + 1, s0, none⟩ (.slice (some ⟨w3.heap.size, 0, none⟩) 1 1)) none := grown_step (grown_trans (grown_trans HG2.out hg3) hal) (grown_setCell _ _ _) (by show w.heap.size ≤ w1.heap.size + 1; have := HWS.out; omega)
 have k0 := set_far (o := s0) (u := .slice (some ⟨w3.heap.size, 0, none⟩) 1 1) hne1 (hal.cell z0 (by simp))
 have k1 := set_far (o := s0) (u := .slice (some ⟨w3.heap.size, 0, none⟩) 1 1) hne1 (hal.cell z1 (by simp))
 have k2 := set_far (o := s0) (u := .slice (some ⟨w3.heap.size, 0, none⟩) 1 1) hne1 (hal.cell z2 (by simp))
 have k3 := set_far (o := s0) (u := .slice (some ⟨w3.heap.size, 0, none⟩) 1 1) hne1 (hal.cell z3 (by simp))
 have j0 := set_far (o := s0) (u := .slice (some ⟨w3.heap.size, 0, none⟩) 1 1) (show w1.heap.size ≠ w1.heap.size + 1 by omega) (hal.cell zc.1 (by simp))
 have j1 := set_far (o := s0) (u := .slice (some ⟨w3.heap.size, 0, none⟩) 1 1) (show w1.heap.size ≠ w1.heap.size + 1 by omega) (hal.cell zc.2.1 (by simp))
 have j2 := set_far (o := s0) (u := .slice (some ⟨w3.heap.size, 0, none⟩) 1 1) (show w1.heap.size ≠ w1.heap.size + 1 by omega) (hal.cell zc.2.2 (by simp))
 have HK := Lib.hid (And.intro j0 (And.intro j1 (And.intro j2 (And.intro k0 (And.intro k1 (And.intro k2 k3))))))
 have HG4 := Lib.hid hg4; have HFM := Lib.hid hmat
 clear hg4 hmat hlr hz4 hzr4 hzs hzr hg3 hzz HXC HF y0 y1 y2 y3 zc hw3 k0 k1 k2 k3 j0 j1 j2
 go_upto_region 4 with (fail)
 obtain ⟨j0, j1, j2, k0, k1, k2, k3⟩ := HK.out
 generalize ((w3.alloc (.cells #[.string ld] 9)).setCell ⟨w1.heap.size + 1, s0, none⟩ (.slice (some ⟨w3.heap.size, 0, none⟩) 1 1)) = w4 at *
 have S3 : (fun W' : World => W'.cell? ⟨w1.heap.size, 0, none⟩ = some (.int .i64 k) ∧ W'.cell? ⟨w1.heap.size, 1, none⟩ = some (.string (zeroT k)) ∧ W'.cell? ⟨w1.heap.size, 2, none⟩ = some (.string (oneT k)) ∧ W'.cell? ⟨w.heap.size, 0, none⟩ = some (.int .i64 k) ∧ W'.cell? ⟨w.heap.size, 1, none⟩ = some (.int .i64 (s0 : Int)) ∧ W'.cell? ⟨w.heap.size, 2, none⟩ = some (.string ld) ∧ W'.cell? ⟨w.heap.size, 3, none⟩ = some (.slice As l.length cs)) w4.drew := ⟨j0, j1, j2, k0, k1, k2, k3⟩
 have HGD := Lib.hid (grown_trans HG4.out (grown_drew w4 none))
 clear j0 j1 j2 k0 k1 k2 k3 HK z0 z1 z2 z3 r0 f0
 go_region_held2 (fun W' => W'.cell? ⟨w1.heap.size, 0, none⟩ = some (.int .i64 k) ∧ W'.cell? ⟨w1.heap.size, 1, none⟩ = some (.string (zeroT k)) ∧ W'.cell? ⟨w1.heap.size, 2, none⟩ = some (.string (oneT k)) ∧ W'.cell? ⟨w.heap.size, 0, none⟩ = some (.int .i64 k) ∧ W'.cell? ⟨w.heap.size, 1, none⟩ = some (.int .i64 (s0 : Int)) ∧ W'.cell? ⟨w.heap.size, 2, none⟩ = some (.string ld) ∧ W'.cell? ⟨w.heap.size, 3, none⟩ = some (.slice As l.length cs)) (first | exact S3 | exact S5 | exact S8 | exact S6 | exact S7 | go_keep)
  (first
  | (go_at_call 97; refine (HT.out _ HGD.out).mono ?_; rintro e w5 (⟨hp, v5, rfl, hm5, hg5⟩ | ⟨hn, rfl, hg5⟩); rotate_left 1; (exact ⟨rfl, .inr ⟨fun h => hn h.1, rfl, grown_trans HGD.out hg5⟩⟩); obtain ⟨A5, e5, rfl⟩ := hm5.shape; have S5 : (fun W' : World => W'.cell? ⟨w1.heap.size, 0, none⟩ = some (.int .i64 k) ∧ W'.cell? ⟨w1.heap.size, 1, none⟩ = some (.string (zeroT k)) ∧ W'.cell? ⟨w1.heap.size, 2, none⟩ = some (.string (oneT k)) ∧ W'.cell? ⟨w.heap.size, 0, none⟩ = some (.int .i64 k) ∧ W'.cell? ⟨w.heap.size, 1, none⟩ = some (.int .i64 (s0 : Int)) ∧ W'.cell? ⟨w.heap.size, 2, none⟩ = some (.string ld) ∧ W'.cell? ⟨w.heap.size, 3, none⟩ = some (.slice As l.length cs)) w5 := ⟨hg5.cell S3.1 (by simp), hg5.cell S3.2.1 (by simp), hg5.cell S3.2.2.1 (by simp), hg5.cell S3.2.2.2.1 (by simp), hg5.cell S3.2.2.2.2.1 (by simp), hg5.cell S3.2.2.2.2.2.1 (by simp), hg5.cell S3.2.2.2.2.2.2 (by simp)⟩; have H5 := Lib.hid (And.intro hp (And.intro hm5 hg5)); clear hp hm5 hg5)
  | (go_at_call 99; refine (HU.out _ w5 H5.out.2.1).mono ?_; rintro e w8 ⟨g8, rfl, hm8, hg8⟩; have S8 : (fun W' : World => W'.cell? ⟨w1.heap.size, 0, none⟩ = some (.int .i64 k) ∧ W'.cell? ⟨w1.heap.size, 1, none⟩ = some (.string (zeroT k)) ∧ W'.cell? ⟨w1.heap.size, 2, none⟩ = some (.string (oneT k)) ∧ W'.cell? ⟨w.heap.size, 0, none⟩ = some (.int .i64 k) ∧ W'.cell? ⟨w.heap.size, 1, none⟩ = some (.int .i64 (s0 : Int)) ∧ W'.cell? ⟨w.heap.size, 2, none⟩ = some (.string ld) ∧ W'.cell? ⟨w.heap.size, 3, none⟩ = some (.slice As l.length cs)) w8 := ⟨hg8.cell S5.1 (by simp), hg8.cell S5.2.1 (by simp), hg8.cell S5.2.2.1 (by simp), hg8.cell S5.2.2.2.1 (by simp), hg8.cell S5.2.2.2.2.1 (by simp), hg8.cell S5.2.2.2.2.2.1 (by simp), hg8.cell S5.2.2.2.2.2.2 (by simp)⟩; have H8 := Lib.hid (And.intro hm8 hg8); clear hm8 hg8)
  | (go_at_call 43; refine (HS.out _ _ w8 H8.out.1 (((HFM.out.grown (grown_drew w4 none)).grown H5.out.2.2).grown H8.out.2) H5.out.1).mono ?_; rintro e w6 (⟨hp, v6, rfl, hm6, hg6⟩ | ⟨hn, rfl, hg6⟩); rotate_left 1; (exact ⟨rfl, .inr ⟨fun h => hn h.2, rfl, grown_trans (grown_trans (grown_trans HGD.out H5.out.2.2) H8.out.2) hg6⟩⟩); obtain ⟨A6, e6, rfl⟩ := hm6.shape; have S6 : (fun W' : World => W'.cell? ⟨w1.heap.size, 0, none⟩ = some (.int .i64 k) ∧ W'.cell? ⟨w1.heap.size, 1, none⟩ = some (.string (zeroT k)) ∧ W'.cell? ⟨w1.heap.size, 2, none⟩ = some (.string (oneT k)) ∧ W'.cell? ⟨w.heap.size, 0, none⟩ = some (.int .i64 k) ∧ W'.cell? ⟨w.heap.size, 1, none⟩ = some (.int .i64 (s0 : Int)) ∧ W'.cell? ⟨w.heap.size, 2, none⟩ = some (.string ld) ∧ W'.cell? ⟨w.heap.size, 3, none⟩ = some (.slice As l.length cs)) w6 := ⟨hg6.cell S8.1 (by simp), hg6.cell S8.2.1 (by simp), hg6.cell S8.2.2.1 (by simp), hg6.cell S8.2.2.2.1 (by simp), hg6.cell S8.2.2.2.2.1 (by simp), hg6.cell S8.2.2.2.2.2.1 (by simp), hg6.cell S8.2.2.2.2.2.2 (by simp)⟩; have H6 := Lib.hid (And.intro hp (And.intro hm6 hg6)); clear hp hm6 hg6)
  | (go_at_call 96; refine (HC.out _ w6 H6.out.2.1).mono ?_; rintro e w7 ⟨u7, rfl, rfl, hr7, hg7⟩; have S7 : (fun W' : World => W'.cell? ⟨w1.heap.size, 0, none⟩ = some (.int .i64 k) ∧ W'.cell? ⟨w1.heap.size, 1, none⟩ = some (.string (zeroT k)) ∧ W'.cell? ⟨w1.heap.size, 2, none⟩ = some (.string (oneT k)) ∧ W'.cell? ⟨w.heap.size, 0, none⟩ = some (.int .i64 k) ∧ W'.cell? ⟨w.heap.size, 1, none⟩ = some (.int .i64 (s0 : Int)) ∧ W'.cell? ⟨w.heap.size, 2, none⟩ = some (.string ld) ∧ W'.cell? ⟨w.heap.size, 3, none⟩ = some (.slice As l.length cs)) w7 := ⟨hg7.cell S6.1 (by simp), hg7.cell S6.2.1 (by simp), hg7.cell S6.2.2.1 (by simp), hg7.cell S6.2.2.2.1 (by simp), hg7.cell S6.2.2.2.2.1 (by simp), hg7.cell S6.2.2.2.2.2.1 (by simp), hg7.cell S6.2.2.2.2.2.2 (by simp)⟩; have H7 := Lib.hid (And.intro hr7 hg7); clear hr7 hg7))
 all_goals
  go_wp2
  go_ret
  refine .inl ⟨⟨H5.out.1, H6.out.1⟩, _, rfl, ⟨w6.heap.size, rfl, ?_, H7.out.1.1, fun j hj => (H7.out.1.2 j hj).trans ?_⟩, grown_trans (grown_trans (grown_trans (grown_trans HGD.out H5.out.2.2) H8.out.2) H6.out.2.2) H7.out.2⟩
  ·have h1 := HGD.out.size
   have h2 := H5.out.2.2.size
   have h4 := H8.out.2.size
   have h3 := H6.out.2.2.size
   omega
  ·unfold txs
   rw [← HV.out j hj]
end
end Go.Proofs.YtaogepcaoogpgaaGreatDoor
