/- THE CARD OF ClosureKnown: for every input, in every world in which the listed tables read as the program's text lays them, the call returns true, and what was there before it has not turned. Conditions: the row's own (the listed package-level variables, tied to the program's text). -/
import Derived.Test.YtaogepcaoogpgaaGreatDoorV47
import Derived.Test.YtaogepcaoogpgaaGreatDoorV34
set_option linter.unusedVariables false
set_option linter.unusedSimpArgs false
namespace Go.Proofs.YtaogepcaoogpgaaGreatDoor
open Go.RowKit
def e3 (x : Rat) (h : decide (0 ≤ x) = true) : El 3 := ⟨.inr x, by show (decide ((3 : Int) = 1) || ((decide ((3 : Int) = 2) || decide ((3 : Int) = 3)) && decide (0 ≤ x))) = true; rw [h]; rfl⟩
def sHalf : ByteArray := ⟨#[49, 47, 50]⟩
def sQuar : ByteArray := ⟨#[49, 47, 52]⟩
def K1 : Nat → Nat → El 3 := tab (e3 (1/2) (by decide +kernel)) (e3 2 (by decide +kernel)) (e3 (1/4) (by decide +kernel)) (e3 0 (by decide +kernel))
def K2 : Nat → Nat → El 2 := fun _ _ => e2 1 (by decide +kernel)
def K3 : Nat → Nat → El 3 := fun _ _ => e3 2 (by decide +kernel)
def GK1 : Nat → Nat → ByteArray := tab sHalf li2 sQuar li0
def RK1 : Nat → Nat → ByteArray := tab li1 li2 sQuar li1
theorem known1 {w : World} {e : Ending} {w' : World} (h : StarPost 3 2 (fun _ => 2) GK1 w e w') : w.grownBy w' none ∧ ∃ v, e = .returned (.tuple #[v, .int .i64 0]) ∧ MatA w' v 2 (fun _ => 2) RK1 := by
 obtain ⟨hg, v, h1, h2⟩ := star_lit k3 (A0 := K1) (by omega) (all2 (by refine ⟨?_, ?_, ?_, ?_⟩ <;> decide +kernel)) (all2 (by refine ⟨?_, ?_, ?_, ?_⟩ <;> decide +kernel)) (all2 (by refine ⟨?_, ?_, ?_, ?_⟩ <;> decide +kernel)) (by decide +kernel) (fun _ _ => rfl) h
 exact ⟨hg, v, h1, h2.texts.congr (all2 (by refine ⟨?_, ?_, ?_, ?_⟩ <;> decide +kernel))⟩
theorem known2 {w : World} {e : Ending} {w' : World} (h : StarPost 2 1 (fun _ => 1) (fun _ _ => li1) w e w') : w.grownBy w' none ∧ ∃ v, e = .returned (.tuple #[v, .int .i64 0]) ∧ MatA w' v 1 (fun _ => 1) (fun _ _ => sInf) := by
 obtain ⟨hg, v, h1, h2⟩ := star_lit k2 (A0 := K2) (by omega) (all1 (by decide +kernel)) (all1 (by decide +kernel)) (all1 (by decide +kernel)) (by decide +kernel) (fun _ _ => rfl) h
 exact ⟨hg, v, h1, h2.texts.congr (all1 (by decide +kernel))⟩
theorem known3 {w : World} {e : Ending} {w' : World} (h : StarPost 3 1 (fun _ => 1) (fun _ _ => li2) w e w') : w.grownBy w' none ∧ ∃ v, e = .returned (.tuple #[v, .int .i64 0]) ∧ MatA w' v 1 (fun _ => 1) (fun _ _ => sInf) := by
 obtain ⟨hg, v, h1, h2⟩ := star_lit k3 (A0 := K3) (by omega) (all1 (by decide +kernel)) (all1 (by decide +kernel)) (all1 (by decide +kernel)) (by decide +kernel) (fun _ _ => rfl) h
 exact ⟨hg, v, h1, h2.texts.congr (all1 (by decide +kernel))⟩
theorem mat_nil7 (w : World) (ln : Nat → Nat) (G : Nat → Nat → ByteArray) : MatA w (.slice none 0 0) 0 ln G := ⟨fun _ => .slice none 0 0, ⟨none, 0, rfl, Nat.le_refl _, by unfold maxLen; omega, fun j hj => absurd hj (by omega)⟩, fun i hi => absurd hi (by omega)⟩
theorem known4 {w : World} {e : Ending} {w' : World} (h : StarPost 1 0 (fun _ => 0) (fun _ _ => li0) w e w') : w.grownBy w' none ∧ ∃ A c, e = .returned (.tuple #[.slice A 0 c, .int .i64 0]) := by
 obtain ⟨hg, v, h1, h2⟩ := star_lit k1 (A0 := fun _ _ => e1 0) (by omega) (fun i hi => absurd hi (by omega)) (fun i hi => absurd hi (by omega)) (fun i hi => absurd hi (by omega)) (by decide +kernel) (fun _ _ => rfl) h
 obtain ⟨rs, ⟨A, c, rfl, _⟩, _⟩ := h2.texts
 exact ⟨hg, A, c, h1⟩
theorem known5 {k : Int} {n : Nat} {ln : Nat → Nat} {G : Nat → Nat → ByteArray} (hn : ¬ IsMat7 k n ln G) {w : World} {e : Ending} {w' : World} (h : StarPost k n ln G w e w') : w.grownBy w' none ∧ e = .returned (.tuple #[.slice none 0 0, .int .i64 1]) := by
 obtain ⟨hg, h⟩ := h
 rcases h with ⟨_, h⟩ | ⟨h, _⟩ | ⟨_, hl, hk, A, hA, _⟩
 ·exact ⟨hg, h⟩
 ·exact absurd h hn
 ·exact absurd ⟨hk, hl, fun i j hi hj => ⟨_, by rw [(hA i hi j hj).1]; exact tx_val (hA i hi j hj).2⟩⟩ hn
def kM7 : Mach := ⟨2, 0, li1, [⟨sHalf, [⟨0, 0, sHalf, 0⟩]⟩]⟩
theorem wgt7k {a : ByteArray} {x : Rat} (h : IsRat a x) (h0 : wgtE 2 (.inr x) = true) : wgtB 2 a = true := wgtB_yes (v := .inr x) ⟨h, h0⟩
theorem rH : IsRat sHalf (1/2) := ⟨by decide +kernel, by decide +kernel⟩
theorem kM_valid : validB kM7 = true := by
 unfold validB headB kM7 stB6 finB arcB nArcs kindB
 simp [wgt7k r1 (by decide +kernel), wgt7k rH (by decide +kernel)]
theorem kM_check : checkC kM7 = 0 := by
 unfold checkC
 rw [if_pos kM_valid]
 rfl
theorem kM_fits : MFits kM7 := ⟨by decide +kernel, by decide +kernel, by decide +kernel, by decide +kernel, by decide +kernel⟩
theorem vE_lit2 {x : Rat} {a : ByteArray} (h : IsRat a x) (h0 : decide (0 ≤ x) = true) : vE k2 a = e2 x h0 := Subtype.ext (vE_is k2 (v := .inr x) ⟨h, (e2 x h0).2⟩)
theorem kM_arc : ∀ i, i < 1 → ∀ j, j < 1 → arcM k2 kM7.states i j = e2 (1/2) (by decide +kernel) := all1 (by
 rw [arcM_cs]
 unfold arcL stA kM7
 simp [vE_lit2 rH (by decide +kernel)]
 decide +kernel)
theorem kM_fin : ∀ i, i < 1 → finM k2 kM7.states i = e2 (1/2) (by decide +kernel) := fun i hi => by
 obtain rfl : i = 0 := by omega
 unfold finM finE stF kM7
 simp only [List.getElem?_cons_zero, Option.map_some, Option.getD_some]
 rw [if_neg (by decide +kernel), vE_lit2 rH (by decide +kernel)]
theorem kM_to : toE k2 kM7.states 0 = e2 1 (by decide +kernel) := (xsol_congr (srE 2 k2) (n := 1) (A := arcM k2 kM7.states) (B := fun _ _ => e2 (1/2) (by decide +kernel)) (fun i j hi hj => kM_arc i hi j hj) kM_fin (by omega)).trans (by decide +kernel)
theorem kM_from : frE k2 kM7.states li1 0 0 = e2 2 (by decide +kernel) := by
 have hl : ∀ i, i < 1 → leadM k2 li1 0 i = e2 1 (by decide +kernel) := fun i hi => by
  obtain rfl : i = 0 := by omega
  unfold leadM
  rw [vE_lit2 r1 (by decide +kernel)]
  rfl
 exact (xsol_congr (srE 2 k2) (n := 1) (A := fun x y => arcM k2 kM7.states y x) (B := fun _ _ => e2 (1/2) (by decide +kernel)) (fun i j hi hj => kM_arc j hj i hi) hl (by omega)).trans (by decide +kernel)
theorem kM_lit : LitM kM7.kind kM7.states := ⟨by decide, by decide +kernel, fun i hi a ha => by
  obtain rfl : i = 0 := by have : i < 1 := hi; omega
  rw [List.mem_singleton.1 (show a ∈ [_] from ha)]; unfold shortB7; decide +kernel, fun i hi => by
  obtain rfl : i = 0 := by have : i < 1 := hi; omega
  unfold shortB7; decide +kernel⟩
theorem kM_sts : StsOk 2 kM7.states := (valid_ok7 kM_valid).sts (by decide)
theorem kM_tot : totE k2 (trimM kM7).states (trimM kM7).lead (trimM kM7).start.toNat = e2 1 (by decide +kernel) := by
 have h := trim_tot (k := 2) k2 (m := kM7) (valid_wf kM_valid)
 rw [h]
 unfold totE
 show (srE 2 k2).mul (vE k2 li1) (toE k2 kM7.states 0) = e2 1 _
 rw [vE_lit2 r1 (by decide +kernel), kM_to]
 decide +kernel
theorem row_one {w : World} {v : Value} {f : Nat → El 2} {a : ByteArray} (h : RowR w v 1 (txs f)) (h0 : tx (f 0) = a) : RowR w v 1 (fun _ => .string a) := by
 obtain ⟨A, c, e1, e2, e3, e4⟩ := h
 refine ⟨A, c, e1, e2, e3, fun j hj => ?_⟩
 obtain ⟨ad, q1, q2, q3⟩ := e4 j hj
 refine ⟨ad, q1, q2, q3.trans ?_⟩
 unfold txs
 obtain rfl : j = 0 := by omega
 rw [h0]
theorem kM_toP {w : World} {e : Ending} {w' : World} (h : ToPost kM7 w e w') : w.grownBy w' none ∧ ∃ v, e = .returned (.tuple #[v, .int .i64 0]) ∧ RowR w' v 1 (fun _ => .string li1) := by
 rcases h with ⟨hn, _⟩ | ⟨_, hk, hg, ⟨_, v, h1, h2⟩ | ⟨hn, _⟩⟩
 ·exact absurd kM_check hn
 ·exact ⟨hg, v, h1, row_one h2 (by rw [show toE hk kM7.states 0 = e2 1 _ from kM_to]; decide +kernel)⟩
 ·exact absurd (lit_to k2 kM_lit kM_sts) hn
theorem kM_fromP {w : World} {e : Ending} {w' : World} (h : FromPost kM7 w e w') : w.grownBy w' none ∧ ∃ v, e = .returned (.tuple #[v, .int .i64 0]) ∧ RowR w' v 1 (fun _ => .string li2) := by
 rcases h with ⟨hn, _⟩ | ⟨_, hk, hg, ⟨_, v, h1, h2⟩ | ⟨hn, _⟩⟩
 ·exact absurd kM_check hn
 ·exact ⟨hg, v, h1, row_one h2 (by rw [show frE hk kM7.states kM7.lead kM7.start.toNat 0 = e2 2 _ from kM_from]; decide +kernel)⟩
 ·exact absurd (lit_from k2 (s0 := 0) kM_lit kM_sts ⟨.inr 1, r1, by decide +kernel⟩ (by unfold shortB7; decide +kernel)) hn
theorem kM_totP {w : World} {e : Ending} {w' : World} (h : TotalPost kM7 w e w') : w.grownBy w' none ∧ e = .returned (.tuple #[.string li1, .int .i64 0]) := by
 rcases h with ⟨hn, _⟩ | ⟨_, hk, hg, ⟨_, h1⟩ | ⟨hn, _⟩⟩
 ·exact absurd kM_check hn
 ·refine ⟨hg, h1.trans ?_⟩
  rw [show totE hk (trimM kM7).states (trimM kM7).lead (trimM kM7).start.toNat = e2 1 _ from kM_tot]
  exact congrArg (fun a => Ending.returned (.tuple #[.string a, .int .i64 0])) (show tx (k := 2) (e2 1 _) = li1 by decide +kernel)
 ·exact absurd (lit_total (m := kM7) k2 kM_valid kM_lit (by unfold shortB7; decide +kernel)) hn
theorem kM_mem (w : World) (H : Nat) (hH : H = w.heap.size + 1) :
  MachV (((w.alloc (.cells #[.int .i64 0, .int .i64 0, .string sHalf, .int .i64 0] 59)).alloc (.cells #[.string sHalf, .slice (some ⟨w.heap.size, 0, none⟩) 1 1] 57)).alloc (.cells #[.int .i64 2, .int .i64 0, .string li1, .slice (some ⟨H, 0, none⟩) 1 1] 31))
   (.agg #[.int .i64 2, .int .i64 0, .string li1, .slice (some ⟨H, 0, none⟩) 1 1]) kM7 := by
 subst hH
 have g2 := World.grownBy_alloc (w.alloc (.cells #[.int .i64 0, .int .i64 0, .string sHalf, .int .i64 0] 59)) (.cells #[.string sHalf, .slice (some ⟨w.heap.size, 0, none⟩) 1 1] 57) none
 have g3 := World.grownBy_alloc ((w.alloc (.cells #[.int .i64 0, .int .i64 0, .string sHalf, .int .i64 0] 59)).alloc (.cells #[.string sHalf, .slice (some ⟨w.heap.size, 0, none⟩) 1 1] 57)) (.cells #[.int .i64 2, .int .i64 0, .string li1, .slice (some ⟨w.heap.size + 1, 0, none⟩) 1 1] 31) none
 have b0 := new_block w (.cells #[.int .i64 0, .int .i64 0, .string sHalf, .int .i64 0] 59)
 have b1 := new_block (w.alloc (.cells #[.int .i64 0, .int .i64 0, .string sHalf, .int .i64 0] 59)) (.cells #[.string sHalf, .slice (some ⟨w.heap.size, 0, none⟩) 1 1] 57)
 have z1 : (w.alloc (.cells #[.int .i64 0, .int .i64 0, .string sHalf, .int .i64 0] 59)).heap.size = w.heap.size + 1 := by simp
 rw [z1] at b1
 have c0 := (g3.block _ (by first | (simp; done) | (simp; omega)) (by simp)).trans ((g2.block w.heap.size (by simp) (by simp)).trans b0)
 have c1 := (g3.block (w.heap.size + 1) (by first | (simp; done) | (simp; omega)) (by simp)).trans b1
 refine ⟨_, rfl, some ⟨w.heap.size + 1, 0, none⟩, 1, [.slice (some ⟨w.heap.size, 0, none⟩) 1 1], rfl, rfl, cells_block7 c1 rfl, fun i s u hs hu => ?_⟩
 obtain rfl : i = 0 := by have : i < 1 := (List.getElem?_eq_some_iff.1 hs).1; omega
 simp only [kM7, List.getElem?_cons_zero, Option.some.injEq] at hs hu
 subst hs hu
 exact ⟨_, 1, rfl, cells_block7 (xs := ([⟨0, 0, sHalf, 0⟩] : List MArc).flatMap arcC) c0 rfl⟩
theorem kM_box (w : World) (H : Nat) : MBox (((w.alloc (.cells #[.int .i64 0, .int .i64 0, .string sHalf, .int .i64 0] 59)).alloc (.cells #[.string sHalf, .slice (some ⟨w.heap.size, 0, none⟩) 1 1] 57)).alloc (.cells #[.int .i64 2, .int .i64 0, .string li1, .slice (some ⟨H, 0, none⟩) 1 1] 31)) (w.heap.size + 2) 2 0 li1 (some ⟨H, 0, none⟩) 1 1 := by
 have h := MBox.new ((w.alloc (.cells #[.int .i64 0, .int .i64 0, .string sHalf, .int .i64 0] 59)).alloc (.cells #[.string sHalf, .slice (some ⟨w.heap.size, 0, none⟩) 1 1] 57)) 2 0 li1 (some ⟨H, 0, none⟩) 1 1
 rw [show ((w.alloc (.cells #[.int .i64 0, .int .i64 0, .string sHalf, .int .i64 0] 59)).alloc (.cells #[.string sHalf, .slice (some ⟨w.heap.size, 0, none⟩) 1 1] 57)).heap.size = w.heap.size + 2 by simp] at h
 exact h
open Go.RowKit
theorem mat_row12 (w : World) (a b : ByteArray) (H1 : Nat) (h1 : H1 = w.heap.size + 1) :
  MatA ((w.alloc (.cells #[.string a, .string b] 9)).alloc (.cells #[.slice (some ⟨w.heap.size, 0, none⟩) 2 2] 33)) (.slice (some ⟨H1, 0, none⟩) 1 1) 1 (fun _ => 2) (fun _ j => if j = 0 then a else b) := by
 subst h1
 have g2 := World.grownBy_alloc (w.alloc (.cells #[.string a, .string b] 9)) (.cells #[.slice (some ⟨w.heap.size, 0, none⟩) 2 2] 33) none
 have r1 := (row_lit2 w a b).grown g2
 have hs1 : (w.alloc (.cells #[.string a, .string b] 9)).heap.size = w.heap.size + 1 := by simp
 refine ⟨fun i => .slice (some ⟨w.heap.size, 0, none⟩) 2 2, ⟨_, 1, rfl, Nat.le_refl _, by unfold maxLen; omega, fun j hj => ⟨_, rfl, by simp, ?_⟩⟩, fun i hi => r1⟩
 rw [add_off, Nat.zero_add, ← hs1]
 obtain rfl : j = 0 := by omega
 exact box_cell _ _ _ rfl
theorem small7 (a : ByteArray) (h : decide (a.size ≤ 9) = true) : a.size ≤ maxLen := by
 have := of_decide_eq_true h
 unfold maxLen; omega
set_option maxRecDepth 20000 in
set_option maxHeartbeats 4000000 in
theorem known7_any (w : World) : Calls Tryz.prog 10 #[] w (fun e w' => e = .returned (.bool true) ∧ w.grownBy w' none) := by
 go_enter Tryz.func10, Tryz.ntmps10
 go_wp2_with fail
 refine (star_any 3 2 (fun _ => 2) GK1 _ _ (by omega) (mat_lit22 w sHalf li2 sQuar li0 _ _ rfl rfl) (lit_size (by decide +kernel))).mono ?_
 intro e w1 hq
 obtain ⟨hg, v1, rfl, hm1⟩ := known1 hq
 have H1 := Lib.hid (And.intro hm1 (grown_trans (grown_trans (grown_trans (World.grownBy_alloc w (.cells #[.string sHalf, .string li2] 9) none) (World.grownBy_alloc _ (.cells #[.string sQuar, .string li0] 9) none)) (World.grownBy_alloc _ _ none)) hg))
 clear hq hm1 hg
 go_wp2_with fail
 refine (star_any 2 1 (fun _ => 1) (fun _ _ => li1) _ _ (by omega) (mat_lit11 w1 li1 _ rfl) (fun _ _ => small7 _ (by decide +kernel))).mono ?_
 intro e w2 hq
 obtain ⟨hg, v2, rfl, hm2⟩ := known2 hq
 have H2 := Lib.hid (And.intro hm2 (grown_trans (grown_trans (World.grownBy_alloc w1 (.cells #[.string li1] 9) none) (World.grownBy_alloc _ _ none)) hg))
 clear hq hm2 hg
 go_wp2_with fail
 refine (star_any 3 1 (fun _ => 1) (fun _ _ => li2) _ _ (by omega) (mat_lit11 w2 li2 _ rfl) (fun _ _ => small7 _ (by decide +kernel))).mono ?_
 intro e w3 hq
 obtain ⟨hg, v3, rfl, hm3⟩ := known3 hq
 have H3 := Lib.hid (And.intro hm3 (grown_trans (grown_trans (World.grownBy_alloc w2 (.cells #[.string li2] 9) none) (World.grownBy_alloc _ _ none)) hg))
 clear hq hm3 hg
 go_wp2_with fail
 refine (star_any 1 0 (fun _ => 0) (fun _ _ => li0) _ _ (by omega) (mat_nil7 w3 _ _) (fun _ _ => small7 _ (by decide +kernel))).mono ?_
 intro e w4 hq
 obtain ⟨hg, A4, c4, rfl⟩ := known4 hq
 have H4 := Lib.hid hg
 clear hq hg
 go_wp2_with fail
 refine (star_any 1 1 (fun _ => 2) (fun _ j => if j = 0 then li1 else li2) _ _ (by omega) (mat_row12 w4 li1 li2 _ rfl) (fun _ j => by split <;> exact small7 _ (by decide +kernel))).mono ?_
 intro e w5 hq
 obtain ⟨hg, rfl⟩ := known5 (fun h => absurd (h.2.1 0 (by omega)) (by decide)) hq
 have H5 := Lib.hid (grown_trans (grown_trans (World.grownBy_alloc w4 (.cells #[.string li1, .string li2] 9) none) (World.grownBy_alloc _ _ none)) hg)
 clear hq hg
 go_wp2_with fail
 refine (star_any 4 0 (fun _ => 0) (fun _ _ => li0) _ _ (by omega) (mat_nil7 w5 _ _) (fun _ _ => small7 _ (by decide +kernel))).mono ?_
 intro e w6 hq
 obtain ⟨hg, rfl⟩ := known5 (fun h => by rcases h.1 with h | h | h <;> exact absurd h (by decide)) hq
 have H6 := Lib.hid hg
 clear hq hg
 go_wp2_with fail
 have hgm := grown_trans (grown_trans (World.grownBy_alloc w6 (.cells #[.int .i64 0, .int .i64 0, .string sHalf, .int .i64 0] 59) none) (World.grownBy_alloc _ (.cells #[.string sHalf, .slice (some ⟨w6.heap.size, 0, none⟩) 1 1] 57) none)) (World.grownBy_alloc _ (.cells #[.int .i64 2, .int .i64 0, .string li1, .slice (some ⟨w6.heap.size + 1, 0, none⟩) 1 1] 31) none)
 have hmv := kM_mem w6 (w6.heap.size + 1) rfl
 have hbx := kM_box w6 (w6.heap.size + 1)
 have HG := Lib.hid hgm; have HMV := Lib.hid hmv; have HBX := Lib.hid hbx
 clear hgm hmv hbx
 refine (To_any HMV.out kM_fits).mono ?_
 intro e w7 hq
 obtain ⟨hg7, v7, rfl, hr7⟩ := kM_toP hq
 obtain ⟨x0, x1, x2, x3⟩ := HBX.out.grown hg7
 have HMV7 := Lib.hid (HMV.out.below (below_of7 hg7)); have H7 := Lib.hid (And.intro hr7 (grown_trans HG.out hg7)); have HBX7 := Lib.hid (HBX.out.grown hg7)
 clear hq hr7 hg7 HMV HBX HG
 go_wp2_with fail
 refine (From_any HMV7.out kM_fits).mono ?_
 intro e w8 hq
 obtain ⟨hg8, v8, rfl, hr8⟩ := kM_fromP hq
 obtain ⟨y0, y1, y2, y3⟩ := HBX7.out.grown hg8
 have HMV8 := Lib.hid (HMV7.out.below (below_of7 hg8)); have H8 := Lib.hid (And.intro hr8 hg8)
 clear hq hr8 hg8 HMV7 HBX7 x0 x1 x2 x3
 go_wp2_with fail
 refine (Total_any HMV8.out kM_fits).mono ?_
 intro e w9 hq
 obtain ⟨hg9, rfl⟩ := kM_totP hq
 have H9 := Lib.hid hg9
 clear hq hg9 HMV8 y0 y1 y2 y3
 go_wp2_with fail
 have G9 := Lib.hid (grown_trans (grown_trans (grown_trans H9.out (World.grownBy_alloc w9 (.cells #[.string li1, .string li2] 9) none)) (World.grownBy_alloc _ (.cells #[.string sQuar, .string li1] 9) none)) (World.grownBy_alloc _ (.cells #[.slice (some ⟨w9.heap.size, 0, none⟩) 2 2, .slice (some ⟨w9.heap.size + 1, 0, none⟩) 2 2] 33) none))
 refine (sameMatrix_any 2 2 (fun _ => 2) (fun _ => 2) RK1 RK1 _ _ _ (by omega) (by omega) (by intros; omega) (by intros; omega) (((((((((H1.out.1.grown H2.out.2).grown H3.out.2).grown H4.out).grown H5.out).grown H6.out).grown H7.out.2).grown H8.out.2)).grown G9.out) (mat_lit22 w9 li1 li2 sQuar li1 _ _ rfl rfl)).mono ?_
 rintro e wa ⟨b, rfl, hb, hga⟩
 obtain rfl := hb.2 (sameMB_refl 2 (fun _ => 2) RK1)
 have HA := Lib.hid (grown_trans G9.out hga)
 clear hb hga G9
 go_wp2_with fail
 have GA := Lib.hid (grown_trans (grown_trans HA.out (World.grownBy_alloc wa (.cells #[.string sInf] 9) none)) (World.grownBy_alloc _ (.cells #[.slice (some ⟨wa.heap.size, 0, none⟩) 1 1] 33) none))
 refine (sameMatrix_any 1 1 (fun _ => 1) (fun _ => 1) (fun _ _ => sInf) (fun _ _ => sInf) _ _ _ (by omega) (by omega) (by intros; omega) (by intros; omega) ((((((((H2.out.1.grown H3.out.2).grown H4.out).grown H5.out).grown H6.out).grown H7.out.2).grown H8.out.2)).grown GA.out) (mat_lit11 wa sInf _ rfl)).mono ?_
 rintro e wb ⟨b, rfl, hb, hgb⟩
 obtain rfl := hb.2 (sameMB_refl 1 (fun _ => 1) (fun _ _ => sInf))
 have HB := Lib.hid (grown_trans GA.out hgb)
 clear hb hgb GA
 go_wp2_with fail
 have GB := Lib.hid (grown_trans (grown_trans HB.out (World.grownBy_alloc wb (.cells #[.string sInf] 9) none)) (World.grownBy_alloc _ (.cells #[.slice (some ⟨wb.heap.size, 0, none⟩) 1 1] 33) none))
 refine (sameMatrix_any 1 1 (fun _ => 1) (fun _ => 1) (fun _ _ => sInf) (fun _ _ => sInf) _ _ _ (by omega) (by omega) (by intros; omega) (by intros; omega) (((((((H3.out.1.grown H4.out).grown H5.out).grown H6.out).grown H7.out.2).grown H8.out.2)).grown GB.out) (mat_lit11 wb sInf _ rfl)).mono ?_
 rintro e wc ⟨b, rfl, hb, hgc⟩
 obtain rfl := hb.2 (sameMB_refl 1 (fun _ => 1) (fun _ _ => sInf))
 have HC := Lib.hid (grown_trans GB.out hgc)
 clear hb hgc GB
 go_wp2_with fail
 have GC := Lib.hid (grown_trans HC.out (World.grownBy_alloc wc (.cells #[.string li1] 9) none))
 refine (same7_any 1 1 (fun _ => li1) (fun _ => li1) _ _ _ (by omega) (by omega) ((H7.out.1.grown H8.out.2).grown GC.out) (row_lit1 wc li1)).mono ?_
 rintro e wd ⟨b, rfl, hb, hgd⟩
 obtain rfl := hb.2 ⟨rfl, fun _ _ => rfl⟩
 have HD := Lib.hid (grown_trans GC.out hgd)
 clear hb hgd GC
 go_wp2_with fail
 have GD := Lib.hid (grown_trans HD.out (World.grownBy_alloc wd (.cells #[.string li2] 9) none))
 refine (same7_any 1 1 (fun _ => li2) (fun _ => li2) _ _ _ (by omega) (by omega) (H8.out.1.grown GD.out) (row_lit1 wd li2)).mono ?_
 rintro e we ⟨b, rfl, hb, hge⟩
 obtain rfl := hb.2 ⟨rfl, fun _ _ => rfl⟩
 have HE := Lib.hid (grown_trans GD.out hge)
 clear hb hge GD
 have hone : (li1.toList == [49]) = true := by decide +kernel
 go_wp2_with fail
 ·refine (example7_any we).mono ?_
  rintro e wf ⟨rfl, hgf⟩
  go_wp2_with fail
  exact bodyPost_ret (v := .bool true) (by simp [results, Tryz.results10, go_sem]) rfl ⟨rfl, grown_trans H1.out.2 (grown_trans H2.out.2 (grown_trans H3.out.2 (grown_trans H4.out (grown_trans H5.out (grown_trans H6.out (grown_trans H7.out.2 (grown_trans H8.out.2 (grown_trans HE.out hgf))))))))⟩
end Go.Proofs.YtaogepcaoogpgaaGreatDoor
namespace Go.Proofs.YtaogepcaoogpgaaGreatDoor.cClosureKnown
open Go.ChangeShapes Go.WideShapes Go.ChangeAt Go.RowKit Go.Lib
open Go.WideMaps Go.WideElems
open Go.ChangeMaps (open_string shut_string)
set_option maxRecDepth 100000 in
theorem contract (H : Type) (enc : TypeId × Value → H) (W : World) (base : Nat) (args : Array Value) (ds gs : List (DataW H)) (before : List MemPlace)
  (hval : ∀ (j : Nat) t v, Tryz.f10.params[j]? = some t → args[j]? = some v → Value.okWide Tryz.prog W .any base t v)
  (hW : DataW.Whole enc Tryz.prog Tryz.f10.params.toList Rows.closureKnownSpec.vars false W args.toList ds gs before)
  (hsz : (DataW.weightsEach Tryz.prog (Tryz.f10.params.toList ++ (OpenSpec.ofChange Rows.closureKnownSpec).bare.plain.varTypes Tryz.prog) (ds ++ gs)).all (· ≤ reachBytes) = true) :
  Calls Tryz.prog 10 args W fun e W' => ∃ v, e = .returned v ∧ Rows.closureKnownSpec.post enc Tryz.prog Tryz.f10 false true false false W args v W' := by
 have hW' := hW
 obtain ⟨p, q, hA0, hV, rfl, hfz, hnd⟩ := hW
 have hA : DataW.TrodAll enc Tryz.prog W 0 (fun _ => true) true Tryz.f10.params.toList args.toList ds p := hA0
 rw [Tryz.params10] at hA hval hsz
 obtain ⟨hargs, rfl, rfl⟩ := trodAll_nil hA
 obtain rfl : args = #[] := by cases args; simp_all
 obtain ⟨rfl, rfl⟩ := trodVars_none hV
 clear hA0
 simp only [List.append_nil, List.nil_append] at hW'
 have walk := known7_any W
 refine walk.mono fun e W' ⟨he, hg⟩ => ?_
 subst he
 have hb := below_grown hg (Nat.le_refl _) (by simp)
 exact ⟨_, rfl, post_below (pa := []) (pv := []) hW' (fun _ _ _ => trodAll_cons_mk (shut_bool Tryz.underlying4 _) trodAll_mk0) (trodAll_mk0) rfl hb⟩
theorem laid_met (os : Os) : laidMet Tryz.prog Rows.closureKnownRow.laid ((laidWorld os).forCall (fun _ _ => 0) ⟨#[], #[], []⟩).memory :=
 laidMet_of_run' 8 (by kernel_rfl) (by kernel_rfl)
theorem reads (os : Os) {H : Type} (enc : TypeId × Value → H) : ∃ places, DataW.whole enc Tryz.prog ((laidWorld os).forCall (fun _ _ => 0) ⟨#[], #[], []⟩).memory Tryz.f10.params.toList Rows.closureKnownSpec.vars false (#[] : Array Value).toList 8 = some ([], [], places) :=
 ⟨[], by kernel_rfl⟩
set_option maxRecDepth 100000 in
theorem lifted (os : Os) (started : os.Started) (H : Type) (enc : TypeId × Value → H) (F : Stop.Interp) :
  ReturnsInHanded {} Tryz.checked os 10 .any ((OpenSpec.ofChange Rows.closureKnownSpec).preRow enc Tryz.prog Tryz.f10 Rows.closureKnownRow.domain false Rows.closureKnownRow.laid) (((OpenSpec.ofChange Rows.closureKnownSpec).at F).post enc Tryz.prog Tryz.f10 false true false false) := by
 obtain ⟨places, hx⟩ := reads os enc
 refine returnsInHanded_of_row (C := Tryz.checked) (s := OpenSpec.ofChange Rows.closureKnownSpec) own started (by kernel_rfl) Tryz.func10
  (witness_row_at (enc := enc) (C := Tryz.checked) false (laidWorld os) #[] rfl (by kernel_rfl) (by kernel_rfl) (by kernel_rfl)
   (OpenSpec.preRow_of_cond 8 hx (by kernel_rfl) (fun k hk => by cases hk) (by kernel_rfl) (laid_met os))) ?_
 intro W base args ds gs before hval hW _ _ hsz hL _ _
 exact contract H enc W base args ds gs before hval hW hsz
theorem said : Rows.ClosureKnownSaid :=
 OpenClaim.holds_of_cond 10 Tryz.f10 rfl rfl rfl rfl rfl rfl rfl ⟨rfl, rfl, rfl, rfl, rfl⟩ rfl rfl rfl rfl rfl (by kernel_rfl) Tryz.func10 (by kernel_rfl)
  (of_decide_eq_true (by kernel_rfl)) (by unfold Func.isWrapper; first | (rw [if_pos (by decide +kernel)]; kernel_rfl) | (rw [if_neg (by decide +kernel)]; exact ⟨rfl, rfl⟩))
  (fun os started H enc _ F => by rw [OpenClaim.pre_eq_preRow]; exact lifted os started H enc F)
theorem plain (f : FuncId) (fn : Func) (hf : Tryz.pinned.checked.prog.funcNamed "abugida/abugidalaw07.ClosureKnown" = some f) (hfn : Tryz.pinned.checked.prog.funcs[f]? = some fn) :
  true = Tryz.pinned.checked.prog.looks [] ∧ ∀ (j : Nat) t, fn.params[j]? = some t → Tryz.pinned.checked.prog.wantsStandIn t = false := by
 obtain rfl : f = 10 := Option.some.inj ((show Tryz.prog.funcNamed "abugida/abugidalaw07.ClosureKnown" = some 10 by kernel_rfl).symm.trans hf) |>.symm
 obtain rfl : fn = Tryz.f10 := (Option.some.inj (Tryz.func10.symm.trans hfn)).symm
 refine ⟨by kernel_rfl, fun j t ht => ?_⟩
 rw [Tryz.params10] at ht
 simp at ht
theorem card : Rows.ClosureKnownCardSaid :=
 Claim7.holds_tied_plain_at .later [] _ _ _ _ said (fun _ h => by cases h) (by kernel_rfl) (fun _ h => by cases h) closureKnown_row_tie rfl ⟨rfl, rfl⟩ (by kernel_rfl) rfl plain (by kernel_rfl)
end Go.Proofs.YtaogepcaoogpgaaGreatDoor.cClosureKnown
