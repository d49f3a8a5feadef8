/- UA4 UA5 -/
import Derived.Test.YtaogepcaoogpgaaGreatDoorV46
set_option linter.unusedVariables false
set_option linter.unusedSimpArgs false
namespace Go.Proofs.YtaogepcaoogpgaaGreatDoor
open Go.RowKit
theorem k1 : IsKind 1 := .inl rfl
theorem k2 : IsKind 2 := .inr (.inl rfl)
theorem k3 : IsKind 3 := .inr (.inr rfl)
def e1 (x : Rat) : El 1 := ⟨.inr x, by unfold hasE; rfl⟩
def e2 (x : Rat) (h : decide (0 ≤ x) = true) : El 2 := ⟨.inr x, by show (decide ((2 : Int) = 1) || ((decide ((2 : Int) = 2) || decide ((2 : Int) = 3)) && decide (0 ≤ x))) = true; rw [h]; rfl⟩
def top1 : El 1 := ⟨.inl true, rfl⟩
def li0 : ByteArray := ⟨#[48]⟩
def li1 : ByteArray := ⟨#[49]⟩
def li2 : ByteArray := ⟨#[50]⟩
def li3 : ByteArray := ⟨#[51]⟩
def li4 : ByteArray := ⟨#[52]⟩
def li6 : ByteArray := ⟨#[54]⟩
def li7 : ByteArray := ⟨#[55]⟩
def sInf : ByteArray := ⟨#[105, 110, 102]⟩
def sLow : ByteArray := ⟨#[45, 105, 110, 102]⟩
theorem MatA.congr {w : World} {v : Value} {n m : Nat} {G R : Nat → Nat → ByteArray} (h : MatA w v n (fun _ => m) G) (e : ∀ i, i < n → ∀ j, j < m → G i j = R i j) : MatA w v n (fun _ => m) R := by
 obtain ⟨rs, h1, h2⟩ := h
 refine ⟨rs, h1, fun i hi => ?_⟩
 obtain ⟨A, c, e1, e2, e3, e4⟩ := h2 i hi
 refine ⟨A, c, e1, e2, e3, fun j hj => ?_⟩
 obtain ⟨ad, q1, q2, q3⟩ := e4 j hj
 exact ⟨ad, q1, q2, q3.trans (by dsimp only; rw [e i hi j hj])⟩
def tab {α : Type} (a b c d : α) (i j : Nat) : α := if i = 0 then (if j = 0 then a else b) else (if j = 0 then c else d)
theorem tab_all {α : Type} {P : α → Prop} {a b c d : α} (h : P a ∧ P b ∧ P c ∧ P d) (i j : Nat) : P (tab a b c d i j) := by
 unfold tab
 split <;> split
 ·exact h.1
 ·exact h.2.1
 ·exact h.2.2.1
 ·exact h.2.2.2
instance (v : Ext) : Decidable (Fits v) := by
 rcases v with (_ | _) | x
 ·exact .isTrue trivial
 ·exact .isTrue trivial
 ·show Decidable (Short x); unfold Short; infer_instance
instance (v : Ext) : Decidable (Sh4 v) := by
 rcases v with (_ | _) | x
 ·exact .isTrue trivial
 ·exact .isTrue trivial
 ·show Decidable (_ ≤ 4); infer_instance
instance {k : Int} (v : El k) : Decidable (FitE v) := inferInstanceAs (Decidable (Fits v.1))
def A1 : Nat → Nat → El 1 := tab (e1 1) (e1 2) top1 (e1 3)
def A2 : Nat → Nat → El 2 := tab (e2 (1/2) (by decide +kernel)) (e2 (1/4) (by decide +kernel)) (e2 0 (by decide +kernel)) (e2 (1/3) (by decide +kernel))
def A3 : Nat → Nat → El 1 := fun _ _ => e1 (-1)
def G1 : Nat → Nat → ByteArray := tab li1 li2 sInf li3
def G2 : Nat → Nat → ByteArray := tab ⟨#[49, 47, 50]⟩ ⟨#[49, 47, 52]⟩ li0 ⟨#[49, 47, 51]⟩
def G3 : Nat → Nat → ByteArray := fun _ _ => ⟨#[45, 49]⟩
def R1 : Nat → Nat → ByteArray := tab li0 li2 sInf li0
def R2 : Nat → Nat → ByteArray := tab li2 ⟨#[51, 47, 52]⟩ li0 ⟨#[51, 47, 50]⟩
def R3 : Nat → Nat → ByteArray := fun _ _ => sLow
theorem all2 {P : Nat → Nat → Prop} (h : P 0 0 ∧ P 0 1 ∧ P 1 0 ∧ P 1 1) : ∀ i, i < 2 → ∀ j, j < 2 → P i j := fun i hi j hj => by
 rcases (show i = 0 ∨ i = 1 by omega) with rfl | rfl <;> rcases (show j = 0 ∨ j = 1 by omega) with rfl | rfl
 ·exact h.1
 ·exact h.2.1
 ·exact h.2.2.1
 ·exact h.2.2.2
theorem all1 {P : Nat → Nat → Prop} (h : P 0 0) : ∀ i, i < 1 → ∀ j, j < 1 → P i j := fun i hi j hj => by
 obtain rfl : i = 0 := by omega
 obtain rfl : j = 0 := by omega
 exact h
theorem ex1 {w : World} {e : Ending} {w' : World} (h : StarPost 1 2 (fun _ => 2) G1 w e w') : w.grownBy w' none ∧ ∃ v, e = .returned (.tuple #[v, .int .i64 0]) ∧ MatA w' v 2 (fun _ => 2) R1 := by
 obtain ⟨hg, v, h1, h2⟩ := star_lit k1 (A0 := A1) (by omega) (all2 (by refine ⟨?_, ?_, ?_, ?_⟩ <;> decide +kernel)) (all2 (by refine ⟨?_, ?_, ?_, ?_⟩ <;> decide +kernel)) (all2 (by refine ⟨?_, ?_, ?_, ?_⟩ <;> decide +kernel)) (by decide +kernel) (fun _ _ => rfl) h
 exact ⟨hg, v, h1, h2.texts.congr (all2 (by refine ⟨?_, ?_, ?_, ?_⟩ <;> decide +kernel))⟩
theorem ex2 {w : World} {e : Ending} {w' : World} (h : StarPost 2 2 (fun _ => 2) G2 w e w') : w.grownBy w' none ∧ ∃ v, e = .returned (.tuple #[v, .int .i64 0]) ∧ MatA w' v 2 (fun _ => 2) R2 := by
 obtain ⟨hg, v, h1, h2⟩ := star_lit k2 (A0 := A2) (by omega) (all2 (by refine ⟨?_, ?_, ?_, ?_⟩ <;> decide +kernel)) (all2 (by refine ⟨?_, ?_, ?_, ?_⟩ <;> decide +kernel)) (all2 (by refine ⟨?_, ?_, ?_, ?_⟩ <;> decide +kernel)) (by decide +kernel) (fun _ _ => rfl) h
 exact ⟨hg, v, h1, h2.texts.congr (all2 (by refine ⟨?_, ?_, ?_, ?_⟩ <;> decide +kernel))⟩
theorem ex3 {w : World} {e : Ending} {w' : World} (h : StarPost 1 1 (fun _ => 1) G3 w e w') : w.grownBy w' none ∧ ∃ v, e = .returned (.tuple #[v, .int .i64 0]) ∧ MatA w' v 1 (fun _ => 1) R3 := by
 obtain ⟨hg, v, h1, h2⟩ := star_lit k1 (A0 := A3) (by omega) (all1 (by decide +kernel)) (all1 (by decide +kernel)) (all1 (by decide +kernel)) (by decide +kernel) (fun _ _ => rfl) h
 exact ⟨hg, v, h1, h2.texts.congr (all1 (by decide +kernel))⟩
def exM7 : Mach := ⟨1, 0, li1, [⟨⟨#[]⟩, [⟨1, 1, li2, 1⟩]⟩, ⟨li4, [⟨2, 1, li3, 1⟩]⟩]⟩
theorem wgt7 {a : ByteArray} {x : Rat} (h : IsRat a x) : wgtB 1 a = true := wgtB_yes (v := .inr x) ⟨h, rfl⟩
theorem val7 {a : ByteArray} {x : Rat} (h : IsRat a x) : Val 1 a (.inr x) := ⟨h, rfl⟩
theorem r1 : IsRat li1 1 := ⟨by decide +kernel, by decide +kernel⟩
theorem r2 : IsRat li2 2 := ⟨by decide +kernel, by decide +kernel⟩
theorem r3 : IsRat li3 3 := ⟨by decide +kernel, by decide +kernel⟩
theorem r4 : IsRat li4 4 := ⟨by decide +kernel, by decide +kernel⟩
theorem ex7_valid : validB exM7 = true := by
 unfold validB headB exM7 stB6 finB arcB nArcs kindB
 simp [wgt7 r1, wgt7 r2, wgt7 r3, wgt7 r4]
 exact .inl (by decide +kernel)
theorem ex7_check : checkC exM7 = 0 := by
 unfold checkC
 rw [if_pos ex7_valid]
 rfl
theorem ex7_fits : MFits exM7 := ⟨by decide +kernel, by decide +kernel, by decide +kernel, by decide +kernel, by decide +kernel⟩
theorem vE_lit {x : Rat} {a : ByteArray} (h : IsRat a x) : vE k1 a = e1 x := Subtype.ext (vE_is k1 (val7 h))
def Am : Nat → Nat → El 1 := tab top1 (e1 2) top1 (e1 3)
def Fm (i : Nat) : El 1 := if i = 0 then top1 else e1 4
theorem am_is : ∀ i, i < 2 → ∀ j, j < 2 → arcM k1 exM7.states i j = Am i j := all2 (by
 refine ⟨?_, ?_, ?_, ?_⟩
 all_goals
  rw [arcM_cs]
  unfold arcL stA exM7
  simp [vE_lit r2, vE_lit r3]
  decide +kernel)
theorem fm_is : ∀ i, i < 2 → finM k1 exM7.states i = Fm i := fun i hi => by
 rcases (show i = 0 ∨ i = 1 by omega) with rfl | rfl
 ·unfold finM finE stF exM7 Fm
  simp
  decide +kernel
 ·unfold finM finE stF exM7 Fm
  simp only [List.getElem?_cons_succ, List.getElem?_cons_zero, Option.map_some, Option.getD_some]
  rw [if_neg (by decide +kernel), vE_lit r4]
  rfl
theorem ex7_to : toE k1 exM7.states 0 = e1 6 ∧ toE k1 exM7.states 1 = e1 4 := by
 have h := fun i (hi : i < 2) => xsol_congr (srE 1 k1) (n := 2) (fun i j hi hj => am_is i hi j hj) fm_is hi
 refine ⟨(h 0 (by omega)).trans ?_, (h 1 (by omega)).trans ?_⟩ <;> decide +kernel
theorem ex7_from : frE k1 exM7.states li1 0 0 = e1 1 ∧ frE k1 exM7.states li1 0 1 = e1 3 := by
 have hl : ∀ i, i < 2 → leadM k1 li1 0 i = (if i = 0 then e1 1 else top1) := fun i hi => by
  unfold leadM
  rw [vE_lit r1]
  rfl
 have h := fun i (hi : i < 2) => xsol_congr (srE 1 k1) (n := 2) (A := fun x y => arcM k1 exM7.states y x) (B := fun x y => Am y x) (fun i j hi hj => am_is j hj i hi) hl hi
 refine ⟨(h 0 (by omega)).trans ?_, (h 1 (by omega)).trans ?_⟩ <;> decide +kernel
theorem ex7_lit : LitM exM7.kind exM7.states := ⟨by decide, by decide +kernel, fun i hi a ha => by
  rcases (show i = 0 ∨ i = 1 by have : i < 2 := hi; omega) with rfl | rfl
  ·rw [List.mem_singleton.1 (show a ∈ [_] from ha)]; unfold shortB7; decide +kernel
  ·rw [List.mem_singleton.1 (show a ∈ [_] from ha)]; unfold shortB7; decide +kernel, fun i hi => by
  rcases (show i = 0 ∨ i = 1 by have : i < 2 := hi; omega) with rfl | rfl
  ·unfold shortB7; decide +kernel
  ·unfold shortB7; decide +kernel⟩
theorem ex7_sts : StsOk 1 exM7.states := (valid_ok7 ex7_valid).sts (by decide)
theorem ex7_tot : totE k1 (trimM exM7).states (trimM exM7).lead (trimM exM7).start.toNat = e1 7 := by
 have h := trim_tot (k := 1) k1 (m := exM7) (valid_wf ex7_valid)
 rw [h]
 unfold totE
 show (srE 1 k1).mul (vE k1 li1) (toE k1 exM7.states 0) = e1 7
 rw [vE_lit r1, ex7_to.1]
 decide +kernel
open Go.RowKit
theorem row_lit2 (w : World) (a b : ByteArray) : RowR (w.alloc (.cells #[.string a, .string b] 9)) (.slice (some ⟨w.heap.size, 0, none⟩) 2 2) 2 (fun j => .string (if j = 0 then a else b)) :=
 ⟨_, 2, rfl, Nat.le_refl _, by unfold maxLen; omega, fun j hj => ⟨_, rfl, by simp, by
  rw [add_off, Nat.zero_add]
  rcases (show j = 0 ∨ j = 1 by omega) with rfl | rfl
  ·exact box_cell w _ _ rfl
  ·exact box_cell w _ _ rfl⟩⟩
theorem row_lit1 (w : World) (a : ByteArray) : RowR (w.alloc (.cells #[.string a] 9)) (.slice (some ⟨w.heap.size, 0, none⟩) 1 1) 1 (fun j => .string a) :=
 ⟨_, 1, rfl, Nat.le_refl _, by unfold maxLen; omega, fun j hj => ⟨_, rfl, by simp, by
  rw [add_off, Nat.zero_add]
  obtain rfl : j = 0 := by omega
  exact box_cell w _ _ rfl⟩⟩
theorem mat_lit22 (w : World) (a b c d : ByteArray) (H1 H2 : Nat) (h1 : H1 = w.heap.size + 1) (h2 : H2 = w.heap.size + 2) :
  MatA (((w.alloc (.cells #[.string a, .string b] 9)).alloc (.cells #[.string c, .string d] 9)).alloc (.cells #[.slice (some ⟨w.heap.size, 0, none⟩) 2 2, .slice (some ⟨H1, 0, none⟩) 2 2] 33)) (.slice (some ⟨H2, 0, none⟩) 2 2) 2 (fun _ => 2) (tab a b c d) := by
 subst h1 h2
 have g1 := World.grownBy_alloc (w.alloc (.cells #[.string a, .string b] 9)) (.cells #[.string c, .string d] 9) none
 have g2 := World.grownBy_alloc ((w.alloc (.cells #[.string a, .string b] 9)).alloc (.cells #[.string c, .string d] 9)) (.cells #[.slice (some ⟨w.heap.size, 0, none⟩) 2 2, .slice (some ⟨w.heap.size + 1, 0, none⟩) 2 2] 33) none
 have r1 := ((row_lit2 w a b).grown g1).grown g2
 have r2 := (row_lit2 (w.alloc (.cells #[.string a, .string b] 9)) c d).grown g2
 have hs1 : (w.alloc (.cells #[.string a, .string b] 9)).heap.size = w.heap.size + 1 := by simp
 have hs2 : ((w.alloc (.cells #[.string a, .string b] 9)).alloc (.cells #[.string c, .string d] 9)).heap.size = w.heap.size + 2 := by simp
 rw [hs1] at r2
 refine ⟨fun i => if i = 0 then .slice (some ⟨w.heap.size, 0, none⟩) 2 2 else .slice (some ⟨w.heap.size + 1, 0, none⟩) 2 2, ⟨_, 2, rfl, Nat.le_refl _, by unfold maxLen; omega, fun j hj => ⟨_, rfl, by simp, ?_⟩⟩, fun i hi => ?_⟩
 ·rw [add_off, Nat.zero_add, ← hs2]
  rcases (show j = 0 ∨ j = 1 by omega) with rfl | rfl
  ·exact box_cell _ _ _ rfl
  ·exact box_cell _ _ _ rfl
 ·unfold tab
  rcases (show i = 0 ∨ i = 1 by omega) with rfl | rfl
  ·exact r1
  ·exact r2
theorem mat_lit11 (w : World) (a : ByteArray) (H1 : Nat) (h1 : H1 = w.heap.size + 1) :
  MatA ((w.alloc (.cells #[.string a] 9)).alloc (.cells #[.slice (some ⟨w.heap.size, 0, none⟩) 1 1] 33)) (.slice (some ⟨H1, 0, none⟩) 1 1) 1 (fun _ => 1) (fun _ _ => a) := by
 subst h1
 have g2 := World.grownBy_alloc (w.alloc (.cells #[.string a] 9)) (.cells #[.slice (some ⟨w.heap.size, 0, none⟩) 1 1] 33) none
 have r1 := (row_lit1 w a).grown g2
 have hs1 : (w.alloc (.cells #[.string a] 9)).heap.size = w.heap.size + 1 := by simp
 refine ⟨fun i => .slice (some ⟨w.heap.size, 0, none⟩) 1 1, ⟨_, 1, rfl, Nat.le_refl _, by unfold maxLen; omega, fun j hj => ⟨_, rfl, by simp, ?_⟩⟩, fun i hi => r1⟩
 rw [add_off, Nat.zero_add, ← hs1]
 obtain rfl : j = 0 := by omega
 exact box_cell _ _ _ rfl
theorem lit_size {a b c d : ByteArray} (h : a.size ≤ 9 ∧ b.size ≤ 9 ∧ c.size ≤ 9 ∧ d.size ≤ 9) (i j : Nat) : (tab a b c d i j).size ≤ maxLen := by
 have := tab_all (P := fun x : ByteArray => x.size ≤ 9) h i j
 unfold maxLen; omega
theorem cells_block7 {W : World} {g k n : Nat} {xs : List Value} {t : TypeId} (h : W.heap[g]? = some (.cells xs.toArray t (0, 0))) (hl : xs.length = n * k) : Reads W W.heap.size k (some ⟨g, 0, none⟩) n xs :=
 ⟨hl, fun _ => ⟨_, rfl, (Array.getElem?_eq_some_iff.1 h).1, fun j u hu => by
  rw [add_off, Nat.zero_add, cell_of_row W g _ _ _ (0, 0) h, List.getElem?_toArray]
  exact hu⟩⟩
theorem ex7_mem (w : World) (H : Nat) (hH : H = w.heap.size + 2) :
  MachV ((((w.alloc (.cells #[.int .i64 1, .int .i64 1, .string li2, .int .i64 1] 59)).alloc (.cells #[.int .i64 2, .int .i64 1, .string li3, .int .i64 1] 59)).alloc (.cells #[.string ⟨#[]⟩, .slice (some ⟨w.heap.size, 0, none⟩) 1 1, .string li4, .slice (some ⟨w.heap.size + 1, 0, none⟩) 1 1] 57)).alloc (.cells #[.int .i64 1, .int .i64 0, .string li1, .slice (some ⟨H, 0, none⟩) 2 2] 31))
   (.agg #[.int .i64 1, .int .i64 0, .string li1, .slice (some ⟨H, 0, none⟩) 2 2]) exM7 := by
 subst hH
 have g1 := World.grownBy_alloc (w.alloc (.cells #[.int .i64 1, .int .i64 1, .string li2, .int .i64 1] 59)) (.cells #[.int .i64 2, .int .i64 1, .string li3, .int .i64 1] 59) none
 have g2 := World.grownBy_alloc ((w.alloc (.cells #[.int .i64 1, .int .i64 1, .string li2, .int .i64 1] 59)).alloc (.cells #[.int .i64 2, .int .i64 1, .string li3, .int .i64 1] 59)) (.cells #[.string ⟨#[]⟩, .slice (some ⟨w.heap.size, 0, none⟩) 1 1, .string li4, .slice (some ⟨w.heap.size + 1, 0, none⟩) 1 1] 57) none
 have g3 := World.grownBy_alloc (((w.alloc (.cells #[.int .i64 1, .int .i64 1, .string li2, .int .i64 1] 59)).alloc (.cells #[.int .i64 2, .int .i64 1, .string li3, .int .i64 1] 59)).alloc (.cells #[.string ⟨#[]⟩, .slice (some ⟨w.heap.size, 0, none⟩) 1 1, .string li4, .slice (some ⟨w.heap.size + 1, 0, none⟩) 1 1] 57)) (.cells #[.int .i64 1, .int .i64 0, .string li1, .slice (some ⟨w.heap.size + 2, 0, none⟩) 2 2] 31) none
 have b0 := new_block w (.cells #[.int .i64 1, .int .i64 1, .string li2, .int .i64 1] 59)
 have b1 := new_block (w.alloc (.cells #[.int .i64 1, .int .i64 1, .string li2, .int .i64 1] 59)) (.cells #[.int .i64 2, .int .i64 1, .string li3, .int .i64 1] 59)
 have b2 := new_block ((w.alloc (.cells #[.int .i64 1, .int .i64 1, .string li2, .int .i64 1] 59)).alloc (.cells #[.int .i64 2, .int .i64 1, .string li3, .int .i64 1] 59)) (.cells #[.string ⟨#[]⟩, .slice (some ⟨w.heap.size, 0, none⟩) 1 1, .string li4, .slice (some ⟨w.heap.size + 1, 0, none⟩) 1 1] 57)
 have z1 : (w.alloc (.cells #[.int .i64 1, .int .i64 1, .string li2, .int .i64 1] 59)).heap.size = w.heap.size + 1 := by simp
 have z2 : ((w.alloc (.cells #[.int .i64 1, .int .i64 1, .string li2, .int .i64 1] 59)).alloc (.cells #[.int .i64 2, .int .i64 1, .string li3, .int .i64 1] 59)).heap.size = w.heap.size + 2 := by simp
 rw [z1] at b1
 rw [z2] at b2
 have c0 := (g3.block _ (by first | (simp; omega) | simp) (by simp)).trans ((g2.block _ (by first | (simp; omega) | simp) (by simp)).trans ((g1.block w.heap.size (by simp) (by simp)).trans b0))
 have c1 := (g3.block _ (by first | (simp; done) | (simp; omega)) (by simp)).trans ((g2.block (w.heap.size + 1) (by simp) (by simp)).trans b1)
 have c2 := (g3.block (w.heap.size + 2) (by simp) (by simp)).trans b2
 refine ⟨_, rfl, some ⟨w.heap.size + 2, 0, none⟩, 2, [.slice (some ⟨w.heap.size, 0, none⟩) 1 1, .slice (some ⟨w.heap.size + 1, 0, none⟩) 1 1], rfl, rfl, cells_block7 c2 rfl, fun i s u hs hu => ?_⟩
 have hi : i < 2 := (List.getElem?_eq_some_iff.1 hs).1
 rcases (show i = 0 ∨ i = 1 by omega) with rfl | rfl
 ·simp only [exM7, List.getElem?_cons_zero, Option.some.injEq] at hs hu
  subst hs hu
  exact ⟨_, 1, rfl, cells_block7 (xs := ([⟨1, 1, li2, 1⟩] : List MArc).flatMap arcC) c0 rfl⟩
 ·simp only [exM7, List.getElem?_cons_succ, List.getElem?_cons_zero, Option.some.injEq] at hs hu
  subst hs hu
  exact ⟨_, 1, rfl, cells_block7 (xs := ([⟨2, 1, li3, 1⟩] : List MArc).flatMap arcC) c1 rfl⟩
theorem ex7_box (w : World) (H : Nat) : MBox ((((w.alloc (.cells #[.int .i64 1, .int .i64 1, .string li2, .int .i64 1] 59)).alloc (.cells #[.int .i64 2, .int .i64 1, .string li3, .int .i64 1] 59)).alloc (.cells #[.string ⟨#[]⟩, .slice (some ⟨w.heap.size, 0, none⟩) 1 1, .string li4, .slice (some ⟨w.heap.size + 1, 0, none⟩) 1 1] 57)).alloc (.cells #[.int .i64 1, .int .i64 0, .string li1, .slice (some ⟨H, 0, none⟩) 2 2] 31)) (w.heap.size + 3) 1 0 li1 (some ⟨H, 0, none⟩) 2 2 := by
 have h := MBox.new (((w.alloc (.cells #[.int .i64 1, .int .i64 1, .string li2, .int .i64 1] 59)).alloc (.cells #[.int .i64 2, .int .i64 1, .string li3, .int .i64 1] 59)).alloc (.cells #[.string ⟨#[]⟩, .slice (some ⟨w.heap.size, 0, none⟩) 1 1, .string li4, .slice (some ⟨w.heap.size + 1, 0, none⟩) 1 1] 57)) 1 0 li1 (some ⟨H, 0, none⟩) 2 2
 rw [show (((w.alloc (.cells #[.int .i64 1, .int .i64 1, .string li2, .int .i64 1] 59)).alloc (.cells #[.int .i64 2, .int .i64 1, .string li3, .int .i64 1] 59)).alloc (.cells #[.string ⟨#[]⟩, .slice (some ⟨w.heap.size, 0, none⟩) 1 1, .string li4, .slice (some ⟨w.heap.size + 1, 0, none⟩) 1 1] 57)).heap.size = w.heap.size + 3 by simp] at h
 exact h
theorem row_two {w : World} {v : Value} {f : Nat → El 1} {a b : ByteArray} (h : RowR w v 2 (txs f)) (h0 : tx (f 0) = a) (h1 : tx (f 1) = b) : RowR w v 2 (fun j => .string (if j = 0 then a else b)) := by
 obtain ⟨A, c, e1, e2, e3, e4⟩ := h
 refine ⟨A, c, e1, e2, e3, fun j hj => ?_⟩
 obtain ⟨ad, q1, q2, q3⟩ := e4 j hj
 refine ⟨ad, q1, q2, q3.trans ?_⟩
 unfold txs
 rcases (show j = 0 ∨ j = 1 by omega) with rfl | rfl
 ·rw [h0]; rfl
 ·rw [h1]; rfl
theorem ex7_toP {w : World} {e : Ending} {w' : World} (h : ToPost exM7 w e w') : w.grownBy w' none ∧ ∃ v, e = .returned (.tuple #[v, .int .i64 0]) ∧ RowR w' v 2 (fun j => .string (if j = 0 then li6 else li4)) := by
 rcases h with ⟨hn, _⟩ | ⟨_, hk, hg, ⟨_, v, h1, h2⟩ | ⟨hn, _⟩⟩
 ·exact absurd ex7_check hn
 ·exact ⟨hg, v, h1, row_two h2 (by rw [show toE hk exM7.states 0 = e1 6 from ex7_to.1]; decide +kernel) (by rw [show toE hk exM7.states 1 = e1 4 from ex7_to.2]; decide +kernel)⟩
 ·exact absurd (lit_to k1 ex7_lit ex7_sts) hn
theorem ex7_fromP {w : World} {e : Ending} {w' : World} (h : FromPost exM7 w e w') : w.grownBy w' none ∧ ∃ v, e = .returned (.tuple #[v, .int .i64 0]) ∧ RowR w' v 2 (fun j => .string (if j = 0 then li1 else li3)) := by
 rcases h with ⟨hn, _⟩ | ⟨_, hk, hg, ⟨_, v, h1, h2⟩ | ⟨hn, _⟩⟩
 ·exact absurd ex7_check hn
 ·exact ⟨hg, v, h1, row_two h2 (by rw [show frE hk exM7.states exM7.lead exM7.start.toNat 0 = e1 1 from ex7_from.1]; decide +kernel) (by rw [show frE hk exM7.states exM7.lead exM7.start.toNat 1 = e1 3 from ex7_from.2]; decide +kernel)⟩
 ·exact absurd (lit_from k1 (s0 := 0) ex7_lit ex7_sts ⟨_, val7 r1⟩ (by unfold shortB7; decide +kernel)) hn
theorem ex7_totP {w : World} {e : Ending} {w' : World} (h : TotalPost exM7 w e w') : w.grownBy w' none ∧ e = .returned (.tuple #[.string li7, .int .i64 0]) := by
 rcases h with ⟨hn, _⟩ | ⟨_, hk, hg, ⟨_, h1⟩ | ⟨hn, _⟩⟩
 ·exact absurd ex7_check hn
 ·refine ⟨hg, h1.trans ?_⟩
  rw [show totE hk (trimM exM7).states (trimM exM7).lead (trimM exM7).start.toNat = e1 7 from ex7_tot]
  exact congrArg (fun a => Ending.returned (.tuple #[.string a, .int .i64 0])) (show tx (k := 1) (e1 7) = li7 by decide +kernel)
 ·exact absurd (lit_total (m := exM7) k1 ex7_valid ex7_lit (by unfold shortB7; decide +kernel)) hn
theorem sameMB_refl (n : Nat) (l : Nat → Nat) (X : Nat → Nat → ByteArray) : SameMB n n l l X X := ⟨rfl, fun _ _ => ⟨rfl, fun _ _ => rfl⟩⟩
set_option maxRecDepth 20000 in
set_option maxHeartbeats 4000000 in
theorem example7_any (w : World) : Calls Tryz.prog 11 #[] w (fun e w' => e = .returned (.bool true) ∧ w.grownBy w' none) := by
 go_enter Tryz.func11, Tryz.ntmps11
 go_wp2_with fail
 refine (star_any 1 2 (fun _ => 2) G1 _ _ (by omega) (mat_lit22 w li1 li2 sInf li3 _ _ rfl rfl) (lit_size (by decide +kernel))).mono ?_
 intro e w1 hq
 obtain ⟨hg, v1, rfl, hm1⟩ := ex1 hq
 have H1 := Lib.hid (And.intro hm1 (grown_trans (grown_trans (grown_trans (World.grownBy_alloc w (.cells #[.string li1, .string li2] 9) none) (World.grownBy_alloc _ (.cells #[.string sInf, .string li3] 9) none)) (World.grownBy_alloc _ _ none)) hg))
 clear hq hm1 hg
 go_wp2_with fail
 refine (star_any 2 2 (fun _ => 2) G2 _ _ (by omega) (mat_lit22 w1 ⟨#[49, 47, 50]⟩ ⟨#[49, 47, 52]⟩ li0 ⟨#[49, 47, 51]⟩ _ _ rfl rfl) (lit_size (by decide +kernel))).mono ?_
 intro e w2 hq
 obtain ⟨hg, v2, rfl, hm2⟩ := ex2 hq
 have H2 := Lib.hid (And.intro hm2 (grown_trans (grown_trans (grown_trans (World.grownBy_alloc w1 (.cells #[.string ⟨#[49, 47, 50]⟩, .string ⟨#[49, 47, 52]⟩] 9) none) (World.grownBy_alloc _ (.cells #[.string li0, .string ⟨#[49, 47, 51]⟩] 9) none)) (World.grownBy_alloc _ _ none)) hg))
 clear hq hm2 hg
 go_wp2_with fail
 refine (star_any 1 1 (fun _ => 1) G3 _ _ (by omega) (mat_lit11 w2 ⟨#[45, 49]⟩ _ rfl) (fun _ _ => by show (⟨#[45, 49]⟩ : ByteArray).size ≤ maxLen; decide +kernel)).mono ?_
 intro e w3 hq
 obtain ⟨hg, v3, rfl, hm3⟩ := ex3 hq
 have H3 := Lib.hid (And.intro hm3 (grown_trans (grown_trans (World.grownBy_alloc w2 (.cells #[.string ⟨#[45, 49]⟩] 9) none) (World.grownBy_alloc _ _ none)) hg))
 clear hq hm3 hg
 go_wp2_with fail
 have hgm := grown_trans (grown_trans (grown_trans (World.grownBy_alloc w3 (.cells #[.int .i64 1, .int .i64 1, .string li2, .int .i64 1] 59) none) (World.grownBy_alloc _ (.cells #[.int .i64 2, .int .i64 1, .string li3, .int .i64 1] 59) none)) (World.grownBy_alloc _ (.cells #[.string ⟨#[]⟩, .slice (some ⟨w3.heap.size, 0, none⟩) 1 1, .string li4, .slice (some ⟨w3.heap.size + 1, 0, none⟩) 1 1] 57) none)) (World.grownBy_alloc _ (.cells #[.int .i64 1, .int .i64 0, .string li1, .slice (some ⟨w3.heap.size + 1 + 1, 0, none⟩) 2 2] 31) none)
 have hmv := ex7_mem w3 (w3.heap.size + 1 + 1) rfl
 have hbx := ex7_box w3 (w3.heap.size + 1 + 1)
 have HG := Lib.hid hgm; have HMV := Lib.hid hmv; have HBX := Lib.hid hbx
 clear hgm hmv hbx
 refine (To_any HMV.out ex7_fits).mono ?_
 intro e w4 hq
 obtain ⟨hg4, v4, rfl, hr4⟩ := ex7_toP hq
 obtain ⟨x0, x1, x2, x3⟩ := HBX.out.grown hg4
 have HMV4 := Lib.hid (HMV.out.below (below_of7 hg4)); have H4 := Lib.hid (And.intro hr4 (grown_trans HG.out hg4)); have HBX4 := Lib.hid (HBX.out.grown hg4)
 clear hq hr4 hg4 HMV HBX HG
 go_wp2_with fail
 refine (From_any HMV4.out ex7_fits).mono ?_
 intro e w5 hq
 obtain ⟨hg5, v5, rfl, hr5⟩ := ex7_fromP hq
 obtain ⟨y0, y1, y2, y3⟩ := HBX4.out.grown hg5
 have HMV5 := Lib.hid (HMV4.out.below (below_of7 hg5)); have H5 := Lib.hid (And.intro hr5 hg5)
 clear hq hr5 hg5 HMV4 HBX4 x0 x1 x2 x3
 go_wp2_with fail
 refine (Total_any HMV5.out ex7_fits).mono ?_
 intro e w6 hq
 obtain ⟨hg6, rfl⟩ := ex7_totP hq
 have H6 := Lib.hid hg6
 clear hq hg6 HMV5 y0 y1 y2 y3
 go_wp2_with fail
 have G6 := Lib.hid (grown_trans (grown_trans (grown_trans H6.out (World.grownBy_alloc w6 (.cells #[.string li0, .string li2] 9) none)) (World.grownBy_alloc _ (.cells #[.string sInf, .string li0] 9) none)) (World.grownBy_alloc _ (.cells #[.slice (some ⟨w6.heap.size, 0, none⟩) 2 2, .slice (some ⟨w6.heap.size + 1, 0, none⟩) 2 2] 33) none))
 refine (sameMatrix_any 2 2 (fun _ => 2) (fun _ => 2) R1 R1 _ _ _ (by omega) (by omega) (by intros; omega) (by intros; omega) (((((H1.out.1.grown H2.out.2).grown H3.out.2).grown H4.out.2).grown H5.out.2).grown G6.out) (mat_lit22 w6 li0 li2 sInf li0 _ _ rfl rfl)).mono ?_
 rintro e w7 ⟨b, rfl, hb, hg7⟩
 obtain rfl := hb.2 (sameMB_refl 2 (fun _ => 2) R1)
 have H7 := Lib.hid (grown_trans G6.out hg7)
 clear hb hg7 G6
 go_wp2_with fail
 have G7 := Lib.hid (grown_trans (grown_trans (grown_trans H7.out (World.grownBy_alloc w7 (.cells #[.string li2, .string ⟨#[51, 47, 52]⟩] 9) none)) (World.grownBy_alloc _ (.cells #[.string li0, .string ⟨#[51, 47, 50]⟩] 9) none)) (World.grownBy_alloc _ (.cells #[.slice (some ⟨w7.heap.size, 0, none⟩) 2 2, .slice (some ⟨w7.heap.size + 1, 0, none⟩) 2 2] 33) none))
 refine (sameMatrix_any 2 2 (fun _ => 2) (fun _ => 2) R2 R2 _ _ _ (by omega) (by omega) (by intros; omega) (by intros; omega) ((((H2.out.1.grown H3.out.2).grown H4.out.2).grown H5.out.2).grown G7.out) (mat_lit22 w7 li2 ⟨#[51, 47, 52]⟩ li0 ⟨#[51, 47, 50]⟩ _ _ rfl rfl)).mono ?_
 rintro e w8 ⟨b, rfl, hb, hg8⟩
 obtain rfl := hb.2 (sameMB_refl 2 (fun _ => 2) R2)
 have H8 := Lib.hid (grown_trans G7.out hg8)
 clear hb hg8 G7
 go_wp2_with fail
 have G8 := Lib.hid (grown_trans (grown_trans H8.out (World.grownBy_alloc w8 (.cells #[.string sLow] 9) none)) (World.grownBy_alloc _ (.cells #[.slice (some ⟨w8.heap.size, 0, none⟩) 1 1] 33) none))
 refine (sameMatrix_any 1 1 (fun _ => 1) (fun _ => 1) R3 R3 _ _ _ (by omega) (by omega) (by intros; omega) (by intros; omega) (((H3.out.1.grown H4.out.2).grown H5.out.2).grown G8.out) (mat_lit11 w8 sLow _ rfl)).mono ?_
 rintro e w9 ⟨b, rfl, hb, hg9⟩
 obtain rfl := hb.2 (sameMB_refl 1 (fun _ => 1) R3)
 have H9 := Lib.hid (grown_trans G8.out hg9)
 clear hb hg9 G8
 go_wp2_with fail
 have G9 := Lib.hid (grown_trans H9.out (World.grownBy_alloc w9 (.cells #[.string li6, .string li4] 9) none))
 refine (same7_any 2 2 (fun j => if j = 0 then li6 else li4) (fun j => if j = 0 then li6 else li4) _ _ _ (by omega) (by omega) ((H4.out.1.grown H5.out.2).grown G9.out) (row_lit2 w9 li6 li4)).mono ?_
 rintro e wa ⟨b, rfl, hb, hga⟩
 obtain rfl := hb.2 ⟨rfl, fun _ _ => rfl⟩
 have HA := Lib.hid (grown_trans G9.out hga)
 clear hb hga G9
 go_wp2_with fail
 have GA := Lib.hid (grown_trans HA.out (World.grownBy_alloc wa (.cells #[.string li1, .string li3] 9) none))
 refine (same7_any 2 2 (fun j => if j = 0 then li1 else li3) (fun j => if j = 0 then li1 else li3) _ _ _ (by omega) (by omega) (H5.out.1.grown GA.out) (row_lit2 wa li1 li3)).mono ?_
 rintro e wb ⟨b, rfl, hb, hgb⟩
 obtain rfl := hb.2 ⟨rfl, fun _ _ => rfl⟩
 have HB := Lib.hid (grown_trans GA.out hgb)
 clear hb hgb GA
 go_wp2_with fail
 rw [show (li7.toList == [55]) = true by decide +kernel]
 exact bodyPost_ret (v := .bool true) (by simp [results, Tryz.results11, go_sem]) rfl ⟨rfl, grown_trans H1.out.2 (grown_trans H2.out.2 (grown_trans H3.out.2 (grown_trans H4.out.2 (grown_trans H5.out.2 HB.out))))⟩
end Go.Proofs.YtaogepcaoogpgaaGreatDoor
