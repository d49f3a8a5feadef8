/- U81 U83 -/
import Derived.Test.YtaogepcaoogpgaaGreatDoorV13
import Derived.Test.YtaogepcaoogpgaaGreatDoorV14
import Derived.Test.YtaogepcaoogpgaaGreatDoorV16
import Derived.Deep.RegionHeld3
import Derived.Deep.RegionWith
import Derived.Test.YtaogepcaoogpgaaGreatDoorV17
import Derived.Test.YtaogepcaoogpgaaGreatDoorV02
import Derived.Laws.CopyOwn
import Derived.Deep.CutBlock
import Derived.Deep.RegionLaw
import Derived.BigQuiet
set_option linter.unusedVariables false
set_option linter.unusedSimpArgs false
namespace Go.Proofs.YtaogepcaoogpgaaGreatDoor
open Go.RowKit
section
variable {k : Int}
def tx (v : El k) : ByteArray := extT v.1
def FitE (v : El k) : Prop := Fits v.1
def calV (k : Int) : Value := .agg #[.int .i64 k, .string (zeroT k), .string (oneT k)]
def facV (k : Int) (a : ByteArray) : Value := .agg #[.int .i64 k, .string (zeroT k), .string (oneT k), .string a]
def OrDie7 (P : Prop) (V : Value) (w : World) (e : Ending) (w' : World) : Prop := (P ∧ ValPost V w e w') ∨ (¬ P ∧ DiePost 2 w e w')
theorem tx_is {v : El k} (h : FitE v) : IsE (tx v) v.1 := extT_is h
theorem tx_val {v : El k} (h : FitE v) : Val k (tx v) v.1 := ⟨tx_is h, v.2⟩
theorem tx_zero (hk : IsKind k) : tx (srE k hk).zero = zeroT k := (zeroT_is hk).text.symm
theorem tx_one (hk : IsKind k) : tx (srE k hk).one = oneT k := (oneT_is hk).text.symm
theorem fit_zero (hk : IsKind k) : FitE (srE k hk).zero := (wideE_topOf k).fits (by omega)
theorem fit_one (hk : IsKind k) : FitE (srE k hk).one := (wideE_unit k).fits (by omega)
theorem tx_inj {u v : El k} (hu : FitE u) (hv : FitE v) (h : tx u = tx v) : u = v := Subtype.ext ((tx_is hu).uniq (h ▸ tx_is hv))
theorem tx_is_zero (hk : IsKind k) {u : El k} (hu : FitE u) (h : tx u = zeroT k) : u = (srE k hk).zero := tx_inj hu (fit_zero hk) (by rw [h, tx_zero])
theorem tx_is_one (hk : IsKind k) {u : El k} (hu : FitE u) (h : tx u = oneT k) : u = (srE k hk).one := tx_inj hu (fit_one hk) (by rw [h, tx_one])
theorem extV_not {v : Ext} (h : ¬ Fits v) : extV v = .tuple #[.string ⟨#[]⟩, .int .i64 2] := by
 rcases v with (_ | _) | x
 ·exact absurd trivial h
 ·exact absurd trivial h
 ·exact finV_long h
theorem str_facts7 (a b : ByteArray) : ((a.toList == b.toList) = true ∧ a = b) ∨ ((a.toList == b.toList) = false ∧ a ≠ b) := by
 by_cases h : a = b
 ·left; exact ⟨by rw [h]; exact beq_self_eq_true _, h⟩
 ·right
  refine ⟨?_, h⟩
  rw [Bool.eq_false_iff]
  intro e
  have := eq_of_beq e
  rw [Lib.toList_data, Lib.toList_data] at this
  exact h (ByteArray.ext (Array.ext' this))
theorem short_ok (a : ByteArray) (w : World) : Calls Tryz.prog 102 #[.string a, .int .i64 0] w (ValPost (.string a) w) := by
 go_enter Tryz.func102, Tryz.ntmps102
 go_wp2
 go_ret
 exact ⟨rfl, grown_refl _ _⟩
theorem short_die (a : ByteArray) (w : World) : Calls Tryz.prog 102 #[.string a, .int .i64 2] w (DiePost 2 w) := by
 go_enter Tryz.func102, Tryz.ntmps102
 go_wp2
 exact ⟨rfl, rfl, grown_refl _ _⟩
set_option maxRecDepth 20000 in
set_option maxHeartbeats 1000000 in
theorem cplus_any (hk : IsKind k) {u v : El k} (hu : FitE u) (hv : FitE v) (w : World) :
  Calls Tryz.prog 87 #[calV k, .string (tx u), .string (tx v)] w (OrDie7 (FitE ((srE k hk).add u v)) (.string (tx ((srE k hk).add u v))) w) := by
 unfold calV
 rcases str_facts7 (tx u) (zeroT k) with ⟨f1, e1⟩ | ⟨f1, e1⟩
 ·have hz := tx_is_zero hk hu e1
  have hs : (srE k hk).add u v = v := by rw [hz, (srE k hk).zero_add]
  rw [hs]
  have HFV := Lib.hid hv
  clear hs hz e1
  go_enter Tryz.func87, Tryz.ntmps87
  go_wp2
  go_ret
  exact .inl ⟨HFV.out, rfl, World.grownBy_alloc _ _ _⟩
 ·rcases str_facts7 (tx v) (zeroT k) with ⟨f2, e2⟩ | ⟨f2, e2⟩
  ·have hz := tx_is_zero hk hv e2
   have hs : (srE k hk).add u v = u := by rw [hz, (srE k hk).add_zero]
   rw [hs]
   clear hs hz e2 e1
   go_enter Tryz.func87, Tryz.ntmps87
   go_wp2
   go_ret
   exact .inl ⟨hu, rfl, World.grownBy_alloc _ _ _⟩
  ·have hp := splus_val (tx_val hu) (tx_val hv)
   clear e1 e2
   by_cases hf : FitE ((srE k hk).add u v)
   ·have e : extV (plusE k u.1 v.1) = .tuple #[.string (tx ((srE k hk).add u v)), .int .i64 0] := extV_fits hf
    rw [e] at hp
    have HP := Lib.hid hp; have HFF := Lib.hid hf
    clear hp e hf
    generalize (srE k hk).add u v = s at *
    go_enter Tryz.func87, Tryz.ntmps87
    go_wp2_with fail
    refine (HP.out _).mono ?_
    rintro e w1 ⟨rfl, hg1⟩
    go_wp2_with fail
    refine (short_ok _ _).mono ?_
    rintro e w2 ⟨rfl, hg2⟩
    have HG := Lib.hid (grown_trans (grown_trans (World.grownBy_alloc _ _ none) hg1) hg2)
    clear hg1 hg2
    go_wp2
    go_ret
    exact .inl ⟨HFF.out, rfl, HG.out⟩
   ·have e : extV (plusE k u.1 v.1) = .tuple #[.string ⟨#[]⟩, .int .i64 2] := extV_not hf
    rw [e] at hp
    have HP := Lib.hid hp; have HF := Lib.hid hf
    clear hp e hf
    go_enter Tryz.func87, Tryz.ntmps87
    go_wp2_with fail
    refine (HP.out _).mono ?_
    rintro e w1 ⟨rfl, hg1⟩
    go_wp2_with fail
    refine (short_die _ _).mono ?_
    rintro e w2 ⟨rfl, hg2⟩
    exact ⟨rfl, .inr ⟨HF.out, rfl, grown_trans (grown_trans (World.grownBy_alloc _ _ none) hg1) hg2⟩⟩
set_option maxRecDepth 20000 in
set_option maxHeartbeats 1000000 in
theorem ctimes_any (hk : IsKind k) {u v : El k} (hu : FitE u) (hv : FitE v) (w : World) :
  Calls Tryz.prog 59 #[calV k, .string (tx u), .string (tx v)] w (OrDie7 (FitE ((srE k hk).mul u v)) (.string (tx ((srE k hk).mul u v))) w) := by
 unfold calV
 rcases str_facts7 (tx u) (zeroT k) with ⟨f1, e1⟩ | ⟨f1, e1⟩
 ·have hz := tx_is_zero hk hu e1
  have hs : (srE k hk).mul u v = u := by rw [hz, (srE k hk).zero_mul]
  rw [hs]
  clear hs hz e1
  go_enter Tryz.func59, Tryz.ntmps59
  go_wp2
  go_ret
  exact .inl ⟨hu, rfl, World.grownBy_alloc _ _ _⟩
 ·rcases str_facts7 (tx v) (oneT k) with ⟨f2, e2⟩ | ⟨f2, e2⟩
  ·have hz := tx_is_one hk hv e2
   have hs : (srE k hk).mul u v = u := by rw [hz, (srE k hk).mul_one]
   rw [hs]
   clear hs hz e2 e1
   go_enter Tryz.func59, Tryz.ntmps59
   go_wp2
   go_ret
   exact .inl ⟨hu, rfl, World.grownBy_alloc _ _ _⟩
  ·rcases str_facts7 (tx v) (zeroT k) with ⟨f3, e3⟩ | ⟨f3, e3⟩
   ·have hz := tx_is_zero hk hv e3
    have hs : (srE k hk).mul u v = v := by rw [hz, (srE k hk).mul_zero]
    rw [hs]
    clear hs hz e2 e1 e3
    go_enter Tryz.func59, Tryz.ntmps59
    go_wp2
    go_ret
    exact .inl ⟨hv, rfl, World.grownBy_alloc _ _ _⟩
   ·rcases str_facts7 (tx u) (oneT k) with ⟨f4, e4⟩ | ⟨f4, e4⟩
    ·have hz := tx_is_one hk hu e4
     have hs : (srE k hk).mul u v = v := by rw [hz, (srE k hk).one_mul]
     rw [hs]
     clear hs hz e2 e1 e3 e4
     go_enter Tryz.func59, Tryz.ntmps59
     go_wp2
     go_ret
     exact .inl ⟨hv, rfl, World.grownBy_alloc _ _ _⟩
    ·have hp := stimes_val (tx_val hu) (tx_val hv)
     clear e1 e2 e3 e4
     by_cases hf : FitE ((srE k hk).mul u v)
     ·have e : extV (timesE k u.1 v.1) = .tuple #[.string (tx ((srE k hk).mul u v)), .int .i64 0] := extV_fits hf
      rw [e] at hp
      have HP := Lib.hid hp; have HFF := Lib.hid hf
      clear hp e hf
      generalize (srE k hk).mul u v = s at *
      go_enter Tryz.func59, Tryz.ntmps59
      go_wp2_with fail
      refine (HP.out _).mono ?_
      rintro e w1 ⟨rfl, hg1⟩
      go_wp2_with fail
      refine (short_ok _ _).mono ?_
      rintro e w2 ⟨rfl, hg2⟩
      have HG := Lib.hid (grown_trans (grown_trans (World.grownBy_alloc _ _ none) hg1) hg2)
      clear hg1 hg2
      go_wp2
      go_ret
      exact .inl ⟨HFF.out, rfl, HG.out⟩
     ·have e : extV (timesE k u.1 v.1) = .tuple #[.string ⟨#[]⟩, .int .i64 2] := extV_not hf
      rw [e] at hp
      have HP := Lib.hid hp; have HF := Lib.hid hf
      clear hp e hf
      go_enter Tryz.func59, Tryz.ntmps59
      go_wp2_with fail
      refine (HP.out _).mono ?_
      rintro e w1 ⟨rfl, hg1⟩
      go_wp2_with fail
      refine (short_die _ _).mono ?_
      rintro e w2 ⟨rfl, hg2⟩
      exact ⟨rfl, .inr ⟨HF.out, rfl, grown_trans (grown_trans (World.grownBy_alloc _ _ none) hg1) hg2⟩⟩
set_option maxRecDepth 20000 in
set_option maxHeartbeats 1000000 in
theorem cstar_any (hk : IsKind k) {u : El k} (hu : FitE u) (w : World) :
  Calls Tryz.prog 166 #[calV k, .string (tx u)] w (OrDie7 (FitE ((srE k hk).star u)) (.string (tx ((srE k hk).star u))) w) := by
 unfold calV
 have hp := sstar_val (tx_val hu)
 by_cases hf : FitE ((srE k hk).star u)
 ·have e : extV (starE k u.1) = .tuple #[.string (tx ((srE k hk).star u)), .int .i64 0] := extV_fits hf
  rw [e] at hp
  have HP := Lib.hid hp; have HFF := Lib.hid hf
  clear hp e hf
  generalize (srE k hk).star u = s at *
  go_enter Tryz.func166, Tryz.ntmps166
  go_wp2_with fail
  refine (HP.out _).mono ?_
  rintro e w1 ⟨rfl, hg1⟩
  go_wp2_with fail
  refine (short_ok _ _).mono ?_
  rintro e w2 ⟨rfl, hg2⟩
  have HG := Lib.hid (grown_trans (grown_trans (World.grownBy_alloc _ _ none) hg1) hg2)
  clear hg1 hg2
  go_wp2
  go_ret
  exact .inl ⟨HFF.out, rfl, HG.out⟩
 ·have e : extV (starE k u.1) = .tuple #[.string ⟨#[]⟩, .int .i64 2] := extV_not hf
  rw [e] at hp
  have HP := Lib.hid hp; have HF := Lib.hid hf
  clear hp e hf
  go_enter Tryz.func166, Tryz.ntmps166
  go_wp2_with fail
  refine (HP.out _).mono ?_
  rintro e w1 ⟨rfl, hg1⟩
  go_wp2_with fail
  refine (short_die _ _).mono ?_
  rintro e w2 ⟨rfl, hg2⟩
  exact ⟨rfl, .inr ⟨HF.out, rfl, grown_trans (grown_trans (World.grownBy_alloc _ _ none) hg1) hg2⟩⟩
set_option maxRecDepth 20000 in
set_option maxHeartbeats 1000000 in
theorem multiple_any (hk : IsKind k) {u v : El k} (hu : FitE u) (hv : FitE v) (w : World) :
  Calls Tryz.prog 167 #[facV k (tx u), .string (tx v)] w (OrDie7 (FitE ((srE k hk).mul u v)) (.string (tx ((srE k hk).mul u v))) w) := by
 have ht := fun w' => ctimes_any hk hu hv w'
 unfold facV
 unfold calV at *
 have HT := Lib.hid ht
 clear ht
 go_enter Tryz.func167, Tryz.ntmps167
 go_wp2_with fail
 refine (HT.out _).mono ?_
 rintro e w1 (⟨hp, rfl, hg⟩ | ⟨hn, rfl, hg⟩)
 ·have HG := Lib.hid hg; have HPP := Lib.hid hp
  clear hg HT hp
  go_wp2
  go_ret
  exact .inl ⟨HPP.out, rfl, grown_trans (World.grownBy_alloc _ _ none) HG.out⟩
 ·exact ⟨rfl, .inr ⟨hn, rfl, grown_trans (World.grownBy_alloc _ _ none) hg⟩⟩
theorem box_cell (w : World) (cur : Array Value) (t : TypeId) {j : Nat} {u : Value} (h : cur[j]? = some u) : (w.alloc (.cells cur t)).cell? ⟨w.heap.size, j, none⟩ = some u := by
 rw [cell_of_row (w.alloc (.cells cur t)) w.heap.size j cur t (0, 0) (by show (w.heap.push _)[w.heap.size]? = _; rw [Array.getElem?_push_size])]
 exact h
set_option maxRecDepth 20000 in
set_option maxHeartbeats 2000000 in
theorem addMultiple_any (hk : IsKind k) {u v t : El k} (hu : FitE u) (hv : FitE v) (ht : FitE t) (w : World) :
  Calls Tryz.prog 135 #[facV k (tx u), .string (tx t), .string (tx v)] w (OrDie7 (FitE ((srE k hk).mul u v) ∧ FitE ((srE k hk).add t ((srE k hk).mul u v))) (.string (tx ((srE k hk).add t ((srE k hk).mul u v)))) w) := by
 have h1 := fun w' => multiple_any hk hu hv w'
 have h2 := fun (hm : FitE ((srE k hk).mul u v)) w' => cplus_any hk ht hm w'
 generalize (srE k hk).mul u v = p at *
 generalize (srE k hk).add t p = s at *
 unfold facV at *
 unfold calV at *
 have H1 := Lib.hid h1; have H2 := Lib.hid h2
 clear h1 h2
 go_enter Tryz.func135, Tryz.ntmps135
 go_upto_region 1 with (fail)
 have x0 : (w.alloc (.cells #[.int .i64 k, .string (zeroT k), .string (oneT k), .string (tx u)] 129)).cell? ⟨w.heap.size, 0, none⟩ = some (.int .i64 k) := box_cell w _ _ rfl
 have x1 : (w.alloc (.cells #[.int .i64 k, .string (zeroT k), .string (oneT k), .string (tx u)] 129)).cell? ⟨w.heap.size, 1, none⟩ = some (.string (zeroT k)) := box_cell w _ _ rfl
 have x2 : (w.alloc (.cells #[.int .i64 k, .string (zeroT k), .string (oneT k), .string (tx u)] 129)).cell? ⟨w.heap.size, 2, none⟩ = some (.string (oneT k)) := box_cell w _ _ rfl
 have x3 : (w.alloc (.cells #[.int .i64 k, .string (zeroT k), .string (oneT k), .string (tx u)] 129)).cell? ⟨w.heap.size, 3, none⟩ = some (.string (tx u)) := box_cell w _ _ rfl
 have hg0 : w.grownBy (w.alloc (.cells #[.int .i64 k, .string (zeroT k), .string (oneT k), .string (tx u)] 129)) none := World.grownBy_alloc _ _ none
 generalize w.alloc (.cells #[.int .i64 k, .string (zeroT k), .string (oneT k), .string (tx u)] 129) = W at *
 have d0 : W.drew.cell? ⟨w.heap.size, 0, none⟩ = some (.int .i64 k) := x0
 have d1 : W.drew.cell? ⟨w.heap.size, 1, none⟩ = some (.string (zeroT k)) := x1
 have d2 : W.drew.cell? ⟨w.heap.size, 2, none⟩ = some (.string (oneT k)) := x2
 have d3 : W.drew.cell? ⟨w.heap.size, 3, none⟩ = some (.string (tx u)) := x3
 have HGD := Lib.hid (grown_trans hg0 (grown_drew W none))
 clear x0 x1 x2 x3 hg0
 go_region_with (first
  | (go_at_call 167; refine (H1.out _).mono ?_; clear H1; rintro e w5 (⟨hp, rfl, hg5⟩ | ⟨hn, rfl, hg5⟩); rotate_left 1; (exact ⟨rfl, .inr ⟨fun h => hn h.1, rfl, grown_trans HGD.out hg5⟩⟩); have s0 := hg5.cell d0 (by simp); have s1 := hg5.cell d1 (by simp); have s2 := hg5.cell d2 (by simp); have s3 := hg5.cell d3 (by simp); have HG5 := Lib.hid hg5; have HPP := Lib.hid hp; clear hg5 hp)
  | (go_at_call 87; refine (H2.out HPP.out _).mono ?_; clear H2; rintro e w6 (⟨hs, rfl, hg6⟩ | ⟨hn, rfl, hg6⟩); rotate_left 1; (exact ⟨rfl, .inr ⟨fun h => hn h.2, rfl, grown_trans (grown_trans HGD.out HG5.out) hg6⟩⟩); have HG6 := Lib.hid hg6; have HSS := Lib.hid hs; clear hg6 hs))
 all_goals
  go_wp2
  go_ret
  exact .inl ⟨⟨HPP.out, HSS.out⟩, rfl, grown_trans (grown_trans HGD.out HG5.out) HG6.out⟩
end
open Go.RowKit
theorem mul_one7 (n : Nat) (hn : n ≤ 10000) (w : World) : Calls Tryz.prog 171 #[.int .u64 1, .int .u64 (n : Int)] w fun e w' => e = .returned (.tuple #[.int .u64 0, .int .u64 (n : Int)]) ∧ w' = w := by
 have h := fun w => Tryz.bits_Mul64 1 n (by omega) (by omega) w
 rw [Nat.one_mul, Nat.div_eq_of_lt (by omega), Nat.mod_eq_of_lt (by omega)] at h
 have H := Lib.hid h
 clear h
 go_enter Tryz.func171, Tryz.ntmps171
 go_wp2_with fail
 refine (H.out _).mono ?_
 rintro e w' ⟨rfl, rfl⟩
 go_wp2
 go_ret2
 exact ⟨rfl, rfl⟩
theorem copy7 (w : World) (g off dLen dCap sLen sCap : Nat) (ad : Addr) (cur cs : List Value) (T : TypeId) (hg : w.heap[g]? = some (.cells cur.toArray T (0, 0))) (hn : cs.length = Nat.min sLen dLen)
  (hsrc : ∀ j v, cs[j]? = some v → w.cell? (ad.add j) = some v) (hfit : off + cs.length ≤ cur.length) (h1 : ∀ v ∈ cs, v.oneCell' = true) :
  ∃ w', (Builtin.copy_ #[33, 33] 3 #[.slice (some ⟨g, off, none⟩) dLen dCap, .slice (some ad) sLen sCap]).run Tryz.prog w = .ok (.int .i64 (cs.length : Nat)) w' ∧ w'.heap[g]? = some (.cells (splice cur off cs).toArray T (0, 0)) ∧ w.grownBy w' (some g) := by
 have hrun := run_copy_row (P := Tryz.prog) w 33 33 3 9 g off dLen dCap ad sLen sCap cur.toArray T cs Tryz.underlying33 (by kernel_rfl) hg hn hsrc (by simpa using hfit) h1
 refine ⟨_, hrun, ?_, ⟨rfl, rfl, rfl, by simp, fun k _ hk => setRow_other w g k _ (fun e => hk (by rw [e]))⟩⟩
 rw [setRow_heap w g _ _ T _ hg]
 simp [splice]
theorem splice_rep (a : Value) (z : Value) (n p q : Nat) (h : p + q ≤ n) : splice (List.replicate p a ++ List.replicate (n - p) z) p (List.replicate q a) = List.replicate (p + q) a ++ List.replicate (n - (p + q)) z := by
 unfold splice
 rw [List.take_left' (by simp), List.length_replicate, List.drop_append, List.drop_eq_nil_of_le (by simp), List.length_replicate, List.nil_append, show p + q - p = q by omega, List.drop_replicate, ← List.append_assoc, List.replicate_append_replicate]
 congr 2
 omega
theorem run_copy_zero7 (P : Program) (w : World) (dT sT ty elem : TypeId) (d a : Option Addr) (dLen dCap sLen sCap : Nat) (hu : P.underlying dT = some (.slice elem)) (hs : ((P.info? elem).map (·.size)).isSome = true) (hn : Nat.min sLen dLen = 0) :
  (Builtin.copy_ #[dT, sT] ty #[.slice d dLen dCap, .slice a sLen sCap]).run P w = .ok (goInt 0) w := by
 have hl := fun a => run_loadCells_list (P := P) w a [] (fun j v h => by simp at h)
 simp only [List.length_nil] at hl
 cases hq : P.info? elem with
 | none => simp [hq] at hs
 | some i => cases d <;> cases a <;> simp [Builtin.copy_, run_underlying hu, Builtin.lenOf, Builtin.firstCells, sizeOf, typeInfo, hq, storeCells, hn, hl]
theorem step_copy_k7 {P : Program} {ops : Array Oper} {o : Oper} {a : Act} {w : World} {K : Act → World → Prop} {Q : Exit → Act → World → Prop} {E : Prop} (hgd : o.guard = none) (d s : Operand) (dT sT : TypeId)
  (ho : o.op = .call { callee := .builtin .copy, args := #[d, s], argTypes := #[dT, sT] }) (elem : TypeId) (hu : P.underlying dT = some (.slice elem)) (hsz : (P.info? elem).map (·.size) = some 1)
  (g off : Nat) (ad : Addr) (dLen dCap sLen sCap m : Nat) (hd : a.eval d = .slice (some ⟨g, off, none⟩) dLen dCap) (hs : a.eval s = .slice (some ad) sLen sCap)
  (cur : List Value) (t : TypeId) (hg : w.heap[g]? = some (.cells cur.toArray t (0, 0))) (cs : List Value) (hm : Nat.min sLen dLen = m) (hn : cs.length = m)
  (hsrc : ∀ j v, cs[j]? = some v → w.cell? (ad.add j) = some v)
  (hfit : off + cs.length ≤ cur.length) (h1 : ∀ v ∈ cs, v.oneCell' = true)
  (h : K (a.put o.dst (goInt m)) (w.setRow g (splice cur off cs).toArray)) :
  if Region.wanted o (yielded ops a.tmps) = true then Oper.wp P o a w K Q else E := by
 have hw : Region.wanted o (yielded ops a.tmps) = true := by simp [Region.wanted, hgd]
 rw [if_pos hw]
 subst hm
 rw [← hn] at h
 have hrun := run_copy_row (P := P) w dT sT o.type elem g off dLen dCap ad sLen sCap cur.toArray t cs hu hsz hg hn hsrc (by simpa using hfit) h1
 unfold Oper.wp
 have e : splice cur off cs = List.take off cur.toArray.toList ++ cs ++ List.drop (off + cs.length) cur.toArray.toList := by simp [splice]
 rw [e] at h
 simp only [execOp, ho, resolve, invoke, builtin, hd, hs, Result.andThen]
 simp [hd, hs, hrun, Result.andThen]
 first | exact h | (simp only [Oper.upon]; exact h) | (simp at h; exact h)
theorem step_copy7 {P : Program} {ops : Array Oper} {o : Oper} {a : Act} {w : World} {K : Act → World → Prop} {Q : Exit → Act → World → Prop} {E : Prop} (hgd : o.guard = none) (d s : Operand) (dT sT : TypeId)
  (ho : o.op = .call { callee := .builtin .copy, args := #[d, s], argTypes := #[dT, sT] }) (elem : TypeId) (hu : P.underlying dT = some (.slice elem)) (hsz : (P.info? elem).map (·.size) = some 1)
  (dp sp : Option Addr) (dLen dCap sLen sCap m : Nat) (hd : a.eval d = .slice dp dLen dCap) (hs : a.eval s = .slice sp sLen sCap)
  (g off : Nat) (cur : List Value) (t : TypeId) (hg : w.heap[g]? = some (.cells cur.toArray t (0, 0))) (cs : List Value) (hm : Nat.min sLen dLen = m) (hn : cs.length = m)
  (hpos : 0 < m → dp = some ⟨g, off, none⟩ ∧ ∃ ad, sp = some ad ∧ ∀ j v, cs[j]? = some v → w.cell? (ad.add j) = some v)
  (hfit : off + cs.length ≤ cur.length) (h1 : ∀ v ∈ cs, v.oneCell' = true)
  (h : ∀ w', Hid (w'.heap[g]? = some (.cells (splice cur off cs).toArray t (0, 0)) ∧ w.grownBy w' (some g)) → K (a.put o.dst (goInt m)) w') :
  if Region.wanted o (yielded ops a.tmps) = true then Oper.wp P o a w K Q else E := by
 by_cases h0 : m = 0
 ·have hw : Region.wanted o (yielded ops a.tmps) = true := by simp [Region.wanted, hgd]
  rw [if_pos hw]
  have hcs : cs = [] := List.eq_nil_of_length_eq_zero (by rw [hn, h0])
  have hrun := run_copy_zero7 P w dT sT o.type elem dp sp dLen dCap sLen sCap hu (by cases hq : P.info? elem with
   | none => rw [hq] at hsz; simp at hsz
   | some i => rfl) (hm.trans h0)
  have hK := h w (Lib.hid ⟨by rw [hcs]; simpa [splice] using hg, World.grownBy.refl _ _⟩)
  rw [h0] at hK
  unfold Oper.wp
  simp [execOp, ho, resolve, invoke, builtin, hd, hs, hrun, Result.andThen]
  exact hK
 ·obtain ⟨rfl, ad, rfl, hsrc⟩ := hpos (by omega)
  refine step_copy_k7 hgd d s dT sT ho elem hu hsz g off ad dLen dCap sLen sCap m hd hs cur t hg cs hm hn hsrc hfit h1 (h _ (Lib.hid ⟨setRow_heap w g _ _ t _ hg, ⟨rfl, rfl, rfl, by simp, fun k _ hk => setRow_other w g k _ (fun e => hk (by rw [e]))⟩⟩))
set_option maxRecDepth 20000 in
set_option maxHeartbeats 4000000 in
theorem repeat_any (a : ByteArray) (gx n : Nat) (w : World) (hx : w.cell? ⟨gx, 0, none⟩ = some (.string a)) (hgx : gx < w.heap.size) (hn : n ≤ 10000) :
  Calls Tryz.prog 136 #[.slice (some ⟨gx, 0, none⟩) 1 1, .int .i64 (n : Int)] w fun e w' => e = .returned (.slice (some ⟨w.heap.size, 0, none⟩) n n) ∧ FillRow 9 (.string ⟨#[]⟩) n (List.replicate n (.string a)) w w' := by
 obtain ⟨i0, hi, hz0, hz1, hz2⟩ := info_parts info_str
 have hmul := fun w => mul_one7 n hn w
 have HM := Lib.hid hmul; have HN := Lib.hid hn; have HX := Lib.hid (And.intro hx hgx)
 have n0 : ¬ (n : Int) < 0 := by omega
 have n1 : IntKind.u64.wrap (n : Int) = (n : Int) := by rw [IntKind.wrap_u64]; omega
 have n2 : IntKind.i64.wrap (n : Int) = (n : Int) := by rw [IntKind.wrap_i64]; omega
 have n3 : ¬ (9223372036854775807 : Int) < (n : Int) := by omega
 clear hmul hn hx hgx
 go_enter Tryz.func136, Tryz.ntmps136
 go_wp2_with fail
 refine (HM.out _).mono ?_
 rintro e w0 ⟨rfl, rfl⟩
 clear HM
 go_wp2_with (at_make; refine wpList_make_full _ rfl _ _ 33 rfl w0.heap.size 9 i0 (.string ⟨#[]⟩) 1 Tryz.underlying33 hi hz0 hz1 _ _ _ _ n rfl rfl ?c0 ?c1 ?c2 (by have := HN.out; unfold maxLen; omega) (Nat.le_refl _) ?_)
 case c0 => omega
 case c1 => omega
 case c2 => have := HN.out; first | omega | (rw [hz2]; omega)
 intro w1 hown hgr
 have hfill := FillRow.start hown hgr
 have hx1 := hgr.cell HX.out.1 (by simp)
 have hrow := hfill.row
 simp only [List.nil_append, List.length_nil, Nat.sub_zero] at hrow
 obtain ⟨q, hq⟩ : ∃ q, Nat.min 1 n = q := ⟨_, rfl⟩
 have hq1 : q ≤ 1 := by rw [← hq]; exact Nat.min_le_left _ _
 have hq2 : q ≤ n := by rw [← hq]; exact Nat.min_le_right _ _
 have hq3 : 1 ≤ n → q = 1 := fun h => by rw [← hq]; exact Nat.min_eq_left h
 obtain ⟨w2, hrun, hrow2, hg2⟩ := copy7 w1 w0.heap.size 0 n n 1 1 ⟨gx, 0, none⟩ (List.replicate n (.string ⟨#[]⟩)) (List.replicate q (.string a)) 9 hrow (by rw [List.length_replicate, hq]) (fun j v hj => by
  obtain ⟨hj1, rfl⟩ := List.getElem?_eq_some_iff.1 hj
  rw [List.length_replicate] at hj1
  obtain rfl : j = 0 := by omega
  rw [List.getElem_replicate, add_off]
  exact hx1) (by rw [List.length_replicate, List.length_replicate]; omega) (fun v hv => by rw [(List.mem_replicate.1 hv).2]; rfl)
 have hsp := splice_rep (.string a) (.string ⟨#[]⟩) n 0 q (by omega)
 simp only [List.replicate_zero, List.nil_append, Nat.sub_zero, Nat.zero_add] at hsp
 rw [hsp] at hrow2
 rw [List.length_replicate] at hrun
 have hfill2 : FillRow 9 (.string ⟨#[]⟩) n (List.replicate q (.string a)) w0 w2 := ⟨by rw [List.length_replicate]; exact hrow2, grown_step hgr hg2 (Nat.le_refl _), by rw [List.length_replicate]; exact hq2⟩
 have HFL := Lib.hid hfill2; have HQ := Lib.hid (And.intro hq2 hq3)
 clear hown hgr hfill hx1 hrow hrow2 hg2 hsp hfill2 hq hq1 hq2 hq3
 go_wp2
 generalize w2 = wr at *
 go_loopw [8] (fun iv wr => ∃ p : Nat, iv = .int .i64 (p : Int) ∧ p ≤ n ∧ (1 ≤ n → 1 ≤ p) ∧ FillRow 9 (.string ⟨#[]⟩) n (List.replicate p (.string a)) w0 wr) (fun iv _ => n - (intOf iv).toNat)
 case atStart => exact ⟨q, rfl, HQ.out.1, fun h => by rw [HQ.out.2 h]; exact Nat.le_refl _, HFL.out⟩
 case round =>
  obtain ⟨p, rfl, hp, hp1, hfill⟩ := hrel
  by_cases hpn : p < n
  ·have t1 : decide (p < n) = true := by simpa using hpn
   have t1' : decide ((p : Int) < (n : Int)) = true := by simpa using hpn
   have i1 : (p : Int) ≤ (n : Int) := by omega
   have i2 : ¬ (n : Int) < (p : Int) := by omega
   have HFL := Lib.hid hfill; have HP := Lib.hid (And.intro hpn (And.intro hp hp1))
   clear hfill hpn hp hp1
   obtain ⟨c, hc⟩ : ∃ c, Nat.min p (n - p) = c := ⟨_, rfl⟩
   have hc1 : c ≤ p := by rw [← hc]; exact Nat.min_le_left _ _
   have hc2 : c ≤ n - p := by rw [← hc]; exact Nat.min_le_right _ _
   have hc3 : 1 ≤ p → 1 ≤ c := fun h => by
    have hp2 := HP.out.1
    rw [← hc]
    exact Nat.le_min.2 ⟨h, by omega⟩
   have n4 : IntKind.i64.wrap ((p : Int) + (c : Int)) = ((p + c : Nat) : Int) := by have := HN.out; have := HP.out.2.1; rw [IntKind.wrap_i64]; omega
   have hrow := HFL.out.row
   rw [List.length_replicate] at hrow
   have hcell : ∀ j v, (List.replicate c (.string a) : List Value)[j]? = some v → wr.drew.cell? ((⟨w0.heap.size, 0, none⟩ : Addr).add j) = some v := fun j v hj => by
    obtain ⟨hj1, rfl⟩ := List.getElem?_eq_some_iff.1 hj
    rw [List.length_replicate] at hj1
    rw [List.getElem_replicate, add_off, Nat.zero_add]
    show wr.cell? _ = _
    rw [cell_of_row wr w0.heap.size j _ _ (0, 0) hrow, List.getElem?_toArray, List.getElem?_append_left (by rw [List.length_replicate]; omega), List.getElem?_replicate, if_pos (by omega)]
   have hfit : p + (List.replicate c (.string a) : List Value).length ≤ (List.replicate p (.string a) ++ List.replicate (n - p) (.string ⟨#[]⟩) : List Value).length := by
    have := HP.out.1
    rw [List.length_append, List.length_replicate, List.length_replicate, List.length_replicate]; omega
   have h1c : ∀ v ∈ (List.replicate c (.string a) : List Value), v.oneCell' = true := fun v hv => by rw [(List.mem_replicate.1 hv).2]; rfl
   have HNP : Hid (¬ n = p) := Lib.hid (by have := HP.out.1; omega)
   have HC := Lib.hid (And.intro hc1 (And.intro hc2 hc3)); have HROW := Lib.hid (show wr.drew.heap[w0.heap.size]? = _ from hrow)
   clear hc1 hc2 hc3 hrow
   go_wp2_with (fail)
   go_region_law ((refine step_copy7 rfl (.tmp 41) (.tmp 44) 33 33 rfl 9 Tryz.underlying33 (by kernel_rfl) (some ⟨w0.heap.size, p, none⟩) (some ⟨w0.heap.size, 0, none⟩) (n - p) (n - p) p n c (by simp [Act.eval, Act.put, HNP.out]) (by simp [Act.eval, Act.put]) w0.heap.size p (List.replicate p (.string a) ++ List.replicate (n - p) (.string ⟨#[]⟩)) 9 HROW.out (List.replicate c (.string a)) hc (by simp) (fun h => ⟨rfl, _, rfl, hcell⟩) hfit h1c ?_; intro w6 h6))
   all_goals
    go_wp2_with (fail)
    first
    | exact absurd HP.out.1 (Nat.lt_irrefl _)
    | (obtain ⟨hc1, hc2, hc3⟩ := HC.out
       obtain ⟨hpn, hp, hp1⟩ := HP.out
       have hsp := splice_rep (.string a) (.string ⟨#[]⟩) n p c (by omega)
       refine ⟨⟨p + c, by simp, by omega, fun h => by omega, ?_, ?_, by rw [List.length_replicate]; omega⟩, by have := hc3 (by omega); simp [intOf]; omega⟩
       ·rw [List.length_replicate, ← hsp]; exact h6.out.1
       ·exact grown_step (grown_trans HFL.out.gr (grown_drew wr none)) h6.out.2 (Nat.le_refl _))
  ·have hpe : p = n := by omega
   subst hpe
   have t1 : decide (p < p) = false := by simp
   have t1' : decide ((p : Int) < (p : Int)) = false := by simp
   have HFL := Lib.hid hfill
   clear hfill hpn hp hp1
   go_wp2
   go_ret
   exact ⟨rfl, HFL.out⟩
def RepPost (a : ByteArray) (n : Nat) (w : World) (e : Ending) (w' : World) : Prop :=
 ∃ g, e = .returned (.slice (some ⟨g, 0, none⟩) n n) ∧ w.heap.size ≤ g ∧ w'.heap[g]? = some (.cells (List.replicate n (.string a)).toArray 9 (0, 0)) ∧ w.grownBy w' none
theorem rep_row {w : World} {g n : Nat} {a : ByteArray} (h : w.heap[g]? = some (.cells (List.replicate n (.string a)).toArray 9 (0, 0))) : RowAt w g 0 n (fun _ => .string a) := by
 refine ⟨(Array.getElem?_eq_some_iff.1 h).1, fun j hj => ?_⟩
 rw [Nat.zero_add, cell_of_row w g j _ _ (0, 0) h, List.getElem?_toArray, List.getElem?_replicate, if_pos hj]
set_option maxRecDepth 20000 in
set_option maxHeartbeats 1000000 in
theorem zeros_any (k : Int) (n : Nat) (w : World) (hn : n ≤ 10000) : Calls Tryz.prog 83 #[calV k, .int .i64 (n : Int)] w (RepPost (zeroT k) n w) := by
 unfold calV RepPost
 have hr := fun (w1 : World) (gx : Nat) h1 h2 => repeat_any (zeroT k) gx n w1 h1 h2 hn
 have HR := Lib.hid hr
 clear hr hn
 go_enter Tryz.func83, Tryz.ntmps83
 go_wp2_with fail
 refine (HR.out ((w.alloc (.cells #[.int .i64 k, .string (zeroT k), .string (oneT k)] 64)).alloc (.cells #[.string (zeroT k)] 9)) (w.heap.size + 1) ?h1 ?h2).mono ?_
 case h1 =>
  have h := box_cell (w.alloc (.cells #[.int .i64 k, .string (zeroT k), .string (oneT k)] 64)) #[.string (zeroT k)] 9 (j := 0) (u := .string (zeroT k)) rfl
  rw [show (w.alloc (.cells #[.int .i64 k, .string (zeroT k), .string (oneT k)] 64)).heap.size = w.heap.size + 1 by simp] at h
  exact h
 case h2 => simp
 rintro e w1 ⟨rfl, hf⟩
 have HF := Lib.hid hf
 clear hf
 go_wp2
 go_ret
 have hrow := HF.out.row
 have hg := HF.out.gr
 rw [List.length_replicate, Nat.sub_self, List.replicate_zero, List.append_nil] at hrow
 rw [show ((w.alloc (.cells #[.int .i64 k, .string (zeroT k), .string (oneT k)] 64)).alloc (.cells #[.string (zeroT k)] 9)).heap.size = w.heap.size + 1 + 1 by simp] at hrow
 exact ⟨_, rfl, by omega, hrow, grown_trans (grown_trans (World.grownBy_alloc _ _ none) (World.grownBy_alloc _ _ none)) hg⟩
end Go.Proofs.YtaogepcaoogpgaaGreatDoor
