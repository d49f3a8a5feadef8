/- U70 -/
import Derived.Test.YtaogepcaoogpgaaGreatDoorV25
import Derived.Test.YtaogepcaoogpgaaGreatDoorV26
import Derived.Test.YtaogepcaoogpgaaGreatDoorV23
import Derived.Deep.CutRange
set_option linter.unusedVariables false
set_option linter.unusedSimpArgs false
namespace Go.Proofs.YtaogepcaoogpgaaGreatDoor
open Go.RowKit
def RestV (w : World) (v : Value) (n : Nat) (zs : List Value) (g : Nat) : Prop := (n = 0 ∧ v = .slice none 0 0 ∧ zs = []) ∨ (0 < n ∧ ∃ c, v = .slice (some ⟨g, 0, none⟩) n c ∧ Own7 w g n c zs)
theorem insert_any7 (n g vb : Nat) (v : Value) (zs : List Value) (u : Value) (TB : TypeId) (w : World) (hn : n ≤ 10000) (hr : RestV w v n zs g) (hne : 0 < n → vb ≠ g) (hv : w.heap[vb]? = some (.cells #[u] TB (0, 0))) (h1 : u.oneCell' = true) (hz : ∀ z ∈ zs, z.oneCell' = true) :
  Calls Tryz.prog 133 #[v, .int .i64 0, .slice (some ⟨vb, 0, none⟩) 1 1] w (InsPost n g u zs w) := by
 have hvc : w.cell? ⟨vb, 0, none⟩ = some u := cell_of_row w vb 0 _ _ (0, 0) hv
 rcases hr with ⟨rfl, rfl, rfl⟩ | ⟨h0, c, rfl, hown⟩
 ·refine (insert_nil7 vb u w hvc h1).mono (fun e w' h => ?_)
  obtain ⟨g', c', h2, h3, ⟨_, h4, _⟩ | h4⟩ := h
  ·omega
  ·exact ⟨g', c', h2, h3, .inr h4⟩
 ·have := hown.le
  by_cases hc : n + 1 ≤ c
  ·exact insert_room7 n c g vb zs u TB w h0 hn hc hown (hne h0) hv h1 hz
  ·exact insert_grow7 n c g vb zs u w h0 hn (by omega) hown hvc (Array.getElem?_eq_some_iff.1 hv).1 h1 hz
section
variable {k : Int}
def ElimRes (B n m : Nat) (F : Nat → Nat → El k) (v : Value) (w' : World) : Prop :=
 ∃ zs g, RestV w' v n zs g ∧ (0 < n → B ≤ g) ∧ ∀ i, i < n → ∃ gi o ci, zs.getD i (.slice none 0 0) = .slice (some ⟨gi, o, none⟩) m ci ∧ m ≤ ci ∧ ci ≤ maxLen ∧ gi ≠ g ∧ RowAt w' gi o m (txs (F i))
theorem RestV.len {w : World} {v : Value} {n : Nat} {zs : List Value} {g : Nat} (h : RestV w v n zs g) : zs.length = n := by
 rcases h with ⟨rfl, _, rfl⟩ | ⟨_, c, _, ho⟩
 ·rfl
 ·exact ho.len
theorem RestV.grown {w w' : World} {v : Value} {n : Nat} {zs : List Value} {g : Nat} (h : RestV w v n zs g) (hg : w.grownBy w' none) : RestV w' v n zs g := by
 rcases h with h | ⟨h0, c, e, ho⟩
 ·exact .inl h
 ·exact .inr ⟨h0, c, e, ho.grown hg⟩
theorem RestV.lt {w : World} {v : Value} {n : Nat} {zs : List Value} {g : Nat} (h : RestV w v n zs g) (hn : 0 < n) : g < w.heap.size := by
 rcases h with ⟨rfl, _, rfl⟩ | ⟨_, c, _, ho⟩
 ·omega
 ·exact ho.lt
theorem RestV.rowR {w : World} {v : Value} {n : Nat} {zs : List Value} {g : Nat} (h : RestV w v n zs g) : RowR w v n (fun j => zs.getD j (.slice none 0 0)) := by
 rcases h with ⟨rfl, rfl, rfl⟩ | ⟨h0, c, rfl, ho⟩
 ·exact ⟨none, 0, rfl, Nat.le_refl _, by unfold maxLen; omega, fun j hj => absurd hj (by omega)⟩
 ·exact ho.rowAt.row ho.le ho.max
theorem RestV.shape {w : World} {v : Value} {n : Nat} {zs : List Value} {g : Nat} (h : RestV w v n zs g) : ∃ R cr, v = .slice R n cr := by
 rcases h with ⟨rfl, rfl, rfl⟩ | ⟨h0, c, rfl, ho⟩
 ·exact ⟨_, _, rfl⟩
 ·exact ⟨_, _, rfl⟩
theorem enters_putInto : Enters 132 := enters_of Tryz.func132 (by kernel_rfl) rfl
def CalAt7 (w : World) (g : Nat) (k : Int) : Prop := w.cell? ⟨g, 0, none⟩ = some (.int .i64 k) ∧ w.cell? ⟨g, 1, none⟩ = some (.string (zeroT k)) ∧ w.cell? ⟨g, 2, none⟩ = some (.string (oneT k))
theorem calcCells7 (w : World) (k : Int) : CalAt7 (w.alloc (.cells #[.int .i64 k, .string (zeroT k), .string (oneT k)] 64)) w.heap.size k := ⟨box_cell w _ _ rfl, box_cell w _ _ rfl, box_cell w _ _ rfl⟩
theorem cell_set7 {w : World} {g o : Nat} {u v : Value} {ad : Addr} (hb : ad.block ≠ g) (h : w.cell? ad = some v) : (w.setCell ⟨g, o, none⟩ u).cell? ad = some v := (grown_setCell w ⟨g, o, none⟩ u).cell h (by simpa using hb)
theorem cell_set47 {w : World} {g : Nat} {u0 u1 u2 u3 v : Value} {ad : Addr} (hb : ad.block ≠ g) (h : w.cell? ad = some v) : ((((w.setCell ⟨g, 0, none⟩ u0).setCell ⟨g, 1, none⟩ u1).setCell ⟨g, 2, none⟩ u2).setCell ⟨g, 3, none⟩ u3).cell? ad = some v :=
 cell_set7 hb (cell_set7 hb (cell_set7 hb (cell_set7 hb h)))
theorem row_set47 {w : World} {g : Nat} {u0 u1 u2 u3 : Value} {c : Array Value} {T : TypeId} (hc : c.size = 4) (h : w.heap[g]? = some (.cells c T (0, 0))) : ((((w.setCell ⟨g, 0, none⟩ u0).setCell ⟨g, 1, none⟩ u1).setCell ⟨g, 2, none⟩ u2).setCell ⟨g, 3, none⟩ u3).heap[g]? = some (.cells #[u0, u1, u2, u3] T (0, 0)) := by
 rw [heap_setCell_same _ g 3 _ _ u3 (heap_setCell_same _ g 2 _ _ u2 (heap_setCell_same _ g 1 _ _ u1 (heap_setCell_same w g 0 _ _ u0 h)))]
 congr 2
 apply Array.toList_inj.1
 simp only [Array.toList_setIfInBounds]
 obtain ⟨l⟩ := c
 match l, hc with
 | [a, b, c, d], _ => rfl
theorem grown_set47 (w : World) (g : Nat) (u0 u1 u2 u3 : Value) : w.grownBy ((((w.setCell ⟨g, 0, none⟩ u0).setCell ⟨g, 1, none⟩ u1).setCell ⟨g, 2, none⟩ u2).setCell ⟨g, 3, none⟩ u3) (some g) :=
 grown_trans (grown_trans (grown_trans (grown_setCell _ _ _) (grown_setCell _ _ _)) (grown_setCell _ _ _)) (grown_setCell _ _ _)
theorem elim_fit7 (hk : IsKind k) {m : Nat} : ∀ {n : Nat} {A : Nat → Nat → El k}, ElimFits (srE k hk) FitE n m A → ∀ i, i < n → ∀ j, j < m → FitE (elimF (srE k hk) n A i j)
 | 0, _, _, i, hi, _, _ => absurd hi (by omega)
 | n + 1, A, h, 0, _, j, hj => by
  cases n with
  | zero =>
   show FitE (sumRow (srE k hk) (fun J => fstR (srE k hk) A (0 + J)) (fstR (srE k hk) A) (elimF (srE k hk) 0 (putR (srE k hk) A)) 0 j)
   rw [sumRow_zero]
   exact h.2.1 (0 + j) (by omega)
  | succ n => exact (h.2.2.2.2 n (by omega) j hj).2
 | n + 1, A, h, i + 1, hi, j, hj => elim_fit7 hk h.2.2.2.1 i (by omega) j hj
set_option maxRecDepth 20000 in
set_option maxHeartbeats 4000000 in
theorem eliminate_any (hk : IsKind k) (m : Nat) (hm : 1 ≤ m) : ∀ (n : Nat) (A : Nat → Nat → El k) (gl ol c : Nat) (rs : Nat → Value) (w : World), n + m ≤ 10000 → n ≤ c → c ≤ maxLen → RowAt w gl ol n rs → (∀ i, i < n → RowG w (rs i) (n + m) (A i)) → (∀ i, i < n → ∀ j, j < n + m → FitE (A i j)) →
  Calls Tryz.prog 75 #[calV k, .slice (some ⟨gl, ol, none⟩) n c] w (OrDieQ (ElimFits (srE k hk) FitE n m A) (ElimRes w.heap.size n m (elimF (srE k hk) n A)) w) := by
 intro n
 induction n with
 | zero =>
  intro A gl ol c rs w hnm h1 h2 h3 hr hf
  clear hr hf h1 h2 h3
  unfold calV
  go_enter Tryz.func75, Tryz.ntmps75
  go_wp2
  go_ret
  exact .inl ⟨trivial, _, rfl, ⟨[], 0, .inl ⟨rfl, rfl, rfl⟩, fun h => absurd h (by omega), fun i hi => absurd hi (by omega)⟩, World.grownBy_alloc _ _ none⟩
 | succ n ih =>
  intro A gl ol c rs w hnm h1 h2 h3 hr hf
  have hc0 : w.cell? ⟨gl, ol, none⟩ = some (rs 0) := h3.2 0 (by omega)
  obtain ⟨g0, o0, cc0, hr0, hw1, hw2, hrow0⟩ := hr 0 (by omega)
  have hm' : n + 1 + m = (n + m) + 1 := by omega
  rw [hr0, hm'] at hc0
  rw [hm'] at hw1 hrow0
  have hsol := fun (w1 : World) (hg : w.grownBy w1 none) => solution_any hk (n + m) g0 o0 cc0 (A 0) w1 (by omega) (by omega) (hrow0.grown hg) hw1 hw2 (fun j hj => hf 0 (by omega) j (by omega))
  have x := calcCells7 w k
  have hW : w.grownBy (w.alloc (.cells #[.int .i64 k, .string (zeroT k), .string (oneT k)] 64)) none := World.grownBy_alloc _ _ none
  have hWs : (w.alloc (.cells #[.int .i64 k, .string (zeroT k), .string (oneT k)] 64)).heap.size = w.heap.size + 1 := by simp
  have xa := hW.cell hc0 (by simp)
  have i1 : ¬ ((n : Int) + 1 = 0) := by omega
  have i2 : (0 : Int) < (n : Int) + 1 := by omega
  have HS := Lib.hid hsol; have HL := Lib.hid (And.intro h1 (And.intro h2 h3)); have HR := Lib.hid hr; have HF := Lib.hid hf; have HN := Lib.hid (And.intro hnm hm)
  have HX := Lib.hid (And.intro x (And.intro hW (And.intro hWs xa)))
  clear hsol h1 h2 h3 hr hf hnm hm hr0 hw1 hw2 hrow0 x hW hWs xa hc0
  unfold calV at *
  go_enter Tryz.func75, Tryz.ntmps75
  go_upto_region 3 with (fail)
  obtain ⟨⟨x0, x1, x2⟩, hW, hWs, xa⟩ := HX.out
  generalize w.alloc (.cells #[.int .i64 k, .string (zeroT k), .string (oneT k)] 64) = W at *
  have d0 : W.drew.cell? ⟨w.heap.size, 0, none⟩ = some (.int .i64 k) := x0
  have d1 : W.drew.cell? ⟨w.heap.size, 1, none⟩ = some (.string (zeroT k)) := x1
  have d2 : W.drew.cell? ⟨w.heap.size, 2, none⟩ = some (.string (oneT k)) := x2
  have da : W.drew.cell? ⟨gl, ol, none⟩ = some (.slice (some ⟨g0, o0, none⟩) (n + m + 1) cc0) := xa
  have hgA : w.grownBy W.drew none := grown_trans hW (grown_drew W none)
  have hgB : w.grownBy (W.drew.alloc (.cells #[.int .i64 0, .string ⟨#[]⟩, .string ⟨#[]⟩, .slice none 0 0] 124)) none := grown_trans hgA (World.grownBy_alloc _ _ none)
  have hadb : gl ≠ w.heap.size + 1 := by have := HL.out.2.2.1; omega
  have hadw : ∀ W5 : World, W.drew.grownBy W5 none → gl ≠ W5.heap.size := fun W5 h5 => by have := HL.out.2.2.1; have := h5.size; have : W.heap.size = w.heap.size + 1 := hWs; simp at *; omega
  have hwsz : ∀ W5 : World, W.drew.grownBy W5 none → w.heap.size ≠ W5.heap.size := fun W5 h5 => by have := h5.size; have : W.heap.size = w.heap.size + 1 := hWs; simp at *; omega
  have HADB := Lib.hid (And.intro hadb (And.intro hadw hwsz))
  clear hadb hadw hwsz
  have hnb : (W.drew.alloc (.cells #[.int .i64 0, .string ⟨#[]⟩, .string ⟨#[]⟩, .slice none 0 0] 124)).heap[w.heap.size + 1]? = some (.cells #[.int .i64 0, .string ⟨#[]⟩, .string ⟨#[]⟩, .slice none 0 0] 124 (0, 0)) := by
   rw [← hWs]; exact new_block W.drew (.cells #[.int .i64 0, .string ⟨#[]⟩, .string ⟨#[]⟩, .slice none 0 0] 124)
  have b0 : (W.drew.alloc (.cells #[.int .i64 0, .string ⟨#[]⟩, .string ⟨#[]⟩, .slice none 0 0] 124)).cell? ⟨w.heap.size, 0, none⟩ = some (.int .i64 k) := (World.grownBy_alloc W.drew _ none).cell d0 (by simp)
  have b1 : (W.drew.alloc (.cells #[.int .i64 0, .string ⟨#[]⟩, .string ⟨#[]⟩, .slice none 0 0] 124)).cell? ⟨w.heap.size, 1, none⟩ = some (.string (zeroT k)) := (World.grownBy_alloc W.drew _ none).cell d1 (by simp)
  have b2 : (W.drew.alloc (.cells #[.int .i64 0, .string ⟨#[]⟩, .string ⟨#[]⟩, .slice none 0 0] 124)).cell? ⟨w.heap.size, 2, none⟩ = some (.string (oneT k)) := (World.grownBy_alloc W.drew _ none).cell d2 (by simp)
  have ba : (W.drew.alloc (.cells #[.int .i64 0, .string ⟨#[]⟩, .string ⟨#[]⟩, .slice none 0 0] 124)).cell? ⟨gl, ol, none⟩ = some (.slice (some ⟨g0, o0, none⟩) (n + m + 1) cc0) := (World.grownBy_alloc W.drew _ none).cell da (by simp)
  have HGA := Lib.hid hgA; have HGB := Lib.hid hgB; have HNB := Lib.hid hnb
  clear hgA hgB hnb hW x0 x1 x2 xa
  go_cut [5] from 11 to 15 (fun pv wx => FstFits hk (n + m) (A 0) ∧ ∃ gf gs, pv = .pointer (some ⟨gf, 0, none⟩) ∧ w.heap.size < gf ∧ w.heap.size < gs ∧ gs ≠ gf ∧ wx.heap[gf]? = some (.cells #[.int .i64 k, .string (zeroT k), .string (oneT k), .slice (some ⟨gs, 0, none⟩) (n + m) (n + m)] 124 (0, 0)) ∧ RowAt wx gs 0 (n + m) (txs (fstF hk (A 0))) ∧ W.grownBy wx none)
  case first =>
   go_region_held2 (fun W' => W'.cell? ⟨w.heap.size, 0, none⟩ = some (.int .i64 k) ∧ W'.cell? ⟨w.heap.size, 1, none⟩ = some (.string (zeroT k)) ∧ W'.cell? ⟨w.heap.size, 2, none⟩ = some (.string (oneT k)) ∧ W'.cell? ⟨gl, ol, none⟩ = some (.slice (some ⟨g0, o0, none⟩) (n + m + 1) cc0)) (first | exact ⟨d0, d1, d2, da⟩ | exact ⟨b0, b1, b2, ba⟩ | exact S3 | exact S4 | go_keep)
    (first
    | (go_at_call 131; refine (HS.out W.drew HGA.out).mono ?_; rintro e w5 (⟨hp, v, rfl, ⟨gs, rfl, hgs, hr5⟩, hg5⟩ | ⟨hn, rfl, hg5⟩); rotate_left 1; (exact ⟨rfl, .inr ⟨fun h => hn ⟨h.1, h.2.1⟩, rfl, grown_trans HGA.out hg5⟩⟩); have s0 := hg5.cell d0 (by simp); have s1 := hg5.cell d1 (by simp); have s2 := hg5.cell d2 (by simp); have sa := hg5.cell da (by simp); have hal := World.grownBy_alloc w5 (.cells #[.int .i64 0, .string ⟨#[]⟩, .string ⟨#[]⟩, .slice none 0 0] 124) none; have S3 := And.intro (hal.cell s0 (by simp)) (And.intro (hal.cell s1 (by simp)) (And.intro (hal.cell s2 (by simp)) (hal.cell sa (by simp)))); have S4 := And.intro (cell_set47 (u0 := .int .i64 k) (u1 := .string (zeroT k)) (u2 := .string (oneT k)) (u3 := .slice (some ⟨gs, 0, none⟩) (n + m) (n + m)) (HADB.out.2.2 w5 hg5) S3.1) (And.intro (cell_set47 (u0 := .int .i64 k) (u1 := .string (zeroT k)) (u2 := .string (oneT k)) (u3 := .slice (some ⟨gs, 0, none⟩) (n + m) (n + m)) (HADB.out.2.2 w5 hg5) S3.2.1) (And.intro (cell_set47 (u0 := .int .i64 k) (u1 := .string (zeroT k)) (u2 := .string (oneT k)) (u3 := .slice (some ⟨gs, 0, none⟩) (n + m) (n + m)) (HADB.out.2.2 w5 hg5) S3.2.2.1) (cell_set47 (u0 := .int .i64 k) (u1 := .string (zeroT k)) (u2 := .string (oneT k)) (u3 := .slice (some ⟨gs, 0, none⟩) (n + m) (n + m)) (HADB.out.2.1 w5 hg5) S3.2.2.2))); have hx5 := new_block w5 (.cells #[.int .i64 0, .string ⟨#[]⟩, .string ⟨#[]⟩, .slice none 0 0] 124); have q0 := cell_of_row _ _ 0 _ _ (0, 0) hx5; have q1 := cell_of_row _ _ 1 _ _ (0, 0) hx5; have q2 := cell_of_row _ _ 2 _ _ (0, 0) hx5; have q3 := cell_of_row _ _ 3 _ _ (0, 0) hx5; have z0 := frozen_of_row _ w5.heap.size 0 _ _ hx5; have z1 := frozen_of_row _ w5.heap.size 1 _ _ hx5; have z2 := frozen_of_row _ w5.heap.size 2 _ _ hx5; have z3 := frozen_of_row _ w5.heap.size 3 _ _ hx5; have H5 := Lib.hid (And.intro hp (And.intro hgs (And.intro hr5 (And.intro hg5 hx5)))); clear hp hgs hr5 hg5 hx5; unfold solV)
    | (go_at_call 131; refine (HS.out (W.drew.alloc (.cells #[.int .i64 0, .string ⟨#[]⟩, .string ⟨#[]⟩, .slice none 0 0] 124)) HGB.out).mono ?_; rintro e w5 (⟨hp, v, rfl, ⟨gs, rfl, hgs, hr5⟩, hg5⟩ | ⟨hn, rfl, hg5⟩); rotate_left 1; (exact ⟨rfl, .inr ⟨fun h => hn ⟨h.1, h.2.1⟩, rfl, grown_trans HGB.out hg5⟩⟩); have s0 := hg5.cell b0 (by simp); have s1 := hg5.cell b1 (by simp); have s2 := hg5.cell b2 (by simp); have sa := hg5.cell ba (by simp); have S4 := And.intro (cell_set47 (u0 := .int .i64 k) (u1 := .string (zeroT k)) (u2 := .string (oneT k)) (u3 := .slice (some ⟨gs, 0, none⟩) (n + m) (n + m)) (g := w.heap.size + 1) (by simp) s0) (And.intro (cell_set47 (u0 := .int .i64 k) (u1 := .string (zeroT k)) (u2 := .string (oneT k)) (u3 := .slice (some ⟨gs, 0, none⟩) (n + m) (n + m)) (g := w.heap.size + 1) (by simp) s1) (And.intro (cell_set47 (u0 := .int .i64 k) (u1 := .string (zeroT k)) (u2 := .string (oneT k)) (u3 := .slice (some ⟨gs, 0, none⟩) (n + m) (n + m)) (g := w.heap.size + 1) (by simp) s2) (cell_set47 (u0 := .int .i64 k) (u1 := .string (zeroT k)) (u2 := .string (oneT k)) (u3 := .slice (some ⟨gs, 0, none⟩) (n + m) (n + m)) HADB.out.1 sa))); have hx5 := (hg5.block (w.heap.size + 1) (Array.getElem?_eq_some_iff.1 HNB.out).1 (by simp)).trans HNB.out; have q0 := cell_of_row w5 _ 0 _ _ (0, 0) hx5; have q1 := cell_of_row w5 _ 1 _ _ (0, 0) hx5; have q2 := cell_of_row w5 _ 2 _ _ (0, 0) hx5; have q3 := cell_of_row w5 _ 3 _ _ (0, 0) hx5; have z0 := frozen_of_row w5 _ 0 _ _ hx5; have z1 := frozen_of_row w5 _ 1 _ _ hx5; have z2 := frozen_of_row w5 _ 2 _ _ hx5; have z3 := frozen_of_row w5 _ 3 _ _ hx5; have H5 := Lib.hid (And.intro hp (And.intro hgs (And.intro hr5 (And.intro hg5 hx5)))); clear hp hgs hr5 hg5 hx5; unfold solV))
   ·have hsz : W.heap.size = w.heap.size + 1 := hWs
    have hs5 := H5.out.2.2.2.1.size
    have hgs := H5.out.2.1
    have hlt := H5.out.2.2.1.1
    have hgd := H5.out.2.2.2.1
    go_wp2_with (fail)
    go_meet
    case rel => exact ⟨H5.out.1, w5.heap.size, gs, rfl, by simp at hs5; omega, by simp at hgs; omega, by omega, new_block w5 _, H5.out.2.2.1.grown (World.grownBy_alloc _ _ none), grown_trans (grown_trans (grown_drew W none) hgd) (World.grownBy_alloc _ _ none)⟩
   ·have hsz : W.heap.size = w.heap.size + 1 := hWs
    have hgs := H5.out.2.1
    have hgd := H5.out.2.2.2.1
    go_wp2_with (fail)
    go_meet
    case rel => exact ⟨H5.out.1, w.heap.size + 1, gs, rfl, by omega, by simp at hgs; omega, by simp at hgs; omega, row_set47 rfl H5.out.2.2.2.2, H5.out.2.2.1.grownB (grown_set47 _ _ _ _ _ _) (by simp at hgs; omega), grown_step (grown_trans (grown_trans (grown_drew W none) (World.grownBy_alloc _ _ none)) hgd) (grown_set47 _ _ _ _ _ _) (by omega)⟩
  case rest =>
   obtain ⟨hfst, gf, gs, rfl, hgf, hgs, hne, hbf, hrs, hgW⟩ := hcut
   generalize wc = w3 at *
   have hw3 : w.grownBy w3 none := grown_trans HX.out.2.1 hgW
   have c0 := hgW.cell HX.out.1.1 (by simp)
   have c1 := hgW.cell HX.out.1.2.1 (by simp)
   have c2 := hgW.cell HX.out.1.2.2 (by simp)
   have e0 := cell_of_row w3 gf 0 _ _ (0, 0) hbf
   have e1 := cell_of_row w3 gf 1 _ _ (0, 0) hbf
   have e2 := cell_of_row w3 gf 2 _ _ (0, 0) hbf
   have e3 := cell_of_row w3 gf 3 _ _ (0, 0) hbf
   have hgfl : gf < w3.heap.size := (Array.getElem?_eq_some_iff.1 hbf).1
   have HB := Lib.hid (And.intro hfst (And.intro hgf (And.intro hgs (And.intro hne (And.intro hbf (And.intro hrs (And.intro hw3 hgfl)))))))
   clear hfst hgf hgs hne hbf hrs hw3 hgW hgfl HNB HGA HGB HADB d0 d1 d2 da b0 b1 b2 ba hWs
   obtain ⟨A1, hA1⟩ : ∃ A1, (if c = 1 then some (⟨gl, ol, none⟩ : Addr) else some ⟨gl, ol + 1, none⟩) = A1 := ⟨_, rfl⟩
   have hl3 : RowR w3 (.slice A1 n (c - 1)) n (fun i => rs (i + 1)) := ⟨A1, c - 1, rfl, by have := HL.out.1; omega, by have := HL.out.2.1; omega, fun j hj => by
    have hcn : ¬ c = 1 := by have := HL.out.1; omega
    rw [if_neg hcn] at hA1
    have hr3 := HL.out.2.2.grown HB.out.2.2.2.2.2.2.1
    refine ⟨_, hA1.symm, hr3.1, ?_⟩
    rw [add_off, Nat.add_assoc, Nat.add_comm 1 j]
    exact hr3.2 (j + 1) (by omega)⟩
   have hmapc := mapped_rows 132 enters_putInto #[solV k gs 0 (n + m) (n + m)] #[] n (fun i => rs (i + 1)) (n + m) (fun i => SumFits (srE k hk) FitE 1 (n + m) (fun j => A (i + 1) (j + 1)) (fun _ => A (i + 1) 0) (fun _ => fstR (srE k hk) A)) (fun i => txs (putR (srE k hk) A i)) (.slice A1 n (c - 1)) w3.drew (by have := HN.out; omega) (hl3.grown (grown_drew _ none)) (fun i hi w' hw' => by
    obtain ⟨g1, o1, cc1, hr1, h1, h2, h3⟩ := HR.out (i + 1) (by omega)
    rw [hm'] at h1 h3
    have hg1 : g1 < w3.drew.heap.size := Nat.lt_of_lt_of_le h3.1 HB.out.2.2.2.2.2.2.1.size
    have hgw' : w.grownBy w' none := grown_trans (grown_trans HB.out.2.2.2.2.2.2.1 (grown_drew _ none)) hw'
    have h := putInto_any hk (n + m) g1 o1 cc1 gs 0 (n + m) (A (i + 1)) (fstF hk (A 0)) w' (by have := HN.out; omega) (by have := HN.out; omega) (h3.grown hgw') h1 h2 ((HB.out.2.2.2.2.2.1.grown (grown_drew _ none)).grown hw') (Nat.le_refl _) (by have := HN.out; unfold maxLen; omega) (fun j hj => HF.out (i + 1) (by omega) j (by omega)) (fun j hj => HB.out.1.2 j hj)
    show Calls Tryz.prog _ #[solV k gs 0 (n + m) (n + m), rs (i + 1)] w' _
    rw [hr1, hm']
    refine h.mono (fun e w2 h => ?_)
    rcases h with ⟨hp, v, e1, ⟨g, o, c, e2, q1, q2, q3, q4⟩, q5⟩ | ⟨hp, q⟩
    ·refine .inl ⟨hp, v, e1, ⟨g, o, c, e2, q1, q2, ?_, q4⟩, q5⟩
     rcases q3 with q3 | q3
     ·left; omega
     ·right; exact q3
    ·exact .inr ⟨hp, q⟩)
   have helim := fun (w5 : World) (zs : List Value) (hrows : RowsAt w5 w3.drew.heap.size w3.drew.heap.size n (n + m) zs (fun i => txs (putR (srE k hk) A i))) (hp : ∀ i, i < n → SumFits (srE k hk) FitE 1 (n + m) (fun j => A (i + 1) (j + 1)) (fun _ => A (i + 1) 0) (fun _ => fstR (srE k hk) A)) =>
    ih (putR (srE k hk) A) w3.drew.heap.size 0 n (fun j => zs.getD j (.slice none 0 0)) w5 (by have := HN.out; omega) (Nat.le_refl _) (by have := HN.out; unfold maxLen; omega) hrows.2.1 (fun i hi => by
     obtain ⟨gi, o, c, h1, h2, h3, h4, h5⟩ := hrows.2.2 i hi
     exact ⟨gi, o, c, h1, h2, h3, h5⟩) (fun i hi j hj => (hp i hi 0 (by omega) j hj).2)
   have hgd3 : w.grownBy w3.drew none := grown_trans HB.out.2.2.2.2.2.2.1 (grown_drew _ none)
   have HM := Lib.hid hmapc; have HE := Lib.hid helim; have HG3 := Lib.hid hgd3
   clear hmapc hl3 helim ih hgd3
   have d0 : w3.drew.cell? ⟨w.heap.size, 0, none⟩ = some (.int .i64 k) := c0
   have d1 : w3.drew.cell? ⟨w.heap.size, 1, none⟩ = some (.string (zeroT k)) := c1
   have d2 : w3.drew.cell? ⟨w.heap.size, 2, none⟩ = some (.string (oneT k)) := c2
   have f0 : w3.drew.cell? ⟨gf, 0, none⟩ = some (.int .i64 k) := e0
   have f1 : w3.drew.cell? ⟨gf, 1, none⟩ = some (.string (zeroT k)) := e1
   have f2 : w3.drew.cell? ⟨gf, 2, none⟩ = some (.string (oneT k)) := e2
   have f3 : w3.drew.cell? ⟨gf, 3, none⟩ = some (.slice (some ⟨gs, 0, none⟩) (n + m) (n + m)) := e3
   clear c0 c1 c2 e0 e1 e2 e3
   have j1 : (1 : Int) ≤ (n : Int) + 1 := by omega
   have j2 : (n : Int) + 1 ≤ (c : Int) := by have := HL.out.1; omega
   have hmf : ∀ (fn : Fn) (first cap : Array Value) (w : World), (Instr.makeFunc fn first cap).run Tryz.prog w = .ok (.func fn first cap) w := fun _ _ _ _ => rfl
   unfold solV at HM
   go_upto_region 4 with (fail)
   go_region_held2 (fun W' => W'.cell? ⟨w.heap.size, 0, none⟩ = some (.int .i64 k) ∧ W'.cell? ⟨w.heap.size, 1, none⟩ = some (.string (zeroT k)) ∧ W'.cell? ⟨w.heap.size, 2, none⟩ = some (.string (oneT k)) ∧ W'.cell? ⟨gf, 0, none⟩ = some (.int .i64 k) ∧ W'.cell? ⟨gf, 1, none⟩ = some (.string (zeroT k)) ∧ W'.cell? ⟨gf, 2, none⟩ = some (.string (oneT k)) ∧ W'.cell? ⟨gf, 3, none⟩ = some (.slice (some ⟨gs, 0, none⟩) (n + m) (n + m))) (first | exact ⟨d0, d1, d2, f0, f1, f2, f3⟩ | exact S5 | exact S6 | go_keep)
    (first
    | (go_at_call 78; refine HM.out.mono ?_; rintro e w5 (⟨hp, v, rfl, ⟨zs, rfl, hzs⟩, hg5⟩ | ⟨hn, rfl, hg5⟩); rotate_left 1; (exact ⟨rfl, .inr ⟨fun h => hn h.2.2.1, rfl, grown_trans HG3.out hg5⟩⟩); have S5 := And.intro (hg5.cell d0 (by simp)) (And.intro (hg5.cell d1 (by simp)) (And.intro (hg5.cell d2 (by simp)) (And.intro (hg5.cell f0 (by simp)) (And.intro (hg5.cell f1 (by simp)) (And.intro (hg5.cell f2 (by simp)) (hg5.cell f3 (by simp))))))); have H5 := Lib.hid (And.intro hp (And.intro hzs hg5)); clear hp hzs hg5)
    | (go_at_call 75; refine (HE.out w5 zs H5.out.2.1 H5.out.1).mono ?_; rintro e w6 (⟨hp6, v6, rfl, ⟨ys, gy, hres, hgy, hrows⟩, hg6⟩ | ⟨hn, rfl, hg6⟩); rotate_left 1; (exact ⟨rfl, .inr ⟨fun h => hn h.2.2.2.1, rfl, grown_trans (grown_trans HG3.out H5.out.2.2) hg6⟩⟩); obtain ⟨R6, cr6, rfl⟩ := hres.shape; have S6 := And.intro (hg6.cell S5.1 (by simp)) (And.intro (hg6.cell S5.2.1 (by simp)) (And.intro (hg6.cell S5.2.2.1 (by simp)) (And.intro (hg6.cell S5.2.2.2.1 (by simp)) (And.intro (hg6.cell S5.2.2.2.2.1 (by simp)) (And.intro (hg6.cell S5.2.2.2.2.2.1 (by simp)) (hg6.cell S5.2.2.2.2.2.2 (by simp))))))); have H6 := Lib.hid (And.intro hp6 (And.intro hres (And.intro hgy (And.intro hrows hg6)))); clear hp6 hres hgy hrows hg6))
   all_goals
    have hgd6 : w.grownBy w6.drew none := grown_trans (grown_trans (grown_trans HG3.out H5.out.2.2) H6.out.2.2.2.2) (grown_drew _ none)
    have hg36 : w3.grownBy w6.drew none := grown_trans (grown_trans (grown_trans (grown_drew _ none) H5.out.2.2) H6.out.2.2.2.2) (grown_drew _ none)
    have hrs6 : RowAt w6.drew gs 0 (n + m) (txs (fstR (srE k hk) A)) := HB.out.2.2.2.2.2.1.grown hg36
    have hrn6 : RowAt w6.drew gs n m (txs (fun J => fstR (srE k hk) A (n + J))) := ⟨hrs6.1, fun j hj => by
     have := hrs6.2 (n + j) (by omega)
     rw [Nat.zero_add] at this
     exact this⟩
    have hsum := sum_any7 hk n m gs n m (fun J => fstR (srE k hk) A (n + J)) (fstR (srE k hk) A) (elimF (srE k hk) n (putR (srE k hk) A)) (.slice (some ⟨gs, 0, none⟩) n (n + m)) (.slice R6 n cr6) (fun j => ys.getD j (.slice none 0 0)) w6.drew (by have := HN.out; omega) (by have := HN.out; omega)
     hrn6 (Nat.le_refl _) (by have := HN.out; unfold maxLen; omega) ((hrs6.head (m := n) (by omega)).row (by omega) (by have := HN.out; unfold maxLen; omega)) (fun j hj => HB.out.1.2 j (by omega)) (fun j hj => HB.out.1.2 (n + j) (by omega))
     ((H6.out.2.1.grown (grown_drew _ none)).rowR) (fun i hi => by
       obtain ⟨gi, o, ci, h1, h2, h3, h4, h5⟩ := H6.out.2.2.2.1 i hi
       show RowR _ (ys.getD i (.slice none 0 0)) _ _
       rw [h1]
       exact (h5.grown (grown_drew _ none)).row h2 h3) (fun i hi j hj => elim_fit7 hk H6.out.1 i hi j hj)
    have HSUM := Lib.hid hsum; have HGD := Lib.hid hgd6
    clear hsum hrs6 hrn6 hg36 hgd6
    obtain ⟨t0, t1, t2, _, _, _, t3⟩ := S6
    have d6 : w6.drew.cell? ⟨w.heap.size, 0, none⟩ = some (.int .i64 k) := t0
    have d7 : w6.drew.cell? ⟨w.heap.size, 1, none⟩ = some (.string (zeroT k)) := t1
    have d8 : w6.drew.cell? ⟨w.heap.size, 2, none⟩ = some (.string (oneT k)) := t2
    have d9 : w6.drew.cell? ⟨gf, 3, none⟩ = some (.slice (some ⟨gs, 0, none⟩) (n + m) (n + m)) := t3
    have l1 : ¬ m = 0 := by have := HN.out; omega
    have l2 : (n : Int) ≤ (n : Int) + (m : Int) := by omega
    have l3 : (0 : Int) ≤ (n : Int) := by omega
    have l4 : n ≤ n + m := by omega
    unfold calV at HSUM
    clear S5 d0 d1 d2 f0 f1 f2 f3 t0 t1 t2 t3 HM HE HG3 HL HR HX HS
    go_upto_region 5 with (fail)
    go_region_held2 (fun W' => W'.cell? ⟨w.heap.size, 0, none⟩ = some (.int .i64 k) ∧ W'.cell? ⟨w.heap.size, 1, none⟩ = some (.string (zeroT k)) ∧ W'.cell? ⟨w.heap.size, 2, none⟩ = some (.string (oneT k)) ∧ W'.cell? ⟨gf, 3, none⟩ = some (.slice (some ⟨gs, 0, none⟩) (n + m) (n + m))) (first | exact ⟨d6, d7, d8, d9⟩ | exact S7 | go_keep)
     (first
     | (go_at_call 82; refine HSUM.out.mono ?_; rintro e w7 (⟨hp, v, rfl, ⟨gv, ov, cv, rfl, hv1, hv2, hv3, hv4⟩, hg7⟩ | ⟨hn, rfl, hg7⟩); rotate_left 1; (exact ⟨rfl, .inr ⟨fun h => hn h.2.2.2.2, rfl, grown_trans HGD.out hg7⟩⟩); have S7 := And.intro (hg7.cell d6 (by simp)) (And.intro (hg7.cell d7 (by simp)) (And.intro (hg7.cell d8 (by simp)) (hg7.cell d9 (by simp)))); have H7 := Lib.hid (And.intro hp (And.intro hv1 (And.intro hv2 (And.intro hv3 (And.intro hv4 hg7))))); clear hp hv1 hv2 hv3 hv4 hg7))
    all_goals
     go_wp2_with (fail)
     have hal := World.grownBy_alloc w7 (.cells #[.slice (some ⟨gv, ov, none⟩) m cv] 33) none
     have hres8 := (((H6.out.2.1.grown (grown_drew _ none)).grown H7.out.2.2.2.2.2).grown hal)
     refine (insert_any7 n gy w7.heap.size (.slice R6 n cr6) ys (.slice (some ⟨gv, ov, none⟩) m cv) 33 (w7.alloc (.cells #[.slice (some ⟨gv, ov, none⟩) m cv] 33)) (by have := HN.out; omega) hres8 (fun h0 => by have := (((H6.out.2.1.grown (grown_drew _ none)).grown H7.out.2.2.2.2.2)).lt h0; omega) (new_block w7 _) rfl (fun z hz => by
      obtain ⟨i, hi, rfl⟩ := List.getElem_of_mem hz
      obtain ⟨gi, o, ci, h1, _⟩ := H6.out.2.2.2.1 i (by have := H6.out.2.1.len; omega)
      rw [List.getD_eq_getElem?_getD, List.getElem?_eq_getElem hi] at h1
      simp at h1
      rw [h1]; rfl)).mono ?_
     rintro e w9 ⟨g', c', rfl, hown, hg9⟩
     have H9 := Lib.hid (And.intro hown hg9); have HAL := Lib.hid hal; have HR8 := Lib.hid hres8
     clear hown hg9 hal hres8
     go_wp2
     go_ret
     obtain ⟨hown, hg9⟩ := H9.out
     have hsz3 := HB.out.2.2.2.2.2.2.1.size
     have hsz5 := H5.out.2.2.size
     have hsz6 := H6.out.2.2.2.2.size
     have hsz7 := H7.out.2.2.2.2.2.size
     have hgd7 : w.grownBy (w7.alloc (.cells #[.slice (some ⟨gv, ov, none⟩) m cv] 33)) none := grown_trans (grown_trans HGD.out H7.out.2.2.2.2.2) HAL.out
     have hgsl : gs < w3.heap.size := HB.out.2.2.2.2.2.1.1
     have hvl : gv < w7.heap.size := H7.out.2.2.2.2.1.1
     have h8s : (w7.alloc (.cells #[.slice (some ⟨gv, ov, none⟩) m cv] 33)).heap.size = w7.heap.size + 1 := by simp
     have e3 : w3.drew.heap.size = w3.heap.size := rfl
     have e6 : w6.drew.heap.size = w6.heap.size := rfl
     have hv8 : RowAt (w7.alloc (.cells #[.slice (some ⟨gv, ov, none⟩) m cv] 33)) gv ov m (txs (elimF (srE k hk) (n + 1) A 0)) := H7.out.2.2.2.2.1.grown HAL.out
     have hr8 : ∀ i, i < n → ∃ gi o ci, ys.getD i (.slice none 0 0) = .slice (some ⟨gi, o, none⟩) m ci ∧ m ≤ ci ∧ ci ≤ maxLen ∧ gi ≠ gy ∧ RowAt (w7.alloc (.cells #[.slice (some ⟨gv, ov, none⟩) m cv] 33)) gi o m (txs (elimF (srE k hk) (n + 1) A (i + 1))) ∧ gi < w6.heap.size := fun i hi => by
      obtain ⟨gi, o, ci, h1, h2, h3, h4, h5⟩ := H6.out.2.2.2.1 i hi
      exact ⟨gi, o, ci, h1, h2, h3, h4, ((h5.grown (grown_drew _ none)).grown H7.out.2.2.2.2.2).grown HAL.out, h5.1⟩
     have hfits : ElimFits (srE k hk) FitE (n + 1) m A := ⟨HB.out.1.1, HB.out.1.2, H5.out.1, H6.out.1, H7.out.1⟩
     have hvg : 0 < n → gv ≠ gy := fun h0 => by
      have h1 := H6.out.2.2.1 h0
      have h2 := H6.out.2.1.lt h0
      rcases H7.out.2.2.2.1 with h | h <;> omega
     rcases hg9 with ⟨rfl, h0, hg9⟩ | ⟨hge, hg9⟩
     ·have h1 := H6.out.2.2.1 h0
      have hB : w.heap.size ≤ g' := by omega
      refine .inl ⟨hfits, _, rfl, ⟨_, g', .inr ⟨by omega, c', rfl, hown⟩, fun _ => hB, fun i hi => ?_⟩, grown_step hgd7 hg9 hB⟩
      cases i with
      | zero => exact ⟨gv, ov, cv, rfl, H7.out.2.1, H7.out.2.2.1, hvg h0, hv8.grownB hg9 (hvg h0)⟩
      | succ i =>
       obtain ⟨gi, o, ci, h1, h2, h3, h4, h5, h6⟩ := hr8 i (by omega)
       exact ⟨gi, o, ci, h1, h2, h3, h4, h5.grownB hg9 h4⟩
     ·refine .inl ⟨hfits, _, rfl, ⟨_, g', .inr ⟨by omega, c', rfl, hown⟩, fun _ => by omega, fun i hi => ?_⟩, grown_trans hgd7 hg9⟩
      cases i with
      | zero => exact ⟨gv, ov, cv, rfl, H7.out.2.1, H7.out.2.2.1, by omega, hv8.grown hg9⟩
      | succ i =>
       obtain ⟨gi, o, ci, h1, h2, h3, h4, h5, h6⟩ := hr8 i (by omega)
       exact ⟨gi, o, ci, h1, h2, h3, by omega, h5.grown hg9⟩
end
end Go.Proofs.YtaogepcaoogpgaaGreatDoor
