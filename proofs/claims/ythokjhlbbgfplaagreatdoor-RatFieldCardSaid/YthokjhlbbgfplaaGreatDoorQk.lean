/- compare: the order of two numbers. -/
import Derived.Test.YthokjhlbbgfplaaGreatDoorQg
set_option linter.unusedVariables false
set_option linter.unusedSimpArgs false
namespace Go.Proofs.YthokjhlbbgfplaaGreatDoor
open Go.RowKit
open Go.Lib (nDigits decDigits)

/-- Two numbers lie at g and g + 1. -/
structure Pair (w W : World) (b1 b2 : Bool) (A B C D : ByteArray) : Prop where
  x : Num W w.heap.size b1 A B
  y : Num W (w.heap.size + 1) b2 C D
  g : w.grownBy W none
def Two (w W : World) (b1 b2 : Bool) (A B C D : ByteArray) : Prop :=
  (W.cell? ⟨w.heap.size, 0, none⟩ = some (.bool b1) ∧ W.cell? ⟨w.heap.size, 1, none⟩ = some (.string A) ∧ W.cell? ⟨w.heap.size, 2, none⟩ = some (.string B) ∧
    W.cell? ⟨w.heap.size + 1, 0, none⟩ = some (.bool b2) ∧ W.cell? ⟨w.heap.size + 1, 1, none⟩ = some (.string C) ∧ W.cell? ⟨w.heap.size + 1, 2, none⟩ = some (.string D)) ∧ Hid (Pair w W b1 b2 A B C D)
theorem Pair.next {w W W' : World} {b1 b2 : Bool} {A B C D : ByteArray} (h : Pair w W b1 b2 A B C D) (hg : W.grownBy W' none) : Pair w W' b1 b2 A B C D :=
  ⟨h.x.grown hg, h.y.grown hg, grown_trans h.g hg⟩
theorem Pair.drew {w W : World} {b1 b2 : Bool} {A B C D : ByteArray} (h : Pair w W b1 b2 A B C D) : Pair w W.drew b1 b2 A B C D := h.next (grown_drew W none)
theorem Pair.two {w W : World} {b1 b2 : Bool} {A B C D : ByteArray} (h : Pair w W b1 b2 A B C D) : Two w W b1 b2 A B C D := by
  obtain ⟨x0, x1, x2, _⟩ := h.x.cells
  obtain ⟨y0, y1, y2, _⟩ := h.y.cells
  exact ⟨⟨x0, x1, x2, y0, y1, y2⟩, Lib.hid h⟩
theorem pair_next (w : World) (b1 b2 : Bool) (A B C D : ByteArray) {W W' : World} (hg : W.grownBy W' none)
    (h : (W.cell? ⟨w.heap.size, 0, none⟩ = some (.bool b1) ∧ W.cell? ⟨w.heap.size, 1, none⟩ = some (.string A) ∧ W.cell? ⟨w.heap.size, 2, none⟩ = some (.string B) ∧
      W.cell? ⟨w.heap.size + 1, 0, none⟩ = some (.bool b2) ∧ W.cell? ⟨w.heap.size + 1, 1, none⟩ = some (.string C) ∧ W.cell? ⟨w.heap.size + 1, 2, none⟩ = some (.string D)) ∧ Hid (Pair w W b1 b2 A B C D)) :
    (W'.cell? ⟨w.heap.size, 0, none⟩ = some (.bool b1) ∧ W'.cell? ⟨w.heap.size, 1, none⟩ = some (.string A) ∧ W'.cell? ⟨w.heap.size, 2, none⟩ = some (.string B) ∧
      W'.cell? ⟨w.heap.size + 1, 0, none⟩ = some (.bool b2) ∧ W'.cell? ⟨w.heap.size + 1, 1, none⟩ = some (.string C) ∧ W'.cell? ⟨w.heap.size + 1, 2, none⟩ = some (.string D)) ∧ Hid (Pair w W' b1 b2 A B C D) :=
  (h.2.out.next hg).two
theorem pair_start (w : World) (b1 b2 : Bool) (A B C D : ByteArray) :
    Pair w ((w.alloc (.cells #[.bool b1, .string A, .string B] 42)).alloc (.cells #[.bool b2, .string C, .string D] 42)) b1 b2 A B C D := by
  refine ⟨?_, ?_, ?_⟩
  · unfold Num
    rw [block_old _ _ _ (by simp), block_at _ _ _ rfl]
  · unfold Num
    rw [block_at _ _ _ (by simp)]
  · exact grown_trans (World.grownBy_alloc _ _ none) (World.grownBy_alloc _ _ none)
theorem Pair.swap {w W : World} {b1 b2 : Bool} {A B C D : ByteArray} (h : Pair w W b1 b2 A B C D) :
    Pair w ((((((W.setCell ⟨w.heap.size, 0, none⟩ (.bool b2)).setCell ⟨w.heap.size, 1, none⟩ (.string C)).setCell ⟨w.heap.size, 2, none⟩ (.string D)).setCell ⟨w.heap.size + 1, 0, none⟩ (.bool b1)).setCell ⟨w.heap.size + 1, 1, none⟩ (.string A)).setCell ⟨w.heap.size + 1, 2, none⟩ (.string B)) b2 b1 C D A B := by
  have hx : Num (((W.setCell ⟨w.heap.size, 0, none⟩ (.bool b2)).setCell ⟨w.heap.size, 1, none⟩ (.string C)).setCell ⟨w.heap.size, 2, none⟩ (.string D)) w.heap.size b2 C D := h.x.set
  have hy : Num (((W.setCell ⟨w.heap.size, 0, none⟩ (.bool b2)).setCell ⟨w.heap.size, 1, none⟩ (.string C)).setCell ⟨w.heap.size, 2, none⟩ (.string D)) (w.heap.size + 1) b2 C D := ((h.y.other (by omega)).other (by omega)).other (by omega)
  refine ⟨((hx.other (by omega)).other (by omega)).other (by omega), hy.set, ?_⟩
  exact grown3 (grown3 h.g (Nat.le_refl _)) (Nat.le_succ _)

set_option maxRecDepth 100000 in
set_option maxHeartbeats 1000000 in
theorem compare_part (b1 b2 : Bool) (A B C D : ByteArray) (w : World) (hne : b1 ≠ b2) :
    Calls Tryz.prog 46 #[.agg #[.bool b1, .string A, .string B], .agg #[.bool b2, .string C, .string D]] w (ValPost (.int .i64 (if b1 then -1 else 1)) w) := by
  cases b1 <;> cases b2 <;> simp only [ne_eq, not_true, Bool.false_eq_true, Bool.true_eq_false, not_false_eq_true] at hne
  all_goals
    go_enter Tryz.func46, Tryz.ntmps46
    go_wp2
    go_ret
    exact ⟨rfl, grown_trans (World.grownBy_alloc _ _ _) (World.grownBy_alloc _ _ _)⟩

set_option maxRecDepth 100000 in
set_option maxHeartbeats 4000000 in
theorem compare_plus (A B C D : ByteArray) (c : Int) (w : World)
    (T1 : TimesOk A D) (T2 : TimesOk C B)
    (CM : Hid (∀ w, Calls Tryz.prog 69 #[.string (mulS A D), .string (mulS C B)] w fun e w' => e = .returned (.int .i64 c) ∧ w.grownBy w' none)) :
    Calls Tryz.prog 46 #[.agg #[.bool false, .string A, .string B], .agg #[.bool false, .string C, .string D]] w (ValPost (.int .i64 c) w) := by
  have h0 := pair_start w false false A B C D
  have H0 := Lib.hid h0
  obtain ⟨hs, hh⟩ := h0.drew.two
  obtain ⟨⟨x0, x1, x2, y0, y1, y2⟩, hh0⟩ := h0.two
  clear h0 hh0
  go_enter Tryz.func46, Tryz.ntmps46
  go_wp2_with fail
  clear x0 x1 x2 y0 y1 y2
  go_region_held3 (fun W' => (W'.cell? ⟨w.heap.size, 0, none⟩ = some (.bool false) ∧ W'.cell? ⟨w.heap.size, 1, none⟩ = some (.string A) ∧ W'.cell? ⟨w.heap.size, 2, none⟩ = some (.string B) ∧
      W'.cell? ⟨w.heap.size + 1, 0, none⟩ = some (.bool false) ∧ W'.cell? ⟨w.heap.size + 1, 1, none⟩ = some (.string C) ∧ W'.cell? ⟨w.heap.size + 1, 2, none⟩ = some (.string D)) ∧ Hid (Pair w W' false false A B C D))
    (first
      | exact ⟨hs, hh⟩
      | assumption
      | exact s1
      | go_keep)
    (first
      | (go_at_call 70; refine (times_call _ _ ?_ _).mono ?_; assumption; rintro e w5 ⟨rfl, hg5⟩; have s1 := pair_next w false false A B C D hg5 ‹_›)
      | (go_at_call 69; refine (CM.out _).mono ?_; rintro e w5 ⟨rfl, hg5⟩; have s1 := pair_next w false false A B C D hg5 ‹_›))
  have HE := Lib.hid s1.2.out.g
  clear s1 hs hh H0
  go_wp2
  go_ret
  exact ⟨rfl, HE.out⟩

set_option maxRecDepth 100000 in
set_option maxHeartbeats 4000000 in
theorem compare_minus (A B C D : ByteArray) (c : Int) (w : World)
    (T1 : TimesOk C B) (T2 : TimesOk A D)
    (CM : Hid (∀ w, Calls Tryz.prog 69 #[.string (mulS C B), .string (mulS A D)] w fun e w' => e = .returned (.int .i64 c) ∧ w.grownBy w' none)) :
    Calls Tryz.prog 46 #[.agg #[.bool true, .string A, .string B], .agg #[.bool true, .string C, .string D]] w (ValPost (.int .i64 c) w) := by
  have h0 := pair_start w true true C D A B
  obtain ⟨hs, hh⟩ := h0.drew.two
  clear h0
  go_enter Tryz.func46, Tryz.ntmps46
  go_wp2_with fail
  go_region_held3 (fun W' => (W'.cell? ⟨w.heap.size, 0, none⟩ = some (.bool true) ∧ W'.cell? ⟨w.heap.size, 1, none⟩ = some (.string C) ∧ W'.cell? ⟨w.heap.size, 2, none⟩ = some (.string D) ∧
      W'.cell? ⟨w.heap.size + 1, 0, none⟩ = some (.bool true) ∧ W'.cell? ⟨w.heap.size + 1, 1, none⟩ = some (.string A) ∧ W'.cell? ⟨w.heap.size + 1, 2, none⟩ = some (.string B)) ∧ Hid (Pair w W' true true C D A B))
    (first
      | exact ⟨hs, hh⟩
      | assumption
      | exact s1
      | go_keep)
    (first
      | (go_at_call 70; refine (times_call _ _ ?_ _).mono ?_; assumption; rintro e w5 ⟨rfl, hg5⟩; have s1 := pair_next w true true C D A B hg5 ‹_›)
      | (go_at_call 69; refine (CM.out _).mono ?_; rintro e w5 ⟨rfl, hg5⟩; have s1 := pair_next w true true C D A B hg5 ‹_›))
  have HE := Lib.hid s1.2.out.g
  clear s1 hs hh
  go_wp2
  go_ret
  exact ⟨rfl, HE.out⟩
theorem cmp_dec (m n : Nat) (hm : nDigits m ≤ 1000) (hn : nDigits n ≤ 1000) : cmpV (decS m) (decS n) = cmpN m n := by
  unfold cmpV
  rw [num_short m hm, num_short n hn, nv_dec, nv_dec]
  rfl
theorem sub_dec (m n : Nat) (hm : nDigits m ≤ 1000) (hn : nDigits n ≤ 1000) (h : n ≤ m) : subV (decS m) (decS n) = .tuple #[.string (decS (m - n)), .int .i64 0] := by
  unfold subV
  rw [num_short m hm, num_short n hn, nv_dec, nv_dec]
  simp only [Bool.and_self, if_true]
  rw [if_neg (by omega)]
end Go.Proofs.YthokjhlbbgfplaaGreatDoor
