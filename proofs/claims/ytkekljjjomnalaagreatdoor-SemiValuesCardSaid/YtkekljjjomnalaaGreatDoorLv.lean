/- SemiValues: every input; large. -/
import Derived.Test.YtkekljjjomnalaaGreatDoorLz
import Derived.Test.YtkekljjjomnalaaGreatDoorSv
set_option linter.unusedVariables false
set_option linter.unusedSimpArgs false
namespace Go.Proofs.YtkekljjjomnalaaGreatDoor
open Go.RowKit
open Go.Lib (nDigits decDigits)

/-- large, where the row holds the strings xs. -/
def largeB (xs : List ByteArray) : Bool := xs.any fun x => decide (810 < x.size)
def SizesFit (xs : List ByteArray) : Prop := ∀ x ∈ xs, x.size ≤ maxLen
theorem large_any (xs : List ByteArray) (g : Nat) (w : World) (hn : xs.length ≤ 8) (hs : SizesFit xs) (h : ∀ (k : Nat) (x : ByteArray), xs[k]? = some x → w.cell? ⟨g, k, none⟩ = some (.string x)) :
    Calls Tryz.prog 20 #[.slice (some ⟨g, 0, none⟩) xs.length xs.length] w fun e w' => e = .returned (.bool (largeB xs)) ∧ w = w' := by
  have H := Lib.hid h
  have HS := Lib.hid hs
  clear h hs
  go_enter Tryz.func20, Tryz.ntmps20
  go_wp2
  go_loop [3] (fun i => ∃ k : Nat, i = .int .i64 k ∧ k ≤ xs.length ∧ largeB (xs.take k) = false) (fun i => xs.length - (intOf i).toNat)
  case atStart => exact ⟨0, rfl, by omega, rfl⟩
  case round =>
    obtain ⟨k, rfl, hk, hno⟩ := hrel
    have HNO := Lib.hid hno
    clear hno
    by_cases hlt : k < xs.length
    · obtain ⟨x, hx⟩ : ∃ x, xs[k]? = some x := ⟨xs[k], List.getElem?_eq_getElem hlt⟩
      have hc := H.out k x hx
      have hm := HS.out x (List.mem_of_getElem? hx)
      unfold maxLen at hm
      have HX := Lib.hid hx
      clear hx
      by_cases hb : (810 : Int) < (x.size : Int)
      · have HN := Lib.hid (show largeB xs = true by
          unfold largeB
          rw [List.any_eq_true]
          exact ⟨x, List.mem_of_getElem? HX.out, by simp; omega⟩)
        go_wp2
        go_ret
        exact ⟨by rw [HN.out]; rfl, rfl⟩
      · have HN := Lib.hid (show largeB (xs.take (k + 1)) = false by
          have e : xs.take (k + 1) = xs.take k ++ [x] := by rw [List.take_add_one, HX.out]; rfl
          have := HNO.out
          unfold largeB at *
          rw [e, List.any_append, this]
          simp
          omega)
        go_wp2
        go_round
        case rel => exact ⟨k + 1, by go_num, by omega, HN.out⟩
        case measure => simp [intOf]; omega
    · have HN := Lib.hid (show largeB xs = false by
        have := HNO.out
        rw [List.take_of_length_le (by omega)] at this
        exact this)
      go_wp2
      go_ret
      exact ⟨by rw [HN.out]; rfl, rfl⟩
def LargeIs1 (a : ByteArray) (k : Bool) : Prop := ∀ w : World,
  Calls Tryz.prog 20 #[.slice (some ⟨w.heap.size, 0, none⟩) 1 1] (w.alloc (.cells #[.string a] 9)) fun e w' => e = .returned (.bool k) ∧ w.alloc (.cells #[.string a] 9) = w'
def LargeIs2 (a b : ByteArray) (k : Bool) : Prop := ∀ w : World,
  Calls Tryz.prog 20 #[.slice (some ⟨w.heap.size, 0, none⟩) 2 2] (w.alloc (.cells #[.string a, .string b] 9)) fun e w' => e = .returned (.bool k) ∧ w.alloc (.cells #[.string a, .string b] 9) = w'
theorem largeIs1 (a : ByteArray) (ha : a.size ≤ maxLen) : LargeIs1 a (largeB [a]) := fun w => by
  refine (large_any [a] w.heap.size _ (by simp) ?_ ?_).mono ?_
  · intro x hx
    simp at hx
    subst hx; assumption
  · intro k x hx
    rw [cell_of_row _ _ _ _ _ (0, 0) (new_block _ _)]
    rcases k with _ | k
    · cases hx; rfl
    · simp at hx
  · rintro e w' ⟨rfl, rfl⟩
    exact ⟨rfl, rfl⟩
theorem largeIs2 (a b : ByteArray) (ha : a.size ≤ maxLen) (hb : b.size ≤ maxLen) : LargeIs2 a b (largeB [a, b]) := fun w => by
  refine (large_any [a, b] w.heap.size _ (by simp) ?_ ?_).mono ?_
  · intro x hx
    simp at hx
    rcases hx with rfl | rfl <;> assumption
  · intro k x hx
    rw [cell_of_row _ _ _ _ _ (0, 0) (new_block _ _)]
    rcases k with _ | _ | k
    · cases hx; rfl
    · cases hx; rfl
    · simp at hx
  · rintro e w' ⟨rfl, rfl⟩
    exact ⟨rfl, rfl⟩
set_option maxRecDepth 100000 in
set_option maxHeartbeats 4000000 in
theorem values_large (k : Int) (a : ByteArray) (LG : Hid (LargeIs1 a true)) (w : World) : Calls Tryz.prog 4 #[.int .i64 k, .string a] w (LawPost w) := by
  go_enter Tryz.func4, Tryz.ntmps4
  go_wp2_with fail
  refine (LG.out _).mono ?_
  rintro e w0 ⟨rfl, hw0⟩
  have G0 := Lib.hid (show w.grownBy w0 none from hw0 ▸ World.grownBy_alloc _ _ none)
  clear hw0
  go_wp2_with fail
  refine (awake_any _).mono ?_
  rintro e w1 ⟨rfl, hg⟩
  have G1 := Lib.hid (grown_trans G0.out hg)
  clear hg G0
  go_wp2
  go_ret
  exact ⟨rfl, G1.out⟩
structure ValueCalls (k : Int) (a Z O : ByteArray) (x y : Bool) : Prop where
  v1 : VB 16 k a x
  v2 : VB 21 k a x
  w1 : VB 22 k a y
  w2 : VB 23 k a y
  z1 : Str1 17 k Z
  z2 : Str1 24 k Z
  o1 : Str1 18 k O
  o2 : Str1 25 k O
set_option maxRecDepth 100000 in
set_option maxHeartbeats 4000000 in
theorem values_yes (k : Int) (a Z O : ByteArray) (x y : Bool) (LG : Hid (LargeIs1 a false)) (C : Hid (ValueCalls k a Z O x y)) (w : World) : Calls Tryz.prog 4 #[.int .i64 k, .string a] w (LawPost w) := by
  cases x <;> cases y
  all_goals
    go_enter Tryz.func4, Tryz.ntmps4
    go_wp2_with fail
    refine (LG.out _).mono ?_
    rintro e w0 ⟨rfl, hw0⟩
    have G0 := Lib.hid (show w.grownBy w0 none from hw0 ▸ World.grownBy_alloc _ _ none)
    clear hw0
    go_wp2_with fail
    refine (C.out.v1 _).mono ?_
    rintro e w1 ⟨rfl, hg⟩
    have G1 := Lib.hid (grown_trans G0.out hg)
    clear hg G0
    go_wp2_with fail
    refine (C.out.v2 _).mono ?_
    rintro e w2 ⟨rfl, hg⟩
    have G2 := Lib.hid (grown_trans G1.out hg)
    clear hg G1
    go_wp2_with fail
    refine (C.out.w1 _).mono ?_
    rintro e w3 ⟨rfl, hg⟩
    have G3 := Lib.hid (grown_trans G2.out hg)
    clear hg G2
    go_wp2_with fail
    refine (C.out.w2 _).mono ?_
    rintro e w4 ⟨rfl, hg⟩
    have G4 := Lib.hid (grown_trans G3.out hg)
    clear hg G3
    go_wp2_with fail
    refine (C.out.z1 _).mono ?_
    rintro e w5 ⟨rfl, hg⟩
    have G5 := Lib.hid (grown_trans G4.out hg)
    clear hg G4
    go_wp2_with fail
    refine (C.out.z2 _).mono ?_
    rintro e w6 ⟨rfl, hg⟩
    have G6 := Lib.hid (grown_trans G5.out hg)
    clear hg G5
    go_wp2_with fail
    refine (C.out.o1 _).mono ?_
    rintro e w7 ⟨rfl, hg⟩
    have G7 := Lib.hid (grown_trans G6.out hg)
    clear hg G6
    go_wp2_with fail
    refine (C.out.o2 _).mono ?_
    rintro e w8 ⟨rfl, hg⟩
    have G8 := Lib.hid (grown_trans G7.out hg)
    clear hg G7
    go_wp2_with fail
    refine (awake_any _).mono ?_
    rintro e w9 ⟨rfl, hg⟩
    have G9 := Lib.hid (grown_trans G8.out hg)
    clear hg G8
    go_wp2
    go_ret
    exact ⟨rfl, G9.out⟩
theorem values_any (k : Int) (a : ByteArray) (w : World) (ha : a.size ≤ maxLen) : Calls Tryz.prog 4 #[.int .i64 k, .string a] w (LawPost w) := by
  have LG := largeIs1 a ha
  cases hl : largeB [a]
  case true => rw [hl] at LG; exact values_large k a (Lib.hid LG) w
  rw [hl] at LG
  have Z1 : Str1 17 k (zeroT k) := fun w => szero_any k w
  have Z2 : Str1 24 k (zeroT k) := fun w => rzero_any k w
  have O1 : Str1 18 k (oneT k) := fun w => sone_any k w
  have O2 : Str1 25 k (oneT k) := fun w => rone_any k w
  rcases val_or k a with ⟨v, hv⟩ | hn <;> rcases wgt_or k a with ⟨u, hu⟩ | hm
  · exact values_yes k a _ _ true true (Lib.hid LG) (Lib.hid ⟨svalid_yes hv, rv_yes hv, sweight_yes hu, rw_yes hu, Z1, Z2, O1, O2⟩) w
  · exact values_yes k a _ _ true false (Lib.hid LG) (Lib.hid ⟨svalid_yes hv, rv_yes hv, sweight_no hm ha, rw_no hm ha, Z1, Z2, O1, O2⟩) w
  · exact values_yes k a _ _ false true (Lib.hid LG) (Lib.hid ⟨svalid_no hn ha, rv_no hn ha, sweight_yes hu, rw_yes hu, Z1, Z2, O1, O2⟩) w
  · exact values_yes k a _ _ false false (Lib.hid LG) (Lib.hid ⟨svalid_no hn ha, rv_no hn ha, sweight_no hm ha, rw_no hm ha, Z1, Z2, O1, O2⟩) w
end Go.Proofs.YtkekljjjomnalaaGreatDoor
