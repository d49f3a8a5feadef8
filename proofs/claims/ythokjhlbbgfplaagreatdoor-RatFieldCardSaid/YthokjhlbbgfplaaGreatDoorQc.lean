/- The text of a number; Make; read. -/
import Derived.Test.YthokjhlbbgfplaaGreatDoorQb
set_option linter.unusedVariables false
set_option linter.unusedSimpArgs false
namespace Go.Proofs.YthokjhlbbgfplaaGreatDoor
open Go.RowKit
open Go.Lib (nDigits decDigits)

set_option maxRecDepth 100000 in
set_option maxHeartbeats 1000000 in
theorem text_int (b : Bool) (A B S : ByteArray) (w : World) (h : max (A.size : Int) (B.size : Int) ≤ 400) (f1 : (B.toList == [49]) = true) (hS : Hid ((if b then ⟨#[45]⟩ ++ A else A) = S)) :
    Calls Tryz.prog 39 #[.agg #[.bool b, .string A, .string B]] w (ValPost (.string S) w) := by
  cases b
  all_goals
    go_enter Tryz.func39, Tryz.ntmps39
    go_wp2
    go_ret
    exact ⟨by rw [← hS.out]; rfl, World.grownBy_alloc _ _ _⟩
set_option maxRecDepth 100000 in
set_option maxHeartbeats 1000000 in
theorem text_frac (b : Bool) (A B S : ByteArray) (w : World) (h : max (A.size : Int) (B.size : Int) ≤ 400) (f1 : (B.toList == [49]) = false) (hS : Hid ((if b then ⟨#[45]⟩ ++ A else A) ++ (⟨#[47]⟩ ++ B) = S)) :
    Calls Tryz.prog 39 #[.agg #[.bool b, .string A, .string B]] w (ValPost (.string S) w) := by
  cases b
  all_goals
    go_enter Tryz.func39, Tryz.ntmps39
    go_wp2
    go_ret
    exact ⟨by rw [← hS.out]; rfl, World.grownBy_alloc _ _ _⟩
set_option maxRecDepth 100000 in
set_option maxHeartbeats 1000000 in
theorem text_long (b : Bool) (A B : ByteArray) (w : World) (h : 400 < max (A.size : Int) (B.size : Int)) :
    Calls Tryz.prog 39 #[.agg #[.bool b, .string A, .string B]] w (DiePost 2 w) := by
  go_enter Tryz.func39, Tryz.ntmps39
  go_wp2
  exact ⟨rfl, rfl, World.grownBy_alloc _ _ _⟩

theorem cat_list (a b : ByteArray) : (a ++ b).data.toList = a.data.toList ++ b.data.toList := by
  rw [ByteArray.data_append, Array.toList_append]
theorem ratS_text (x : Rat) : ratS x = (if decide (x.num < 0) then ⟨#[45]⟩ ++ decS x.num.natAbs else decS x.num.natAbs) ++ (if x.den = 1 then ⟨#[]⟩ else (⟨#[47]⟩ ++ decS x.den)) := by
  apply ByteArray.ext
  apply Array.ext'
  rw [cat_list]
  unfold ratS ratL
  by_cases h1 : x.num < 0 <;> by_cases h2 : x.den = 1 <;> simp [h1, h2, cat_list, decS]

theorem text_ok (x : Rat) (w : World) (h : Short x) : Calls Tryz.prog 39 #[ratV x] w (ValPost (.string (ratS x)) w) := by
  have hx : max ((decS x.num.natAbs).size : Int) ((decS x.den).size : Int) ≤ 400 := by
    rw [decS_size, decS_size]
    have := h.1; have := h.2
    omega
  have f1 := (one_str x.den).1
  have e := ratS_text x
  unfold ratV
  by_cases h1 : x.den = 1
  · rw [if_pos h1] at e
    exact text_int _ _ _ _ w hx (by rw [f1]; simpa using h1) (Lib.hid (by rw [e]; apply ByteArray.ext; apply Array.ext'; rw [cat_list]; simp))
  · rw [if_neg h1] at e
    exact text_frac _ _ _ _ w hx (by rw [f1]; simpa using h1) (Lib.hid e.symm)
theorem text_die (x : Rat) (w : World) (h : ¬ Short x) : Calls Tryz.prog 39 #[ratV x] w (DiePost 2 w) := by
  have hx : 400 < max ((decS x.num.natAbs).size : Int) ((decS x.den).size : Int) := by
    rw [decS_size, decS_size]
    unfold Short at h
    omega
  exact text_long _ _ _ w hx

theorem enters_text : Enters 39 := enters_of Tryz.func39 (by kernel_rfl) rfl
/-- finish at the method value of a number's text. -/
theorem finish_text (x : Rat) (w : World) : Calls Tryz.prog 37 #[.func (.func 39) #[ratV x] #[]] w (ValPost (finV x) w) := by
  by_cases h : Short x
  · rw [finV_ok h]
    exact finish_ret _ enters_text _ _ _ w (text_ok x _ h)
  · rw [finV_long h]
    exact finish_die _ enters_text _ _ _ w (text_die x _ h)
end Go.Proofs.YthokjhlbbgfplaaGreatDoor
