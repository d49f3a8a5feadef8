/- The reference's Parse. -/
import Derived.Test.YthokjhlbbgfplaaGreatDoorZe
set_option linter.unusedVariables false
set_option linter.unusedSimpArgs false
namespace Go.Proofs.YthokjhlbbgfplaaGreatDoor
open Go.RowKit
open Go.Lib (nDigits decDigits)

def EndOk (a : ByteArray) (i e : Nat) : Prop := ∀ w, Calls Tryz.prog 43 #[.string a, .int .i64 i] w fun x w' => x = .returned (.int .i64 e) ∧ w = w'
def PlainOk (s S : ByteArray) : Prop := ∀ w, Calls Tryz.prog 44 #[.string s] w fun x w' => x = .returned (.string S) ∧ w = w'
def zerosB (k : Nat) : ByteArray := ⟨(49 :: List.replicate k 48).toArray⟩
theorem zeros_size (k : Nat) : (zerosB k).size = k + 1 := by unfold zerosB; rw [list_size]; simp
theorem zeros_step (k : Nat) : zerosB k ++ ⟨#[48]⟩ = zerosB (k + 1) := by
  unfold zerosB
  rw [show (⟨#[48]⟩ : ByteArray) = ⟨([48] : List UInt8).toArray⟩ from rfl, append_list, List.cons_append, ← List.replicate_succ']
theorem zeros_dec (k : Nat) : zerosB k = decS (10 ^ k) := by unfold zerosB decS; rw [dec_pow]
def MakeOk (neg : Bool) (A B S : ByteArray) (E : Int) : Prop := ∀ w, Calls Tryz.prog 15 #[.bool neg, .string A, .string B] w (ValPost (.tuple #[.string S, .int .i64 E]) w)
set_option maxRecDepth 100000 in
set_option maxHeartbeats 500000 in
theorem parse_empty_end0 (a : ByteArray) (e l : Nat) (w : World) (hm : a.size ≤ 1200) (h0 : ¬ (0 : Int) < (a.size : Int))
    (D1 : Hid (EndOk a 0 0)) (he : 0 ≤ a.size) (he2 : a.size ≤ 0)  :
    Calls Tryz.prog 17 #[.string a] w (ValPost (.tuple #[.string ⟨#[]⟩, .int .i64 3]) w) := by
  have k1 : ¬ ((0 : Nat) : Int) < (a.size : Int) := by omega
  have k2 : ((0 : Nat) : Int) ≤ (a.size : Int) := by omega
  go_enter Tryz.func17, Tryz.ntmps17
  go_wp2_with fail
  refine (D1.out _).mono ?_
  rintro x w' ⟨rfl, rfl⟩
  go_wp2
  go_ret2
  exact ⟨rfl, grown_refl _ _⟩
end Go.Proofs.YthokjhlbbgfplaaGreatDoor
