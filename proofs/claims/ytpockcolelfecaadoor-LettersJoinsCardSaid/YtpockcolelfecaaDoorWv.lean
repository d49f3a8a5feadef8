/- The reference's latin; bytes made into a string. -/
import Derived.Test.YtpockcolelfecaaDoorWj
import Derived.Laws.IdiomStrings
set_option linter.unusedVariables false
set_option linter.unusedSimpArgs false
namespace Go.Proofs.YtpockcolelfecaaDoor
open Go.RowKit

def latinL (p : Nat) : List UInt8 := if p < 128 then [UInt8.ofNat p] else [UInt8.ofNat (192 + p / 64), UInt8.ofNat (128 + p % 64)]

theorem conv_one (w : World) (p : Nat) (h : p < 256) :
    (convert 43 9 (.slice (some ⟨w.heap.size, 0, none⟩) 1 1)).run Tryd.prog (w.alloc (.cells #[.int .u8 (p : Int)] 5)) = .ok (.string ⟨[UInt8.ofNat p].toArray⟩) (w.alloc (.cells #[.int .u8 (p : Int)] 5)) :=
  run_convert_bytes_back _ 43 9 5 ⟨w.heap.size, 0, none⟩ 1 [UInt8.ofNat p] Tryd.underlying43 Tryd.underlying5 Tryd.underlying9 (fun j hj => by
    have : j = 0 := by simpa using hj
    subst this
    have := cell_one_new w (.int .u8 (p : Int)) 5 0 _ rfl
    rw [this]
    simp only [List.getElem_cons_zero]
    rw [u8_of p h])
theorem conv_two (w : World) (p q : Nat) (h : p < 256) (hq : q < 256) :
    (convert 43 9 (.slice (some ⟨w.heap.size, 0, none⟩) 2 2)).run Tryd.prog (w.alloc (.cells #[.int .u8 (p : Int), .int .u8 (q : Int)] 5)) = .ok (.string ⟨[UInt8.ofNat p, UInt8.ofNat q].toArray⟩) (w.alloc (.cells #[.int .u8 (p : Int), .int .u8 (q : Int)] 5)) :=
  run_convert_bytes_back _ 43 9 5 ⟨w.heap.size, 0, none⟩ 2 [UInt8.ofNat p, UInt8.ofNat q] Tryd.underlying43 Tryd.underlying5 Tryd.underlying9 (fun j hj => by
    have : j = 0 ∨ j = 1 := by simp at hj; omega
    rcases this with rfl | rfl
    · have := cell_two_new w (.int .u8 (p : Int)) (.int .u8 (q : Int)) 5 0 _ rfl
      rw [this]
      simp only [List.getElem_cons_zero]
      rw [u8_of p h]
    · have := cell_two_new w (.int .u8 (p : Int)) (.int .u8 (q : Int)) 5 1 _ rfl
      rw [this]
      simp only [List.getElem_cons_succ, List.getElem_cons_zero]
      rw [u8_of q hq])

set_option maxHeartbeats 1000000 in
theorem latin_any (p : Nat) (w : World) (h : p < 256) :
    Calls Tryd.prog 50 #[.int .i64 p] w fun e w' => e = .returned (.string ⟨(latinL p).toArray⟩) ∧ Below w.heap.size w w' := by
  by_cases h1 : p < 128
  · have e : latinL p = [UInt8.ofNat p] := by unfold latinL; rw [if_pos h1]
    have E := Lib.hid e
    have f1 : decide ((p : Int) < 128) = true := by simp; omega
    have hcv := conv_one w p h
    clear e
    go_enter Tryd.func50, Tryd.ntmps50
    go_wp2
    go_ret
    exact ⟨by rw [E.out]; rfl, (Below.refl _ _).alloc (Nat.le_refl _) _⟩
  · have e : latinL p = [UInt8.ofNat (192 + p / 64), UInt8.ofNat (128 + p % 64)] := by unfold latinL; rw [if_neg h1]
    have E := Lib.hid e
    have f1 : decide ((p : Int) < 128) = false := by simp; omega
    have hcv := conv_two w (192 + p / 64) (128 + p % 64) (by omega) (by omega)
    have e1 : ((192 + p / 64 : Nat) : Int) = 192 + (p : Int) / 64 := by omega
    have e2 : ((128 + p % 64 : Nat) : Int) = 128 + (p : Int) % 64 := by omega
    rw [e1, e2] at hcv
    clear e e1 e2
    generalize UInt8.ofNat (192 + p / 64) = b0 at *
    generalize UInt8.ofNat (128 + p % 64) = b1 at *
    go_enter Tryd.func50, Tryd.ntmps50
    go_wp2
    go_ret
    exact ⟨by rw [E.out]; rfl, (Below.refl _ _).alloc (Nat.le_refl _) _⟩
end Go.Proofs.YtpockcolelfecaaDoor
