/- Literal forms of nat's values. -/
import Derived.Test.YtkekljjjomnalaaGreatDoorWo
set_option linter.unusedVariables false
set_option linter.unusedSimpArgs false
namespace Go.Proofs.YtkekljjjomnalaaGreatDoor
open Go.RowKit
open Go.Lib (nDigits)

theorem dec_lit (s : ByteArray) (n : Nat) (h : numB s = true) (hv : nv s = n) : decS n = s := by rw [← hv]; exact (num_is s h).1.symm
theorem addV_lit (a b c : ByteArray) (ha : numB a = true) (hb : numB b = true) (hc : numB c = true) (h : nv c = nv a + nv b) : addV a b = .tuple #[.string c, .int .i64 0] := by
  unfold addV limV
  rw [ha, hb, ← h]
  simp only [Bool.and_self, if_true]
  rw [if_pos (num_is c hc).2, ← (num_is c hc).1]
theorem mulV_lit (a b c : ByteArray) (ha : numB a = true) (hb : numB b = true) (hc : numB c = true) (h : nv c = nv a * nv b) : mulV a b = .tuple #[.string c, .int .i64 0] := by
  unfold mulV limV
  rw [ha, hb, ← h]
  simp only [Bool.and_self, if_true]
  rw [if_pos (num_is c hc).2, ← (num_is c hc).1]
theorem divV_lit (a b q r : ByteArray) (ha : numB a = true) (hb : numB b = true) (hq : numB q = true) (hr : numB r = true) (h0 : nv b ≠ 0) (h1 : nv q = nv a / nv b) (h2 : nv r = nv a % nv b) : divV a b = .tuple #[.string q, .string r, .int .i64 0] := by
  unfold divV
  rw [ha, hb, ← h1, ← h2]
  simp only [Bool.and_self, if_true]
  rw [if_neg h0, ← (num_is q hq).1, ← (num_is r hr).1]
theorem gcdV_lit (a b c : ByteArray) (ha : numB a = true) (hb : numB b = true) (hc : numB c = true) (h : nv c = Nat.gcd (nv a) (nv b)) : gcdV a b = .tuple #[.string c, .int .i64 0] := by
  unfold gcdV
  rw [ha, hb, ← h]
  simp only [Bool.and_self, if_true]
  rw [← (num_is c hc).1]
theorem subV_lt (a b : ByteArray) (ha : numB a = true) (hb : numB b = true) (h : nv a < nv b) : subV a b = .tuple #[.string ⟨#[]⟩, .int .i64 4] := by
  unfold subV
  rw [ha, hb]
  simp only [Bool.and_self, if_true]
  rw [if_pos h]
theorem lit_eq (l : List UInt8) : ((ByteArray.mk l.toArray).toList == l) = true := by
  rw [Lib.toList_data]; simp
end Go.Proofs.YtkekljjjomnalaaGreatDoor
