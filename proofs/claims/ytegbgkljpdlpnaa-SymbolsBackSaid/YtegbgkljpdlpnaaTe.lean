/- The program's first, by contract. -/
import Derived.Test.YtegbgkljpdlpnaaTc
import Derived.Test.YtegbgkljpdlpnaaTd
import Derived.Deep.QuietTactic
import Derived.BigQuiet
set_option linter.unusedVariables false
set_option linter.unusedSimpArgs false
namespace Go.Proofs.Ytegbgkljpdlpnaa
open Go.RowKit

theorem grown_drewN (a : World) (r : Option Nat) (n : Nat) : a.grownBy (a.drewN n) r := ⟨rfl, rfl, rfl, Nat.le_refl _, fun _ _ _ => rfl⟩
theorem below_drewN2 {B : Nat} {a w : World} (h : Below B a w) (n : Nat) : Below B a (w.drewN n) := ⟨h.os, h.tape, h.output, h.size, h.block⟩

set_option maxHeartbeats 4000000 in
theorem first_any (L : List ByteArray) (r : ByteArray) (b : Nat) (w : World) (hm : IsMapOf w b L) (hw : wide L ≤ 40) :
    Calls Try.prog 42 #[tabV b L, .string r] w fun e w' => e = .returned (.tuple #[.int .i64 ((bst L r).1 : Int), .int .i64 ((bst L r).2 : Int)]) ∧ Below w.heap.size w w' := by
  obtain ⟨M, hM⟩ : ∃ M, min (wide L) r.size = M := ⟨_, rfl⟩
  have hM1 : min (wide L : Int) (r.size : Int) = (M : Int) := by omega
  have hMr : M ≤ r.size := by omega
  have hM40 : M ≤ 40 := by omega
  have hbst : scan L r (M - 0) = bst L r := by unfold bst; rw [hM]; rfl
  have HB := Lib.hid hbst
  clear hbst hM
  have hb0 : Below w.heap.size w (w.alloc (.cells #[.map (some b), .int .i64 (wide L : Int)] 48)) := (Below.refl _ _).alloc (Nat.le_refl _) _
  have ht : TabAt (w.alloc (.cells #[.map (some b), .int .i64 (wide L : Int)] 48)) w.heap.size (.map (some b)) (wide L : Int) := by
    unfold TabAt
    show (w.heap.push _)[w.heap.size]? = _
    rw [Array.getElem?_push_size]
  have hm0 := hm.below hb0 hm.lt
  unfold tabV
  go_enter Try.func42, Try.ntmps42
  go_wp2
  generalize hW : w.alloc (.cells #[.map (some b), .int .i64 (wide L : Int)] 48) = W at *
  clear hW
  go_loopw [16] (fun i wr => ∃ j : Nat, i = .int .i64 j ∧ j ≤ M ∧ scan L r (M - j) = bst L r ∧ ∃ n, wr = W.drewN n) (fun i _ => M - (intOf i).toNat)
  case atStart => exact ⟨0, rfl, by omega, HB.out, 0, rfl⟩
  case round =>
    obtain ⟨j, rfl, hj, hsc, n, rfl⟩ := hrel
    by_cases hlt : j < M
    · obtain ⟨m, hmj⟩ : ∃ m, M - j = m + 1 := ⟨M - j - 1, by omega⟩
      have n1 : IntKind.i64.wrap ((M : Int) - (j : Int)) = ((m + 1 : Nat) : Int) := by rw [IntKind.wrap_i64]; omega
      have n2 : IntKind.i64.wrap ((j : Int) + 1) = (j : Int) + 1 := by rw [IntKind.wrap_i64]; omega
      have n3 : (j : Int) < (M : Int) := by omega
      have hmr : m + 1 ≤ r.size := by omega
      obtain ⟨c0, c1, f0, f1⟩ := ht.cells
      rw [hmj] at hsc
      have hs40 : (r.extract 0 (m + 1)).size ≤ maxLen := by rw [ByteArray.size_extract]; unfold maxLen; omega
      have hlk := fun k => IsMapOf.look_ok (w := W.drewN k) (hm0.kept (grown_drewN W none k) (by simp)) hs40
      obtain ⟨q, hq⟩ : ∃ q, m + 1 = q := ⟨_, rfl⟩
      have hj1 : M - (j + 1) = m := by omega
      have hsc2 := hsc
      unfold scan at hsc2
      rw [hq] at hsc2 n1 hmr hlk hs40
      by_cases hmem : r.extract 0 q ∈ L
      · rw [show decide (r.extract 0 q ∈ L) = true by simpa using hmem] at hlk
        rw [if_pos hmem] at hsc2
        have HS := Lib.hid hsc2
        clear hsc hsc2 hmem HB hm0 ht
        go_wp2
        go_quiet (fail)
        go_wp2
        go_ret2
        refine ⟨?_, below_drewN2 (below_drewN2 hb0 _) _⟩
        rw [← HS.out]; rfl
      · rw [show decide (r.extract 0 q ∈ L) = false by simpa using hmem] at hlk
        rw [if_neg hmem] at hsc2
        have HS := Lib.hid hsc2
        clear hsc hsc2 hmem HB hm0 ht
        go_wp2
        go_quiet (fail)
        go_wp2
        go_roundw
        case rel => exact ⟨j + 1, by go_num, by omega, by rw [hj1]; exact HS.out, _, rfl⟩
        case measure => simp [intOf]; omega
    · have hend : M - j = 0 := by omega
      rw [hend] at hsc
      have hz : bst L r = (0, 0) := by rw [← hsc]; rfl
      have HZ := Lib.hid hz
      have n3 : ¬ (j : Int) < (M : Int) := by omega
      clear hsc hend hz HB
      go_wp2
      go_ret2
      refine ⟨?_, below_drewN2 hb0 _⟩
      rw [HZ.out]; rfl
end Go.Proofs.Ytegbgkljpdlpnaa
