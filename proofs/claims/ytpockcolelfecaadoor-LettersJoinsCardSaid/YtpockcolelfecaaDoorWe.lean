/- The walk of classOf: the table of spans is gone through. -/
import Derived.Test.YtpockcolelfecaaDoorRows
import Derived.Test.YtpockcolelfecaaDoorPa
import Derived.Test.YtpockcolelfecaaDoorPb
import Derived.WalkKit
import Derived.WalkSpells
import Derived.WalkLawsBesides
import Derived.Lib.Hide
import Derived.Laws.Rows
set_option linter.unusedVariables false
set_option linter.unusedSimpArgs false
namespace Go.Proofs.YtpockcolelfecaaDoor
open Go.RowKit

/-- The cells of the table. -/
def spansC : Array Value := #[.int .i32 97, .int .i32 122, .int .i64 1, .int .i32 181, .int .i32 181, .int .i64 1, .int .i32 223, .int .i32 246, .int .i64 1, .int .i32 248, .int .i32 255, .int .i64 1, .int .i32 65, .int .i32 90, .int .i64 2, .int .i32 192, .int .i32 214, .int .i64 2, .int .i32 216, .int .i32 222, .int .i64 2, .int .i32 48, .int .i32 57, .int .i64 3, .int .i32 9, .int .i32 13, .int .i64 4, .int .i32 32, .int .i32 32, .int .i64 4, .int .i32 160, .int .i32 160, .int .i64 4, .int .i32 33, .int .i32 126, .int .i64 5]

def SpansAt (w : World) : Prop := ∃ t fr, w.heap[0]? = some (.cells spansC t fr)

theorem SpansAt.below {B : Nat} {w w' : World} (h : SpansAt w) (hb : Below B w w') (hB : 0 < B) : SpansAt w' := by
  obtain ⟨t, fr, h⟩ := h
  exact ⟨t, fr, (hb.block _ hB).trans h⟩

theorem idx_spans (k : Nat) (hk : k < 12) : ∀ w, (Instr.index 67 (.agg spansC) (.int .i64 k)).run Tryd.prog w = .ok (.agg #[.int .i32 (spLo k), .int .i32 (spHi k), .int .i64 (spCl k)]) w := by
  have : k = 0 ∨ k = 1 ∨ k = 2 ∨ k = 3 ∨ k = 4 ∨ k = 5 ∨ k = 6 ∨ k = 7 ∨ k = 8 ∨ k = 9 ∨ k = 10 ∨ k = 11 := by omega
  rcases this with rfl | rfl | rfl | rfl | rfl | rfl | rfl | rfl | rfl | rfl | rfl | rfl <;> (intro w; kernel_rfl)

set_option maxHeartbeats 1000000 in
theorem classOf_any (r : Int) (w : World) (hw : SpansAt w) (h0 : 0 < w.heap.size) :
    Calls Tryd.prog 36 #[.int .i32 r] w fun e w' => e = .returned (.int .i64 (cls r)) ∧ Below w.heap.size w w' := by
  obtain ⟨tt, fr, hg⟩ := hw
  obtain ⟨C, hC⟩ : ∃ C, cls r = C := ⟨_, rfl⟩
  have hC0 := hC
  unfold cls at hC0
  have HC := Lib.hid hC; have HC0 := Lib.hid hC0; clear hC hC0
  have hix := fun k hk => idx_spans k hk
  have HIX := Lib.hid hix; clear hix
  have hsz : spansC.size = 36 := rfl
  have HSZ := Lib.hid hsz; clear hsz
  generalize spansC = SC at *
  go_enter Tryd.func36, Tryd.ntmps36
  go_wp2_with (refine wpList_load_row rfl 67 _ rfl 0 rfl tt _ fr _ hg Tryd.underlying67 rfl (by rw [HSZ.out]; kernel_rfl) ?_)
  go_loopw [6] (fun v wr => ∃ (k f : Nat), k ≤ 12 ∧ f + k = 12 ∧ v = .int .i64 k ∧ clsFrom r f k = C ∧ Below w.heap.size w wr) (fun v _ => 12 - (intOf v).toNat)
  case atStart => exact ⟨0, 12, by omega, by omega, rfl, HC0.out, Below.refl _ _⟩
  case round =>
    obtain ⟨k, f, hk, hf, rfl, hcl, hb⟩ := hrel
    have HCL := Lib.hid hcl; clear hcl
    by_cases hlt : k < 12
    · have hix := HIX.out k hlt
      obtain ⟨f, rfl⟩ : ∃ f', f = f' + 1 := ⟨f - 1, by omega⟩
      have hit := clsFrom_hit r f k hlt
      have miss := clsFrom_miss r f k hlt
      have HIT := Lib.hid hit; have MISS := Lib.hid miss; clear hit miss
      generalize spLo k = lo at *
      generalize spHi k = hi at *
      generalize spCl k = cl at *
      by_cases h1 : lo ≤ r
      · by_cases h2 : r ≤ hi
        · have f1 : decide (lo ≤ r) = true := by simpa using h1
          have f2 : decide (r ≤ hi) = true := by simpa using h2
          go_wp2
          go_ret
          exact ⟨by rw [HC.out, ← HCL.out, HIT.out h1 h2]; rfl, hb.alloc hb.size _⟩
        · have f1 : decide (lo ≤ r) = true := by simpa using h1
          have f2 : decide (r ≤ hi) = false := by simpa using h2
          go_wp2
          go_roundw
          case rel => exact ⟨k + 1, f, by omega, by omega, by go_num, by rw [← HCL.out, MISS.out (by omega)], hb.alloc hb.size _⟩
          case measure => simp [intOf]; omega
      · have f1 : decide (lo ≤ r) = false := by simpa using h1
        go_wp2
        go_roundw
        case rel => exact ⟨k + 1, f, by omega, by omega, by go_num, by rw [← HCL.out, MISS.out (by omega)], hb.alloc hb.size _⟩
        case measure => simp [intOf]; omega
    · have e12 : k = 12 := by omega
      subst e12
      go_wp2
      go_ret
      exact ⟨by rw [HC.out, ← HCL.out, clsFrom_end r f 12 (by omega)]; rfl, hb⟩
end Go.Proofs.YtpockcolelfecaaDoor
