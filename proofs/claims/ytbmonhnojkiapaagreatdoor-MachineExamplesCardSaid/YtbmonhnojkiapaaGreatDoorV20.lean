/- The reference's Valid of a machine. · The reference's Valid of a machine, whole. -/
import Derived.Test.YtbmonhnojkiapaaGreatDoorV19
set_option linter.unusedVariables false
set_option linter.unusedSimpArgs false
namespace Go.Proofs.YtbmonhnojkiapaaGreatDoor
open Go.RowKit

end Go.Proofs.YtbmonhnojkiapaaGreatDoor
set_option linter.unusedVariables false
set_option linter.unusedSimpArgs false
namespace Go.Proofs.YtbmonhnojkiapaaGreatDoor
open Go.RowKit

theorem arc_new (w : World) (a : MArc) : ArcAt (w.alloc (.cells #[.int .i64 a.i, .int .i64 a.o, .string a.w, .int .i64 a.t] 35)) ⟨w.heap.size, 0, none⟩ a := by
  have hrow : (w.alloc (.cells #[.int .i64 a.i, .int .i64 a.o, .string a.w, .int .i64 a.t] 35)).heap[w.heap.size]? = some (.cells #[.int .i64 a.i, .int .i64 a.o, .string a.w, .int .i64 a.t] 35 (0, 0)) := by
    show (w.heap.push _)[w.heap.size]? = _
    rw [Array.getElem?_push_size]
  exact ⟨by rw [cell_of_row _ w.heap.size 0 _ _ (0, 0) hrow]; rfl, by show World.cell? _ ⟨w.heap.size, 0 + 1, none⟩ = _; rw [cell_of_row _ w.heap.size 1 _ _ (0, 0) hrow]; rfl, by show World.cell? _ ⟨w.heap.size, 0 + 2, none⟩ = _; rw [cell_of_row _ w.heap.size 2 _ _ (0, 0) hrow]; rfl, by show World.cell? _ ⟨w.heap.size, 0 + 3, none⟩ = _; rw [cell_of_row _ w.heap.size 3 _ _ (0, 0) hrow]; rfl⟩
end Go.Proofs.YtbmonhnojkiapaaGreatDoor
