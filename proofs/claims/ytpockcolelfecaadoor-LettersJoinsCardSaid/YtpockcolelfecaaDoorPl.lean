/- Plain Lean: how many pieces there are. -/
import Derived.Test.YtpockcolelfecaaDoorPk
set_option linter.unusedVariables false
set_option linter.unusedSimpArgs false
namespace Go.Proofs.YtpockcolelfecaaDoor

theorem piecesFrom_len (s : ByteArray) : ∀ f i, (piecesFrom s f i).length ≤ f
  | 0, i => by simp [piecesFrom]
  | f + 1, i => by
    unfold piecesFrom
    split
    · have := piecesFrom_len s f (i + pw s i)
      simp; omega
    · simp
theorem pieces_len (s : ByteArray) : (pieces s).length ≤ s.size := piecesFrom_len s _ _
theorem splitL_len (s : ByteArray) : (splitL s).1.length ≤ s.size := by
  unfold splitL
  split
  · simp
  · unfold splitOf
    split
    · simp
    · exact pieces_len s
end Go.Proofs.YtpockcolelfecaaDoor
