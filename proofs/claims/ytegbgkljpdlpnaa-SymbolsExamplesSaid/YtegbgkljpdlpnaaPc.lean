/- Plain Lean: the pieces of a string, as the reference finds them and as the model's decoder does. -/
import Derived.Test.YtegbgkljpdlpnaaPa
set_option linter.unusedVariables false
set_option linter.unusedSimpArgs false
namespace Go.Proofs.Ytegbgkljpdlpnaa

/-- How many bytes the piece at a place has. -/
def pw (s : ByteArray) (i : Nat) : Nat := max (ptN s i).2 1
def piecesFrom (s : ByteArray) : Nat → Nat → List ByteArray
  | 0, _ => []
  | f + 1, i => if i < s.size then s.extract i (i + pw s i) :: piecesFrom s f (i + pw s i) else []
def pieces (s : ByteArray) : List ByteArray := piecesFrom s s.size 0

theorem pw_pos (s : ByteArray) (i : Nat) : 1 ≤ pw s i := by unfold pw; omega
theorem pw_dec (s : ByteArray) (i : Nat) (h : i < s.size) : pw s i = (Utf8.decode s i).2 := by
  have hw := dec_within s i h
  unfold pw
  rw [ptN_dec s i h]
  cases hs : stray s i
  · simp; omega
  · unfold stray at hs
    have : Utf8.decode s i = (65533, 1) := by simpa using hs
    rw [this]; simp
theorem pw_within (s : ByteArray) (i : Nat) (h : i < s.size) : i + pw s i ≤ s.size := by rw [pw_dec s i h]; exact (dec_within s i h).2.1
theorem pw_le (s : ByteArray) (i : Nat) (h : i < s.size) : pw s i ≤ 4 := by rw [pw_dec s i h]; exact (dec_within s i h).2.2
theorem piecesFrom_end (s : ByteArray) (f i : Nat) (h : ¬ i < s.size) : piecesFrom s f i = [] := by cases f <;> simp [piecesFrom, h]
theorem piecesFrom_step (s : ByteArray) (f i : Nat) (h : i < s.size) : piecesFrom s (f + 1) i = s.extract i (i + pw s i) :: piecesFrom s f (i + pw s i) := by simp [piecesFrom, h]
end Go.Proofs.Ytegbgkljpdlpnaa
