/- Plain Lean: the change of a text, rune by rune. -/
import Derived.Test.YtpockcolelfecaaDoorPb
import Derived.Test.YtpockcolelfecaaDoorPd
import Derived.Lib.RuneBytes
set_option linter.unusedVariables false
set_option linter.unusedSimpArgs false
namespace Go.Proofs.YtpockcolelfecaaDoor

def lowR (r : Int) : Int := if cls r = 2 then r + 32 else r
def upR (r : Int) : Int := if cls (r - 32) = 2 then r - 32 else r

/-- The bytes that change writes for the piece at a place. -/
def chUnit (tr : Int → Int) (s : ByteArray) (i : Nat) : List UInt8 := if stray s i then [s.get! i] else Lib.encodeRune (tr ((Utf8.decode s i).1 : Int))
def chFrom (tr : Int → Int) (s : ByteArray) : Nat → Nat → List UInt8
  | 0, _ => []
  | f + 1, i => if i < s.size then chUnit tr s i ++ chFrom tr s f (i + pw s i) else []
def chS (tr : Int → Int) (s : ByteArray) : List UInt8 := chFrom tr s s.size 0

theorem chFrom_end (tr : Int → Int) (s : ByteArray) (f i : Nat) (h : ¬ i < s.size) : chFrom tr s f i = [] := by cases f <;> simp [chFrom, h]
theorem chFrom_step (tr : Int → Int) (s : ByteArray) (f i : Nat) (h : i < s.size) : chFrom tr s (f + 1) i = chUnit tr s i ++ chFrom tr s f (i + pw s i) := by simp [chFrom, h]
theorem chUnit_le (tr : Int → Int) (s : ByteArray) (i : Nat) : (chUnit tr s i).length ≤ 4 := by
  unfold chUnit
  split
  · simp
  · have := Lib.runeCells_le (tr ((Utf8.decode s i).1 : Int)); rw [Lib.runeCells_length] at this; exact this.2

theorem cls_two {r : Int} (h : cls r = 2) : 65 ≤ r ∧ r ≤ 222 := by
  rw [cls_eq] at h
  repeat' split at h
  all_goals first | omega | (simp at h)
theorem lowR_range {r : Int} (h0 : 0 ≤ r) (h1 : r ≤ 2147483647) : 0 ≤ lowR r ∧ lowR r ≤ 2147483647 := by
  unfold lowR
  split
  · have := cls_two ‹_›; omega
  · omega
theorem upR_range {r : Int} (h0 : 0 ≤ r) (h1 : r ≤ 2147483647) : 0 ≤ upR r ∧ upR r ≤ 2147483647 := by
  unfold upR
  split
  · have := cls_two ‹_›; omega
  · omega
end Go.Proofs.YtpockcolelfecaaDoor
