/- Plain Lean: how a name is quoted. -/
import Derived.Test.YtpockcolelfecaaDoorPe
set_option linter.unusedVariables false
set_option linter.unusedSimpArgs false
namespace Go.Proofs.YtpockcolelfecaaDoor

def hexL : List UInt8 := [48, 49, 50, 51, 52, 53, 54, 55, 56, 57, 97, 98, 99, 100, 101, 102]
def hexD (n : Nat) : UInt8 := hexL.getD n 0
def ctlR (r : Int) : Bool := decide (r < 32 ∨ r = 127)
/-- What Quote writes for the piece at a place. -/
def qUnit (s : ByteArray) (i : Nat) : List UInt8 :=
  if stray s i || ctlR ((Utf8.decode s i).1 : Int) then [37, 120, hexD (gb s i / 16), hexD (gb s i % 16)]
  else if cls ((Utf8.decode s i).1 : Int) = 4 ∨ cls ((Utf8.decode s i).1 : Int) = 5 then 37 :: Lib.encodeRune ((Utf8.decode s i).1 : Int)
  else Lib.encodeRune ((Utf8.decode s i).1 : Int)
def qFrom (s : ByteArray) : Nat → Nat → List UInt8
  | 0, _ => []
  | f + 1, i => if i < s.size then qUnit s i ++ qFrom s f (i + pw s i) else []
def quoteL (s : ByteArray) : List UInt8 := if s.size = 0 then [37, 48] else qFrom s s.size 0

theorem qFrom_end (s : ByteArray) (f i : Nat) (h : ¬ i < s.size) : qFrom s f i = [] := by cases f <;> simp [qFrom, h]
theorem qFrom_step (s : ByteArray) (f i : Nat) (h : i < s.size) : qFrom s (f + 1) i = qUnit s i ++ qFrom s f (i + pw s i) := by simp [qFrom, h]
theorem enc_len (r : Int) : (Lib.encodeRune r).length ≤ 4 := by have := Lib.runeCells_le r; rw [Lib.runeCells_length] at this; exact this.2
theorem qUnit_le (s : ByteArray) (i : Nat) : (qUnit s i).length ≤ 5 := by
  have := enc_len ((Utf8.decode s i).1 : Int)
  unfold qUnit
  split
  · simp
  · split
    · simp; omega
    · omega
theorem qUnit_hex (s : ByteArray) (i : Nat) (h : stray s i || ctlR ((Utf8.decode s i).1 : Int)) : qUnit s i = [37, 120, hexD (gb s i / 16), hexD (gb s i % 16)] := by unfold qUnit; rw [if_pos h]
theorem qUnit_mark (s : ByteArray) (i : Nat) (h1 : stray s i = false) (h2 : ctlR ((Utf8.decode s i).1 : Int) = false) (h : cls ((Utf8.decode s i).1 : Int) = 4 ∨ cls ((Utf8.decode s i).1 : Int) = 5) : qUnit s i = 37 :: Lib.encodeRune ((Utf8.decode s i).1 : Int) := by
  unfold qUnit; rw [h1, h2, if_neg (by simp), if_pos h]
theorem qUnit_plain (s : ByteArray) (i : Nat) (h1 : stray s i = false) (h2 : ctlR ((Utf8.decode s i).1 : Int) = false) (h : ¬ (cls ((Utf8.decode s i).1 : Int) = 4 ∨ cls ((Utf8.decode s i).1 : Int) = 5)) : qUnit s i = Lib.encodeRune ((Utf8.decode s i).1 : Int) := by
  unfold qUnit; rw [h1, h2, if_neg (by simp), if_neg h]
end Go.Proofs.YtpockcolelfecaaDoor
