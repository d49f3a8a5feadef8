/- Plain Lean: how a quoted text is expanded. -/
import Derived.Test.YtpockcolelfecaaDoorPf
import Derived.Lib.Bytealg
set_option linter.unusedVariables false
set_option linter.unusedSimpArgs false
namespace Go.Proofs.YtpockcolelfecaaDoor

/-- The value of a hexadecimal digit, as strings.IndexByte finds it. -/
def hexV (c : Nat) : Int := Lib.indexByte hexL (UInt8.ofNat c)

/-- One step of expand: the byte that is written, and how far it goes. -/
def xStep (s : ByteArray) (i : Nat) : Option (UInt8 × Nat) :=
  if gb s i ≠ 37 then some (UInt8.ofNat (gb s i), 1)
  else if gb s (i + 1) = 120 then
    (if s.size < i + 4 then none
     else if hexV (gb s (i + 2)) < 0 ∨ hexV (gb s (i + 3)) < 0 then none
     else some (UInt8.ofNat (hexV (gb s (i + 2)) * 16 + hexV (gb s (i + 3))).toNat, 4))
  else if s.size < i + 2 then none
  else some (UInt8.ofNat (gb s (i + 1)), 2)
def xFrom (s : ByteArray) : Nat → Nat → Option (List UInt8)
  | 0, _ => some []
  | f + 1, i => if i < s.size then (match xStep s i with
      | none => none
      | some (b, n) => (xFrom s f (i + n)).map (b :: ·)) else some []
def expandL (s : ByteArray) : Option (List UInt8) := xFrom s s.size 0

theorem xFrom_end (s : ByteArray) (f i : Nat) (h : ¬ i < s.size) : xFrom s f i = some [] := by cases f <;> simp [xFrom, h]
theorem xFrom_some (s : ByteArray) (f i : Nat) (h : i < s.size) {b : UInt8} {n : Nat} (hx : xStep s i = some (b, n)) : xFrom s (f + 1) i = (xFrom s f (i + n)).map (b :: ·) := by simp [xFrom, h, hx]
theorem xFrom_none (s : ByteArray) (f i : Nat) (h : i < s.size) (hx : xStep s i = none) : xFrom s (f + 1) i = none := by simp [xFrom, h, hx]

theorem hexV_dig : ∀ c : Fin 256, hexV c.val = if 48 ≤ c.val ∧ c.val ≤ 57 then (c.val : Int) - 48 else if 97 ≤ c.val ∧ c.val ≤ 102 then (c.val : Int) - 87 else -1 := by decide +kernel
theorem hexV_range (c : Nat) (h : c < 256) : -1 ≤ hexV c ∧ hexV c < 16 := by
  have := hexV_dig ⟨c, h⟩
  simp only at this
  rw [this]
  split
  · omega
  · split <;> omega

theorem xStep_plain (s : ByteArray) (i : Nat) (h : gb s i ≠ 37) : xStep s i = some (UInt8.ofNat (gb s i), 1) := by unfold xStep; rw [if_pos h]
theorem xStep_short (s : ByteArray) (i : Nat) (h : gb s i = 37) (h1 : gb s (i+1) = 120) (h2 : s.size < i + 4) : xStep s i = none := by unfold xStep; rw [if_neg (by omega), if_pos h1, if_pos h2]
theorem xStep_nohex (s : ByteArray) (i : Nat) (h : gb s i = 37) (h1 : gb s (i+1) = 120) (h2 : ¬ s.size < i + 4) (h3 : hexV (gb s (i + 2)) < 0 ∨ hexV (gb s (i + 3)) < 0) : xStep s i = none := by unfold xStep; rw [if_neg (by omega), if_pos h1, if_neg h2, if_pos h3]
theorem xStep_hex (s : ByteArray) (i : Nat) (h : gb s i = 37) (h1 : gb s (i+1) = 120) (h2 : ¬ s.size < i + 4) (h3 : ¬ (hexV (gb s (i + 2)) < 0 ∨ hexV (gb s (i + 3)) < 0)) : xStep s i = some (UInt8.ofNat (hexV (gb s (i + 2)) * 16 + hexV (gb s (i + 3))).toNat, 4) := by unfold xStep; rw [if_neg (by omega), if_pos h1, if_neg h2, if_neg h3]
theorem xStep_end (s : ByteArray) (i : Nat) (h : gb s i = 37) (h1 : gb s (i+1) ≠ 120) (h2 : s.size < i + 2) : xStep s i = none := by unfold xStep; rw [if_neg (by omega), if_neg h1, if_pos h2]
theorem xStep_two (s : ByteArray) (i : Nat) (h : gb s i = 37) (h1 : gb s (i+1) ≠ 120) (h2 : ¬ s.size < i + 2) : xStep s i = some (UInt8.ofNat (gb s (i+1)), 2) := by unfold xStep; rw [if_neg (by omega), if_neg h1, if_neg h2]

theorem prefix_x (t : ByteArray) : Lib.hasPrefix t.data.toList [37, 120] = decide (gb t 0 = 37 ∧ gb t 1 = 120) := by
  rw [gb_list t 0, gb_list t 1]
  generalize t.data.toList = l
  unfold Lib.hasPrefix
  have a0 : ∀ x : UInt8, x = 37 ↔ x.toNat = 37 := fun x => ⟨fun h => by rw [h]; rfl, fun h => UInt8.toNat_inj.1 h⟩
  have a1 : ∀ x : UInt8, x = 120 ↔ x.toNat = 120 := fun x => ⟨fun h => by rw [h]; rfl, fun h => UInt8.toNat_inj.1 h⟩
  rw [Bool.eq_iff_iff]
  match l with
  | [] => simp
  | [x] => simp
  | x :: y :: r =>
    simp only [List.isPrefixOf, List.getD_cons_zero, List.getD_cons_succ, Bool.and_true, Bool.and_eq_true, beq_iff_eq, decide_eq_true_eq]
    rw [← a0, ← a1]
    constructor
    · rintro ⟨rfl, rfl⟩; exact ⟨rfl, rfl⟩
    · rintro ⟨rfl, rfl⟩; exact ⟨rfl, rfl⟩
end Go.Proofs.YtpockcolelfecaaDoor
