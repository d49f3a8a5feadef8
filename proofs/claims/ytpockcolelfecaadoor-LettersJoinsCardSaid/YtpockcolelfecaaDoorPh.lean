/- Plain Lean: what Unquote returns. -/
import Derived.Test.YtpockcolelfecaaDoorPg
set_option linter.unusedVariables false
set_option linter.unusedSimpArgs false
namespace Go.Proofs.YtpockcolelfecaaDoor

theorem xFrom_len (s : ByteArray) : ∀ (f i : Nat) (l : List UInt8), xFrom s f i = some l → l.length ≤ f
  | 0, i, l, h => by simp [xFrom] at h; subst h; simp
  | f + 1, i, l, h => by
    unfold xFrom at h
    split at h
    · split at h
      · cases h
      · rename_i b n hx
        cases hr : xFrom s f (i + n) with
        | none => rw [hr] at h; cases h
        | some r =>
          rw [hr] at h
          simp at h
          subst h
          have := xFrom_len s f (i + n) r hr
          simp; omega
    · simp at h; subst h; simp
theorem expandL_len (s : ByteArray) (l : List UInt8) (h : expandL s = some l) : l.length ≤ s.size := xFrom_len s _ _ _ h

/-- What Unquote returns, if anything. -/
def unqL (s : ByteArray) : Option (List UInt8) :=
  if s.data.toList = [37, 48] then some [] else match expandL s with
    | none => none
    | some l => if quoteL ⟨l.toArray⟩ = s.data.toList then some l else none
theorem unqL_zero (s : ByteArray) (h : s.data.toList = [37, 48]) : unqL s = some [] := by unfold unqL; rw [if_pos h]
theorem unqL_none (s : ByteArray) (h : s.data.toList ≠ [37, 48]) (h2 : expandL s = none) : unqL s = none := by unfold unqL; rw [if_neg h, h2]
theorem unqL_some (s : ByteArray) (l : List UInt8) (h : s.data.toList ≠ [37, 48]) (h2 : expandL s = some l) (h3 : quoteL ⟨l.toArray⟩ = s.data.toList) : unqL s = some l := by unfold unqL; rw [if_neg h, h2]; exact if_pos h3
theorem unqL_other (s : ByteArray) (l : List UInt8) (h : s.data.toList ≠ [37, 48]) (h2 : expandL s = some l) (h3 : quoteL ⟨l.toArray⟩ ≠ s.data.toList) : unqL s = none := by unfold unqL; rw [if_neg h, h2]; exact if_neg h3
end Go.Proofs.YtpockcolelfecaaDoor
