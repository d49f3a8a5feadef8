/- The frame of the laws that take three texts in a struct. -/
import Derived.Test.YtkekljjjomnalaaGreatDoorFr
import Derived.Lib.SmallJoins
set_option linter.unusedVariables false
set_option linter.unusedSimpArgs false
namespace Go.Proofs.YtkekljjjomnalaaGreatDoor
open Go.ChangeShapes Go.WideShapes Go.ChangeAt Go.RowKit Go.Lib Go.Joins Go.Deep

section
variable {H : Type} {enc : TypeId × Value → H} {w : World} {base : Nat} {spare : Nat → Bool} {held : Bool}
set_option maxRecDepth 100000 in
theorem open_three {r : Reach} {b0 : Nat} {v : Value} {d : DataW H} {p : List MemPlace} (hv : Value.okWide Tryz.prog w r b0 34 v) (h : DataW.Trod enc Tryz.prog w base spare held 34 v d p) :
    ∃ a b c : ByteArray, v = .agg #[.string a, .string b, .string c] ∧ d = .agg [.lit (.string a.data.toList), .lit (.string b.data.toList), .lit (.string c.data.toList)] ∧ p = [] ∧ a.size ≤ maxLen ∧ b.size ≤ maxLen ∧ c.size ≤ maxLen := by
  obtain ⟨v0, v1, v2, y0, y1, y2, n, rfl, rfl, rfl, h0, h1, h2⟩ := open_agg3 Tryz.underlying34 (by kernel_rfl) (by kernel_rfl) hv h
  obtain ⟨a, ea, xa, sa⟩ := DataW.trod_string Tryz.underlying9 h0
  obtain ⟨b, eb, xb, sb⟩ := DataW.trod_string Tryz.underlying9 h1
  obtain ⟨c, ec, xc, sc⟩ := DataW.trod_string Tryz.underlying9 h2
  cases ea; cases eb; cases ec
  subst xa xb xc
  exact ⟨a, b, c, rfl, rfl, rfl, sa, sb, sc⟩
set_option maxRecDepth 100000 in
theorem shut_three {a b c : ByteArray} (ha : a.size ≤ maxLen) (hb : b.size ≤ maxLen) (hc : c.size ≤ maxLen) :
    DataW.Trod enc Tryz.prog w base spare held 34 (.agg #[.string a, .string b, .string c]) (.agg [.lit (.string a.data.toList), .lit (.string b.data.toList), .lit (.string c.data.toList)]) [] :=
  shut_agg3 (y0 := (.lit (.string a.data.toList), [])) (y1 := (.lit (.string b.data.toList), [])) (y2 := (.lit (.string c.data.toList), [])) Tryz.underlying34 (by kernel_rfl) (by kernel_rfl)
    ⟨1, by simp [DataW.trod, Tryz.underlying9, ha]⟩ ⟨1, by simp [DataW.trod, Tryz.underlying9, hb]⟩ ⟨1, by simp [DataW.trod, Tryz.underlying9, hc]⟩
end
end Go.Proofs.YtkekljjjomnalaaGreatDoor
