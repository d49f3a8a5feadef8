/- A map from names to symbols. -/
import Derived.Test.YtegbgkljpdlpnaaTa
import Derived.Test.YtegbgkljpdlpnaaRd
import Derived.Maps.OwnSet
import Derived.StringKeys
import Derived.WalkArith
set_option linter.unusedVariables false
set_option linter.unusedSimpArgs false
namespace Go.Proofs.Ytegbgkljpdlpnaa
open Go.RowKit Go.Maps

theorem keyLaw : Keyed Try.prog 9 := string_keyed Try.underlying9
theorem zeroInt (w : World) : (zeroValue 3).run Try.prog w = .ok (.int .i64 0) w := by kernel_rfl
theorem makeMap_hint (n : Int) (w : World) : (Instr.makeMap 46 (some (.int .i64 n))).run Try.prog w = .ok (.map (some w.heap.size)) (w.alloc (.map #[] 0)) := by
  simp only [Instr.makeMap, Sem.run_bind, run_underlying Try.underlying46, Result.andThen]
  rfl
def lit (s : ByteArray) : Lit := .string s.data.toList
theorem lit_inj {s t : ByteArray} (h : lit s = lit t) : s = t := by
  unfold lit at h
  injection h with h
  exact ByteArray.ext (Array.toList_inj.1 h)
theorem lit_key (s : ByteArray) : WideAt.IsKeyLit (lit s) := trivial
theorem lit_of {s : ByteArray} (h : s.size ≤ maxLen) : keyOf Try.prog 9 (.string s) = some (lit s) := WideMaps.keyOf_string_mk Try.underlying9 h

/-- Block b is a map that gives each name of L its symbol. -/
structure MapIs (w : World) (b : Nat) (L : List ByteArray) (D : DataW Unit) : Prop where
  owns : w.ownsMap Try.prog 9 (plainElem Try.prog 3) b L.length D
  at_ : ∀ s, D.atKey (lit s) (.lit (.int .i64 0)) = .lit (.int .i64 (pos L s : Int))
  has_ : ∀ s, Maps.has D (lit s) = decide (s ∈ L)
def IsMapOf (w : World) (b : Nat) (L : List ByteArray) : Prop := ∃ D, MapIs w b L D
theorem IsMapOf.made (w : World) : IsMapOf (w.alloc (.map #[] 0)) w.heap.size [] := ⟨.map [], ⟨World.ownsMap_made w _ _ _, fun s => rfl, fun s => rfl⟩⟩
theorem IsMapOf.kept {w w' : World} {b : Nat} {L : List ByteArray} {row : Option Nat} (h : IsMapOf w b L) (hg : w.grownBy w' row) (hne : some b ≠ row) : IsMapOf w' b L := by
  obtain ⟨D, h1, h2, h3⟩ := h
  exact ⟨D, h1.kept hg hne, h2, h3⟩
theorem IsMapOf.lt {w : World} {b : Nat} {L : List ByteArray} (h : IsMapOf w b L) : b < w.heap.size := by
  obtain ⟨D, h1, h2, h3⟩ := h
  exact h1.lt
theorem IsMapOf.below {w w' : World} {b B : Nat} {L : List ByteArray} (h : IsMapOf w b L) (hb : Below B w w') (hlt : b < B) : IsMapOf w' b L := by
  obtain ⟨D, ⟨es, clock, h1, h2⟩, h3, h4⟩ := h
  exact ⟨D, ⟨es, clock, (hb.block b hlt).trans h1, h2⟩, h3, h4⟩
theorem IsMapOf.setCell {w : World} {b : Nat} {L : List ByteArray} (h : IsMapOf w b L) {a : Addr} (ha : b ≠ a.block) (u : Value) : IsMapOf (w.setCell a u) b L := by
  obtain ⟨D, h1, h2, h3⟩ := h
  exact ⟨D, h1.setCell ha u, h2, h3⟩
/-- m[k] -/
theorem IsMapOf.look {w : World} {b : Nat} {L : List ByteArray} (h : IsMapOf w b L) {s : ByteArray} (hs : s.size ≤ maxLen) :
    (Instr.lookup 46 (.map (some b)) (.string s) false).run Try.prog w = .ok (.int .i64 (pos L s : Int)) w := by
  obtain ⟨D, h1, h2, h3⟩ := h
  obtain ⟨c, hrun, hat, _⟩ := h1.lookup_int keyLaw Try.underlying46 Try.underlying3 (zeroInt _) (lit_of hs)
  rw [h2 s] at hat
  injection hat with hat
  injection hat with _ hat
  rw [hrun, hat]
/-- v, ok := m[k] -/
theorem IsMapOf.look_ok {w : World} {b : Nat} {L : List ByteArray} (h : IsMapOf w b L) {s : ByteArray} (hs : s.size ≤ maxLen) :
    (Instr.lookup 46 (.map (some b)) (.string s) true).run Try.prog w = .ok (.tuple #[.int .i64 (pos L s : Int), .bool (decide (s ∈ L))]) w := by
  obtain ⟨D, h1, h2, h3⟩ := h
  obtain ⟨v, ps, hrun, hv⟩ := h1.look_ok keyLaw Try.underlying46 (zeroInt _) (plainElem_int Try.underlying3 (by decide)) (lit_of hs)
  obtain ⟨c, rfl, hc, _⟩ := plainElem_int_inv Try.underlying3 hv
  rw [h2 s] at hc
  have hc := congrArg Prod.fst hc
  injection hc with hc
  injection hc with _ hc
  rw [hrun, h3 s, hc]
theorem look_nil_ok {s : ByteArray} (hs : s.size ≤ maxLen) (w : World) :
    (Instr.lookup 46 (.map none) (.string s) true).run Try.prog w = .ok (.tuple #[.int .i64 0, .bool false]) w :=
  Maps.look_nil true keyLaw Try.underlying46 (zeroInt _) (lit_of hs)
/-- m[k] = v, at a name that is new. -/
theorem IsMapOf.store {w : World} {b : Nat} {L : List ByteArray} (h : IsMapOf w b L) {s : ByteArray} (hs : s.size ≤ maxLen) (hn : s ∉ L) (hl : L.length < maxLen) {z : Int} (hz : z = ((L.length + 1 : Nat) : Int)) :
    ∃ w', (Instr.mapUpdate 46 (.map (some b)) (.string s) (.int .i64 z)).run Try.prog w = .ok () w' ∧ IsMapOf w' b (L ++ [s]) ∧ w.grownBy w' (some b) := by
  subst hz
  obtain ⟨D, h1, h2, h3⟩ := h
  have hw : (Lit.int .i64 ((L.length + 1 : Nat) : Int)).wf = true := by
    unfold maxLen at hl
    exact WalkArith.wf_i64 (by omega)
  obtain ⟨w', hrun, hown, hg⟩ := h1.update keyLaw Try.underlying46 hl (lit_of hs) (plainElem_int Try.underlying3 hw)
  have hD : IsMap D := h1.isMap
  refine ⟨w', hrun, ⟨_, ⟨by rw [List.length_append]; exact hown, fun t => ?_, fun t => ?_⟩⟩, hg⟩
  · by_cases ht : t = s
    · subst ht
      rw [atKey_put_same hD (lit_key t), pos_snoc_same hn]
    · rw [atKey_put_other (fun e => ht (lit_inj e)), h2 t, pos_snoc_other ht]
  · by_cases ht : t = s
    · subst ht
      rw [has_put_same hD (lit_key t)]; simp
    · rw [has_put_other (fun e => ht (lit_inj e)), h3 t]; simp [ht]
end Go.Proofs.Ytegbgkljpdlpnaa
