/- Plain Lean: texts that are alike but for the case of their letters are divided alike. -/
import Derived.Test.YtpchdggppkenkaaDoorPr
set_option linter.unusedVariables false
set_option linter.unusedSimpArgs false
namespace Go.Proofs.YtpchdggppkenkaaDoor

/-- Alike: the same bytes, but for bytes below 128, and for the second bytes behind 195. -/
def Alike (s t : ByteArray) : Prop := t.size = s.size ∧ ∀ j, gb t j = gb s j ∨ (gb s j < 128 ∧ gb t j < 128) ∨ ((128 ≤ gb s j ∧ gb s j < 192) ∧ (128 ≤ gb t j ∧ gb t j < 192) ∧ ∃ k, j = k + 1 ∧ gb s k = 195 ∧ gb t k = 195)

theorem alike_dec (s t : ByteArray) (h : Alike s t) (i : Nat) : stray t i = stray s i ∧ (Utf8.decode t i).2 = (Utf8.decode s i).2 := by
  obtain ⟨_, h⟩ := h
  have h0 : gb t i = gb s i ∨ (gb s i < 128 ∧ gb t i < 128) ∨ ((128 ≤ gb s i ∧ gb s i < 192) ∧ (128 ≤ gb t i ∧ gb t i < 192)) := by
    rcases h i with e | e | ⟨e, e', _⟩
    · exact Or.inl e
    · exact Or.inr (Or.inl e)
    · exact Or.inr (Or.inr ⟨e, e'⟩)
  have hn : ∀ j, gb t (j + 1) = gb s (j + 1) ∨ (gb s (j + 1) < 128 ∧ gb t (j + 1) < 128) ∨ ((128 ≤ gb s (j + 1) ∧ gb s (j + 1) < 192) ∧ (128 ≤ gb t (j + 1) ∧ gb t (j + 1) < 192) ∧ gb s j = 195 ∧ gb t j = 195) := by
    intro j
    rcases h (j + 1) with e | e | ⟨e, e', k, ek, e1, e2⟩
    · exact Or.inl e
    · exact Or.inr (Or.inl e)
    · have : k = j := by omega
      subst this
      exact Or.inr (Or.inr ⟨e, e', e1, e2⟩)
  have h1 := hn i
  have h2 := hn (i + 1)
  have h3 := hn (i + 2)
  clear h hn
  simp only [Nat.add_assoc, Nat.reduceAdd] at h2 h3
  have hs := decode_eq s i
  have ht := decode_eq t i
  rcases dec_cases s i with ⟨a0, e⟩ | ⟨a0, a1, c1, q1, e⟩ | ⟨a0, a1, c1, c2, q1, q2, e⟩ | ⟨a0, a1, c1, c2, c3, q1, q2, e⟩ | ⟨ns, e⟩
  · have f : Utf8.decode t i = (gb t i, 1) := by rw [ht, if_pos (by omega)]
    refine ⟨?_, by rw [e, f]⟩
    unfold stray; rw [e, f, Bool.eq_iff_iff]; simp; omega
  · have f : Utf8.decode t i = ((gb t i - 192) * 64 + gb t (i+1) - 128, 2) := by
      rw [ht, if_neg (by omega), if_pos ⟨by omega, by omega, by omega, by omega⟩]
    refine ⟨?_, by rw [e, f]⟩
    unfold stray; rw [e, f, Bool.eq_iff_iff]; simp
  · have f : Utf8.decode t i = ((gb t i - 224) * 4096 + (gb t (i+1) - 128) * 64 + gb t (i+2) - 128, 3) := by
      have g0 : gb t i = gb s i := by omega
      have g1 : gb t (i + 1) = gb s (i + 1) := by omega
      have g2 : gb t (i + 2) = gb s (i + 2) := by omega
      rw [ht, g0, g1, g2, if_neg (by omega), if_neg (by omega), if_pos ⟨by omega, by omega, c1, c2, q1, q2⟩]
    refine ⟨?_, by rw [e, f]⟩
    unfold stray; rw [e, f, Bool.eq_iff_iff]; simp
  · have f : Utf8.decode t i = ((gb t i - 240) * 262144 + (gb t (i+1) - 128) * 4096 + (gb t (i+2) - 128) * 64 + gb t (i+3) - 128, 4) := by
      have g0 : gb t i = gb s i := by omega
      have g1 : gb t (i + 1) = gb s (i + 1) := by omega
      have g2 : gb t (i + 2) = gb s (i + 2) := by omega
      have g3 : gb t (i + 3) = gb s (i + 3) := by omega
      rw [ht, g0, g1, g2, g3, if_neg (by omega), if_neg (by omega), if_neg (by omega), if_pos ⟨by omega, by omega, c1, c2, c3, q1, q2⟩]
    refine ⟨?_, by rw [e, f]⟩
    unfold stray; rw [e, f, Bool.eq_iff_iff]; simp
  · have f : Utf8.decode t i = (65533, 1) := by
      rcases dec_cases t i with ⟨b0, f⟩ | ⟨b0, b1, d1, r1, f⟩ | ⟨b0, b1, d1, d2, r1, r2, f⟩ | ⟨b0, b1, d1, d2, d3, r1, r2, f⟩ | ⟨nt, f⟩
      · exfalso; omega
      · exfalso
        rw [if_neg (by omega), if_pos ⟨by omega, by omega, by omega, by omega⟩, e] at hs
        simp at hs
      · exfalso
        have g0 : gb t i = gb s i := by omega
        have g1 : gb t (i + 1) = gb s (i + 1) := by omega
        have g2 : gb t (i + 2) = gb s (i + 2) := by omega
        rw [g0] at b0 b1 r1 r2; rw [g1] at d1 r1 r2; rw [g2] at d2 r1 r2
        rw [if_neg (by omega), if_neg (by omega), if_pos ⟨by omega, by omega, d1, d2, r1, r2⟩, e] at hs
        simp at hs
      · exfalso
        have g0 : gb t i = gb s i := by omega
        have g1 : gb t (i + 1) = gb s (i + 1) := by omega
        have g2 : gb t (i + 2) = gb s (i + 2) := by omega
        have g3 : gb t (i + 3) = gb s (i + 3) := by omega
        rw [g0] at b0 b1 r1 r2; rw [g1] at d1 r1 r2; rw [g2] at d2 r1 r2; rw [g3] at d3 r1 r2
        rw [if_neg (by omega), if_neg (by omega), if_neg (by omega), if_pos ⟨by omega, by omega, d1, d2, d3, r1, r2⟩, e] at hs
        simp at hs
      · exact f
    refine ⟨?_, by rw [e, f]⟩
    unfold stray; rw [e, f]
end Go.Proofs.YtpchdggppkenkaaDoor
