/- Plain Lean: what a change of case does to the pieces of a text. -/
import Derived.Test.YtpchdggppkenkaaDoorPt
import Derived.Test.YtpchdggppkenkaaDoorPn
set_option linter.unusedVariables false
set_option linter.unusedSimpArgs false
namespace Go.Proofs.YtpchdggppkenkaaDoor

/-- A change that keeps letters of one byte and letters of two bytes behind 195 among themselves. -/
def IsTr (tr : Int → Int) : Prop := ∀ r : Nat, tr r = r ∨ (r < 128 ∧ 0 ≤ tr r ∧ tr r < 128) ∨ (192 ≤ r ∧ r < 256 ∧ 192 ≤ tr r ∧ tr r < 256)
theorem low_tr : IsTr lowR := by
  intro r
  unfold lowR
  split
  · rename_i h
    rw [cls_eq] at h
    repeat' split at h
    all_goals first | omega | (simp at h)
  · exact Or.inl rfl
theorem up_tr : IsTr upR := by
  intro r
  unfold upR
  split
  · rename_i h
    rw [cls_eq] at h
    repeat' split at h
    all_goals first | omega | (simp at h)
  · exact Or.inl rfl

theorem unit_ways (tr : Int → Int) (hT : IsTr tr) (s : ByteArray) (i : Nat) (h : i < s.size) (hs : stray s i = false) :
    (tr ((Utf8.decode s i).1 : Int) = ((Utf8.decode s i).1 : Int) ∧ chUnit tr s i = (piece s i).data.toList) ∨
    (gb s i < 128 ∧ pw s i = 1 ∧ ∃ x, x < 128 ∧ tr ((Utf8.decode s i).1 : Int) = ((x : Nat) : Int) ∧ chUnit tr s i = [UInt8.ofNat x]) ∨
    (gb s i = 195 ∧ pw s i = 2 ∧ (128 ≤ gb s (i + 1) ∧ gb s (i + 1) < 192) ∧ ∃ x, 192 ≤ x ∧ x < 256 ∧ tr ((Utf8.decode s i).1 : Int) = ((x : Nat) : Int) ∧ chUnit tr s i = [195, UInt8.ofNat (x - 64)]) := by
  have hu : chUnit tr s i = Lib.encodeRune (tr ((Utf8.decode s i).1 : Int)) := by unfold chUnit; rw [hs]; rfl
  have hp := pw_dec s i h
  rw [hu]
  rcases hT (Utf8.decode s i).1 with e | ⟨e1, e2, e3⟩ | ⟨e1, e2, e3, e4⟩
  · left; exact ⟨e, by rw [e]; exact piece_enc s i h hs⟩
  · right; left
    obtain ⟨x, hx⟩ : ∃ x : Nat, tr ((Utf8.decode s i).1 : Int) = (x : Int) := ⟨(tr ((Utf8.decode s i).1 : Int)).toNat, by omega⟩
    have hx2 : x < 128 := by omega
    refine ⟨?_, ?_, x, hx2, hx, ?_⟩
    · rcases dec_cases s i with ⟨a0, e⟩ | ⟨a0, a1, c1, q1, e⟩ | ⟨a0, a1, c1, c2, q1, q2, e⟩ | ⟨a0, a1, c1, c2, c3, q1, q2, e⟩ | ⟨ns, e⟩ <;> rw [e] at e1 <;> simp only at e1 <;> omega
    · rw [hp]
      rcases dec_cases s i with ⟨a0, e⟩ | ⟨a0, a1, c1, q1, e⟩ | ⟨a0, a1, c1, c2, q1, q2, e⟩ | ⟨a0, a1, c1, c2, c3, q1, q2, e⟩ | ⟨ns, e⟩ <;> rw [e] at e1 ⊢ <;> simp only at e1 ⊢ <;> omega
    · rw [hx, latin_enc x (by omega)]; unfold latinL2; rw [if_pos hx2]
  · right; right
    obtain ⟨x, hx⟩ : ∃ x : Nat, tr ((Utf8.decode s i).1 : Int) = (x : Int) := ⟨(tr ((Utf8.decode s i).1 : Int)).toNat, by omega⟩
    have hx2 : 192 ≤ x ∧ x < 256 := by omega
    have hd : gb s i = 195 ∧ (Utf8.decode s i).2 = 2 ∧ 128 ≤ gb s (i + 1) ∧ gb s (i + 1) < 192 := by
      rcases dec_cases s i with ⟨a0, e⟩ | ⟨a0, a1, c1, q1, e⟩ | ⟨a0, a1, c1, c2, q1, q2, e⟩ | ⟨a0, a1, c1, c2, c3, q1, q2, e⟩ | ⟨ns, e⟩ <;> (have p1 := congrArg Prod.fst e; have p2 := congrArg Prod.snd e; dsimp only at p1 p2; omega)
    refine ⟨hd.1, by rw [hp]; exact hd.2.1, hd.2.2, x, hx2.1, hx2.2, hx, ?_⟩
    rw [hx, latin_enc x hx2.2]
    unfold latinL2
    rw [if_neg (by omega), show 192 + x / 64 = 195 by omega, show 128 + x % 64 = x - 64 by omega]; rfl

theorem unit_len (tr : Int → Int) (hT : IsTr tr) (s : ByteArray) (i : Nat) (h : i < s.size) : (chUnit tr s i).length = pw s i := by
  cases hs : stray s i
  · rcases unit_ways tr hT s i h hs with ⟨_, e⟩ | ⟨_, e2, x, _, _, e⟩ | ⟨_, e2, _, x, _, _, _, e⟩
    · rw [e, len_list, piece_size s i h]
    · rw [e, e2]; rfl
    · rw [e, e2]; rfl
  · rw [pw_stray s i h hs]; unfold chUnit; rw [hs]; rfl

/-- The changed text, cut at a place where a piece begins. -/
def Cut (tr : Int → Int) (s : ByteArray) (f pos : Nat) : Prop := ∃ pre, chS tr s = pre ++ chFrom tr s f pos ∧ pre.length = pos
theorem cut_zero (tr : Int → Int) (s : ByteArray) : Cut tr s s.size 0 := ⟨[], rfl, rfl⟩
theorem cut_next (tr : Int → Int) (hT : IsTr tr) (s : ByteArray) (f pos : Nat) (h : pos < s.size) (hc : Cut tr s (f + 1) pos) : Cut tr s f (pos + pw s pos) := by
  obtain ⟨pre, e, hl⟩ := hc
  rw [chFrom_step tr s f pos h, ← List.append_assoc] at e
  exact ⟨_, e, by rw [List.length_append, unit_len tr hT s pos h, hl]⟩
theorem cut_gb (tr : Int → Int) (hT : IsTr tr) (s : ByteArray) (f pos : Nat) (h : pos < s.size) (hc : Cut tr s (f + 1) pos) (k : Nat) (hk : k < pw s pos) : gb ⟨(chS tr s).toArray⟩ (pos + k) = ((chUnit tr s pos).getD k 0).toNat := by
  obtain ⟨pre, e, rfl⟩ := hc
  rw [chFrom_step tr s f _ h] at e
  exact gb_app ⟨(chS tr s).toArray⟩ pre _ _ e k (by rw [unit_len tr hT s _ h]; exact hk)

theorem from_len (tr : Int → Int) (hT : IsTr tr) (s : ByteArray) : ∀ f i, i ≤ s.size → s.size ≤ i + f → (chFrom tr s f i).length = s.size - i
  | 0, i, h1, h2 => by show 0 = _; omega
  | f + 1, i, h1, h2 => by
    by_cases h : i < s.size
    · have hw := pw_within s i h
      have hp := pw_pos s i
      rw [chFrom_step tr s f i h, List.length_append, unit_len tr hT s i h, from_len tr hT s f (i + pw s i) hw (by omega)]
      omega
    · rw [chFrom_end tr s _ i h]; simp; omega
theorem chS_size (tr : Int → Int) (hT : IsTr tr) (s : ByteArray) : (chS tr s).length = s.size := by
  have := from_len tr hT s s.size 0 (by omega) (by omega)
  exact this

def AlikeAt (s t : ByteArray) (j : Nat) : Prop := gb t j = gb s j ∨ (gb s j < 128 ∧ gb t j < 128) ∨ ((128 ≤ gb s j ∧ gb s j < 192) ∧ (128 ≤ gb t j ∧ gb t j < 192) ∧ ∃ k, j = k + 1 ∧ gb s k = 195 ∧ gb t k = 195)
theorem alike_unit (tr : Int → Int) (hT : IsTr tr) (s : ByteArray) (f pos : Nat) (h : pos < s.size) (hc : Cut tr s (f + 1) pos) (k : Nat) (hk : k < pw s pos) : AlikeAt s ⟨(chS tr s).toArray⟩ (pos + k) := by
  have hg := cut_gb tr hT s f pos h hc
  cases hs : stray s pos
  · rcases unit_ways tr hT s pos h hs with ⟨_, e⟩ | ⟨e1, e2, x, hx, _, e⟩ | ⟨e1, e2, e3, x, hx1, hx2, _, e⟩
    · left
      rw [hg k hk, e, ← gb_list, piece_gb s pos k h hk]
    · right; left
      have : k = 0 := by omega
      subst this
      have h0 := hg 0 hk
      rw [e] at h0
      simp only [List.getD_cons_zero, u8_of x (by omega)] at h0
      rw [h0]; exact ⟨e1, hx⟩
    · have h0 := hg 0 (by omega)
      have h1 := hg 1 (by omega)
      rw [e] at h0 h1
      simp only [List.getD_cons_zero, List.getD_cons_succ, u8_of (x - 64) (by omega)] at h0 h1
      have : k = 0 ∨ k = 1 := by omega
      rcases this with rfl | rfl
      · left; rw [h0, Nat.add_zero, e1]; rfl
      · right; right
        refine ⟨e3, by rw [h1]; omega, pos, rfl, e1, by rw [Nat.add_zero] at h0; rw [h0]; rfl⟩
  · left
    have : k = 0 := by rw [pw_stray s pos h hs] at hk; omega
    subst this
    have h0 := hg 0 hk
    unfold chUnit at h0
    rw [hs] at h0
    simp only [if_true, List.getD_cons_zero] at h0
    rw [h0, get_gb s pos h, u8_of _ (gb_lt s pos), Nat.add_zero]
theorem alike_from (tr : Int → Int) (hT : IsTr tr) (s : ByteArray) : ∀ f pos, Cut tr s f pos → pos ≤ s.size → s.size ≤ pos + f → ∀ j, pos ≤ j → AlikeAt s ⟨(chS tr s).toArray⟩ j
  | f, pos, hc, h1, h2, j, hj => by
    by_cases h : pos < s.size
    · match f, h2, hc with
      | 0, h2, hc => omega
      | f + 1, h2, hc =>
        have hp := pw_pos s pos
        by_cases hk : j < pos + pw s pos
        · have := alike_unit tr hT s f pos h hc (j - pos) (by omega)
          rw [show pos + (j - pos) = j by omega] at this
          exact this
        · exact alike_from tr hT s f (pos + pw s pos) (cut_next tr hT s f pos h hc) (pw_within s pos h) (by omega) j (by omega)
    · left
      rw [gb_out s j (by omega), gb_out _ j (by show ¬ j < (chS tr s).toArray.size; rw [List.size_toArray, chS_size tr hT s]; omega)]
  termination_by f => f
theorem alike_ch (tr : Int → Int) (hT : IsTr tr) (s : ByteArray) : Alike s ⟨(chS tr s).toArray⟩ :=
  ⟨by show (chS tr s).toArray.size = _; rw [List.size_toArray, chS_size tr hT s], fun j => alike_from tr hT s s.size 0 (cut_zero tr s) (by omega) (by omega) j (by omega)⟩
end Go.Proofs.YtpchdggppkenkaaDoor
