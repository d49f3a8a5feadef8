/- Plain Lean: pieces by themselves; the program's Valid is the reference's; the reference's division. -/
import Derived.Test.YtegbgkljpdlpnaaPd
import Derived.Test.YtegbgkljpdlpnaaPb
import Derived.Lib.ValidLaws
import Derived.Lib.RuneCount
import Derived.Shelf.Unicode.DecodeSlow
set_option linter.unusedVariables false
set_option linter.unusedSimpArgs false
namespace Go.Proofs.Ytegbgkljpdlpnaa

theorem dec_local (s t : ByteArray) (i j : Nat) (hs : stray s i = false) (h : ∀ k, k < (Utf8.decode s i).2 → gb t (j + k) = gb s (i + k)) : Utf8.decode t j = Utf8.decode s i := by
  have hd := decode_eq t j
  rcases dec_cases s i with ⟨h0, e⟩ | ⟨a0, a1, c1, q, e⟩ | ⟨a0, a1, c1, c2, q, q2, e⟩ | ⟨a0, a1, c1, c2, c3, q, q2, e⟩ | ⟨_, e⟩
  · rw [e] at h ⊢
    have g0 := h 0 (by simp)
    simp only [Nat.add_zero] at g0
    rw [hd, g0, if_pos h0]
  · rw [e] at h ⊢
    have g0 := h 0 (by simp); have g1 := h 1 (by simp)
    simp only [Nat.add_zero] at g0
    rw [hd, g0, g1, if_neg (by omega), if_pos ⟨a0, a1, c1, q⟩]
  · rw [e] at h ⊢
    have g0 := h 0 (by simp); have g1 := h 1 (by simp); have g2 := h 2 (by simp)
    simp only [Nat.add_zero] at g0
    rw [hd, g0, g1, g2, if_neg (by omega), if_neg (by omega), if_pos ⟨a0, a1, c1, c2, q, q2⟩]
  · rw [e] at h ⊢
    have g0 := h 0 (by simp); have g1 := h 1 (by simp); have g2 := h 2 (by simp); have g3 := h 3 (by simp)
    simp only [Nat.add_zero] at g0
    rw [hd, g0, g1, g2, g3, if_neg (by omega), if_neg (by omega), if_neg (by omega), if_pos ⟨a0, a1, c1, c2, c3, q, q2⟩]
  · unfold stray at hs; rw [e] at hs; simp at hs

theorem stray_iff (s : ByteArray) (i : Nat) : stray s i = true ↔ Utf8.decode s i = (65533, 1) := by unfold stray; simp
theorem stray_high (s : ByteArray) (i : Nat) (h : stray s i = true) : 128 ≤ gb s i := by
  rw [stray_iff] at h
  rcases dec_cases s i with ⟨h0, e⟩ | ⟨a0, _⟩ | ⟨a0, _⟩ | ⟨a0, _⟩ | ⟨a0, _⟩
  · rw [e] at h; simp at h; omega
  all_goals omega

/-- A piece. -/
def piece (s : ByteArray) (i : Nat) : ByteArray := s.extract i (i + pw s i)
theorem piece_size (s : ByteArray) (i : Nat) (h : i < s.size) : (piece s i).size = pw s i := by
  have := pw_within s i h
  unfold piece; rw [ByteArray.size_extract]; omega
theorem piece_gb (s : ByteArray) (i k : Nat) (h : i < s.size) (hk : k < pw s i) : gb (piece s i) k = gb s (i + k) := by
  have := pw_within s i h
  unfold piece; rw [gb_extract _ _ _ _ this, if_pos (by omega)]
theorem piece_dec (s : ByteArray) (i : Nat) (h : i < s.size) (hs : stray s i = false) : Utf8.decode (piece s i) 0 = Utf8.decode s i :=
  dec_local s (piece s i) i 0 hs (fun k hk => by rw [Nat.zero_add]; exact piece_gb s i k h (by rw [pw_dec s i h]; exact hk))
theorem single_stray (p : ByteArray) (h1 : p.size = 1) (h : 128 ≤ gb p 0) : Utf8.decode p 0 = (65533, 1) := by
  have g1 : gb p 1 = 0 := gb_out p 1 (by omega)
  rcases dec_cases p 0 with ⟨h0, e⟩ | ⟨_, _, c1, _⟩ | ⟨_, _, c1, _⟩ | ⟨_, _, c1, _⟩ | ⟨_, e⟩
  · omega
  · simp only [Nat.zero_add] at c1; omega
  · simp only [Nat.zero_add] at c1; omega
  · simp only [Nat.zero_add] at c1; omega
  · exact e
theorem pw_stray (s : ByteArray) (i : Nat) (h : i < s.size) (hs : stray s i = true) : pw s i = 1 := by
  rw [pw_dec s i h, (stray_iff s i).1 hs]
theorem piece_stray (s : ByteArray) (i : Nat) (h : i < s.size) (hs : stray s i = true) : Utf8.decode (piece s i) 0 = (65533, 1) := by
  have hp := pw_stray s i h hs
  apply single_stray
  · rw [piece_size s i h, hp]
  · rw [piece_gb s i 0 h (by omega)]; exact stray_high s i hs

/-- The reference's Valid, in words of the decoder. -/
def vrD (s : ByteArray) : Bool := decide (0 < (ptN s 0).2 ∧ (ptN s 0).2 = s.size)
theorem vrD_eq (s : ByteArray) : vrD s = (decide (0 < s.size ∧ (Utf8.decode s 0).2 = s.size) && !stray s 0) := by
  unfold vrD
  by_cases h : 0 < s.size
  · rw [ptN_dec s 0 h]
    have hw := dec_within s 0 h
    rw [Bool.eq_iff_iff]
    cases hs : stray s 0
    · simp; omega
    · simp
  · have e : ptN s 0 = (0, 0) := by unfold ptN; rw [if_pos h]
    rw [e, Bool.eq_iff_iff]; simp; omega
theorem vrD_piece (s : ByteArray) (i : Nat) (h : i < s.size) : vrD (piece s i) = !stray s i := by
  rw [vrD_eq, piece_size s i h]
  have hp := pw_pos s i
  cases hs : stray s i
  · rw [piece_dec s i h hs]
    have hs2 : stray (piece s i) 0 = false := by
      unfold stray at hs ⊢; rw [piece_dec s i h (by unfold stray; exact hs)]; exact hs
    rw [hs2, pw_dec s i h, Bool.eq_iff_iff]
    have := (dec_within s i h).1
    simp; omega
  · have hs2 : stray (piece s i) 0 = true := (stray_iff _ _).2 (piece_stray s i h hs)
    rw [hs2]; simp

theorem count_step (s : ByteArray) (f i : Nat) (h : i < s.size) : Lib.runeCountFrom s (f + 1) i = 1 + Lib.runeCountFrom s f (i + (Utf8.decode s i).2) := by
  show (if i < s.size then _ else _) = _
  rw [if_pos h]
theorem count_one (s : ByteArray) (h : 0 < s.size) : Lib.runeCount s = 1 ↔ (Utf8.decode s 0).2 = s.size := by
  have hw := dec_within s 0 h
  have e0 : Lib.runeCount s = 1 + Lib.runeCountFrom s (s.size - 1) (0 + (Utf8.decode s 0).2) := by
    unfold Lib.runeCount
    rw [← count_step s (s.size - 1) 0 h]
    congr 1; omega
  rw [e0, Nat.zero_add]
  by_cases e : (Utf8.decode s 0).2 < s.size
  · have e1 := count_step s (s.size - 2) _ e
    have e2 : s.size - 2 + 1 = s.size - 1 := by omega
    rw [e2] at e1
    rw [e1]
    constructor
    · intro h; omega
    · intro h; omega
  · rw [Lib.runeCountFrom_end _ _ _ e]
    constructor
    · intro _; omega
    · intro _; rfl
theorem decodeL_zero (s : ByteArray) : Lib.decodeL s.data.toList = Utf8.decode s 0 := by unfold Lib.decodeL; rfl
/-- The program's Valid. -/
def validD2 (s : ByteArray) : Bool := Lib.validD s.data.toList && decide (Lib.runeCount s = 1)
theorem validD2_eq (s : ByteArray) : validD2 s = vrD s := by
  rw [vrD_eq]
  unfold validD2
  by_cases h : 0 < s.size
  · have hne : s.data.toList ≠ [] := by
      intro e
      have h2 := len_list s
      rw [e, List.length_nil] at h2; omega
    have hst := Lib.validD_step s.data.toList hne
    rw [decodeL_zero] at hst
    have hc := count_one s h
    rw [Bool.eq_iff_iff]
    simp only [Bool.and_eq_true, decide_eq_true_eq, Bool.not_eq_true']
    rw [hc]
    constructor
    · rintro ⟨hv, hw⟩
      refine ⟨⟨h, hw⟩, ?_⟩
      cases hs : stray s 0
      · rfl
      · rw [(stray_iff s 0).1 hs] at hst
        simp at hst
        rw [hst] at hv; cases hv
    · rintro ⟨⟨_, hw⟩, hs⟩
      refine ⟨?_, hw⟩
      have hn : ¬ ((Utf8.decode s 0).1 = 65533 ∧ (Utf8.decode s 0).2 = 1) := by
        rintro ⟨e1, e2⟩
        have : stray s 0 = true := (stray_iff s 0).2 (Prod.ext e1 e2)
        rw [hs] at this; cases this
      rw [if_neg hn, List.drop_of_length_le (by rw [len_list]; omega)] at hst
      rw [hst]; exact Lib.validD_nil
  · have e : Lib.runeCount s = 0 := by
      unfold Lib.runeCount
      rw [Lib.runeCountFrom_end _ _ _ h]
    rw [e, Bool.eq_iff_iff]; simp; omega

/-- The classes agree, of any string. -/
theorem cls_same (s : ByteArray) : (if validD2 s then cls ((Lib.decodeGo s).1 : Int) else 0) = (if vrD s then cls ((ptN s 0).1 : Int) else 0) := by
  rw [validD2_eq]
  by_cases hv : vrD s = true
  · rw [if_pos hv, if_pos hv]
    rw [vrD_eq] at hv
    simp only [Bool.and_eq_true, decide_eq_true_eq, Bool.not_eq_true'] at hv
    obtain ⟨⟨h, _⟩, hs⟩ := hv
    have e : Lib.decodeGo s = Utf8.decode s 0 := by unfold Lib.decodeGo; rw [if_neg (by omega)]
    rw [e, ptN_dec s 0 h, hs]; rfl
  · rw [if_neg hv, if_neg hv]

/-- How the reference finds the first piece that is no letter. -/
def refBad : List ByteArray → Nat → Option Nat
  | [], _ => none
  | p :: r, n => if vrD p then refBad r (n + p.size) else some n
theorem refBad_from (s : ByteArray) : ∀ f i, refBad (piecesFrom s f i) i = badFrom s f i
  | 0, i => rfl
  | f + 1, i => by
    by_cases h : i < s.size
    · rw [piecesFrom_step s f i h]
      show (if vrD (piece s i) then refBad _ (i + (piece s i).size) else some i) = _
      rw [vrD_piece s i h, piece_size s i h]
      cases hs : stray s i
      · rw [badFrom_miss s f i h hs]; exact refBad_from s f _
      · rw [badFrom_hit s f i h hs]; rfl
    · rw [piecesFrom_end s _ i h, badFrom_end s _ i h]; rfl
theorem refBad_eq (s : ByteArray) : refBad (pieces s) 0 = bad s := refBad_from s _ _
end Go.Proofs.Ytegbgkljpdlpnaa
