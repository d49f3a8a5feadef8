/- Plain Lean: changing the case twice; the pieces of a changed text. -/
import Derived.Test.YtpchdggppkenkaaDoorPu
set_option linter.unusedVariables false
set_option linter.unusedSimpArgs false
namespace Go.Proofs.YtpchdggppkenkaaDoor

/-- The changed text. -/
def chT (tr : Int → Int) (s : ByteArray) : ByteArray := ⟨(chS tr s).toArray⟩
theorem chT_size (tr : Int → Int) (hT : IsTr tr) (s : ByteArray) : (chT tr s).size = s.size := (alike_ch tr hT s).1
theorem chT_stray (tr : Int → Int) (hT : IsTr tr) (s : ByteArray) (i : Nat) : stray (chT tr s) i = stray s i := (alike_dec s _ (alike_ch tr hT s) i).1
theorem chT_pw (tr : Int → Int) (hT : IsTr tr) (s : ByteArray) (i : Nat) (h : i < s.size) : pw (chT tr s) i = pw s i := by
  rw [pw_dec _ i (by rw [chT_size tr hT s]; exact h), pw_dec s i h]
  exact (alike_dec s _ (alike_ch tr hT s) i).2
theorem chT_gb (tr : Int → Int) (hT : IsTr tr) (s : ByteArray) (f pos : Nat) (h : pos < s.size) (hc : Cut tr s (f + 1) pos) (k : Nat) (hk : k < pw s pos) : gb (chT tr s) (pos + k) = ((chUnit tr s pos).getD k 0).toNat := cut_gb tr hT s f pos h hc k hk
theorem chT_same (tr : Int → Int) (hT : IsTr tr) (s : ByteArray) (f pos : Nat) (h : pos < s.size) (hc : Cut tr s (f + 1) pos) (hs : stray s pos = false) (he : tr ((Utf8.decode s pos).1 : Int) = ((Utf8.decode s pos).1 : Int)) (k : Nat) (hk : k < pw s pos) : gb (chT tr s) (pos + k) = gb s (pos + k) := by
  have hu : chUnit tr s pos = (piece s pos).data.toList := by
    unfold chUnit; rw [hs, ← piece_enc s pos h hs]
    show Lib.encodeRune (tr _) = _
    rw [he]
  rw [chT_gb tr hT s f pos h hc k hk, hu, ← gb_list, piece_gb s pos k h hk]
theorem chT_dec (tr : Int → Int) (hT : IsTr tr) (s : ByteArray) (f pos : Nat) (h : pos < s.size) (hc : Cut tr s (f + 1) pos) (hs : stray s pos = false) : ((Utf8.decode (chT tr s) pos).1 : Int) = tr ((Utf8.decode s pos).1 : Int) := by
  have hg := chT_gb tr hT s f pos h hc
  rcases unit_ways tr hT s pos h hs with ⟨e0, e⟩ | ⟨e1, e2, x, hx, e3, e⟩ | ⟨e1, e2, e3, x, hx1, hx2, e4, e⟩
  · rw [e0, dec_local s (chT tr s) pos pos hs (fun k hk => chT_same tr hT s f pos h hc hs e0 k (by rw [pw_dec s pos h]; exact hk))]
  · have h0 := hg 0 (by omega)
    rw [e] at h0
    simp only [List.getD_cons_zero, u8_of x (by omega), Nat.add_zero] at h0
    rw [e3, decode_eq, h0, if_pos hx]
  · have h0 := hg 0 (by omega)
    have h1 := hg 1 (by omega)
    rw [e] at h0 h1
    simp only [List.getD_cons_zero, List.getD_cons_succ, u8_of (x - 64) (by omega), Nat.add_zero] at h0 h1
    have h0' : gb (chT tr s) pos = 195 := h0
    rw [e4, decode_eq, h0', h1, if_neg (by omega), if_pos ⟨by omega, by omega, by omega, by omega⟩]
    simp only
    omega
theorem chT_get (tr : Int → Int) (hT : IsTr tr) (s : ByteArray) (f pos : Nat) (h : pos < s.size) (hc : Cut tr s (f + 1) pos) (hs : stray s pos = true) : (chT tr s).get! pos = s.get! pos := by
  have hg := chT_gb tr hT s f pos h hc 0 (pw_pos s pos)
  unfold chUnit at hg
  rw [hs] at hg
  simp only [if_true, List.getD_cons_zero, Nat.add_zero] at hg
  rw [get_gb _ pos (by rw [chT_size tr hT s]; exact h), hg, UInt8.ofNat_toNat]

theorem twice_from (tr tr2 tr3 : Int → Int) (hT : IsTr tr) (hc : ∀ r : Nat, tr2 (tr r) = tr3 r) (s : ByteArray) : ∀ f pos, Cut tr s f pos → s.size ≤ pos + f → chFrom tr2 (chT tr s) f pos = chFrom tr3 s f pos
  | 0, pos, _, _ => rfl
  | f + 1, pos, hcut, h2 => by
    by_cases h : pos < s.size
    · have h' : pos < (chT tr s).size := by rw [chT_size tr hT s]; exact h
      have hp := pw_pos s pos
      rw [chFrom_step _ _ _ _ h', chFrom_step _ _ _ _ h, chT_pw tr hT s pos h, twice_from tr tr2 tr3 hT hc s f _ (cut_next tr hT s f pos h hcut) (by omega)]
      congr 1
      unfold chUnit
      rw [chT_stray tr hT s pos]
      cases hs : stray s pos
      · show Lib.encodeRune (tr2 _) = Lib.encodeRune (tr3 _)
        rw [chT_dec tr hT s f pos h hcut hs, hc]
      · show [(chT tr s).get! pos] = [s.get! pos]
        rw [chT_get tr hT s f pos h hcut hs]
    · rw [chFrom_end _ _ _ _ h, chFrom_end _ _ _ _ (by rw [chT_size tr hT s]; exact h)]
theorem twice (tr tr2 tr3 : Int → Int) (hT : IsTr tr) (hc : ∀ r : Nat, tr2 (tr r) = tr3 r) (s : ByteArray) : chS tr2 (chT tr s) = chS tr3 s := by
  show chFrom tr2 (chT tr s) (chT tr s).size 0 = _
  rw [chT_size tr hT s]
  exact twice_from tr tr2 tr3 hT hc s s.size 0 (cut_zero tr s) (by omega)
theorem cls_two_iff (r : Int) : cls r = 2 ↔ ((65 ≤ r ∧ r ≤ 90) ∨ (192 ≤ r ∧ r ≤ 214) ∨ (216 ≤ r ∧ r ≤ 222)) := by
  constructor
  · intro h
    rw [cls_eq] at h
    repeat' split at h
    all_goals first | omega | (simp at h)
  · intro h
    rw [cls_eq, if_neg (by omega), if_pos h]
theorem lowR_if (r : Int) : lowR r = if (65 ≤ r ∧ r ≤ 90) ∨ (192 ≤ r ∧ r ≤ 214) ∨ (216 ≤ r ∧ r ≤ 222) then r + 32 else r := by
  unfold lowR; simp only [cls_two_iff]
theorem upR_if (r : Int) : upR r = if (65 ≤ r - 32 ∧ r - 32 ≤ 90) ∨ (192 ≤ r - 32 ∧ r - 32 ≤ 214) ∨ (216 ≤ r - 32 ∧ r - 32 ≤ 222) then r - 32 else r := by
  unfold upR; simp only [cls_two_iff]
theorem low_up (r : Nat) : lowR (upR r) = lowR r := by
  rw [upR_if]
  split
  · rw [lowR_if, lowR_if, if_pos (by omega), if_neg (by omega)]; omega
  · rfl
theorem up_low (r : Nat) : upR (lowR r) = upR r := by
  rw [lowR_if]
  split
  · rw [upR_if, upR_if, if_pos (by omega), if_neg (by omega)]; omega
  · rfl

theorem bad_ch (tr : Int → Int) (hT : IsTr tr) (s : ByteArray) : ∀ f i, badFrom (chT tr s) f i = badFrom s f i
  | 0, i => rfl
  | f + 1, i => by
    by_cases h : i < s.size
    · have h' : i < (chT tr s).size := by rw [chT_size tr hT s]; exact h
      cases hs : stray s i
      · rw [badFrom_miss s f i h hs, badFrom_miss _ f i h' (by rw [chT_stray tr hT s i]; exact hs), chT_pw tr hT s i h, bad_ch tr hT s f]
      · rw [badFrom_hit s f i h hs, badFrom_hit _ f i h' (by rw [chT_stray tr hT s i]; exact hs)]
    · rw [badFrom_end s _ i h, badFrom_end _ _ i (by rw [chT_size tr hT s]; exact h)]
theorem len_ch (tr : Int → Int) (hT : IsTr tr) (s : ByteArray) : ∀ f i, (piecesFrom (chT tr s) f i).length = (piecesFrom s f i).length
  | 0, i => rfl
  | f + 1, i => by
    by_cases h : i < s.size
    · have h' : i < (chT tr s).size := by rw [chT_size tr hT s]; exact h
      rw [piecesFrom_step _ f i h', piecesFrom_step s f i h, List.length_cons, List.length_cons, chT_pw tr hT s i h, len_ch tr hT s f]
    · rw [piecesFrom_end s _ i h, piecesFrom_end _ _ i (by rw [chT_size tr hT s]; exact h)]
theorem piece_same (tr : Int → Int) (hT : IsTr tr) (s : ByteArray) (f pos : Nat) (h : pos < s.size) (hc : Cut tr s (f + 1) pos) (hs : stray s pos = false) (he : tr ((Utf8.decode s pos).1 : Int) = ((Utf8.decode s pos).1 : Int)) : piece (chT tr s) pos = piece s pos := by
  have h' : pos < (chT tr s).size := by rw [chT_size tr hT s]; exact h
  have hz := piece_size s pos h
  have hz2 := piece_size _ pos h'
  rw [chT_pw tr hT s pos h] at hz2
  apply ByteArray.ext; apply Array.ext'
  apply List.ext_getElem
  · rw [len_list, len_list, hz, hz2]
  · intro k h1 h2
    rw [len_list, hz2] at h1
    apply UInt8.toNat_inj.1
    have e1 := piece_gb _ pos k h' (by rw [chT_pw tr hT s pos h]; exact h1)
    have e2 := piece_gb s pos k h h1
    rw [chT_same tr hT s f pos h hc hs he k h1, ← e2, gb_list, gb_list, List.getD_eq_getElem?_getD, List.getD_eq_getElem?_getD, List.getElem?_eq_getElem (by rw [len_list, hz2]; exact h1), List.getElem?_eq_getElem h2] at e1
    exact e1
theorem cls_ch (tr : Int → Int) (hT : IsTr tr) (s : ByteArray) (f pos : Nat) (h : pos < s.size) (hc : Cut tr s (f + 1) pos) (hs : stray s pos = false) : clsD (piece (chT tr s) pos) = cls (tr ((Utf8.decode s pos).1 : Int)) := by
  rw [clsD_letter _ pos (by rw [chT_size tr hT s]; exact h) (by rw [chT_stray tr hT s pos]; exact hs), chT_dec tr hT s f pos h hc hs]
theorem low_cls (r : Int) (h : cls r = 1 ∨ cls r = 2) : cls (lowR r) = 1 := by
  unfold lowR
  split
  · rename_i g
    rw [cls_eq] at g ⊢
    repeat' split at g
    all_goals first | (rw [if_pos (by omega)]) | (simp at g)
  · rename_i g; exact h.resolve_right g
theorem up_cls (r : Int) (h : cls r = 1 ∨ cls r = 2) : cls (upR r) = 1 ∨ cls (upR r) = 2 := by
  unfold upR
  split
  · rename_i g; exact Or.inr g
  · exact h
theorem low_id (r : Int) (h : cls r ≠ 2) : lowR r = r := by unfold lowR; rw [if_neg h]
theorem up_id (r : Int) (h : cls r ≠ 1) : upR r = r := by
  unfold upR
  rw [if_neg]
  intro g
  exact h ((up_iff r).1 g).1
end Go.Proofs.YtpchdggppkenkaaDoor
