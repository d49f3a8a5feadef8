/- Plain Lean: a text that is a row of letters has them as its pieces; the units of a quoted name. -/
import Derived.Test.YtpockcolelfecaaDoorPo
import Derived.Test.YtpockcolelfecaaDoorPq
set_option linter.unusedVariables false
set_option linter.unusedSimpArgs false
namespace Go.Proofs.YtpockcolelfecaaDoor

/-- A letter: a piece, of some text, that is no stray byte. -/
def IsLetter (p : ByteArray) : Prop := ∃ s i, i < s.size ∧ stray s i = false ∧ p = piece s i
theorem ascii_letter (b : UInt8) (h : b.toNat < 128) : IsLetter ⟨[b].toArray⟩ := by
  have hz : (⟨[b].toArray⟩ : ByteArray).size = 1 := rfl
  have hg : gb ⟨[b].toArray⟩ 0 = b.toNat := by rw [gb_list]; rfl
  have hs : stray ⟨[b].toArray⟩ 0 = false := by
    cases e : stray ⟨[b].toArray⟩ 0
    · rfl
    · have := stray_high _ _ e; omega
  refine ⟨⟨[b].toArray⟩, 0, by omega, hs, ?_⟩
  rcases piece_bytes ⟨[b].toArray⟩ 0 (by omega) hs with ⟨e, _⟩ | ⟨_, _, e⟩
  · apply ByteArray.ext; apply Array.ext'
    rw [e, get_gb _ 0 (by omega), hg]; simp
  · have := pw_within ⟨[b].toArray⟩ 0 (by omega); omega
theorem letter_pos {p : ByteArray} (h : IsLetter p) : 0 < p.size := by
  obtain ⟨s, i, hi, hs, rfl⟩ := h
  rw [piece_size s i hi]; exact pw_pos s i
theorem letter_le {p : ByteArray} (h : IsLetter p) : p.size ≤ 4 := by
  obtain ⟨s, i, hi, hs, rfl⟩ := h
  rw [piece_size s i hi]; exact pw_le s i hi

theorem gb_app (t : ByteArray) (pre P post : List UInt8) (ht : t.data.toList = pre ++ (P ++ post)) (k : Nat) (hk : k < P.length) : gb t (pre.length + k) = (P.getD k 0).toNat := by
  rw [gb_list, ht, List.getD_eq_getElem?_getD, List.getElem?_append_right (by omega), show pre.length + k - pre.length = k by omega, List.getElem?_append_left hk, List.getD_eq_getElem?_getD]

/-- A letter within a text is the piece at its place. -/
theorem letter_at {p : ByteArray} (h : IsLetter p) (t : ByteArray) (pre post : List UInt8) (ht : t.data.toList = pre ++ (p.data.toList ++ post)) :
    pre.length < t.size ∧ stray t pre.length = false ∧ pw t pre.length = p.size ∧ piece t pre.length = p := by
  have hp0 := letter_pos h
  obtain ⟨s, i, hi, hs, rfl⟩ := h
  have hz := piece_size s i hi
  have hll : (piece s i).data.toList.length = pw s i := by rw [len_list, hz]
  have hts : pre.length + pw s i ≤ t.size := by rw [← len_list t, ht]; simp only [List.length_append]; omega
  have hpp := pw_pos s i
  have hlt : pre.length < t.size := by omega
  have hd : Utf8.decode t pre.length = Utf8.decode s i := by
    refine dec_local s t i pre.length hs (fun k hk => ?_)
    rw [← pw_dec s i hi] at hk
    rw [gb_app t pre _ post ht k (by omega), ← gb_list, piece_gb s i k hi hk]
  have hst : stray t pre.length = false := by
    have := hs
    unfold stray at this ⊢
    rw [hd]; exact this
  have hpw : pw t pre.length = pw s i := by rw [pw_dec t _ hlt, pw_dec s i hi, hd]
  refine ⟨hlt, hst, by rw [hpw, hz], ?_⟩
  have hz2 := piece_size t pre.length hlt
  apply ByteArray.ext; apply Array.ext'
  apply List.ext_getElem
  · rw [len_list, len_list, hz2, hz, hpw]
  · intro k h1 h2
    rw [len_list, hz2, hpw] at h1
    apply UInt8.toNat_inj.1
    have e1 := piece_gb t pre.length k hlt (by omega)
    rw [gb_app t pre _ post ht k (by omega), gb_list] at e1
    rw [List.getD_eq_getElem?_getD, List.getD_eq_getElem?_getD, List.getElem?_eq_getElem (by rw [len_list, hz2, hpw]; exact h1), List.getElem?_eq_getElem (by omega)] at e1
    exact e1

/-- The bytes of a row of strings. -/
def flat : List ByteArray → List UInt8
  | [] => []
  | p :: r => p.data.toList ++ flat r
theorem flat_append (a b : List ByteArray) : flat (a ++ b) = flat a ++ flat b := by
  induction a with
  | nil => rfl
  | cons p r ih => show p.data.toList ++ flat (r ++ b) = p.data.toList ++ flat r ++ flat b; rw [ih, List.append_assoc]

theorem pieces_flat (t : ByteArray) : ∀ (Ls : List ByteArray) (pre : List UInt8) (f : Nat), (∀ p ∈ Ls, IsLetter p) → t.data.toList = pre ++ flat Ls → t.size ≤ pre.length + f → piecesFrom t f pre.length = Ls ∧ badFrom t f pre.length = none
  | [], pre, f, hL, ht, hf => by
    have : ¬ pre.length < t.size := by rw [← len_list t, ht]; simp [flat]
    exact ⟨piecesFrom_end t f _ this, badFrom_end t f _ this⟩
  | p :: r, pre, f, hL, ht, hf => by
    obtain ⟨h1, h2, h3, h4⟩ := letter_at (hL p (by simp)) t pre (flat r) ht
    have hp0 := letter_pos (hL p (by simp))
    obtain ⟨f', rfl⟩ : ∃ f', f = f' + 1 := ⟨f - 1, by omega⟩
    have := pieces_flat t r (pre ++ p.data.toList) f' (fun q hq => hL q (by simp [hq])) (by rw [ht]; show pre ++ (p.data.toList ++ flat r) = _; simp) (by rw [List.length_append, len_list]; omega)
    rw [List.length_append, len_list] at this
    rw [piecesFrom_step t f' _ h1, badFrom_miss t f' _ h1 h2, h3]
    refine ⟨?_, this.2⟩
    rw [this.1]
    have h5 : t.extract pre.length (pre.length + p.size) = p := by rw [← h3]; exact h4
    rw [h5]
theorem split_flat (Ls : List ByteArray) (hL : ∀ p ∈ Ls, IsLetter p) (hz : (flat Ls).length ≤ 16384) : splitL ⟨(flat Ls).toArray⟩ = (Ls, 0, 0) := by
  have hsz : (⟨(flat Ls).toArray⟩ : ByteArray).size = (flat Ls).length := by simp [ByteArray.size]
  have := pieces_flat ⟨(flat Ls).toArray⟩ Ls [] (flat Ls).length hL rfl (by rw [hsz]; simp)
  unfold splitL bad
  rw [if_neg (by omega), hsz]
  have hb : badFrom ⟨(flat Ls).toArray⟩ (flat Ls).length 0 = none := this.2
  have hp : piecesFrom ⟨(flat Ls).toArray⟩ (flat Ls).length 0 = Ls := this.1
  rw [hb]
  show (pieces _, 0, 0) = _
  unfold pieces
  rw [hsz, hp]

/-- The letters of a unit. -/
def uP (s : ByteArray) (i : Nat) : List ByteArray :=
  if stray s i || ctlR ((Utf8.decode s i).1 : Int) then [⟨[37].toArray⟩, ⟨[120].toArray⟩, ⟨[hexD (gb s i / 16)].toArray⟩, ⟨[hexD (gb s i % 16)].toArray⟩]
  else if cls ((Utf8.decode s i).1 : Int) = 4 ∨ cls ((Utf8.decode s i).1 : Int) = 5 then [⟨[37].toArray⟩, piece s i]
  else [piece s i]
def uFrom (s : ByteArray) : Nat → Nat → List ByteArray
  | 0, _ => []
  | f + 1, i => if i < s.size then uP s i ++ uFrom s f (i + pw s i) else []
theorem uFrom_end (s : ByteArray) (f i : Nat) (h : ¬ i < s.size) : uFrom s f i = [] := by cases f <;> simp [uFrom, h]
theorem uFrom_step (s : ByteArray) (f i : Nat) (h : i < s.size) : uFrom s (f + 1) i = uP s i ++ uFrom s f (i + pw s i) := by simp [uFrom, h]
theorem hexD_low : ∀ n : Fin 16, (hexD n.val).toNat < 128 := by decide +kernel
theorem uP_letters (s : ByteArray) (i : Nat) (h : i < s.size) : ∀ p ∈ uP s i, IsLetter p := by
  have l0 := gb_lt s i
  intro p hp
  unfold uP at hp
  split at hp
  · simp only [List.mem_cons, List.not_mem_nil, or_false] at hp
    rcases hp with rfl | rfl | rfl | rfl
    · exact ascii_letter 37 (by decide)
    · exact ascii_letter 120 (by decide)
    · exact ascii_letter _ (hexD_low ⟨gb s i / 16, by omega⟩)
    · exact ascii_letter _ (hexD_low ⟨gb s i % 16, by omega⟩)
  · rename_i hx
    simp only [Bool.or_eq_true, not_or, Bool.not_eq_true] at hx
    split at hp
    · simp only [List.mem_cons, List.not_mem_nil, or_false] at hp
      rcases hp with rfl | rfl
      · exact ascii_letter 37 (by decide)
      · exact ⟨s, i, h, hx.1, rfl⟩
    · simp only [List.mem_cons, List.not_mem_nil, or_false] at hp
      subst hp
      exact ⟨s, i, h, hx.1, rfl⟩
theorem uP_flat (s : ByteArray) (i : Nat) (h : i < s.size) : flat (uP s i) = qUnit s i := by
  unfold uP qUnit
  split
  · rfl
  · rename_i hx
    simp only [Bool.or_eq_true, not_or, Bool.not_eq_true] at hx
    rw [piece_enc s i h hx.1]
    split
    · show [37] ++ ((piece s i).data.toList ++ []) = _; simp
    · show (piece s i).data.toList ++ [] = _; simp
theorem uFrom_letters (s : ByteArray) : ∀ f i, ∀ p ∈ uFrom s f i, IsLetter p
  | 0, i, p, hp => by simp [uFrom] at hp
  | f + 1, i, p, hp => by
    by_cases h : i < s.size
    · rw [uFrom_step s f i h, List.mem_append] at hp
      rcases hp with hp | hp
      · exact uP_letters s i h p hp
      · exact uFrom_letters s f _ p hp
    · rw [uFrom_end s _ i h] at hp; cases hp
theorem uFrom_flat (s : ByteArray) : ∀ f i, flat (uFrom s f i) = qFrom s f i
  | 0, i => rfl
  | f + 1, i => by
    by_cases h : i < s.size
    · rw [uFrom_step s f i h, qFrom_step s f i h, flat_append, uP_flat s i h, uFrom_flat s f _]
    · rw [uFrom_end s _ i h, qFrom_end s _ i h]; rfl
/-- The letters of a quoted name. -/
def uL (s : ByteArray) : List ByteArray := if s.size = 0 then [⟨[37].toArray⟩, ⟨[48].toArray⟩] else uFrom s s.size 0
theorem split_quote (s : ByteArray) (hz : (quoteL s).length ≤ 16384) : splitL ⟨(quoteL s).toArray⟩ = (uL s, 0, 0) := by
  have hf : flat (uL s) = quoteL s := by
    unfold uL quoteL
    split
    · rfl
    · exact uFrom_flat s _ _
  rw [← hf] at hz ⊢
  refine split_flat (uL s) ?_ hz
  unfold uL
  split
  · intro p hp
    simp only [List.mem_cons, List.not_mem_nil, or_false] at hp
    rcases hp with rfl | rfl
    · exact ascii_letter 37 (by decide)
    · exact ascii_letter 48 (by decide)
  · exact uFrom_letters s _ _
end Go.Proofs.YtpockcolelfecaaDoor
