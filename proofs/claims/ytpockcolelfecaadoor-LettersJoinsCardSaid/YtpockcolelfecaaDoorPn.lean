/- Plain Lean: the reference's Lower and Upper, piece by piece. -/
import Derived.Test.YtpockcolelfecaaDoorPl
import Derived.Test.YtpockcolelfecaaDoorPe
set_option linter.unusedVariables false
set_option linter.unusedSimpArgs false
namespace Go.Proofs.YtpockcolelfecaaDoor

theorem encodeRune_eq (c : Nat) (h : c < 55296 ∨ (57344 ≤ c ∧ c ≤ 1114111)) : Lib.encodeRune (c : Int) = (Utf8.encode (c : Int)).data.toList := by
  rw [encode_of c h]
  unfold Lib.encodeRune
  by_cases h1 : c < 128
  · rw [if_pos (by omega), Lib.encodeRuneZ_one (by omega) (by omega)]
    simp only [List.map_cons, List.map_nil, Int.toNat_natCast]
  rw [if_neg (by omega)]
  by_cases h2 : c < 2048
  · rw [if_pos (by omega), Lib.encodeRuneZ_two (by omega) (by omega)]
    simp only [List.map_cons, List.map_nil]
    rw [show (192 + (c : Int) / 64).toNat = 192 + c / 64 by omega, show (128 + (c : Int) % 64).toNat = 128 + c % 64 by omega]
  rw [if_neg (by omega)]
  by_cases h3 : c < 65536
  · rw [if_pos (by omega), Lib.encodeRuneZ_three (by omega)]
    simp only [List.map_cons, List.map_nil]
    rw [show (224 + (c : Int) / 4096).toNat = 224 + c / 4096 by omega, show (128 + (c : Int) / 64 % 64).toNat = 128 + c / 64 % 64 by omega, show (128 + (c : Int) % 64).toNat = 128 + c % 64 by omega]
  rw [if_neg (by omega), Lib.encodeRuneZ_four (by omega) (by omega)]
  simp only [List.map_cons, List.map_nil]
  rw [show (240 + (c : Int) / 262144).toNat = 240 + c / 262144 by omega, show (128 + (c : Int) / 4096 % 64).toNat = 128 + c / 4096 % 64 by omega, show (128 + (c : Int) / 64 % 64).toNat = 128 + c / 64 % 64 by omega, show (128 + (c : Int) % 64).toNat = 128 + c % 64 by omega]

theorem dec_valid (s : ByteArray) (i : Nat) : (Utf8.decode s i).1 < 55296 ∨ (57344 ≤ (Utf8.decode s i).1 ∧ (Utf8.decode s i).1 ≤ 1114111) := by
  have l0 := gb_lt s i; have l1 := gb_lt s (i+1); have l2 := gb_lt s (i+2); have l3 := gb_lt s (i+3)
  rcases dec_cases s i with ⟨h0, e⟩ | ⟨a0, a1, c1, q, e⟩ | ⟨a0, a1, c1, c2, q, q2, e⟩ | ⟨a0, a1, c1, c2, c3, q, q2, e⟩ | ⟨_, e⟩ <;> rw [e] <;> simp only <;> omega

/-- A piece that is a letter is its code point, written. -/
theorem piece_enc (s : ByteArray) (i : Nat) (h : i < s.size) (hs : stray s i = false) : Lib.encodeRune ((Utf8.decode s i).1 : Int) = (piece s i).data.toList := by
  rw [encodeRune_eq _ (dec_valid s i), enc_dec s i h hs, ← pw_dec s i h]; rfl
theorem piece_one (s : ByteArray) (i : Nat) (h : i < s.size) (hs : stray s i = true) : (piece s i).data.toList = [s.get! i] := by
  have hp := pw_stray s i h hs
  have : piece s i = ⟨[s.get! i].toArray⟩ := by
    unfold piece; rw [hp]
    exact extract_lit s i [s.get! i] (by simp; omega) (fun k hk => by
      have : k = 0 := by simpa using hk
      subst this; rfl)
  rw [this]

def clsD (s : ByteArray) : Int := if vrD s then cls ((ptN s 0).1 : Int) else 0
theorem clsD_stray (s : ByteArray) (i : Nat) (h : i < s.size) (hs : stray s i = true) : clsD (piece s i) = 0 := by
  unfold clsD; rw [vrD_piece s i h, hs]; rfl
theorem ptN_piece (s : ByteArray) (i : Nat) (h : i < s.size) (hs : stray s i = false) : ptN (piece s i) 0 = Utf8.decode s i := by
  have hz := piece_size s i h
  have hp := pw_pos s i
  rw [ptN_dec _ 0 (by omega), piece_dec s i h hs]
  have : stray (piece s i) 0 = false := by
    have := vrD_piece s i h
    rw [vrD_eq, hs] at this
    simp at this
    exact this.2
  rw [this]; rfl
theorem clsD_letter (s : ByteArray) (i : Nat) (h : i < s.size) (hs : stray s i = false) : clsD (piece s i) = cls ((Utf8.decode s i).1 : Int) := by
  unfold clsD; rw [vrD_piece s i h, hs, ptN_piece s i h hs]; rfl

def latinL2 (p : Nat) : List UInt8 := if p < 128 then [UInt8.ofNat p] else [UInt8.ofNat (192 + p / 64), UInt8.ofNat (128 + p % 64)]
theorem latin_enc (p : Nat) (h : p < 256) : Lib.encodeRune (p : Int) = latinL2 p := by
  rw [encodeRune_eq p (by omega), encode_of p (by omega)]
  unfold latinL2
  by_cases h1 : p < 128
  · rw [if_pos (by omega), if_pos h1]
  · rw [if_neg (by omega), if_pos (by omega), if_neg h1]

theorem low_yes (s : ByteArray) (i : Nat) (h : i < s.size) (hc : clsD (piece s i) = 2) : (ptN (piece s i) 0).1 + 32 < 256 ∧ chUnit lowR s i = latinL2 ((ptN (piece s i) 0).1 + 32) := by
  cases hs : stray s i
  · rw [clsD_letter s i h hs] at hc
    rw [ptN_piece s i h hs]
    have hr := cls_two hc
    have hb : (Utf8.decode s i).1 + 32 < 256 := by omega
    refine ⟨hb, ?_⟩
    unfold chUnit
    rw [hs, ← latin_enc _ hb]
    show Lib.encodeRune (lowR _) = _
    unfold lowR
    rw [if_pos hc]; rfl
  · rw [clsD_stray s i h hs] at hc; omega
theorem low_no (s : ByteArray) (i : Nat) (h : i < s.size) (hc : clsD (piece s i) ≠ 2) : chUnit lowR s i = (piece s i).data.toList := by
  cases hs : stray s i
  · rw [clsD_letter s i h hs] at hc
    unfold chUnit
    rw [hs, ← piece_enc s i h hs]
    show Lib.encodeRune (lowR _) = _
    unfold lowR
    rw [if_neg hc]
  · unfold chUnit
    rw [hs, piece_one s i h hs]; rfl
theorem up_iff (r : Int) : cls (r - 32) = 2 ↔ cls r = 1 ∧ r ≠ 181 ∧ r ≠ 223 ∧ r ≠ 255 := by
  rw [cls_eq, cls_eq]
  constructor
  · intro h
    by_cases h1 : (97 ≤ r ∧ r ≤ 122) ∨ (224 ≤ r ∧ r ≤ 246) ∨ (248 ≤ r ∧ r ≤ 254)
    · rw [if_pos (by omega)]; omega
    · exfalso
      repeat' split at h
      all_goals first | omega | (simp at h)
  · rintro ⟨h, h1, h2, h3⟩
    by_cases g : (97 ≤ r ∧ r ≤ 122) ∨ r = 181 ∨ (223 ≤ r ∧ r ≤ 246) ∨ (248 ≤ r ∧ r ≤ 255)
    · rw [if_neg (by omega), if_pos (by omega)]
    · exfalso
      rw [if_neg g] at h
      repeat' split at h
      all_goals first | omega | (simp at h)
theorem up_yes (s : ByteArray) (i : Nat) (h : i < s.size) (hc : clsD (piece s i) = 1) (h1 : (ptN (piece s i) 0).1 ≠ 181) (h2 : (ptN (piece s i) 0).1 ≠ 223) (h3 : (ptN (piece s i) 0).1 ≠ 255) :
    32 ≤ (ptN (piece s i) 0).1 ∧ (ptN (piece s i) 0).1 < 256 ∧ chUnit upR s i = latinL2 ((ptN (piece s i) 0).1 - 32) := by
  cases hs : stray s i
  · rw [clsD_letter s i h hs] at hc
    rw [ptN_piece s i h hs] at h1 h2 h3 ⊢
    have h4 := (up_iff ((Utf8.decode s i).1 : Int)).2 ⟨hc, by omega, by omega, by omega⟩
    have hr := cls_two h4
    refine ⟨by omega, by omega, ?_⟩
    unfold chUnit
    rw [hs, ← latin_enc _ (by omega)]
    show Lib.encodeRune (upR _) = _
    unfold upR
    rw [if_pos h4]
    congr 1; omega
  · rw [clsD_stray s i h hs] at hc; omega
theorem up_no (s : ByteArray) (i : Nat) (h : i < s.size) (hc : ¬ (clsD (piece s i) = 1 ∧ (ptN (piece s i) 0).1 ≠ 181 ∧ (ptN (piece s i) 0).1 ≠ 223 ∧ (ptN (piece s i) 0).1 ≠ 255)) : chUnit upR s i = (piece s i).data.toList := by
  cases hs : stray s i
  · rw [clsD_letter s i h hs, ptN_piece s i h hs] at hc
    unfold chUnit
    rw [hs, ← piece_enc s i h hs]
    show Lib.encodeRune (upR _) = _
    unfold upR
    rw [if_neg]
    rw [up_iff]
    intro g; apply hc
    exact ⟨g.1, by omega, by omega, by omega⟩
  · unfold chUnit
    rw [hs, piece_one s i h hs]; rfl
end Go.Proofs.YtpockcolelfecaaDoor
