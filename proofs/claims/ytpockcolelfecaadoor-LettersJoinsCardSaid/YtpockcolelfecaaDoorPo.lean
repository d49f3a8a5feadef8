/- Plain Lean: expanding what Quote wrote gives the name; the reference's unit. -/
import Derived.Test.YtpockcolelfecaaDoorPh
import Derived.Test.YtpockcolelfecaaDoorPn
set_option linter.unusedVariables false
set_option linter.unusedSimpArgs false
namespace Go.Proofs.YtpockcolelfecaaDoor

theorem xStep_pos (s : ByteArray) (i : Nat) {b : UInt8} {n : Nat} (h : xStep s i = some (b, n)) : 1 ≤ n := by
  unfold xStep at h
  split at h
  · simp at h; omega
  split at h
  · split at h
    · cases h
    split at h
    · cases h
    simp at h; omega
  split at h
  · cases h
  simp at h; omega
theorem xFrom_fuel (s : ByteArray) : ∀ f g i, s.size ≤ f + i → s.size ≤ g + i → xFrom s f i = xFrom s g i
  | 0, g, i, hf, hg => by rw [xFrom_end s 0 i (by omega), xFrom_end s g i (by omega)]
  | f + 1, 0, i, hf, hg => by rw [xFrom_end s _ i (by omega), xFrom_end s 0 i (by omega)]
  | f + 1, g + 1, i, hf, hg => by
    by_cases h : i < s.size
    · cases hx : xStep s i with
      | none => rw [xFrom_none s f i h hx, xFrom_none s g i h hx]
      | some p =>
        obtain ⟨b, n⟩ := p
        have := xStep_pos s i hx
        rw [xFrom_some s f i h hx, xFrom_some s g i h hx, xFrom_fuel s f g (i + n) (by omega) (by omega)]
    · rw [xFrom_end s _ i h, xFrom_end s _ i h]
/-- What expand writes from a place on. -/
def xAt (s : ByteArray) (i : Nat) : Option (List UInt8) := xFrom s (s.size - i) i
theorem xAt_step (s : ByteArray) (i : Nat) (h : i < s.size) {b : UInt8} {n : Nat} (hx : xStep s i = some (b, n)) : xAt s i = (xAt s (i + n)).map (b :: ·) := by
  have := xStep_pos s i hx
  unfold xAt
  rw [show s.size - i = (s.size - i - 1) + 1 by omega, xFrom_some s _ i h hx, xFrom_fuel s (s.size - i - 1) (s.size - (i + n)) (i + n) (by omega) (by omega)]
theorem xAt_end (s : ByteArray) (i : Nat) (h : ¬ i < s.size) : xAt s i = some [] := xFrom_end s _ i h
theorem expandL_at (s : ByteArray) : expandL s = xAt s 0 := rfl

theorem gb_mid (t : ByteArray) (pre : List UInt8) (b : UInt8) (post : List UInt8) (ht : t.data.toList = pre ++ b :: post) : gb t pre.length = b.toNat ∧ pre.length < t.size := by
  constructor
  · rw [gb_list, ht, List.getD_eq_getElem?_getD, List.getElem?_append_right (by omega)]; simp
  · rw [← len_list, ht]; simp
theorem xAt_plain (t : ByteArray) (post : List UInt8) : ∀ (U pre : List UInt8), t.data.toList = pre ++ (U ++ post) → (∀ b ∈ U, b.toNat ≠ 37) → xAt t pre.length = (xAt t (pre.length + U.length)).map (U ++ ·)
  | [], pre, ht, hU => by simp
  | b :: U, pre, ht, hU => by
    obtain ⟨h0, hl⟩ := gb_mid t pre b (U ++ post) ht
    have hb : gb t pre.length ≠ 37 := by rw [h0]; exact hU b (by simp)
    rw [xAt_step t pre.length hl (xStep_plain t pre.length hb), h0]
    have := xAt_plain t post U (pre ++ [b]) (by rw [ht]; simp) (fun x hx => hU x (by simp [hx]))
    simp only [List.length_append, List.length_cons, List.length_nil, Nat.zero_add] at this
    rw [this, Option.map_map, List.length_cons, show pre.length + 1 + U.length = pre.length + (U.length + 1) by omega]
    congr 1
    funext l
    simp

theorem xAt_mark (t : ByteArray) (post : List UInt8) (e : UInt8) (U pre : List UInt8) (ht : t.data.toList = pre ++ (37 :: e :: U ++ post)) (he : e.toNat ≠ 120) (hU : ∀ b ∈ U, b.toNat ≠ 37) :
    xAt t pre.length = (xAt t (pre.length + (U.length + 2))).map ((e :: U) ++ ·) := by
  have ht1 : t.data.toList = pre ++ 37 :: (e :: U ++ post) := by rw [ht]; simp
  have ht2 : t.data.toList = (pre ++ [37]) ++ e :: (U ++ post) := by rw [ht]; simp
  have ht3 : t.data.toList = (pre ++ [37, e]) ++ (U ++ post) := by rw [ht]; simp
  obtain ⟨h0, hl0⟩ := gb_mid t pre 37 _ ht1
  obtain ⟨h1, hl1⟩ := gb_mid t (pre ++ [37]) e _ ht2
  simp only [List.length_append, List.length_cons, List.length_nil, Nat.zero_add] at h1 hl1
  rw [xAt_step t pre.length hl0 (xStep_two t pre.length (by rw [h0]; rfl) (by rw [h1]; exact he) (by omega)), h1]
  have := xAt_plain t post U (pre ++ [37, e]) ht3 hU
  simp only [List.length_append, List.length_cons, List.length_nil, Nat.zero_add] at this
  rw [show pre.length + 2 = pre.length + (1 + 1) by omega, this, Option.map_map, show pre.length + (1 + 1) + U.length = pre.length + (U.length + 2) by omega]
  congr 1
  funext l
  simp

theorem hexV_hexD : ∀ n : Fin 16, hexV (hexD n.val).toNat = (n.val : Int) := by decide +kernel
theorem hexV_of (n : Nat) (h : n < 16) : hexV (hexD n).toNat = (n : Int) := hexV_hexD ⟨n, h⟩
theorem xAt_hex (t : ByteArray) (post : List UInt8) (g : Nat) (hg : g < 256) (pre : List UInt8) (ht : t.data.toList = pre ++ ([37, 120, hexD (g / 16), hexD (g % 16)] ++ post)) :
    xAt t pre.length = (xAt t (pre.length + 4)).map (UInt8.ofNat g :: ·) := by
  have ht0 : t.data.toList = pre ++ 37 :: ([120, hexD (g / 16), hexD (g % 16)] ++ post) := by rw [ht]; simp
  have ht1 : t.data.toList = (pre ++ [37]) ++ 120 :: ([hexD (g / 16), hexD (g % 16)] ++ post) := by rw [ht]; simp
  have ht2 : t.data.toList = (pre ++ [37, 120]) ++ hexD (g / 16) :: ([hexD (g % 16)] ++ post) := by rw [ht]; simp
  have ht3 : t.data.toList = (pre ++ [37, 120, hexD (g / 16)]) ++ hexD (g % 16) :: post := by rw [ht]; simp
  obtain ⟨h0, hl0⟩ := gb_mid t _ _ _ ht0
  obtain ⟨h1, hl1⟩ := gb_mid t _ _ _ ht1
  obtain ⟨h2, hl2⟩ := gb_mid t _ _ _ ht2
  obtain ⟨h3, hl3⟩ := gb_mid t _ _ _ ht3
  simp only [List.length_append, List.length_cons, List.length_nil, Nat.zero_add, Nat.reduceAdd] at h1 hl1 h2 hl2 h3 hl3
  have v2 : hexV (gb t (pre.length + 2)) = ((g / 16 : Nat) : Int) := by rw [h2]; exact hexV_of _ (by omega)
  have v3 : hexV (gb t (pre.length + 3)) = ((g % 16 : Nat) : Int) := by rw [h3]; exact hexV_of _ (by omega)
  rw [xAt_step t pre.length hl0 (xStep_hex t pre.length (by rw [h0]; rfl) (by rw [h1]; rfl) (by omega) (by rw [v2, v3]; omega)), v2, v3]
  have : (((g / 16 : Nat) : Int) * 16 + ((g % 16 : Nat) : Int)).toNat = g := by omega
  rw [this]

/-- The bytes of a piece that is a letter: one byte below 128, or bytes that are all above. -/
theorem piece_bytes (s : ByteArray) (i : Nat) (h : i < s.size) (hs : stray s i = false) :
    ((piece s i).data.toList = [s.get! i] ∧ gb s i < 128 ∧ (Utf8.decode s i).1 = gb s i ∧ pw s i = 1) ∨ ((∀ b ∈ (piece s i).data.toList, 128 ≤ b.toNat) ∧ 128 ≤ (Utf8.decode s i).1 ∧ 2 ≤ pw s i) := by
  have l0 := gb_lt s i; have l1 := gb_lt s (i+1); have l2 := gb_lt s (i+2); have l3 := gb_lt s (i+3)
  have hp := pw_dec s i h
  have hall : (∀ k, k < pw s i → 128 ≤ gb s (i + k)) → ∀ b ∈ (piece s i).data.toList, 128 ≤ b.toNat := by
    intro hk b hb
    obtain ⟨k, hk1, rfl⟩ := List.getElem_of_mem hb
    have hk2 : k < pw s i := by rw [len_list, piece_size s i h] at hk1; exact hk1
    have := hk k hk2
    rw [← piece_gb s i k h hk2, gb_list, List.getD_eq_getElem?_getD, List.getElem?_eq_getElem hk1] at this
    exact this
  rcases dec_cases s i with ⟨h0, e⟩ | ⟨a0, a1, c1, q, e⟩ | ⟨a0, a1, c1, c2, q, q2, e⟩ | ⟨a0, a1, c1, c2, c3, q, q2, e⟩ | ⟨_, e⟩
  · left
    rw [e] at hp ⊢
    have : piece s i = ⟨[s.get! i].toArray⟩ := by
      unfold piece; rw [hp]
      exact extract_lit s i [s.get! i] (by simp; omega) (fun k hk => by
        have : k = 0 := by simpa using hk
        subst this; rfl)
    exact ⟨by rw [this], h0, rfl, hp⟩
  · right
    rw [e] at hp ⊢
    refine ⟨hall fun k hk => ?_, by omega, by omega⟩
    have : k = 0 ∨ k = 1 := by omega
    rw [← Nat.add_zero i] at a0; rcases this with rfl | rfl <;> omega
  · right
    rw [e] at hp ⊢
    refine ⟨hall fun k hk => ?_, by omega, by omega⟩
    have : k = 0 ∨ k = 1 ∨ k = 2 := by omega
    rw [← Nat.add_zero i] at a0; rcases this with rfl | rfl | rfl <;> omega
  · right
    rw [e] at hp ⊢
    refine ⟨hall fun k hk => ?_, by omega, by omega⟩
    have : k = 0 ∨ k = 1 ∨ k = 2 ∨ k = 3 := by omega
    rw [← Nat.add_zero i] at a0; rcases this with rfl | rfl | rfl | rfl <;> omega
  · unfold stray at hs; rw [e] at hs; simp at hs

theorem get_gb (s : ByteArray) (i : Nat) (h : i < s.size) : s.get! i = UInt8.ofNat (gb s i) := by
  rw [gb_pos s i h, UInt8.ofNat_toNat]
  show s.data[i]! = _
  rw [getElem!_pos s.data i h]; rfl

theorem xAt_unit (s t : ByteArray) (post : List UInt8) (i : Nat) (h : i < s.size) (pre : List UInt8) (ht : t.data.toList = pre ++ (qUnit s i ++ post)) :
    xAt t pre.length = (xAt t (pre.length + (qUnit s i).length)).map ((piece s i).data.toList ++ ·) := by
  by_cases hx : (stray s i || ctlR ((Utf8.decode s i).1 : Int)) = true
  · rw [qUnit_hex s i hx] at ht ⊢
    have hpb : (piece s i).data.toList = [UInt8.ofNat (gb s i)] := by
      rw [← get_gb s i h]
      cases hs : stray s i
      · rw [hs, Bool.false_or] at hx
        unfold ctlR at hx
        rcases piece_bytes s i h hs with ⟨e, _⟩ | ⟨_, e, _⟩
        · exact e
        · simp at hx; omega
      · exact piece_one s i h hs
    rw [hpb, xAt_hex t post (gb s i) (gb_lt s i) pre ht]; rfl
  · simp only [Bool.or_eq_true, not_or, Bool.not_eq_true] at hx
    obtain ⟨hs, hc⟩ := hx
    by_cases hm : cls ((Utf8.decode s i).1 : Int) = 4 ∨ cls ((Utf8.decode s i).1 : Int) = 5
    · rw [qUnit_mark s i hs hc hm, piece_enc s i h hs] at ht ⊢
      rcases piece_bytes s i h hs with ⟨e, e1, e2, _⟩ | ⟨e, _, e3⟩
      · rw [e] at ht ⊢
        refine xAt_mark t post (s.get! i) [] pre ht ?_ (by simp)
        rw [get_gb s i h, u8_of _ (gb_lt s i)]
        intro e4
        rw [e2, e4] at hm
        exact absurd hm (by decide)
      · have hlen : (piece s i).data.toList.length = pw s i := by rw [len_list, piece_size s i h]
        generalize (piece s i).data.toList = P at *
        match P, hlen with
        | [], hl => simp at hl; omega
        | b :: U, hl =>
          refine xAt_mark t post b U pre ht ?_ ?_
          · have := e b (by simp); omega
          · intro c hc; have := e c (by simp [hc]); omega
    · rw [qUnit_plain s i hs hc hm, piece_enc s i h hs] at ht ⊢
      refine xAt_plain t post _ pre ht ?_
      rcases piece_bytes s i h hs with ⟨e, e1, e2, _⟩ | ⟨e, _, e3⟩
      · rw [e]
        intro b hb
        simp only [List.mem_singleton] at hb
        subst hb
        rw [get_gb s i h, u8_of _ (gb_lt s i)]
        intro e4
        rw [e2, e4] at hm
        exact hm (by decide)
      · intro b hb; have := e b hb; omega

theorem drop_piece (s : ByteArray) (i : Nat) (h : i < s.size) : s.data.toList.drop i = (piece s i).data.toList ++ s.data.toList.drop (i + pw s i) := by
  have hw := pw_within s i h
  have hl := len_list s
  apply List.ext_getElem?
  intro k
  have hpl : (piece s i).data.toList.length = pw s i := by rw [len_list, piece_size s i h]
  by_cases hk : k < pw s i
  · rw [List.getElem?_append_left (by omega), List.getElem?_drop, List.getElem?_eq_getElem (by omega), List.getElem?_eq_getElem (by omega)]
    congr 1
    apply UInt8.toNat_inj.1
    have g := piece_gb s i k h hk
    rw [gb_list, gb_list, List.getD_eq_getElem?_getD, List.getD_eq_getElem?_getD, List.getElem?_eq_getElem (by omega), List.getElem?_eq_getElem (by omega)] at g
    exact g.symm
  · rw [List.getElem?_append_right (by omega), List.getElem?_drop, List.getElem?_drop, hpl]
    congr 1; omega

theorem xAt_quote (s t : ByteArray) : ∀ (f i : Nat) (pre : List UInt8), t.data.toList = pre ++ qFrom s f i → i ≤ s.size → s.size ≤ i + f → xAt t pre.length = some (s.data.toList.drop i)
  | f, i, pre, ht, h1, h2 => by
    by_cases h : i < s.size
    · match f, h2 with
      | 0, h2 => omega
      | f + 1, h2 =>
        have hp := pw_pos s i
        have hw := pw_within s i h
        rw [qFrom_step s f i h] at ht
        rw [xAt_unit s t _ i h pre ht]
        have ht2 : t.data.toList = (pre ++ qUnit s i) ++ qFrom s f (i + pw s i) := by rw [ht, List.append_assoc]
        have := xAt_quote s t f (i + pw s i) _ ht2 (by omega) (by omega)
        rw [List.length_append] at this
        rw [this, drop_piece s i h]; rfl
    · rw [qFrom_end s f i h, List.append_nil] at ht
      have : pre.length = t.size := by rw [← ht, len_list]
      rw [xAt_end t _ (by omega), List.drop_of_length_le (by rw [len_list]; omega)]
  termination_by f => f

theorem expand_quote (s : ByteArray) (h : 0 < s.size) : expandL ⟨(quoteL s).toArray⟩ = some s.data.toList := by
  rw [expandL_at]
  have := xAt_quote s ⟨(quoteL s).toArray⟩ s.size 0 [] (by unfold quoteL; rw [if_neg (by omega)]; rfl) (by omega) (by omega)
  exact this
theorem bytes_back (s : ByteArray) : (⟨s.data.toList.toArray⟩ : ByteArray) = s := rfl
theorem unq_quote (s : ByteArray) : unqL ⟨(quoteL s).toArray⟩ = some s.data.toList := by
  by_cases h : 0 < s.size
  · have he := expand_quote s h
    have hne : (quoteL s) ≠ [37, 48] := by
      intro e
      rw [e] at he
      have e2 : expandL ⟨[37, 48].toArray⟩ = some [48] := by decide +kernel
      rw [e2] at he
      have e3 : s.data.toList = [48] := (Option.some.inj he).symm
      have e4 : s = ⟨[48].toArray⟩ := by rw [← bytes_back s, e3]
      rw [e4] at e
      exact absurd e (by decide +kernel)
    exact unqL_some _ _ hne he rfl
  · have e : s.data.toList = [] := List.length_eq_zero_iff.1 (by rw [len_list]; omega)
    have e2 : quoteL s = [37, 48] := by unfold quoteL; rw [if_pos (by omega)]
    rw [e2, e]; exact unqL_zero _ rfl

/-- How the reference writes a piece. -/
def rUnit (cl : Int) (ct : Bool) (p : ByteArray) : List UInt8 :=
  if cl = 0 ∨ ct = true then [37, 120, hexD (gb p 0 / 16), hexD (gb p 0 % 16)] else if cl = 4 ∨ cl = 5 then 37 :: p.data.toList else p.data.toList
def ctlP (s : ByteArray) : Bool := decide (0 < (ptN s 0).2 ∧ ((ptN s 0).1 < 32 ∨ (ptN s 0).1 = 127))
theorem cls_pos (r : Int) : cls r ≠ 0 := by
  rw [cls_eq]
  repeat' split
  all_goals decide
theorem rUnit_piece (s : ByteArray) (i : Nat) (h : i < s.size) : rUnit (clsD (piece s i)) (ctlP (piece s i)) (piece s i) = qUnit s i := by
  have hg := piece_gb s i 0 h (pw_pos s i)
  rw [Nat.add_zero] at hg
  cases hs : stray s i
  · have hcl := clsD_letter s i h hs
    have hct : ctlP (piece s i) = ctlR ((Utf8.decode s i).1 : Int) := by
      unfold ctlP ctlR
      rw [ptN_piece s i h hs, Bool.eq_iff_iff]
      have := (dec_within s i h).1
      simp; omega
    rw [hcl, hct]
    unfold rUnit qUnit
    rw [hs, piece_enc s i h hs, hg]
    simp only [cls_pos, false_or, Bool.false_or]
  · have hcl := clsD_stray s i h hs
    unfold rUnit
    rw [hcl, if_pos (Or.inl rfl), hg, qUnit_hex s i (by rw [hs]; rfl)]
end Go.Proofs.YtpockcolelfecaaDoor
