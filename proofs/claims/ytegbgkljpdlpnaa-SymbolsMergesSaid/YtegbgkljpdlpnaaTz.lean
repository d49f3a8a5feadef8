/- Texts and words, back and forth: plain. -/
import Derived.Test.YtegbgkljpdlpnaaTk
set_option linter.unusedVariables false
set_option linter.unusedSimpArgs false
namespace Go.Proofs.Ytegbgkljpdlpnaa

theorem extract_list (t : ByteArray) (i j : Nat) : (t.extract i j).data.toList = (t.data.toList.drop i).take (j - i) := by
  rw [ByteArray.data_extract, Array.toList_extract, List.extract_eq_take_drop]
theorem take_more {t x : ByteArray} {i : Nat} (h : t.extract i (i + x.size) = x) : t.data.toList.take (i + x.size) = t.data.toList.take i ++ x.data.toList := by
  rw [List.take_add]
  congr 1
  have := extract_list t i (i + x.size)
  rw [h, Nat.add_sub_cancel_left] at this
  exact this.symm
/-- A division: its symbols, and the text up to where it stops. -/
theorem div_names (L : List ByteArray) (t : ByteArray) (hg : goodB L = true) : ∀ (f i : Nat), i ≤ t.size →
    (∀ s ∈ (divF L t f i).1, 1 ≤ s ∧ s ≤ L.length) ∧ (divF L t f i).2 ≤ t.size ∧ t.data.toList.take (divF L t f i).2 = t.data.toList.take i ++ namesD L (ofNats (divF L t f i).1)
  | 0, i, hi => by simp [divF, namesD, ofNats, hi]
  | f + 1, i, hi => by
    by_cases hlt : i < t.size
    · obtain ⟨s, n, hb⟩ : ∃ s n, bst L (t.extract i t.size) = (s, n) := ⟨_, _, rfl⟩
      by_cases h0 : s = 0
      · rw [divF_stop hlt (by rw [hb]; exact h0)]
        simp [namesD, ofNats, hi]
      · have hc := bst_cases hg (t.extract i t.size)
        rw [hb] at hc
        rcases hc with h | ⟨x, h1, h2, h3, h4, h5, h6⟩
        · simp only [Prod.mk.injEq] at h; exact absurd h.1 h0
        · simp only at h1 h2 h3 h4
          have hst := (St.at hi x).1 h5
          rw [divF_step hlt hb h0]
          obtain ⟨k1, k2, k3⟩ := div_names L t hg f (i + n) (by omega)
          refine ⟨fun q hq => ?_, k2, ?_⟩
          · rcases List.mem_cons.1 hq with rfl | hq
            · exact ⟨h1, h2⟩
            · exact k1 q hq
          · rw [k3, h4, take_more hst.2, List.append_assoc]
            congr 1
            have hno : nameOf L ((s : Nat) : Int) = x := by
              unfold nameOf
              rw [show ((s : Int) - 1).toNat = s - 1 by omega, List.getD_eq_getElem?_getD, h3]; rfl
            unfold ofNats namesD
            rw [List.map_cons, List.flatMap_cons, hno]
    · rw [divF_end hlt]
      simp [namesD, ofNats, hi]
theorem word_of {L : List ByteArray} {D : List Nat} (h : ∀ s ∈ D, 1 ≤ s ∧ s ≤ L.length) (hl : D.length ≤ 200) : wordB L.length (ofNats D) = true := by
  unfold wordB
  simp only [Bool.and_eq_true, decide_eq_true_eq, List.all_eq_true]
  refine ⟨by simpa [ofNats] using hl, fun z hz => ?_⟩
  obtain ⟨s, hs, rfl⟩ := List.mem_map.1 (by unfold ofNats at hz; exact hz)
  have := h s hs
  unfold hasB
  simp; omega
/-- Text of what Tokens returns is the text. -/
theorem text_of_tokens {L : List ByteArray} {t : ByteArray} {D : List Nat} {p : Nat} (h : tokL L t = (D, p, 0)) : textV L (ofNats D) = .tuple #[.string t, .int .i64 0] := by
  unfold tokL at h
  split at h
  · rename_i hT
    split at h
    · simp at h
    · split at h
      · simp at h
      · split at h
        · simp at h
        · rename_i h1 h2 h3
          have hD : (divL L t).1 = D := congrArg Prod.fst h
          obtain ⟨k1, k2, k3⟩ := div_names L t (tableB_iff.1 hT).2 t.size 0 (by omega)
          have hstop : (divF L t t.size 0).2 = t.size := by unfold divL at h2; omega
          rw [hstop] at k3
          have hd2 : (divF L t t.size 0).1 = D := hD
          rw [hd2] at k1 k3
          rw [hD] at h3
          unfold textV
          rw [hT, word_of k1 (by omega)]
          simp only [List.take_zero, List.nil_append] at k3
          rw [List.take_of_length_le (by rw [len_list]; omega)] at k3
          rw [← k3]
          rfl
  · simp at h

/-- No name is a beginning of another one. -/
def Free (L : List ByteArray) : Prop := ∀ (i k : Nat) (x y : ByteArray), i ≠ k → L[i]? = some x → L[k]? = some y → ¬ St y x
theorem St.trans_le {r x y : ByteArray} (hx : St r x) (hy : St r y) (h : x.size ≤ y.size) : St y x := by
  refine ⟨h, ?_⟩
  have := hy.2
  rw [← this, ByteArray.extract_extract, Nat.add_zero, Nat.zero_add, Nat.min_eq_left h]
  exact hx.2
theorem free_one {L : List ByteArray} (hf : Free L) {r x y : ByteArray} (hxm : x ∈ L) (hym : y ∈ L) (hx : St r x) (hy : St r y) : x = y := by
  obtain ⟨i, hi⟩ := List.mem_iff_getElem?.1 hxm
  obtain ⟨k, hk⟩ := List.mem_iff_getElem?.1 hym
  by_cases e : i = k
  · subst e; rw [hi] at hk; exact Option.some.inj hk
  · rcases Nat.le_total x.size y.size with h | h
    · exact absurd (hx.trans_le hy h) (hf i k x y e hi hk)
    · exact absurd (hy.trans_le hx h) (hf k i y x (fun e' => e e'.symm) hk hi)
theorem st_of_list {r x : ByteArray} {rest : List UInt8} (h : r.data.toList = x.data.toList ++ rest) : St r x := by
  have e : r = x ++ ⟨rest.toArray⟩ := by
    apply ByteArray.ext
    apply Array.toList_inj.1
    rw [h, ByteArray.data_append, Array.toList_append]
  subst e
  refine ⟨by rw [ByteArray.size_append]; omega, ByteArray.extract_append_eq_left rfl⟩
theorem drop_list (t : ByteArray) (i : Nat) : (t.extract i t.size).data.toList = t.data.toList.drop i := by
  rw [extract_list, List.take_of_length_le (by rw [List.length_drop, len_list]; omega)]
/-- The division of the names of a word. -/
theorem div_back {L : List ByteArray} (hg : goodB L = true) (hf : Free L) (t : ByteArray) : ∀ (X : List Int) (pre : List UInt8) (f : Nat), (∀ z ∈ X, hasB L.length z = true) → t.data.toList = pre ++ namesD L X → t.size ≤ pre.length + f →
    ofNats (divF L t f pre.length).1 = X ∧ (divF L t f pre.length).2 = t.size
  | [], pre, f, _, ht, _ => by
    have hs : t.size = pre.length := by rw [← len_list, ht]; simp [namesD]
    rw [divF_end (by omega)]
    exact ⟨rfl, hs.symm⟩
  | z :: X, pre, f, hX, ht, hfu => by
    obtain ⟨k, hk1, hk2, hk3⟩ := hasB_idx (hX z (by simp))
    have hx : L[k]? = some L[k] := List.getElem?_eq_getElem hk2
    obtain ⟨x, hxx⟩ : ∃ x, L[k] = x := ⟨_, rfl⟩
    rw [hxx] at hx
    have hno : nameOf L z = x := by unfold nameOf; rw [hk3, List.getD_eq_getElem?_getD, hx]; rfl
    have hnd : namesD L (z :: X) = x.data.toList ++ namesD L X := by unfold namesD; rw [List.flatMap_cons, hno]
    rw [hnd] at ht
    have hx1 := good_pos hg x (List.mem_of_getElem? hx)
    have hsz : t.size = pre.length + (x.size + (namesD L X).length) := by rw [← len_list, ht, List.length_append, List.length_append, len_list]
    have hlt : pre.length < t.size := by omega
    have hr : (t.extract pre.length t.size).data.toList = x.data.toList ++ namesD L X := by
      rw [drop_list, ht]; simp
    have hst := st_of_list hr
    have hb : bst L (t.extract pre.length t.size) = (k + 1, x.size) := by
      refine bst_eq hg (.inr ⟨x, by simp, hx, rfl, hst, fun y hy hys => ?_⟩)
      rw [free_one hf hy (List.mem_of_getElem? hx) hys hst]
      exact Nat.le_refl _
    obtain ⟨f, rfl⟩ : ∃ f', f = f' + 1 := ⟨f - 1, by omega⟩
    have ih := div_back hg hf t X (pre ++ x.data.toList) f (fun y hy => hX y (by simp [hy])) (by rw [ht, List.append_assoc]) (by rw [List.length_append, len_list]; omega)
    rw [List.length_append, len_list] at ih
    rw [divF_step hlt hb (by omega)]
    refine ⟨?_, ih.2⟩
    show ((k + 1 : Nat) : Int) :: ofNats _ = z :: X
    rw [ih.1]
    congr 1
    omega
theorem namesD_len {L : List ByteArray} (hg : goodB L = true) : ∀ (X : List Int), (∀ z ∈ X, hasB L.length z = true) → (namesD L X).length ≤ 40 * X.length
  | [], _ => by simp [namesD]
  | z :: X, h => by
    obtain ⟨k, hk1, hk2, hk3⟩ := hasB_idx (h z (by simp))
    have hx : L[k]? = some L[k] := List.getElem?_eq_getElem hk2
    have hno : nameOf L z = L[k] := by unfold nameOf; rw [hk3, List.getD_eq_getElem?_getD, hx]; rfl
    have h40 := (nameB_size ((goodB_iff.1 hg).1 L[k] (List.getElem_mem hk2))).2
    have ih := namesD_len hg X (fun y hy => h y (by simp [hy]))
    have : namesD L (z :: X) = L[k].data.toList ++ namesD L X := by unfold namesD; rw [List.flatMap_cons, hno]
    rw [this, List.length_append, len_list, List.length_cons]
    omega
/-- Tokens of what Text returns is the word. -/
theorem tokens_of_text {L : List ByteArray} {X : List Int} {s : ByteArray} (h : textV L X = .tuple #[.string s, .int .i64 0]) (hf : Free L) : ∃ D, tokL L s = (D, 0, 0) ∧ ofNats D = X := by
  unfold textV at h
  split at h
  · rename_i hc
    simp only [Bool.and_eq_true] at hc
    obtain ⟨hT, hW⟩ := hc
    have hg := (tableB_iff.1 hT).2
    have hs : s = ⟨(namesD L X).toArray⟩ := by
      simp only [Value.tuple.injEq] at h
      have := congrArg (fun a => a[0]?) h
      simpa using this.symm
    unfold wordB at hW
    simp only [Bool.and_eq_true, decide_eq_true_eq, List.all_eq_true] at hW
    have hl := namesD_len hg X hW.2
    have hsl : s.data.toList = namesD L X := by rw [hs]
    have hsz : s.size ≤ 8000 := by rw [← len_list, hsl]; omega
    obtain ⟨k1, k2⟩ := div_back hg hf s X [] s.size hW.2 (by rw [hsl]; rfl) (by simp)
    refine ⟨(divL L s).1, ?_, k1⟩
    have h2 : (divL L s).2 = s.size := k2
    have h3 : (divL L s).1.length = X.length := by
      have := congrArg List.length k1
      unfold divL
      simpa [ofNats] using this
    unfold tokL
    rw [if_pos hT, if_neg (by omega), h2, if_neg (by omega), if_neg (by omega)]
  · simp at h
theorem tok_len (L : List ByteArray) (t : ByteArray) : (tokL L t).1.length ≤ 200 := by
  unfold tokL
  split
  · split
    · simp
    · split
      · simp
      · split
        · simp
        · show (divL L t).1.length ≤ 200; omega
  · simp
end Go.Proofs.Ytegbgkljpdlpnaa
