/- Plain: numerals. -/
import Derived.Test.YthokjhlbbgfplaaGreatDoorPm
set_option linter.unusedVariables false
set_option linter.unusedSimpArgs false
namespace Go.Proofs.YthokjhlbbgfplaaGreatDoor
open Go.Lib

/-- One or more digits, and nothing else. -/
def digL (l : List UInt8) : Bool := !l.isEmpty && l.all isDg
/-- What a numeral without its sign is: its fraction, not in lowest terms. -/
def numeralP (r : List UInt8) : Option (Nat × Nat) :=
  match r.dropWhile isDg with
  | [] => if r.takeWhile isDg = [] then none else some (dval (r.takeWhile isDg), 1)
  | c :: t => if r.takeWhile isDg = [] ∨ digL t = false then none else if c = 46 then some (dval (r.takeWhile isDg ++ t), 10 ^ t.length) else if c = 47 then (if dval t = 0 then none else some (dval (r.takeWhile isDg), dval t)) else none
def parseV (a : ByteArray) : Value := match numeralP (restA a) with
  | none => .tuple #[.string ⟨#[]⟩, .int .i64 3]
  | some (n, d) => if 900 < a.size then .tuple #[.string ⟨#[]⟩, .int .i64 2] else finV (mkRat (sg (negA a) n) d)

theorem dval_append (a b : List UInt8) : dval (a ++ b) = b.foldl (fun n c => n * 10 + (c.toNat - 48)) (dval a) := by unfold dval; rw [List.foldl_append]
theorem dval_zero_cons (l : List UInt8) : dval (48 :: l) = dval l := by unfold dval; rfl
theorem dval_one_zeros (k : Nat) : dval (49 :: List.replicate k 48) = 10 ^ k := by
  induction k with
  | zero => rfl
  | succ k ih => rw [List.replicate_succ', ← List.cons_append, dval_snoc, ih, Nat.pow_succ]; rfl
theorem dec_pow (k : Nat) : decDigits (10 ^ k) = 49 :: List.replicate k 48 := by
  rw [← dval_one_zeros k]
  refine dec_dval _ (by simp) ?_ (.inr (by simp))
  rw [List.all_cons, Bool.and_eq_true]
  refine ⟨by decide, ?_⟩
  rw [List.all_eq_true]
  intro x hx
  rw [List.mem_replicate] at hx
  rw [hx.2]; decide
theorem dval_drop (l : List UInt8) : dval (l.dropWhile (· == 48)) = dval l := by
  induction l with
  | nil => rfl
  | cons c r ih =>
    by_cases h : c = 48
    · subst h; rw [List.dropWhile_cons_of_pos (by decide), ih, dval_zero_cons]
    · rw [List.dropWhile_cons_of_neg (by simpa using h)]
theorem drop_all (l : List UInt8) (h : l.all isDg = true) : (l.dropWhile (· == 48)).all isDg = true := by
  rw [List.all_eq_true] at h ⊢
  intro x hx
  exact h x ((List.dropWhile_sublist _).mem hx)
theorem drop_head (l : List UInt8) : (l.dropWhile (· == 48)).headD 0 ≠ 48 := by
  induction l with
  | nil => decide
  | cons c r ih =>
    by_cases h : c = 48
    · subst h; rw [List.dropWhile_cons_of_pos (by decide)]; exact ih
    · rw [List.dropWhile_cons_of_neg (by simpa using h)]; exact h
/-- Digits without the zeros in front. -/
theorem dec_natural (l : List UInt8) (h : l.all isDg = true) : decDigits (dval l) = if l.dropWhile (· == 48) = [] then [48] else l.dropWhile (· == 48) := by
  split
  · rename_i e
    rw [← dval_drop l, e]
    decide +kernel
  · rename_i e
    rw [← dval_drop l]
    exact dec_dval _ e (drop_all l h) (.inr (drop_head l))
theorem dval_lt (l : List UInt8) (h : l.all isDg = true) : dval l < 10 ^ l.length := by
  have : ∀ n, ∀ l : List UInt8, l.length = n → l.all isDg = true → dval l < 10 ^ l.length := by
    intro n
    induction n with
    | zero => intro l h0 _; rw [List.eq_nil_of_length_eq_zero h0]; decide
    | succ n ih =>
      intro l h0 ha
      obtain ⟨r, c, rfl⟩ : ∃ r c, l = r ++ [c] := by
        rcases List.eq_nil_or_concat l with rfl | ⟨r, c, rfl⟩
        · simp at h0
        · exact ⟨r, c, by simp⟩
      rw [List.all_append, Bool.and_eq_true] at ha
      have h1 := ih r (by simpa using h0) ha.1
      have h2 : isDg c = true := by simpa using ha.2
      unfold isDg at h2
      simp at h2
      rw [dval_snoc, List.length_append, List.length_singleton, Nat.pow_succ]
      omega
  exact this _ l rfl h
/-- The digits of a text of digits are no more than its bytes. -/
theorem nDigits_dval (l : List UInt8) (h : l.all isDg = true) (h0 : l ≠ []) : nDigits (dval l) ≤ l.length := by
  have hd := dec_natural l h
  rw [← decDigits_length, hd]
  split
  · have := List.length_pos_iff.2 h0; simp; omega
  · exact (List.dropWhile_sublist _).length_le
theorem digL_all {l : List UInt8} (h : digL l = true) : l.all isDg = true ∧ l ≠ [] := by
  unfold digL at h
  simp only [Bool.and_eq_true, Bool.not_eq_true', List.isEmpty_eq_false_iff] at h
  exact ⟨h.2, h.1⟩
theorem digL_of {l : List UInt8} (h : l.all isDg = true) (h0 : l ≠ []) : digL l = true := by
  unfold digL
  simp only [Bool.and_eq_true, Bool.not_eq_true', List.isEmpty_eq_false_iff]
  exact ⟨h0, h⟩
theorem take_while_all (l : List UInt8) : (l.takeWhile isDg).all isDg = true := by simp
theorem while_parts (l : List UInt8) : l.takeWhile isDg ++ l.dropWhile isDg = l := List.takeWhile_append_dropWhile
theorem drop_while_head (l : List UInt8) (c : UInt8) (t : List UInt8) (h : l.dropWhile isDg = c :: t) : isDg c = false := by
  induction l with
  | nil => simp at h
  | cons x r ih =>
    by_cases hx : isDg x = true
    · rw [List.dropWhile_cons_of_pos hx] at h; exact ih h
    · rw [List.dropWhile_cons_of_neg hx] at h
      obtain ⟨rfl, rfl⟩ := List.cons.inj h
      simpa using hx

/-! ### By the place of the first stroke or point -/
theorem all_split (i : Nat) (l : List UInt8) (h : (l.take i).all isDg = true) (hx : ∀ x, l[i]? = some x → isDg x = false) : l.takeWhile isDg = l.take i ∧ l.dropWhile isDg = l.drop i := by
  induction l generalizing i with
  | nil => simp
  | cons c r ih =>
    cases i with
    | zero =>
      have := hx c rfl
      rw [List.takeWhile_cons_of_neg (by simp [this]), List.dropWhile_cons_of_neg (by simp [this])]
      simp
    | succ i =>
      rw [List.take_succ_cons, List.all_cons, Bool.and_eq_true] at h
      obtain ⟨e1, e2⟩ := ih i h.2 (fun x hx' => hx x (by simpa using hx'))
      rw [List.takeWhile_cons_of_pos h.1, List.dropWhile_cons_of_pos h.1, e1, e2]
      simp
theorem numeral_none (r : List UInt8) (h : ∀ x ∈ r, x ≠ 47 ∧ x ≠ 46) : numeralP r = if digL r then some (dval r, 1) else none := by
  unfold numeralP
  cases hd : r.dropWhile isDg with
  | nil =>
    have e := while_parts r
    rw [hd, List.append_nil] at e
    simp only [e]
    have ha : r.all isDg = true := by rw [← e]; exact take_while_all r
    by_cases h0 : r = []
    · subst h0; simp [digL]
    · simp [h0, digL_of ha h0]
  | cons c t =>
    have hc := drop_while_head r c t hd
    have hm : c ∈ r := (List.dropWhile_sublist isDg).mem (by rw [hd]; simp)
    obtain ⟨n1, n2⟩ := h c hm
    have hn : digL r = false := by
      rw [← Bool.not_eq_true]; intro k
      have := List.all_eq_true.1 (digL_all k).1 c hm
      rw [hc] at this; cases this
    simp [n1, n2, hn]
theorem numeral_at (r : List UInt8) (i : Nat) (c : UInt8) (hc : r[i]? = some c) (hcc : c = 47 ∨ c = 46) :
    numeralP r = if digL (r.take i) && digL (r.drop (i + 1)) then (if c = 46 then some (dval (r.take i ++ r.drop (i + 1)), 10 ^ (r.drop (i + 1)).length) else if dval (r.drop (i + 1)) = 0 then none else some (dval (r.take i), dval (r.drop (i + 1)))) else none := by
  have hnd : isDg c = false := by rcases hcc with rfl | rfl <;> decide
  have hdrop : r.drop i = c :: r.drop (i + 1) := by
    obtain ⟨hi, e⟩ := List.getElem?_eq_some_iff.1 hc
    rw [List.drop_eq_getElem_cons hi, e]
  by_cases ha : (r.take i).all isDg = true
  · obtain ⟨e1, e2⟩ := all_split i r ha (fun x hx => by rw [hc] at hx; cases hx; exact hnd)
    unfold numeralP
    rw [e2, hdrop, e1]
    simp only
    by_cases h0 : r.take i = []
    · simp [h0, digL]
    · rw [digL_of ha h0]
      cases hd : digL (r.drop (i + 1))
      · simp
      · rcases hcc with rfl | rfl
        · simp [h0]
        · simp [h0]
  · have hf : digL (r.take i) = false := by
      rw [← Bool.not_eq_true]; intro k; exact ha (digL_all k).1
    rw [hf]
    simp only [Bool.false_and, Bool.false_eq_true, if_false]
    unfold numeralP
    cases hd : r.dropWhile isDg with
    | nil =>
      exfalso
      have e := while_parts r
      rw [hd, List.append_nil] at e
      apply ha
      rw [List.all_eq_true]
      intro x hx
      have h2 := take_while_all r
      rw [e] at h2
      exact List.all_eq_true.1 h2 x (List.mem_of_mem_take hx)
    | cons b t =>
      have hb := drop_while_head r b t hd
      -- the digits in front end before place i, so the stroke or point lies behind b
      have hlen : (r.takeWhile isDg).length < i := by
        rcases Nat.lt_or_ge (r.takeWhile isDg).length i with h1 | h1
        · exact h1
        · exfalso
          apply ha
          rw [List.all_eq_true]
          intro x hx
          have h2 : r.take i = (r.takeWhile isDg).take i := by
            conv => lhs; rw [← while_parts r]
            rw [List.take_append_of_le_length h1]
          rw [h2] at hx
          exact List.all_eq_true.1 (take_while_all r) x (List.mem_of_mem_take hx)
      have hin : c ∈ t := by
        have e : r = r.takeWhile isDg ++ b :: t := by rw [← hd]; exact (while_parts r).symm
        rw [e] at hc
        rw [List.getElem?_append_right (by omega)] at hc
        obtain ⟨q, hq⟩ : ∃ q, i - (r.takeWhile isDg).length = q + 1 := ⟨i - (r.takeWhile isDg).length - 1, by omega⟩
        rw [hq, List.getElem?_cons_succ] at hc
        exact List.mem_of_getElem? hc
      have hf : digL t = false := by
        rw [← Bool.not_eq_true]; intro k
        have := List.all_eq_true.1 (digL_all k).1 c hin
        rw [hnd] at this; cases this
      simp [hf]

theorem numeral_den {r : List UInt8} {n d : Nat} (h : numeralP r = some (n, d)) : d ≠ 0 := by
  unfold numeralP at h
  split at h
  · split at h
    · cases h
    · cases h; decide
  · split at h
    · cases h
    · split at h
      · cases h; exact Nat.ne_of_gt (Nat.pow_pos (by decide))
      · split at h
        · split at h
          · cases h
          · rename_i hz; cases h; exact hz
        · cases h
theorem nDigits_pow (k : Nat) : nDigits (10 ^ k) = k + 1 := by rw [← decDigits_length, dec_pow]; simp
theorem numeral_small {r : List UInt8} {n d : Nat} (h : numeralP r = some (n, d)) : nDigits n ≤ r.length ∧ nDigits d ≤ r.length := by
  have e := congrArg List.length (while_parts r)
  rw [List.length_append] at e
  unfold numeralP at h
  split at h
  · rename_i hd
    split at h
    · cases h
    · rename_i h0
      cases h
      rw [hd] at e
      have h1 := nDigits_dval _ (take_while_all r) h0
      have h2 := List.length_pos_iff.2 h0
      simp at e
      refine ⟨by omega, ?_⟩
      rw [show nDigits 1 = 1 by rw [nDigits_small (by decide)]]
      omega
  · rename_i c t hd
    rw [hd, List.length_cons] at e
    split at h
    · cases h
    · rename_i h0
      have h0a : r.takeWhile isDg ≠ [] := fun k => h0 (.inl k)
      have h0b : digL t = true := by cases k : digL t; exact absurd (.inr k) h0; rfl
      obtain ⟨ta, tn⟩ := digL_all h0b
      split at h
      · cases h
        refine ⟨?_, by rw [nDigits_pow]; have := List.length_pos_iff.2 h0a; omega⟩
        have h1 := nDigits_dval (r.takeWhile isDg ++ t) (by rw [List.all_append, take_while_all, ta]; rfl) (by simp [tn])
        rw [List.length_append] at h1
        omega
      · split at h
        · split at h
          · cases h
          · cases h
            have h1 := nDigits_dval _ (take_while_all r) h0a
            have h2 := nDigits_dval _ ta tn
            omega
        · cases h
end Go.Proofs.YthokjhlbbgfplaaGreatDoor
