/- Plain: what the reference asks of the parts of a text. -/
import Derived.Test.YthokjhlbbgfplaaGreatDoorPm
set_option linter.unusedVariables false
set_option linter.unusedSimpArgs false
namespace Go.Proofs.YthokjhlbbgfplaaGreatDoor
open Go.Lib

theorem cut_back (s : List UInt8) : s = (cut s [47]).1 ++ (if (cut s [47]).2.2 then 47 :: (cut s [47]).2.1 else []) := by
  unfold cut
  rcases index_spec s [47] with ⟨h1, _⟩ | ⟨i, h1, h2, h3, _⟩
  · rw [h1]; simp
  · rw [h1, if_pos (by omega)]
    simp only [if_true, Int.toNat_natCast, List.length_singleton]
    have hc := occAt_head (s := s) (sub := [47]) rfl h3
    obtain ⟨hi, e⟩ := List.getElem?_eq_some_iff.1 hc
    have : s.drop i = 47 :: s.drop (i + 1) := by rw [List.drop_eq_getElem_cons hi, e]
    rw [← this, List.take_append_drop]
theorem neg_back (a : List UInt8) : a = (if hasPrefix a [45] then [45] else []) ++ trimPrefix a [45] := by
  unfold trimPrefix
  cases h : hasPrefix a [45]
  · simp
  · unfold hasPrefix at h
    cases a with
    | nil => simp at h
    | cons c r => simp at h; subst h; simp
theorem list_of (a : ByteArray) : a.data.toList = (if negA a then [45] else []) ++ ((numA a).data.toList ++ (if strokeA a then 47 :: (tailA a).data.toList else [])) := by
  conv => lhs; rw [neg_back a.data.toList]
  unfold negA numA strokeA tailA
  congr 1
  show restA a = _
  conv => lhs; rw [cut_back (restA a)]

/-- What the reference asks of the parts. -/
structure PartsOk (a : ByteArray) : Prop where
  n : numB (numA a) = true
  d : numB (denA a) = true
  sn : (numA a).size ≤ 400
  sd : (denA a).size ≤ 400
  d0 : nv (denA a) ≠ 0
  z : nv (numA a) = 0 → negA a = false ∧ strokeA a = false
  one : nv (denA a) = 1 → strokeA a = false
  g : Nat.gcd (nv (numA a)) (nv (denA a)) = 1 ∨ nv (denA a) = 1
theorem PartsOk.gcd {a : ByteArray} (h : PartsOk a) : Nat.gcd (nv (numA a)) (nv (denA a)) = 1 := by
  rcases h.g with k | k
  · exact k
  · rw [k, Nat.gcd_one_right]
theorem parts_rat {a : ByteArray} (h : PartsOk a) : IsRat a (mkRat (sg (negA a) (nv (numA a))) (nv (denA a))) := by
  have e1 := mk_num (negA a) (nv (numA a)) (nv (denA a)) h.d0
  have e2 := mk_den (negA a) (nv (numA a)) (nv (denA a)) h.d0
  have e3 := mk_neg (negA a) (nv (numA a)) (nv (denA a)) h.d0
  rw [h.gcd, Nat.div_one] at e1 e2
  obtain ⟨n1, n2⟩ := num_is _ h.n
  obtain ⟨d1, d2⟩ := num_is _ h.d
  refine ⟨⟨?_, ?_⟩, ?_⟩
  · rw [e1, ← decS_size, ← n1]; exact h.sn
  · rw [e2, ← decS_size, ← d1]; exact h.sd
  · apply ByteArray.ext
    apply Array.ext'
    rw [list_of a]
    unfold ratS ratL
    rw [e1, e2]
    have en : (numA a).data.toList = decDigits (nv (numA a)) := by conv => lhs; rw [n1]
                                                                   simp [decS]
    rw [en]
    show _ = _ ++ (_ ++ _)
    have hs : ((mkRat (sg (negA a) (nv (numA a))) (nv (denA a))).num < 0) ↔ negA a = true := by
      rw [e3]
      constructor
      · exact fun k => k.1
      · intro k
        refine ⟨k, fun z => ?_⟩
        have := (h.z z).1
        rw [k] at this; cases this
    congr 1
    · by_cases k : negA a = true
      · rw [if_pos k, if_pos (hs.2 k)]
      · rw [if_neg k, if_neg (fun q => k (hs.1 q))]
    · congr 1
      by_cases k : nv (denA a) = 1
      · rw [if_pos k, h.one k]; simp
      · rw [if_neg k]
        cases hk : strokeA a
        · exfalso
          apply k
          unfold denA
          rw [hk]
          simp only [Bool.false_eq_true, if_false]
          decide +kernel
        · have ed : denA a = tailA a := by unfold denA; rw [hk]; simp
          rw [if_pos rfl, ← ed]
          congr 1
          conv => lhs; rw [d1]
          simp [decS]
theorem rat_parts {a : ByteArray} {x : Rat} (h : IsRat a x) : PartsOk a := by
  obtain ⟨h1, h2, h3, h4⟩ := apart a x h.eq
  have s1 := h.short.1
  have s2 := h.short.2
  have hd := x.den_nz
  have hr := x.reduced
  refine ⟨?_, ?_, ?_, ?_, ?_, ?_, ?_, ?_⟩
  · rw [h2]; exact num_short _ (by omega)
  · rw [h3]; exact num_short _ (by omega)
  · rw [h2, decS_size]; exact s1
  · rw [h3, decS_size]; exact s2
  · rw [h3, nv_dec]; exact hd
  · rw [h2, nv_dec, h1, h4]
    intro z
    have hx : x.den = 1 := by
      have : Nat.gcd x.num.natAbs x.den = 1 := hr
      rw [z, Nat.gcd_zero_left] at this
      exact this
    have hz : x.num = 0 := by omega
    rw [hx, hz]
    decide
  · rw [h3, nv_dec, h4]
    intro z
    simp [z]
  · rw [h2, h3, nv_dec, nv_dec]
    exact .inl hr
theorem parts_iff (a : ByteArray) : PartsOk a ↔ ∃ x, IsRat a x := ⟨fun h => ⟨_, parts_rat h⟩, fun ⟨_, h⟩ => rat_parts h⟩
end Go.Proofs.YthokjhlbbgfplaaGreatDoor
