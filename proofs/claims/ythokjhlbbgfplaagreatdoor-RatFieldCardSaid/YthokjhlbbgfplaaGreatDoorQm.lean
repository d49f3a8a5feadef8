/- numeral, Parse, by contract. -/
import Derived.Test.YthokjhlbbgfplaaGreatDoorQl
set_option linter.unusedVariables false
set_option linter.unusedSimpArgs false
namespace Go.Proofs.YthokjhlbbgfplaaGreatDoor
open Go.RowKit
open Go.Lib (nDigits decDigits)

theorem list_back (l : List UInt8) : (⟨l.toArray⟩ : ByteArray).data.toList = l := by simp
theorem numeral_any (a : ByteArray) (w : World) (ha : a.size ≤ 1200) (hix : IxOk ⟨(restA a).toArray⟩) : Calls Tryz.prog 42 #[.string a] w (NumeralPost a w) := by
  have hr := rest_size a
  have hRs : (⟨(restA a).toArray⟩ : ByteArray).size ≤ 1200 := by rw [list_size]; omega
  rcases indexAny_at (restA a) [47, 46] with ⟨h1, h2⟩ | ⟨i, c, h1, h2, h3⟩
  · have D := digOk ⟨(restA a).toArray⟩ (by unfold maxLen; omega)
    have M := natOk ⟨(restA a).toArray⟩
    rw [list_back] at D
    refine (numeral_whole a _ _ _ _ w (Lib.hid (numCalls a _ hix h1)) (Lib.hid D) (Lib.hid M)).mono ?_
    rintro e w' ⟨rfl, hg⟩
    refine ⟨⟨_, _, _, rfl, ?_⟩, hg⟩
    rw [numeral_none _ (fun x hx => by have := h2 x hx; simp at this; exact this)]
    by_cases hd : digL (restA a) = true
    · rw [if_pos hd]
      refine ⟨hd, ?_, dec_one.symm⟩
      rw [natB_dec _ (by rw [list_back]; exact (digL_all hd).1), list_back]
    · rw [if_neg hd]
      simpa using hd
  · obtain ⟨hil, hie⟩ := List.getElem?_eq_some_iff.1 h2
    have hiR : i < (⟨(restA a).toArray⟩ : ByteArray).size := by rw [list_size]; exact hil
    have hcR : (⟨(restA a).toArray⟩ : ByteArray)[i]'hiR = c := hie
    have eH := extract_take (restA a) i
    have eT := extract_drop (restA a) (i + 1)
    have hH : (⟨((restA a).take i).toArray⟩ : ByteArray).size ≤ 1200 := by rw [list_size, List.length_take]; omega
    have hT : (⟨((restA a).drop (i + 1)).toArray⟩ : ByteArray).size ≤ 1200 := by rw [list_size, List.length_drop]; omega
    have D1 := digOk ⟨((restA a).take i).toArray⟩ (by unfold maxLen; omega)
    have D2 := digOk ⟨((restA a).drop (i + 1)).toArray⟩ (by unfold maxLen; omega)
    rw [list_back] at D1 D2
    have hcc : c = 47 ∨ c = 46 := by simpa using h3
    have HP := numeral_at (restA a) i c h2 hcc
    have NC := numCalls a i hix h1
    by_cases h46 : c = 46
    · have hc : (((⟨(restA a).toArray⟩ : ByteArray)[i]'hiR).toNat : Int) = 46 := by rw [hcR, h46]; rfl
      have M := natOk (⟨((restA a).take i).toArray⟩ ++ ⟨((restA a).drop (i + 1)).toArray⟩)
      have Q : ∀ w, Calls Tryz.prog 68 #[.string ⟨#[48]⟩, .int .i64 (⟨((restA a).drop (i + 1)).toArray⟩ : ByteArray).size] w (ValPost (.string ⟨(List.replicate ((restA a).drop (i + 1)).length 48).toArray⟩) w) := fun w => by
        refine (Tryz.strings_Repeat ⟨#[48]⟩ _ w (by omega) (by rw [show (⟨#[48]⟩ : ByteArray).size = 1 from rfl]; omega)).mono ?_
        rintro e w' ⟨rfl, hb⟩
        rw [show (⟨#[48]⟩ : ByteArray).data.toList = [48] from rfl, repeat_zeros, list_size]
        exact ⟨rfl, grown_below hb⟩
      have hZ : (⟨(List.replicate ((restA a).drop (i + 1)).length (48 : UInt8)).toArray⟩ : ByteArray).size ≤ 1200 := by rw [list_size, List.length_replicate]; rw [list_size] at hT; exact hT
      rw [if_pos h46] at HP
      have fin : digL ((restA a).take i) = true → digL ((restA a).drop (i + 1)) = true →
          natB (⟨((restA a).take i).toArray⟩ ++ ⟨((restA a).drop (i + 1)).toArray⟩) = decS (dval ((restA a).take i ++ (restA a).drop (i + 1))) := fun k1 k2 => by
        rw [append_list, natB_dec _ (by rw [list_back, List.all_append, (digL_all k1).1, (digL_all k2).1]; rfl), list_back]
      have fz : (⟨#[49]⟩ : ByteArray) ++ ⟨(List.replicate ((restA a).drop (i + 1)).length (48 : UInt8)).toArray⟩ = decS (10 ^ ((restA a).drop (i + 1)).length) := by
        unfold decS
        rw [dec_pow]
        exact append_list [49] _
      cases k1 : digL ((restA a).take i)
      · rw [k1] at D1
        refine (numeral_point_false a _ _ _ _ _ _ _ i w (Lib.hid NC) hiR hRs hc eH eT hT hH (Lib.hid D1) (Lib.hid D2) (Lib.hid M) hZ (Lib.hid Q)).mono ?_
        rintro e w' ⟨rfl, hg⟩
        refine ⟨⟨_, _, _, rfl, ?_⟩, hg⟩
        rw [HP, k1]
        simp
      · rw [k1] at D1
        refine (numeral_point_true a _ _ _ _ _ _ _ i w (Lib.hid NC) hiR hRs hc eH eT hT hH (Lib.hid D1) (Lib.hid D2) (Lib.hid M) hZ (Lib.hid Q)).mono ?_
        rintro e w' ⟨rfl, hg⟩
        refine ⟨⟨_, _, _, rfl, ?_⟩, hg⟩
        rw [HP, k1]
        cases k2 : digL ((restA a).drop (i + 1))
        · simp
        · exact ⟨rfl, fin k1 k2, fz⟩
    · have hc : ¬ (((⟨(restA a).toArray⟩ : ByteArray)[i]'hiR).toNat : Int) = 46 := by
        rw [hcR]
        intro e
        exact h46 (UInt8.toNat_inj.1 (by have : (46 : UInt8).toNat = 46 := rfl; omega))
      have M := natOk ⟨((restA a).take i).toArray⟩
      have M2 := natOk ⟨((restA a).drop (i + 1)).toArray⟩
      rw [if_neg h46] at HP
      have f1 : ∀ b : Bool, (((natB ⟨((restA a).drop (i + 1)).toArray⟩).toList == [48]) = b) → (((natB ⟨((restA a).drop (i + 1)).toArray⟩).toList != [48]) = !b) := fun b h => by rw [bne, h]
      have fn : digL ((restA a).take i) = true → natB ⟨((restA a).take i).toArray⟩ = decS (dval ((restA a).take i)) := fun k => by
        rw [natB_dec _ (by rw [list_back]; exact (digL_all k).1), list_back]
      have fd : digL ((restA a).drop (i + 1)) = true → natB ⟨((restA a).drop (i + 1)).toArray⟩ = decS (dval ((restA a).drop (i + 1))) := fun k => by
        rw [natB_dec _ (by rw [list_back]; exact (digL_all k).1), list_back]
      have fz : digL ((restA a).drop (i + 1)) = true → ((natB ⟨((restA a).drop (i + 1)).toArray⟩).toList == [48]) = decide (dval ((restA a).drop (i + 1)) = 0) := fun k => by rw [fd k, (zero_str' _).1]
      cases k1 : digL ((restA a).take i)
      · rw [k1] at D1
        cases kz : ((natB ⟨((restA a).drop (i + 1)).toArray⟩).toList == [48])
        · refine (numeral_stroke_false_false a _ _ _ _ _ _ _ i w (Lib.hid NC) hiR hRs hc eH eT hT hH (Lib.hid D1) (Lib.hid D2) (Lib.hid M) (Lib.hid M2) kz (f1 _ kz)).mono ?_
          rintro e w' ⟨rfl, hg⟩
          refine ⟨⟨_, _, _, rfl, ?_⟩, hg⟩
          rw [HP, k1]
          simp
        · refine (numeral_stroke_false_true a _ _ _ _ _ _ _ i w (Lib.hid NC) hiR hRs hc eH eT hT hH (Lib.hid D1) (Lib.hid D2) (Lib.hid M) (Lib.hid M2) kz (f1 _ kz)).mono ?_
          rintro e w' ⟨rfl, hg⟩
          refine ⟨⟨_, _, _, rfl, ?_⟩, hg⟩
          rw [HP, k1]
          simp
      · rw [k1] at D1
        cases kz : ((natB ⟨((restA a).drop (i + 1)).toArray⟩).toList == [48])
        · refine (numeral_stroke_true_false a _ _ _ _ _ _ _ i w (Lib.hid NC) hiR hRs hc eH eT hT hH (Lib.hid D1) (Lib.hid D2) (Lib.hid M) (Lib.hid M2) kz (f1 _ kz)).mono ?_
          rintro e w' ⟨rfl, hg⟩
          refine ⟨⟨_, _, _, rfl, ?_⟩, hg⟩
          rw [HP, k1]
          cases k2 : digL ((restA a).drop (i + 1))
          · simp
          · have := (fz k2).symm.trans kz
            simp only [decide_eq_false_iff_not] at this
            simp only [Bool.and_self, if_true, if_neg this]
            exact ⟨trivial, fn k1, fd k2⟩
        · refine (numeral_stroke_true_true a _ _ _ _ _ _ _ i w (Lib.hid NC) hiR hRs hc eH eT hT hH (Lib.hid D1) (Lib.hid D2) (Lib.hid M) (Lib.hid M2) kz (f1 _ kz)).mono ?_
          rintro e w' ⟨rfl, hg⟩
          refine ⟨⟨_, _, _, rfl, ?_⟩, hg⟩
          rw [HP, k1]
          cases k2 : digL ((restA a).drop (i + 1))
          · simp
          · have := (fz k2).symm.trans kz
            simp only [decide_eq_true_eq] at this
            simp only [Bool.and_self, if_true, if_pos this]

def NumeralIs (a : ByteArray) (N : Bool) (S Z : ByteArray) (k : Bool) (w : World) (e : Ending) (w' : World) : Prop := e = .returned (.tuple #[.bool N, .string S, .string Z, .bool k]) ∧ w.grownBy w' none
set_option maxRecDepth 100000 in
set_option maxHeartbeats 1000000 in
theorem parse_bad (a : ByteArray) (w : World) (NU : Hid (∀ w, Calls Tryz.prog 42 #[.string a] w fun e w' => (∃ N S Z, e = .returned (.tuple #[.bool N, .string S, .string Z, .bool false])) ∧ w.grownBy w' none)) :
    Calls Tryz.prog 16 #[.string a] w (ValPost (errV 3) w) := by
  unfold errV
  go_enter Tryz.func16, Tryz.ntmps16
  go_wp2_with fail
  refine (NU.out _).mono ?_
  rintro e w1 ⟨⟨N, S, Z, rfl⟩, hg⟩
  have G1 := Lib.hid hg
  clear hg
  go_wp2
  go_ret2
  exact ⟨rfl, G1.out⟩
set_option maxRecDepth 100000 in
set_option maxHeartbeats 1000000 in
theorem parse_long (a : ByteArray) (N : Bool) (S Z : ByteArray) (w : World) (h : (900 : Int) < (a.size : Int)) (NU : Hid (∀ w, Calls Tryz.prog 42 #[.string a] w (ValPost (.tuple #[.bool N, .string S, .string Z, .bool true]) w))) :
    Calls Tryz.prog 16 #[.string a] w (ValPost (errV 2) w) := by
  unfold errV
  go_enter Tryz.func16, Tryz.ntmps16
  go_wp2_with fail
  refine (NU.out _).mono ?_
  rintro e w1 ⟨rfl, hg⟩
  have G1 := Lib.hid hg
  clear hg
  go_wp2
  go_ret2
  exact ⟨rfl, G1.out⟩
set_option maxRecDepth 100000 in
set_option maxHeartbeats 1000000 in
theorem parse_made (a : ByteArray) (N : Bool) (S Z c : ByteArray) (E : Int) (w : World) (h : ¬ (900 : Int) < (a.size : Int)) (NU : Hid (∀ w, Calls Tryz.prog 42 #[.string a] w (ValPost (.tuple #[.bool N, .string S, .string Z, .bool true]) w)))
    (MK : Hid (∀ w, Calls Tryz.prog 14 #[.bool N, .string S, .string Z] w (ValPost (.tuple #[.string c, .int .i64 E]) w))) :
    Calls Tryz.prog 16 #[.string a] w (ValPost (.tuple #[.string c, .int .i64 E]) w) := by
  go_enter Tryz.func16, Tryz.ntmps16
  go_wp2_with fail
  refine (NU.out _).mono ?_
  rintro e w1 ⟨rfl, hg⟩
  have G1 := Lib.hid hg
  clear hg
  go_wp2_with fail
  refine (MK.out _).mono ?_
  rintro e w2 ⟨rfl, hg⟩
  have G2 := Lib.hid (grown_trans G1.out hg)
  clear hg
  go_wp2
  go_ret2
  exact ⟨rfl, G2.out⟩
theorem parse_any (a : ByteArray) (w : World) (ha : a.size ≤ 1200) (hix : IxOk ⟨(restA a).toArray⟩) : Calls Tryz.prog 16 #[.string a] w (ValPost (parseV a) w) := by
  have NU := fun w => numeral_any a w ha hix
  unfold parseV
  unfold NumeralPost at NU
  cases hp : numeralP (restA a) with
  | none =>
    rw [hp] at NU
    refine parse_bad a w (Lib.hid fun w => (NU w).mono ?_)
    rintro e w' ⟨⟨S, Z, k, rfl, rfl⟩, hg⟩
    exact ⟨⟨_, _, _, rfl⟩, hg⟩
  | some nd =>
    obtain ⟨n, d⟩ := nd
    rw [hp] at NU
    have NU' : ∀ w, Calls Tryz.prog 42 #[.string a] w (ValPost (.tuple #[.bool (negA a), .string (decS n), .string (decS d), .bool true]) w) := fun w => (NU w).mono (by
      rintro e w' ⟨⟨S, Z, k, rfl, rfl, rfl, rfl⟩, hg⟩
      exact ⟨rfl, hg⟩)
    by_cases hl : 900 < a.size
    · simp only [if_pos hl]
      exact parse_long a _ _ _ w (by omega) (Lib.hid NU')
    · simp only [if_neg hl]
      obtain ⟨s1, s2⟩ := numeral_small hp
      have hr := rest_size a
      have hd := numeral_den hp
      have MK := fun w => make_any (negA a) (decS n) (decS d) w (big_len _ (by omega)) (big_len _ (by omega))
      have em : makeV (negA a) (decS n) (decS d) = finV (mkRat (sg (negA a) n) d) := by
        unfold makeV
        rw [num_short n (by omega), num_short d (by omega), nv_dec, nv_dec]
        simp only [Bool.and_self, Bool.true_and, hd, decide_false, Bool.not_false, if_true]
      rw [em] at MK
      obtain ⟨S, E, e⟩ := finV_form (mkRat (sg (negA a) n) d)
      rw [e] at MK ⊢
      exact parse_made a _ _ _ _ _ w (by omega) (Lib.hid NU') (Lib.hid MK)
end Go.Proofs.YthokjhlbbgfplaaGreatDoor
