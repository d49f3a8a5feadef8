/- The reference's Parse, by contract. -/
import Derived.Test.YthokjhlbbgfplaaGreatDoorZh
import Derived.Test.YthokjhlbbgfplaaGreatDoorZi
set_option linter.unusedVariables false
set_option linter.unusedSimpArgs false
namespace Go.Proofs.YthokjhlbbgfplaaGreatDoor
open Go.RowKit
open Go.Lib (nDigits decDigits)

theorem extract_list (a : ByteArray) (i j : Nat) : (a.extract i j).data.toList = (a.data.toList.drop i).take (j - i) := by
  rw [ByteArray.data_extract, Array.toList_extract, List.extract_eq_take_drop]
theorem endOk (a : ByteArray) (i : Nat) (ha : a.size ≤ 1200) (hi : i ≤ a.size) : EndOk a i (dEnd a i) := fun w => rdigits_any a i w (by unfold maxLen; omega) hi
theorem plainOk (s : ByteArray) (h0 : 1 ≤ s.size) (hs : s.size ≤ 1200) : PlainOk s (natB s) := fun w => rplain_any s w (by unfold maxLen; omega) h0
theorem makeOk (neg : Bool) (n d : Nat) (hn : nDigits n ≤ 1000) (hd : nDigits d ≤ 1000) (h0 : d ≠ 0) {S : ByteArray} {E : Int} (e : finV (mkRat (sg neg n) d) = .tuple #[.string S, .int .i64 E]) : MakeOk neg (decS n) (decS d) S E := (rmk neg n d hn hd h0 rfl e).out
theorem take_all : ∀ {t : List UInt8}, t.all isDg = true → t.takeWhile isDg = t
  | [], _ => rfl
  | c :: r, h => by
    rw [List.all_cons, Bool.and_eq_true] at h
    rw [List.takeWhile_cons_of_pos h.1, take_all h.2]
theorem pV_none {a : ByteArray} (h : numeralP (restA a) = none) : parseV a = .tuple #[.string ⟨#[]⟩, .int .i64 3] := by unfold parseV; rw [h]
theorem pV_long {a : ByteArray} {n d : Nat} (h : numeralP (restA a) = some (n, d)) (hl : 900 < a.size) : parseV a = .tuple #[.string ⟨#[]⟩, .int .i64 2] := by unfold parseV; rw [h]; simp only [if_pos hl]
theorem pV_made {a : ByteArray} {n d : Nat} (h : numeralP (restA a) = some (n, d)) (hl : ¬ 900 < a.size) : parseV a = finV (mkRat (sg (negA a) n) d) := by unfold parseV; rw [h]; simp only [if_neg hl]

theorem rparse_plain (a : ByteArray) (w : World) (ha : a.size ≤ 1200) (h0 : (0 : Int) < (a.size : Int)) (hp : 0 < a.size) (h1 : (((a[0]'hp).toNat : Int) == 45) = false) (hN : negA a = false) (hr : restA a = a.data.toList.drop 0) :
    Calls Tryz.prog 17 #[.string a] w (ValPost (parseV a) w) := by
  have hsz := Lib.size_eq a
  have D1 := endOk a 0 ha (by omega)
  have wp := while_parts (restA a)
  have hlen := congrArg List.length hr
  rw [List.length_drop, ← hsz] at hlen
  have hlp := congrArg List.length wp
  rw [List.length_append, hlen] at hlp
  have he0 : dEnd a 0 = 0 + ((restA a).takeWhile isDg).length := by unfold dEnd; rw [hr]
  have hda := take_while_all (restA a)
  obtain ⟨ds, eds⟩ : ∃ ds, (restA a).takeWhile isDg = ds := ⟨_, rfl⟩
  obtain ⟨rest, ers⟩ : ∃ rest, (restA a).dropWhile isDg = rest := ⟨_, rfl⟩
  rw [eds] at wp he0 hlp hda
  rw [ers] at wp hlp
  obtain ⟨e, he⟩ : ∃ e, dEnd a 0 = e := ⟨_, rfl⟩
  rw [he] at D1 he0
  have eNl : (a.extract 0 e).data.toList = ds := by
    rw [extract_list, ← hr, ← wp, he0, Nat.add_sub_cancel_left, List.take_left']
    rfl
  have hNs : (a.extract 0 e).size = ds.length := by rw [Lib.size_eq, eNl]
  have hP1 : 1 ≤ ds.length → PlainOk (a.extract 0 e) (decS (dval ds)) := fun h => by
    have := plainOk (a.extract 0 e) (by omega) (by omega)
    rw [natB_dec _ (by rw [eNl]; exact hda), eNl] at this
    exact this
  by_cases hd0 : ds = []
  · -- no digit in front
    have hn : numeralP (restA a) = none := by
      unfold numeralP
      rw [eds, ers, hd0]
      cases rest <;> simp
    have hef : e = 0 := by rw [he0, hd0]; rfl
    rw [pV_none hn]
    rw [hef] at D1
    by_cases hin : 0 < a.size
    · have hcell : (a.data.toList)[0]? = some (a[0]'hin) := list_at a 0 hin
      cases c1 : (((a[0]'hin).toNat : Int) == 47)
      · cases c2 : (((a[0]'hin).toNat : Int) == 46)
        · exact parse_plain_other0 a 0 0 w ha h0 hp h1 (Lib.hid D1) hin c1 c2
        · have D2 := endOk a (0 + 1) ha (by omega)
          exact parse_plain_p0 a 0 _ w ha h0 hp h1 (Lib.hid D1) hin c1 c2 (Lib.hid D2)
      · have D2 := endOk a (0 + 1) ha (by omega)
        exact parse_plain_s0 a 0 _ w ha h0 hp h1 (Lib.hid D1) hin c1 (Lib.hid D2)
    · exfalso; omega
  have hd1 : 1 ≤ ds.length := List.length_pos_iff.2 hd0
  have q1 : ((e : Int) == ((0 : Nat) : Int)) = false := by simp; omega
  have hfe : 0 ≤ e := by omega
  have P1 := hP1 hd1
  have hdv := nDigits_dval ds hda hd0
  cases rest with
  | nil =>
    simp only [List.length_nil, Nat.add_zero] at hlp
    have hn : numeralP (restA a) = some (dval ds, 1) := by unfold numeralP; rw [eds, ers]; simp [hd0]
    by_cases hl : 900 < a.size
    · rw [pV_long hn hl]
      exact parse_plain_intlong a _ e 0 w ha h0 hp h1 (Lib.hid D1) (by omega) (by omega) q1 hfe rfl (by omega)
    · obtain ⟨S, E, ef⟩ := finV_form (mkRat (sg (negA a) (dval ds)) 1)
      rw [pV_made hn hl, ef]
      rw [hN] at ef
      have MK := makeOk false (dval ds) 1 (by omega) (by rw [Lib.nDigits_small (by decide)]; decide) (by decide) ef
      rw [dec_one] at MK
      exact parse_plain_int a _ _ S e 0 w ha h0 hp h1 (Lib.hid D1) (by omega) (by omega) q1 hfe rfl (Lib.hid P1) (by omega) E (Lib.hid MK)
  | cons c t =>
    rw [List.length_cons] at hlp
    have hin : e < a.size := by omega
    have hcl : a.data.toList[e]? = some c := by
      have : (restA a)[ds.length]? = some c := by rw [← wp, List.getElem?_append_right (Nat.le_refl _), Nat.sub_self]; rfl
      rw [hr, List.getElem?_drop, ← he0] at this
      exact this
    have hce : a[e]'hin = c := by rw [list_at a e hin] at hcl; exact Option.some.inj hcl
    have hdt : a.data.toList.drop (e + 1) = t := by
      have : (restA a).drop (ds.length + 1) = t := by rw [← wp, ← List.drop_drop, List.drop_left']; rfl; rfl
      rw [hr, List.drop_drop] at this
      rw [← this]; congr 1; omega
    cases c1 : (((a[e]'hin).toNat : Int) == 47)
    case false =>
      cases c2 : (((a[e]'hin).toNat : Int) == 46)
      case false =>
        have n1 : c ≠ 47 := by rintro rfl; rw [hce] at c1; exact absurd c1 (by decide)
        have n2 : c ≠ 46 := by rintro rfl; rw [hce] at c2; exact absurd c2 (by decide)
        have hn : numeralP (restA a) = none := by unfold numeralP; rw [eds, ers]; simp [n1, n2]
        rw [pV_none hn]
        exact parse_plain_other1 a e 0 w ha h0 hp h1 (Lib.hid D1) hin q1 hfe c1 c2
      case true =>
        have hc : c = 46 := by rw [← hce]; exact UInt8.toNat_inj.1 (by have h2 := beq_iff_eq.1 c2; have : (46 : UInt8).toNat = 46 := rfl; omega)
        have D2 := endOk a (e + 1) ha (by omega)
        have hl0 : dEnd a (e + 1) = e + 1 + (t.takeWhile isDg).length := by unfold dEnd; rw [hdt]
        obtain ⟨l, hl⟩ : ∃ l, dEnd a (e + 1) = l := ⟨_, rfl⟩
        rw [hl] at D2 hl0
        have htl : (t.takeWhile isDg).length ≤ t.length := (List.takeWhile_sublist isDg).length_le
        have wt := while_parts t
        by_cases hl1 : l < a.size
        · have hdn : digL t = false := by
            rw [← Bool.not_eq_true]; intro k
            have : t.takeWhile isDg = t := take_all (digL_all k).1
            rw [this] at hl0
            omega
          have hn : numeralP (restA a) = none := by unfold numeralP; rw [eds, ers]; simp [hdn]
          rw [pV_none hn]
          exact parse_plain_p1 a e l w ha h0 hp h1 (Lib.hid D1) hin q1 hfe c1 c2 (Lib.hid D2) hl1
        have htt : t.takeWhile isDg = t := by
          have e1 : (t.takeWhile isDg).length = t.length := by omega
          have e2 := congrArg List.length wt
          rw [List.length_append] at e2
          have e3 : t.dropWhile isDg = [] := List.eq_nil_of_length_eq_zero (by omega)
          rw [e3, List.append_nil] at wt
          exact wt
        have hta : t.all isDg = true := by rw [← htt]; exact take_while_all t
        rw [htt] at hl0
        by_cases ht0 : t = []
        · have hn : numeralP (restA a) = none := by unfold numeralP; rw [eds, ers, ht0]; simp [digL]
          rw [pV_none hn]
          have : t.length = 0 := by rw [ht0]; rfl
          exact parse_plain_p2 a e l w ha h0 hp h1 (Lib.hid D1) hin q1 hfe c1 c2 (Lib.hid D2) (by omega) (by omega) (by omega) (by omega)
        have ht1 : 1 ≤ t.length := List.length_pos_iff.2 ht0
        have hdt2 := digL_of hta ht0
        have eTl : (a.extract (e + 1) l).data.toList = t := by rw [extract_list, hdt, List.take_of_length_le (by omega)]
        have hTs : (a.extract (e + 1) l).size = t.length := by rw [Lib.size_eq, eTl]
        have htv := nDigits_dval t hta ht0
        have hn : numeralP (restA a) = some (dval (ds ++ t), 10 ^ t.length) := by unfold numeralP; rw [eds, ers, hc]; simp [hd0, hdt2]
        by_cases hlo : 900 < a.size
        · rw [pV_long hn hlo]
          exact parse_plain_p4 a _ _ e l w ha h0 hp h1 (Lib.hid D1) hin q1 hfe c1 c2 (Lib.hid D2) (by omega) (by omega) (by omega) rfl rfl (by omega)
        · obtain ⟨S, E, ef⟩ := finV_form (mkRat (sg (negA a) (dval (ds ++ t))) (10 ^ t.length))
          rw [pV_made hn hlo, ef]
          rw [hN] at ef
          have P2 : PlainOk (a.extract 0 e ++ a.extract (e + 1) l) (decS (dval (ds ++ t))) := by
            have := plainOk (a.extract 0 e ++ a.extract (e + 1) l) (by rw [ByteArray.size_append]; omega) (by rw [ByteArray.size_append]; omega)
            rw [natB_dec _ (by rw [cat_list, eNl, eTl, List.all_append, hda, hta]; rfl), cat_list, eNl, eTl] at this
            exact this
          have hda2 := nDigits_dval (ds ++ t) (by rw [List.all_append, hda, hta]; rfl) (by simp [hd0])
          rw [List.length_append] at hda2
          have MK := makeOk false (dval (ds ++ t)) (10 ^ t.length) (by omega) (by rw [nDigits_pow]; omega) (Nat.ne_of_gt (Nat.pow_pos (by decide))) ef
          rw [← zeros_dec, show t.length = l - (e + 1) by omega] at MK
          exact parse_plain_p5 a _ _ _ S e l w ha h0 hp h1 (Lib.hid D1) hin q1 hfe c1 c2 (Lib.hid D2) (by omega) (by omega) (by omega) rfl rfl (by omega) (by omega) (by omega) (Lib.hid P2) E (Lib.hid MK)
    case true =>
      have hc : c = 47 := by rw [← hce]; exact UInt8.toNat_inj.1 (by have h2 := beq_iff_eq.1 c1; have : (47 : UInt8).toNat = 47 := rfl; omega)
      have D2 := endOk a (e + 1) ha (by omega)
      have hl0 : dEnd a (e + 1) = e + 1 + (t.takeWhile isDg).length := by unfold dEnd; rw [hdt]
      obtain ⟨l, hl⟩ : ∃ l, dEnd a (e + 1) = l := ⟨_, rfl⟩
      rw [hl] at D2 hl0
      have htl : (t.takeWhile isDg).length ≤ t.length := (List.takeWhile_sublist isDg).length_le
      have wt := while_parts t
      by_cases hl1 : l < a.size
      · have hdn : digL t = false := by
          rw [← Bool.not_eq_true]; intro k
          have : t.takeWhile isDg = t := take_all (digL_all k).1
          rw [this] at hl0
          omega
        have hn : numeralP (restA a) = none := by unfold numeralP; rw [eds, ers]; simp [hdn]
        rw [pV_none hn]
        exact parse_plain_s1 a e l w ha h0 hp h1 (Lib.hid D1) hin q1 hfe c1 (Lib.hid D2) hl1
      have htt : t.takeWhile isDg = t := by
        have e1 : (t.takeWhile isDg).length = t.length := by omega
        have e2 := congrArg List.length wt
        rw [List.length_append] at e2
        have e3 : t.dropWhile isDg = [] := List.eq_nil_of_length_eq_zero (by omega)
        rw [e3, List.append_nil] at wt
        exact wt
      have hta : t.all isDg = true := by rw [← htt]; exact take_while_all t
      rw [htt] at hl0
      by_cases ht0 : t = []
      · have hn : numeralP (restA a) = none := by unfold numeralP; rw [eds, ers, ht0]; simp [digL]
        rw [pV_none hn]
        have : t.length = 0 := by rw [ht0]; rfl
        exact parse_plain_s2 a e l w ha h0 hp h1 (Lib.hid D1) hin q1 hfe c1 (Lib.hid D2) (by omega) (by omega) (by omega) (by omega)
      have ht1 : 1 ≤ t.length := List.length_pos_iff.2 ht0
      have hdt2 := digL_of hta ht0
      have eTl : (a.extract (e + 1) l).data.toList = t := by rw [extract_list, hdt, List.take_of_length_le (by omega)]
      have hTs : (a.extract (e + 1) l).size = t.length := by rw [Lib.size_eq, eTl]
      have htv := nDigits_dval t hta ht0
      have P2 : PlainOk (a.extract (e + 1) l) (decS (dval t)) := by
        have := plainOk (a.extract (e + 1) l) (by omega) (by omega)
        rw [natB_dec _ (by rw [eTl]; exact hta), eTl] at this
        exact this
      have hn : numeralP (restA a) = if dval t = 0 then none else some (dval ds, dval t) := by unfold numeralP; rw [eds, ers, hc]; simp [hd0, hdt2]
      have zz := (zero_str' (dval t)).1
      by_cases hz : dval t = 0
      · rw [if_pos hz] at hn
        rw [pV_none hn]
        exact parse_plain_s3 a _ _ _ e l w ha h0 hp h1 (Lib.hid D1) hin q1 hfe c1 (Lib.hid D2) (by omega) (by omega) (by omega) rfl rfl (Lib.hid P2) (by rw [zz]; simpa using hz)
      rw [if_neg hz] at hn
      by_cases hlo : 900 < a.size
      · rw [pV_long hn hlo]
        exact parse_plain_s4 a _ _ _ e l w ha h0 hp h1 (Lib.hid D1) hin q1 hfe c1 (Lib.hid D2) (by omega) (by omega) (by omega) rfl rfl (Lib.hid P2) (by rw [zz]; simpa using hz) (by omega)
      · obtain ⟨S, E, ef⟩ := finV_form (mkRat (sg (negA a) (dval ds)) (dval t))
        rw [pV_made hn hlo, ef]
        rw [hN] at ef
        exact parse_plain_s5 a _ _ _ _ S e l w ha h0 hp h1 (Lib.hid D1) hin q1 hfe c1 (Lib.hid D2) (by omega) (by omega) (by omega) rfl rfl (Lib.hid P2) (by rw [zz]; simpa using hz) (by omega) (Lib.hid P1) E (Lib.hid (makeOk false (dval ds) (dval t) (by omega) (by omega) hz ef))

theorem rparse_minus (a : ByteArray) (w : World) (ha : a.size ≤ 1200) (h0 : (0 : Int) < (a.size : Int)) (hp : 0 < a.size) (h1 : (((a[0]'hp).toNat : Int) == 45) = true) (hN : negA a = true) (hr : restA a = a.data.toList.drop 1) :
    Calls Tryz.prog 17 #[.string a] w (ValPost (parseV a) w) := by
  have hsz := Lib.size_eq a
  have D1 := endOk a 1 ha (by omega)
  have wp := while_parts (restA a)
  have hlen := congrArg List.length hr
  rw [List.length_drop, ← hsz] at hlen
  have hlp := congrArg List.length wp
  rw [List.length_append, hlen] at hlp
  have he0 : dEnd a 1 = 1 + ((restA a).takeWhile isDg).length := by unfold dEnd; rw [hr]
  have hda := take_while_all (restA a)
  obtain ⟨ds, eds⟩ : ∃ ds, (restA a).takeWhile isDg = ds := ⟨_, rfl⟩
  obtain ⟨rest, ers⟩ : ∃ rest, (restA a).dropWhile isDg = rest := ⟨_, rfl⟩
  rw [eds] at wp he0 hlp hda
  rw [ers] at wp hlp
  obtain ⟨e, he⟩ : ∃ e, dEnd a 1 = e := ⟨_, rfl⟩
  rw [he] at D1 he0
  have eNl : (a.extract 1 e).data.toList = ds := by
    rw [extract_list, ← hr, ← wp, he0, Nat.add_sub_cancel_left, List.take_left']
    rfl
  have hNs : (a.extract 1 e).size = ds.length := by rw [Lib.size_eq, eNl]
  have hP1 : 1 ≤ ds.length → PlainOk (a.extract 1 e) (decS (dval ds)) := fun h => by
    have := plainOk (a.extract 1 e) (by omega) (by omega)
    rw [natB_dec _ (by rw [eNl]; exact hda), eNl] at this
    exact this
  by_cases hd0 : ds = []
  · -- no digit in front
    have hn : numeralP (restA a) = none := by
      unfold numeralP
      rw [eds, ers, hd0]
      cases rest <;> simp
    have hef : e = 1 := by rw [he0, hd0]; rfl
    rw [pV_none hn]
    rw [hef] at D1
    by_cases hin : 1 < a.size
    · have hcell : (a.data.toList)[1]? = some (a[1]'hin) := list_at a 1 hin
      cases c1 : (((a[1]'hin).toNat : Int) == 47)
      · cases c2 : (((a[1]'hin).toNat : Int) == 46)
        · exact parse_minus_other0 a 1 0 w ha h0 hp h1 (Lib.hid D1) hin c1 c2
        · have D2 := endOk a (1 + 1) ha (by omega)
          exact parse_minus_p0 a 1 _ w ha h0 hp h1 (Lib.hid D1) hin c1 c2 (Lib.hid D2)
      · have D2 := endOk a (1 + 1) ha (by omega)
        exact parse_minus_s0 a 1 _ w ha h0 hp h1 (Lib.hid D1) hin c1 (Lib.hid D2)
    · exact parse_minus_end0 a 1 0 w ha h0 hp h1 (Lib.hid D1) (by omega) (by omega)
  have hd1 : 1 ≤ ds.length := List.length_pos_iff.2 hd0
  have q1 : ((e : Int) == ((1 : Nat) : Int)) = false := by simp; omega
  have hfe : 1 ≤ e := by omega
  have P1 := hP1 hd1
  have hdv := nDigits_dval ds hda hd0
  cases rest with
  | nil =>
    simp only [List.length_nil, Nat.add_zero] at hlp
    have hn : numeralP (restA a) = some (dval ds, 1) := by unfold numeralP; rw [eds, ers]; simp [hd0]
    by_cases hl : 900 < a.size
    · rw [pV_long hn hl]
      exact parse_minus_intlong a _ e 0 w ha h0 hp h1 (Lib.hid D1) (by omega) (by omega) q1 hfe rfl (by omega)
    · obtain ⟨S, E, ef⟩ := finV_form (mkRat (sg (negA a) (dval ds)) 1)
      rw [pV_made hn hl, ef]
      rw [hN] at ef
      have MK := makeOk true (dval ds) 1 (by omega) (by rw [Lib.nDigits_small (by decide)]; decide) (by decide) ef
      rw [dec_one] at MK
      exact parse_minus_int a _ _ S e 0 w ha h0 hp h1 (Lib.hid D1) (by omega) (by omega) q1 hfe rfl (Lib.hid P1) (by omega) E (Lib.hid MK)
  | cons c t =>
    rw [List.length_cons] at hlp
    have hin : e < a.size := by omega
    have hcl : a.data.toList[e]? = some c := by
      have : (restA a)[ds.length]? = some c := by rw [← wp, List.getElem?_append_right (Nat.le_refl _), Nat.sub_self]; rfl
      rw [hr, List.getElem?_drop, ← he0] at this
      exact this
    have hce : a[e]'hin = c := by rw [list_at a e hin] at hcl; exact Option.some.inj hcl
    have hdt : a.data.toList.drop (e + 1) = t := by
      have : (restA a).drop (ds.length + 1) = t := by rw [← wp, ← List.drop_drop, List.drop_left']; rfl; rfl
      rw [hr, List.drop_drop] at this
      rw [← this]; congr 1; omega
    cases c1 : (((a[e]'hin).toNat : Int) == 47)
    case false =>
      cases c2 : (((a[e]'hin).toNat : Int) == 46)
      case false =>
        have n1 : c ≠ 47 := by rintro rfl; rw [hce] at c1; exact absurd c1 (by decide)
        have n2 : c ≠ 46 := by rintro rfl; rw [hce] at c2; exact absurd c2 (by decide)
        have hn : numeralP (restA a) = none := by unfold numeralP; rw [eds, ers]; simp [n1, n2]
        rw [pV_none hn]
        exact parse_minus_other1 a e 0 w ha h0 hp h1 (Lib.hid D1) hin q1 hfe c1 c2
      case true =>
        have hc : c = 46 := by rw [← hce]; exact UInt8.toNat_inj.1 (by have h2 := beq_iff_eq.1 c2; have : (46 : UInt8).toNat = 46 := rfl; omega)
        have D2 := endOk a (e + 1) ha (by omega)
        have hl0 : dEnd a (e + 1) = e + 1 + (t.takeWhile isDg).length := by unfold dEnd; rw [hdt]
        obtain ⟨l, hl⟩ : ∃ l, dEnd a (e + 1) = l := ⟨_, rfl⟩
        rw [hl] at D2 hl0
        have htl : (t.takeWhile isDg).length ≤ t.length := (List.takeWhile_sublist isDg).length_le
        have wt := while_parts t
        by_cases hl1 : l < a.size
        · have hdn : digL t = false := by
            rw [← Bool.not_eq_true]; intro k
            have : t.takeWhile isDg = t := take_all (digL_all k).1
            rw [this] at hl0
            omega
          have hn : numeralP (restA a) = none := by unfold numeralP; rw [eds, ers]; simp [hdn]
          rw [pV_none hn]
          exact parse_minus_p1 a e l w ha h0 hp h1 (Lib.hid D1) hin q1 hfe c1 c2 (Lib.hid D2) hl1
        have htt : t.takeWhile isDg = t := by
          have e1 : (t.takeWhile isDg).length = t.length := by omega
          have e2 := congrArg List.length wt
          rw [List.length_append] at e2
          have e3 : t.dropWhile isDg = [] := List.eq_nil_of_length_eq_zero (by omega)
          rw [e3, List.append_nil] at wt
          exact wt
        have hta : t.all isDg = true := by rw [← htt]; exact take_while_all t
        rw [htt] at hl0
        by_cases ht0 : t = []
        · have hn : numeralP (restA a) = none := by unfold numeralP; rw [eds, ers, ht0]; simp [digL]
          rw [pV_none hn]
          have : t.length = 0 := by rw [ht0]; rfl
          exact parse_minus_p2 a e l w ha h0 hp h1 (Lib.hid D1) hin q1 hfe c1 c2 (Lib.hid D2) (by omega) (by omega) (by omega) (by omega)
        have ht1 : 1 ≤ t.length := List.length_pos_iff.2 ht0
        have hdt2 := digL_of hta ht0
        have eTl : (a.extract (e + 1) l).data.toList = t := by rw [extract_list, hdt, List.take_of_length_le (by omega)]
        have hTs : (a.extract (e + 1) l).size = t.length := by rw [Lib.size_eq, eTl]
        have htv := nDigits_dval t hta ht0
        have hn : numeralP (restA a) = some (dval (ds ++ t), 10 ^ t.length) := by unfold numeralP; rw [eds, ers, hc]; simp [hd0, hdt2]
        by_cases hlo : 900 < a.size
        · rw [pV_long hn hlo]
          exact parse_minus_p4 a _ _ e l w ha h0 hp h1 (Lib.hid D1) hin q1 hfe c1 c2 (Lib.hid D2) (by omega) (by omega) (by omega) rfl rfl (by omega)
        · obtain ⟨S, E, ef⟩ := finV_form (mkRat (sg (negA a) (dval (ds ++ t))) (10 ^ t.length))
          rw [pV_made hn hlo, ef]
          rw [hN] at ef
          have P2 : PlainOk (a.extract 1 e ++ a.extract (e + 1) l) (decS (dval (ds ++ t))) := by
            have := plainOk (a.extract 1 e ++ a.extract (e + 1) l) (by rw [ByteArray.size_append]; omega) (by rw [ByteArray.size_append]; omega)
            rw [natB_dec _ (by rw [cat_list, eNl, eTl, List.all_append, hda, hta]; rfl), cat_list, eNl, eTl] at this
            exact this
          have hda2 := nDigits_dval (ds ++ t) (by rw [List.all_append, hda, hta]; rfl) (by simp [hd0])
          rw [List.length_append] at hda2
          have MK := makeOk true (dval (ds ++ t)) (10 ^ t.length) (by omega) (by rw [nDigits_pow]; omega) (Nat.ne_of_gt (Nat.pow_pos (by decide))) ef
          rw [← zeros_dec, show t.length = l - (e + 1) by omega] at MK
          exact parse_minus_p5 a _ _ _ S e l w ha h0 hp h1 (Lib.hid D1) hin q1 hfe c1 c2 (Lib.hid D2) (by omega) (by omega) (by omega) rfl rfl (by omega) (by omega) (by omega) (Lib.hid P2) E (Lib.hid MK)
    case true =>
      have hc : c = 47 := by rw [← hce]; exact UInt8.toNat_inj.1 (by have h2 := beq_iff_eq.1 c1; have : (47 : UInt8).toNat = 47 := rfl; omega)
      have D2 := endOk a (e + 1) ha (by omega)
      have hl0 : dEnd a (e + 1) = e + 1 + (t.takeWhile isDg).length := by unfold dEnd; rw [hdt]
      obtain ⟨l, hl⟩ : ∃ l, dEnd a (e + 1) = l := ⟨_, rfl⟩
      rw [hl] at D2 hl0
      have htl : (t.takeWhile isDg).length ≤ t.length := (List.takeWhile_sublist isDg).length_le
      have wt := while_parts t
      by_cases hl1 : l < a.size
      · have hdn : digL t = false := by
          rw [← Bool.not_eq_true]; intro k
          have : t.takeWhile isDg = t := take_all (digL_all k).1
          rw [this] at hl0
          omega
        have hn : numeralP (restA a) = none := by unfold numeralP; rw [eds, ers]; simp [hdn]
        rw [pV_none hn]
        exact parse_minus_s1 a e l w ha h0 hp h1 (Lib.hid D1) hin q1 hfe c1 (Lib.hid D2) hl1
      have htt : t.takeWhile isDg = t := by
        have e1 : (t.takeWhile isDg).length = t.length := by omega
        have e2 := congrArg List.length wt
        rw [List.length_append] at e2
        have e3 : t.dropWhile isDg = [] := List.eq_nil_of_length_eq_zero (by omega)
        rw [e3, List.append_nil] at wt
        exact wt
      have hta : t.all isDg = true := by rw [← htt]; exact take_while_all t
      rw [htt] at hl0
      by_cases ht0 : t = []
      · have hn : numeralP (restA a) = none := by unfold numeralP; rw [eds, ers, ht0]; simp [digL]
        rw [pV_none hn]
        have : t.length = 0 := by rw [ht0]; rfl
        exact parse_minus_s2 a e l w ha h0 hp h1 (Lib.hid D1) hin q1 hfe c1 (Lib.hid D2) (by omega) (by omega) (by omega) (by omega)
      have ht1 : 1 ≤ t.length := List.length_pos_iff.2 ht0
      have hdt2 := digL_of hta ht0
      have eTl : (a.extract (e + 1) l).data.toList = t := by rw [extract_list, hdt, List.take_of_length_le (by omega)]
      have hTs : (a.extract (e + 1) l).size = t.length := by rw [Lib.size_eq, eTl]
      have htv := nDigits_dval t hta ht0
      have P2 : PlainOk (a.extract (e + 1) l) (decS (dval t)) := by
        have := plainOk (a.extract (e + 1) l) (by omega) (by omega)
        rw [natB_dec _ (by rw [eTl]; exact hta), eTl] at this
        exact this
      have hn : numeralP (restA a) = if dval t = 0 then none else some (dval ds, dval t) := by unfold numeralP; rw [eds, ers, hc]; simp [hd0, hdt2]
      have zz := (zero_str' (dval t)).1
      by_cases hz : dval t = 0
      · rw [if_pos hz] at hn
        rw [pV_none hn]
        exact parse_minus_s3 a _ _ _ e l w ha h0 hp h1 (Lib.hid D1) hin q1 hfe c1 (Lib.hid D2) (by omega) (by omega) (by omega) rfl rfl (Lib.hid P2) (by rw [zz]; simpa using hz)
      rw [if_neg hz] at hn
      by_cases hlo : 900 < a.size
      · rw [pV_long hn hlo]
        exact parse_minus_s4 a _ _ _ e l w ha h0 hp h1 (Lib.hid D1) hin q1 hfe c1 (Lib.hid D2) (by omega) (by omega) (by omega) rfl rfl (Lib.hid P2) (by rw [zz]; simpa using hz) (by omega)
      · obtain ⟨S, E, ef⟩ := finV_form (mkRat (sg (negA a) (dval ds)) (dval t))
        rw [pV_made hn hlo, ef]
        rw [hN] at ef
        exact parse_minus_s5 a _ _ _ _ S e l w ha h0 hp h1 (Lib.hid D1) hin q1 hfe c1 (Lib.hid D2) (by omega) (by omega) (by omega) rfl rfl (Lib.hid P2) (by rw [zz]; simpa using hz) (by omega) (Lib.hid P1) E (Lib.hid (makeOk true (dval ds) (dval t) (by omega) (by omega) hz ef))

theorem rparse_any (a : ByteArray) (w : World) (ha : a.size ≤ 1200) : Calls Tryz.prog 17 #[.string a] w (ValPost (parseV a) w) := by
  by_cases hp : 0 < a.size
  · cases h45 : (((a[0]'hp).toNat : Int) == 45)
    · have hne : a[0] ≠ 45 := by intro e; rw [e] at h45; exact absurd h45 (by decide)
      obtain ⟨hN, hr⟩ := front_none a (fun _ => hne)
      exact rparse_plain a w ha (by omega) hp h45 hN (by rw [hr]; rfl)
    · have he : a[0] = 45 := UInt8.toNat_inj.1 (by
        have h2 : ((a[0]'hp).toNat : Int) = 45 := by simpa using h45
        have : (45 : UInt8).toNat = 45 := rfl
        omega)
      obtain ⟨hN, hr⟩ := front_minus a hp he
      exact rparse_minus a w ha (by omega) hp h45 hN (by rw [hr, tail_list])
  · have e0 : a = ⟨#[]⟩ := by
      cases a with
      | mk d => congr 1; exact Array.eq_empty_of_size_eq_zero (by have : d.size = 0 := by show (ByteArray.mk d).size = 0; omega
                                                                  exact this)
    have hv : parseV a = .tuple #[.string ⟨#[]⟩, .int .i64 3] := by rw [e0]; rfl
    rw [hv]
    exact parse_empty_end0 a 0 0 w ha (by omega) (Lib.hid (by have := endOk a 0 ha (by omega); rw [show dEnd a 0 = 0 by rw [e0]; rfl] at this; exact this)) (by omega) (by omega)
end Go.Proofs.YthokjhlbbgfplaaGreatDoor
