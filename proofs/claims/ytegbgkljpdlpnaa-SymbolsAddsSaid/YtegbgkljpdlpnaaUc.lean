/- The reference's Add, Merge, by contract. -/
import Derived.Test.YtegbgkljpdlpnaaUb
set_option linter.unusedVariables false
set_option linter.unusedSimpArgs false
namespace Go.Proofs.Ytegbgkljpdlpnaa
open Go.RowKit

theorem StrArg.cells {w : World} {L : List ByteArray} {A : Option Addr} {ca : Nat} (h : StrArg w (.slice A L.length ca) L) :
    (A = none → L.length = 0 ∧ ca = 0) ∧ ∀ ad, A = some ad → ∀ j u, (L.map Value.string)[j]? = some u → w.cell? (ad.add j) = some u ∧ ad.block < w.heap.size := by
  rcases h with ⟨h1, h2⟩ | ⟨ad, cap, h1, hr⟩
  · subst h2; cases h1
    exact ⟨fun _ => ⟨rfl, rfl⟩, fun ad e => by cases e⟩
  · cases h1
    refine ⟨fun e => (by cases e), fun ad' e j u hu => ?_⟩
    cases e
    have hj : j < L.length := by
      have := (List.getElem?_eq_some_iff.1 hu).1
      simpa using this
    obtain ⟨ad', e', hb, hc⟩ := hr.2 (by omega)
    cases e'
    exact ⟨hc j u hu, hb⟩
/-- .. behind one new block. -/
theorem StrArg.cells_alloc {w : World} {L : List ByteArray} {A : Option Addr} {ca : Nat} (h : StrArg w (.slice A L.length ca) L) (o : Obj) :
    ∀ ad, A = some ad → ∀ j u, (L.map Value.string)[j]? = some u → (w.alloc o).cell? (ad.add j) = some u := by
  intro ad e j u hu
  obtain ⟨h1, h2⟩ := h.cells.2 ad e j u hu
  rw [World.cell?_alloc_lt _ _ _ (by rw [block_of_add]; exact h2)]
  exact h1

set_option maxHeartbeats 4000000 in
theorem radd_any {w : World} {v : Value} {L : List ByteArray} (hv : StrArg w v L) (hl : L.length ≤ maxLen) (s : ByteArray) :
    Calls Try.prog 26 #[v, .string s] w (AddPost (addL L s) w) := by
  obtain ⟨i0, hi, hz0, hz1, hz2⟩ := info_parts info_strT
  have hva := rvalid5_any hv.sl hl
  have hnm := fun w => named_any s w
  obtain ⟨A, ca, hvv, _⟩ := hv.form
  subst hvv
  cases hT : tableB L
  · rw [hT] at hva
    have hV : addL L s = ([], 0, 1) := by unfold addL; rw [hT]; rfl
    have HV := Lib.hid hV
    clear hV hT hv hnm
    go_enter Try.func26, Try.ntmps26
    go_wp2_with fail
    refine hva.mono ?_
    rintro e w1 ⟨rfl, hb⟩
    go_wp2
    go_ret3
    exact ⟨.slice none 0 0, by rw [HV.out]; rfl, by rw [HV.out]; exact StrSl.nil _, hb⟩
  rw [hT] at hva
  have hL500 := (tableB_iff.1 hT).1
  have HVA := Lib.hid hv
  clear hv
  cases hN : nameB s
  · rw [hN] at hnm
    have hV : addL L s = ([], 0, 1) := by unfold addL; rw [hT, hN]; rfl
    have HV := Lib.hid hV
    clear hV hT hN
    go_enter Try.func26, Try.ntmps26
    go_wp2_with fail
    refine hva.mono ?_
    rintro e w1 ⟨rfl, hb⟩
    go_wp2_with fail
    refine (hnm _).mono ?_
    rintro e w2 ⟨rfl, hb2⟩
    have hb3 := below_chain hb hb2
    go_wp2
    go_ret3
    exact ⟨.slice none 0 0, by rw [HV.out]; rfl, by rw [HV.out]; exact StrSl.nil _, hb3⟩
  rw [hN] at hnm
  have hV : addL L s = (if s ∈ L then (L, pos L s, 0) else if 500 ≤ L.length then ([], 0, 2) else (L ++ [s], L.length + 1, 0)) := by unfold addL; rw [hT, hN]; rfl
  have HV := Lib.hid hV
  clear hV hT hN
  go_enter Try.func26, Try.ntmps26
  go_wp2_with fail
  refine hva.mono ?_
  rintro e w1 ⟨rfl, hb⟩
  go_wp2_with fail
  refine (hnm _).mono ?_
  rintro e w2 ⟨rfl, hb2⟩
  have HB2 := Lib.hid (below_chain hb hb2)
  have HA2 := Lib.hid (HVA.out.below HB2.out)
  have hown : (w2.alloc (.cells #[] 9)).ownsRow w2.heap.size 9 1 (.slice (some ⟨w2.heap.size, 0, none⟩) 0 0) 0 [] := World.ownsRow_lit w2 #[] 0 (Nat.le_refl _) (by decide) rfl
  clear hb hb2 hva hnm
  go_wp2_with (at_builtin; refine wpList_append_src _ rfl _ _ 22 rfl w2.heap.size 9 i0 (.string ⟨#[]⟩) 1 16 Try.underlying22 hi hz0 hz1 hz2 rfl (by decide) _ _ _ rfl hown A L.length ca (L.map Value.string) rfl HA2.out.cells.1 (by simp) (HA2.out.cells_alloc _) (strs_one L) ?c3 ?c4 ?c5 ?_)
  case c3 => unfold maxLen; omega
  case c4 => omega
  case c5 => simp
  intro n1 w3 hown1 hgrow
  have hb3 : Below w2.heap.size w2 w3 := ((Below.refl _ w2).alloc (Nat.le_refl _) _).grown hgrow (by simp) (fun g e => by cases e; simp)
  have HB3 := Lib.hid (below_chain HB2.out hb3)
  have hs3 := hb3.size
  have hs2 := HB2.out.size
  have hp := position_any (HVA.out.below HB3.out).sl hl s
  clear hb3 hgrow hown HA2 HB2
  by_cases hmem : s ∈ L
  · have hV := HV.out
    rw [if_pos hmem] at hV
    have HV2 := Lib.hid hV
    have h1 := pos_mem hmem
    have hple := pos_le L s
    obtain ⟨k, hk⟩ : ∃ k : Nat, pos L s = k + 1 := ⟨_, h1⟩
    rw [hk] at hp hple HV2
    have f0 : ((k + 1 : Nat) : Int) - 1 = (k : Int) := by omega
    rw [f0] at hp
    have f2 : IntKind.i64.wrap ((k : Int) + 1) = ((k + 1 : Nat) : Int) := by rw [IntKind.wrap_i64]; omega
    have f3 : (0 : Int) ≤ (k : Int) := by omega
    clear hV HV hmem h1 hk f0
    go_wp2_with fail
    refine hp.mono ?_
    rintro e w4 ⟨rfl, rfl⟩
    go_wp2
    go_ret3
    exact ⟨n1, by rw [HV2.out]; rfl, by rw [HV2.out]; exact StrSl.of_own hown1, HB3.out⟩
  · have hV := HV.out
    rw [if_neg hmem] at hV
    have f0 : (pos L s : Int) - 1 = -1 := by rw [pos_not hmem]; rfl
    rw [f0] at hp
    by_cases h500 : 500 ≤ L.length
    · rw [if_pos h500] at hV
      have HV2 := Lib.hid hV
      have f5 : decide ((500 : Int) ≤ (L.length : Int)) = true := by simp; omega
      clear hV HV hmem f0
      go_wp2_with fail
      refine hp.mono ?_
      rintro e w4 ⟨rfl, rfl⟩
      go_wp2
      go_ret3
      exact ⟨.slice none 0 0, by rw [HV2.out]; rfl, by rw [HV2.out]; exact StrSl.nil _, HB3.out⟩
    · rw [if_neg h500] at hV
      have HV2 := Lib.hid hV
      have f5 : decide ((500 : Int) ≤ (L.length : Int)) = false := by simp; omega
      clear hV HV hmem f0
      go_wp2_with fail
      refine hp.mono ?_
      rintro e w4 ⟨rfl, rfl⟩
      have hs34 := HB3.out.size
      go_wp2_with (at_builtin; refine wpList_append_own_at _ rfl _ _ 22 rfl w2.heap.size 9 i0 (.string ⟨#[]⟩) 1 16 Try.underlying22 hi hz0 hz1 hz2 rfl (by decide) _ _ _ rfl (hown1.alloc _) ⟨w3.heap.size, 0, none⟩ 1 1 [.string s] rfl rfl ?d1 ?d2 ?d3 ?d4 ?d5 ?_)
      case d1 => exact cell_one_new _ _ _
      case d2 => intro u hu; simp at hu; subst hu; rfl
      case d3 => unfold maxLen; omega
      case d4 => omega
      case d5 => simp; omega
      intro v' w4 hown' hgrow _ _
      have n1 : IntKind.i64.wrap ((L.length : Int) + 1) = ((L.length + 1 : Nat) : Int) := by rw [IntKind.wrap_i64]; omega
      have HB4 := Lib.hid ((HB3.out.alloc HB3.out.size _).grown hgrow (by simp; omega) (fun g e => by have := (hown1.lt g e).1; omega))
      clear hown1 hgrow hp
      go_wp2
      go_ret3
      exact ⟨v', by rw [HV2.out]; rfl, by rw [HV2.out]; exact StrSl.of_own (l := L ++ [s]) (by rw [List.length_append, List.map_append]; exact hown'), HB4.out⟩

set_option maxHeartbeats 4000000 in
theorem rmerge_any {w : World} {va vb : Value} {a b : List ByteArray} (hva : StrArg w va a) (hvb : StrArg w vb b) (ha : a.length ≤ maxLen) (hb : b.length ≤ maxLen) :
    Calls Try.prog 27 #[va, vb] w (MergePost (mergeL a b) w) := by
  obtain ⟨i0, hi, hz0, hz1, hz2⟩ := info_parts info_strT
  obtain ⟨j0, ji, jz0, jz1, jz2⟩ := info_parts info_int
  have h := rvalid5_any hva.sl ha
  have hvv := fun w' (h : Below w.heap.size w w') => rvalid5_any (hvb.below h).sl hb
  obtain ⟨A, ca, hvae, _⟩ := hva.form
  subst hvae
  cases hT : tableB a
  · rw [hT] at h
    have hV : mergeL a b = ([], [], 1) := by unfold mergeL; rw [hT]; rfl
    have HV := Lib.hid hV
    clear hV hT hva hvb hvv
    go_enter Try.func27, Try.ntmps27
    go_wp2_with fail
    refine h.mono ?_
    rintro e w1 ⟨rfl, hb⟩
    go_wp2
    go_ret3
    exact ⟨.slice none 0 0, .slice none 0 0, by rw [HV.out]; rfl, by rw [HV.out]; exact StrSl.nil _, by rw [HV.out]; exact IntSl.nil _, hb⟩
  rw [hT] at h
  have ha500 := (tableB_iff.1 hT).1
  have HVA := Lib.hid hva; have HVB := Lib.hid hvb; have HVV := Lib.hid hvv
  clear hva hvv
  cases hT2 : tableB b
  · rw [hT2] at HVV
    have hV : mergeL a b = ([], [], 1) := by unfold mergeL; rw [hT, hT2]; rfl
    have HV := Lib.hid hV
    clear hV hT hT2 hvb
    go_enter Try.func27, Try.ntmps27
    go_wp2_with fail
    refine h.mono ?_
    rintro e w1 ⟨rfl, hb⟩
    go_wp2_with fail
    refine (HVV.out _ hb).mono ?_
    rintro e w2 ⟨rfl, hb2⟩
    have hb3 := below_chain hb hb2
    go_wp2
    go_ret3
    exact ⟨.slice none 0 0, .slice none 0 0, by rw [HV.out]; rfl, by rw [HV.out]; exact StrSl.nil _, by rw [HV.out]; exact IntSl.nil _, hb3⟩
  rw [hT2] at HVV
  have hb500 := (tableB_iff.1 hT2).1
  have hnd := (goodB_iff.1 (tableB_iff.1 hT2).2).2
  have hV : mergeL a b = (if 500 < (newN a b).length then ([], [], 2) else (newN a b, toT a b, 0)) := by unfold mergeL; rw [hT, hT2]; rfl
  have hanod := (goodB_iff.1 (tableB_iff.1 hT).2).2
  have HV := Lib.hid hV; have HND := Lib.hid hnd
  clear hV hT hT2 hnd
  obtain ⟨B, cb, hvbe, _⟩ := hvb.form
  subst hvbe
  clear hvb
  go_enter Try.func27, Try.ntmps27
  go_wp2_with fail
  refine h.mono ?_
  rintro e w1 ⟨rfl, hb1⟩
  go_wp2_with fail
  refine (HVV.out _ hb1).mono ?_
  rintro e w2 ⟨rfl, hb2⟩
  have HB2 := Lib.hid (below_chain hb1 hb2)
  have HA2 := Lib.hid (HVA.out.below HB2.out)
  have hown : (w2.alloc (.cells #[] 9)).ownsRow w2.heap.size 9 1 (.slice (some ⟨w2.heap.size, 0, none⟩) 0 0) 0 [] := World.ownsRow_lit w2 #[] 0 (Nat.le_refl _) (by decide) rfl
  clear hb1 hb2 h HVV
  go_wp2_with (at_builtin; refine wpList_append_src _ rfl _ _ 22 rfl w2.heap.size 9 i0 (.string ⟨#[]⟩) 1 16 Try.underlying22 hi hz0 hz1 hz2 rfl (by decide) _ _ _ rfl hown A a.length ca (a.map Value.string) rfl HA2.out.cells.1 (by simp) (HA2.out.cells_alloc _) (strs_one a) ?c3 ?c4 ?c5 ?_)
  case c3 => unfold maxLen; omega
  case c4 => omega
  case c5 => simp
  intro x w3 hown1 hgrow
  have hb3 : Below w2.heap.size w2 w3 := ((Below.refl _ w2).alloc (Nat.le_refl _) _).grown hgrow (by simp) (fun g e => by cases e; simp)
  have HB3 := Lib.hid (below_chain HB2.out hb3)
  have hs3 := hb3.size
  have hs2 := HB2.out.size
  have R3 := Lib.hid (⟨by simpa using hown1, World.ownsRow_nil _ _ _ _, .inr (.inl rfl), hs3⟩ : Rows2 w3 w2.heap.size x (.slice none 0 0) a [])
  clear hb3 hgrow hown hown1 HA2 HB2
  go_wp2
  go_loopw [7, 8, 9] (fun v x i wr => ∃ k : Nat, i = .int .i64 k ∧ k ≤ b.length ∧ Below w.heap.size w wr ∧ Rows2 wr w2.heap.size v x (newN a (b.take k)) (toK a b k)) (fun _ _ i _ => b.length - (intOf i).toNat)
  case atStart => exact ⟨0, rfl, by omega, HB3.out, by rw [List.take_zero, newN_nil]; exact R3.out⟩
  case round =>
    obtain ⟨k, rfl, hk, hb4, hR⟩ := hrel
    have R := Lib.hid hR
    have HB4 := Lib.hid hb4
    have hsk := hR.size
    have hsw := hb4.size
    clear hR hb4 R3 HB3
    by_cases hlt : k < b.length
    · obtain ⟨A0, c0, e0, hr⟩ := (HVB.out.below HB4.out).sl
      cases e0
      obtain ⟨ad, s, rfl, hadb, hs, hc⟩ := row_str hr hlt
      have hsz : (newN a (b.take k)).length ≤ 1000 := by
        have := newN_len a (b.take k)
        rw [List.length_take] at this; omega
      have n1 : IntKind.i64.wrap ((k : Int) + 1) = (k : Int) + 1 := by rw [IntKind.wrap_i64]; omega
      have n2 : (k : Int) < (b.length : Int) := by omega
      have hp := position_any (StrSl.of_own R.out.own1) (by unfold maxLen; omega) s
      have htl := toK_len (a := a) hk
      have hown2 := R.out.own2
      by_cases hmem : s ∈ a
      · have e1 : newN a (b.take (k + 1)) = newN a (b.take k) := by rw [take_snoc hs, newN_has hmem]
        have e2 : toK a b (k + 1) = toK a b k ++ [pos a s] := by rw [toK_step hs, to_has hmem]
        rw [to_has hmem] at hp
        have hpm := pos_mem hmem
        obtain ⟨q, hq⟩ : ∃ q : Nat, pos a s = q + 1 := ⟨_, hpm⟩
        have hple := pos_le a s
        rw [hq] at e2 hp hple
        have f0 : ((q + 1 : Nat) : Int) - 1 = (q : Int) := by omega
        rw [f0] at hp
        have f2 : IntKind.i64.wrap ((q : Int) + 1) = ((q + 1 : Nat) : Int) := by rw [IntKind.wrap_i64]; omega
        have E1 := Lib.hid e1; have E2 := Lib.hid e2
        clear e1 e2 hmem hs hr hpm hq f0
        go_wp2_with fail
        refine hp.mono ?_
        rintro e w4 ⟨rfl, rfl⟩
        go_wp2_with (at_builtin; refine wpList_append_own_at _ rfl _ _ 28 rfl w2.heap.size 3 j0 (.int .i64 0) 1 8 Try.underlying28 ji jz0 jz1 jz2 rfl (by decide) _ _ _ rfl (hown2.alloc _) ⟨wr.heap.size, 0, none⟩ 1 1 [.int .i64 ((q + 1 : Nat) : Int)] rfl rfl ?c1 ?c2 ?c3 ?c4 ?c5 ?_)
        case c1 => exact cell_one_new _ _ _
        case c2 => intro u hu; simp at hu; subst hu; rfl
        case c3 => unfold maxLen; omega
        case c4 => omega
        case c5 => simp; omega
        intro v' w5 hown' hgrow _ hat
        have B5 := Lib.hid ((HB4.out.alloc hsw _).grown hgrow (by simp; omega) (fun g e => by have := (hown2.lt g e).1; omega))
        have R5 := Lib.hid (R.out.push2 (s := q + 1) hgrow (by rw [htl]; exact hown') hat)
        clear hown' hgrow hat hown2 hp
        go_wp2
        go_roundw
        case rel => exact ⟨k + 1, by go_num, by omega, B5.out, by rw [E1.out, E2.out]; exact R5.out⟩
        case measure => simp [intOf]; omega
      · have hnb := nodup_before HND.out hs
        have e1 : newN a (b.take (k + 1)) = newN a (b.take k) ++ [s] := by rw [take_snoc hs, newN_new hmem]
        have e2 : toK a b (k + 1) = toK a b k ++ [(newN a (b.take k)).length + 1] := by
          rw [toK_step hs]
          congr 2
          have := to_new (c := b.drop (k + 1)) hmem hnb
          rw [take_drop_at hs] at this
          exact this
        have f0 : (pos (newN a (b.take k)) s : Int) - 1 = -1 := by rw [pos_not (not_newN hmem hnb)]; rfl
        rw [f0] at hp
        have E1 := Lib.hid e1; have E2 := Lib.hid e2
        have hown1 := R.out.own1
        clear e1 e2 hmem hs hr hnb hown2 f0
        obtain ⟨A1, c1, hA1⟩ := own_form hown1
        subst hA1
        generalize hNS : newN a (b.take k) = NS at *
        have f2 : IntKind.i64.wrap ((NS.length : Int) + 1) = ((NS.length + 1 : Nat) : Int) := by rw [IntKind.wrap_i64]; omega
        go_wp2_with fail
        refine hp.mono ?_
        rintro e w4 ⟨rfl, rfl⟩
        go_wp2_with (at_builtin; refine wpList_append_own_at _ rfl _ _ 22 rfl w2.heap.size 9 i0 (.string ⟨#[]⟩) 1 16 Try.underlying22 hi hz0 hz1 hz2 rfl (by decide) _ _ _ rfl (hown1.alloc _) ⟨wr.heap.size, 0, none⟩ 1 1 [.string s] rfl rfl ?c1 ?c2 ?c3 ?c4 ?c5 ?_)
        case c1 => exact cell_one_new _ _ _
        case c2 => intro u hu; simp at hu; subst hu; rfl
        case c3 => unfold maxLen; omega
        case c4 => omega
        case c5 => simp; omega
        intro v' w5 hown' hgrow _ hat
        have hb5 := (HB4.out.alloc hsw _).grown hgrow (by simp; omega) (fun g e => by have := (hown1.lt g e).1; omega)
        have hsw5 := hb5.size
        have B5 := Lib.hid hb5
        have R5 := R.out.push1 hgrow hown' hat
        have hs5 := R5.size
        have hown5 := R5.own2
        have R5 := Lib.hid R5
        clear hown' hgrow hat hown1 hp hb5
        go_wp2_with (at_builtin; refine wpList_append_own_at _ rfl _ _ 28 rfl w2.heap.size 3 j0 (.int .i64 0) 1 8 Try.underlying28 ji jz0 jz1 jz2 rfl (by decide) _ _ _ rfl (hown5.alloc _) ⟨w5.heap.size, 0, none⟩ 1 1 [.int .i64 ((NS.length + 1 : Nat) : Int)] rfl rfl ?d1 ?d2 ?d3 ?d4 ?d5 ?_)
        case d1 => exact cell_one_new _ _ _
        case d2 => intro u hu; simp at hu; subst hu; rfl
        case d3 => unfold maxLen; omega
        case d4 => omega
        case d5 => simp; omega
        intro v6 w6 hown' hgrow _ hat
        have B6 := Lib.hid ((B5.out.alloc hsw5 _).grown hgrow (by simp; omega) (fun g e => by have := (hown5.lt g e).1; omega))
        have R6 := Lib.hid (R5.out.push2 (s := NS.length + 1) hgrow (by rw [htl]; exact hown') hat)
        clear hown' hgrow hat hown5
        go_wp2
        go_roundw
        case rel => exact ⟨k + 1, by go_num, by omega, B6.out, by rw [E1.out, E2.out]; exact R6.out⟩
        case measure => simp [intOf]; omega
    · have hend : b.take k = b := List.take_of_length_le (by omega)
      have n2 : ¬ (k : Int) < (b.length : Int) := by omega
      have hR := R.out
      rw [hend, toK_end a b (by omega)] at hR
      have R2 := Lib.hid hR
      obtain ⟨C, cc, hC⟩ := own_form hR.own1
      subst hC
      have hV := HV.out
      clear hR hend R
      by_cases h5 : 500 < (newN a b).length
      · rw [if_pos h5] at hV
        have HV2 := Lib.hid hV
        clear hV HV
        generalize hNS : newN a b = NS at *
        go_wp2
        go_ret3
        exact ⟨.slice none 0 0, .slice none 0 0, by rw [HV2.out]; rfl, by rw [HV2.out]; exact StrSl.nil _, by rw [HV2.out]; exact IntSl.nil _, HB4.out⟩
      · rw [if_neg h5] at hV
        have HV2 := Lib.hid hV
        clear hV HV
        generalize hNS : newN a b = NS at *
        go_wp2
        go_ret3
        exact ⟨.slice C NS.length cc, u8, by rw [HV2.out]; rfl, by rw [HV2.out]; exact StrSl.of_own R2.out.own1, by rw [HV2.out]; exact IntSl.of_own (l := ofNats (toT a b)) (by rw [nats_vals]; simpa [ofNats] using R2.out.own2), HB4.out⟩
end Go.Proofs.Ytegbgkljpdlpnaa
