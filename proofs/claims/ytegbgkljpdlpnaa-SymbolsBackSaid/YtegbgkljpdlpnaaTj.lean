/- The program's Merge: the walk. -/
import Derived.Test.YtegbgkljpdlpnaaTi
set_option linter.unusedVariables false
set_option linter.unusedSimpArgs false
namespace Go.Proofs.Ytegbgkljpdlpnaa
open Go.RowKit

set_option maxHeartbeats 4000000 in
theorem merge_any {w : World} {va vb : Value} {a b : List ByteArray} (hva : StrArg w va a) (hvb : StrArg w vb b) (ha : a.length ≤ maxLen) (hb : b.length ≤ maxLen) :
    Calls Try.prog 17 #[va, vb] w (MergePost (mergeL a b) w) := by
  obtain ⟨i0, hi, hz0, hz1, hz2⟩ := info_parts info_strT
  obtain ⟨j0, ji, jz0, jz1, jz2⟩ := info_parts info_int
  have hvv := fun w' (h : Below w.heap.size w w') => valid_any (hvb.below h).sl hb
  cases hT : tableB a
  · have hV : mergeL a b = ([], [], 1) := by unfold mergeL; rw [hT]; rfl
    have HV := Lib.hid hV
    have h := read_no hva.sl ha hT
    unfold noTab at h
    clear hV hT hva hvb hvv
    go_enter Try.func17, Try.ntmps17
    go_wp2_with fail
    refine h.mono ?_
    rintro e w1 ⟨rfl, hb⟩
    go_wp2
    go_ret3
    exact ⟨.slice none 0 0, .slice none 0 0, by rw [HV.out]; rfl, by rw [HV.out]; exact StrSl.nil _, by rw [HV.out]; exact IntSl.nil _, hb.alloc hb.size _⟩
  have h := read_yes hva.sl ha hT
  unfold ReadPost tabV at h
  have ha500 := (tableB_iff.1 hT).1
  have HVA := Lib.hid hva; have HVB := Lib.hid hvb; have HVV := Lib.hid hvv
  clear hva hvv
  cases hT2 : tableB b
  · rw [hT2] at HVV
    have hV : mergeL a b = ([], [], 1) := by unfold mergeL; rw [hT, hT2]; rfl
    have HV := Lib.hid hV
    clear hV hT hT2 hvb
    go_enter Try.func17, Try.ntmps17
    go_wp2_with fail
    refine h.mono ?_
    rintro e w1 ⟨g, rfl, hm, hbl, hb⟩
    have N1 := Lib.hid (NamesAt.start hm hb hbl)
    clear hm hbl hb
    go_wp2_with fail
    refine (HVV.out _ N1.out.below).mono ?_
    rintro e w2 ⟨rfl, hb2⟩
    have N2 := N1.out.next hb2
    go_wp2
    go_ret3
    exact ⟨.slice none 0 0, .slice none 0 0, by rw [HV.out]; rfl, by rw [HV.out]; exact StrSl.nil _, by rw [HV.out]; exact IntSl.nil _, N2.below⟩
  rw [hT2] at HVV
  have hb500 := (tableB_iff.1 hT2).1
  have hnd := (goodB_iff.1 (tableB_iff.1 hT2).2).2
  have hnm := (goodB_iff.1 (tableB_iff.1 hT2).2).1
  have hV : mergeL a b = (if 500 < (newN a b).length then ([], [], 2) else (newN a b, toT a b, 0)) := by unfold mergeL; rw [hT, hT2]; rfl
  have HV := Lib.hid hV; have HND := Lib.hid hnd; have HNM := Lib.hid hnm
  clear hV hT hT2 hnd hnm
  obtain ⟨A, ca, hvbe, _⟩ := hvb.form
  subst hvbe
  clear hvb
  go_enter Try.func17, Try.ntmps17
  go_wp2_with fail
  refine h.mono ?_
  rintro e w1 ⟨g, rfl, hm, hbl, hb⟩
  have N1 := Lib.hid (NamesAt.start hm hb hbl)
  clear hm hbl hb h
  go_wp2_with fail
  refine (HVV.out _ N1.out.below).mono ?_
  rintro e w2 ⟨rfl, hb2⟩
  have N2 := Lib.hid (N1.out.next hb2)
  clear N1 hb2 HVV
  go_wp2_with fail
  refine (clone_any (HVA.out.below N2.out.below) (by omega)).mono ?_
  rintro e w3 ⟨x, rfl, hown, hb3⟩
  have N3 := Lib.hid (N2.out.next hb3)
  have hg2 := N2.out.tab.lt
  have hbb2 := N2.out.map.lt
  have R3 := Lib.hid (⟨hown, World.ownsRow_nil _ _ _ _, .inr (.inl rfl), hb3.size⟩ : Rows2 w3 w2.heap.size x (.slice none 0 0) a [])
  clear hb3 N2 hown
  go_wp2
  go_loopw [4, 5, 29] (fun v x i wr => ∃ k : Nat, i = .int .i64 k ∧ k ≤ b.length ∧ NamesAt w wr w1.heap.size g a ∧ Rows2 wr w2.heap.size v x (newN a (b.take k)) (toK a b k)) (fun _ _ i _ => b.length - (intOf i).toNat)
  case atStart => exact ⟨0, rfl, by omega, N3.out, by rw [List.take_zero, newN_nil]; exact R3.out⟩
  case round =>
    obtain ⟨k, rfl, hk, hN, hR⟩ := hrel
    have N := Lib.hid hN; have R := Lib.hid hR
    have hgk := hN.tab.lt
    have hbk := hN.map.lt
    have hsk := hR.size
    clear hN hR N3 R3
    by_cases hlt : k < b.length
    · obtain ⟨A0, c0, e0, hr⟩ := (HVB.out.below N.out.below).sl
      cases e0
      obtain ⟨ad, s, rfl, hadb, hs, hc⟩ := row_str hr hlt
      have hsz : (newN a (b.take k)).length ≤ 1000 := by
        have := newN_len a (b.take k)
        rw [List.length_take] at this; omega
      have hsm := name_small (HNM.out s (List.mem_of_getElem? hs))
      have n1 : IntKind.i64.wrap ((k : Int) + 1) = (k : Int) + 1 := by rw [IntKind.wrap_i64]; omega
      have n2 : (k : Int) < (b.length : Int) := by omega
      have hlk := N.out.map.look_ok hsm
      obtain ⟨c0, c1, f0, f1⟩ := N.out.tab.cells
      have htl := toK_len (a := a) hk
      have hown2 := R.out.own2
      by_cases hmem : s ∈ a
      · have e1 : newN a (b.take (k + 1)) = newN a (b.take k) := by rw [take_snoc hs, newN_has hmem]
        have e2 : toK a b (k + 1) = toK a b k ++ [pos a s] := by rw [toK_step hs, to_has hmem]
        rw [show decide (s ∈ a) = true by simpa using hmem] at hlk
        have E1 := Lib.hid e1; have E2 := Lib.hid e2
        clear e1 e2 hmem hs hr
        go_wp2_with (at_builtin; refine wpList_append_own_at _ rfl _ _ 28 rfl w2.heap.size 3 j0 (.int .i64 0) 1 8 Try.underlying28 ji jz0 jz1 jz2 rfl (by decide) _ _ _ rfl (hown2.alloc _) ⟨wr.heap.size, 0, none⟩ 1 1 [.int .i64 (pos a s : Int)] rfl rfl ?c1 ?c2 ?c3 ?c4 ?c5 ?_)
        case c1 => exact cell_one_new _ _ _
        case c2 => intro u hu; simp at hu; subst hu; rfl
        case c3 => unfold maxLen; omega
        case c4 => omega
        case c5 => simp; omega
        intro v' w5 hown' hgrow _ hat
        have N5 := Lib.hid ((N.out.alloc _).grown hgrow (fun g e => by have := (hown2.lt g e).1; omega))
        have R5 := Lib.hid (R.out.push2 (s := pos a s) hgrow (by rw [htl]; exact hown') hat)
        clear hown' hgrow hat c0 c1 f0 f1 hlk hown2
        go_wp2
        go_roundw
        case rel => exact ⟨k + 1, by go_num, by omega, N5.out, by rw [E1.out, E2.out]; exact R5.out⟩
        case measure => simp [intOf]; omega
      · have hnb := nodup_before HND.out hs
        have e1 : newN a (b.take (k + 1)) = newN a (b.take k) ++ [s] := by rw [take_snoc hs, newN_new hmem]
        have e2 : toK a b (k + 1) = toK a b k ++ [(newN a (b.take k)).length + 1] := by
          rw [toK_step hs]
          congr 2
          have := to_new (c := b.drop (k + 1)) hmem hnb
          rw [take_drop_at hs] at this
          exact this
        rw [show decide (s ∈ a) = false by simpa using hmem] at hlk
        have E1 := Lib.hid e1; have E2 := Lib.hid e2
        have hown1 := R.out.own1
        clear e1 e2 hmem hs hr hnb hown2
        generalize hNS : newN a (b.take k) = NS at *
        go_wp2_with (at_builtin; refine wpList_append_own_at _ rfl _ _ 22 rfl w2.heap.size 9 i0 (.string ⟨#[]⟩) 1 16 Try.underlying22 hi hz0 hz1 hz2 rfl (by decide) _ _ _ rfl (hown1.alloc _) ⟨wr.heap.size, 0, none⟩ 1 1 [.string s] rfl rfl ?c1 ?c2 ?c3 ?c4 ?c5 ?_)
        case c1 => exact cell_one_new _ _ _
        case c2 => intro u hu; simp at hu; subst hu; rfl
        case c3 => unfold maxLen; omega
        case c4 => omega
        case c5 => simp; omega
        intro v' w5 hown' hgrow _ hat
        have N5 := Lib.hid ((N.out.alloc _).grown hgrow (fun g e => by have := (hown1.lt g e).1; omega))
        have R5 := R.out.push1 hgrow hown' hat
        have hs5 := R5.size
        have hown5 := R5.own2
        have R5 := Lib.hid R5
        obtain ⟨B, cb, rfl⟩ := own_form hown'
        clear hown' hgrow hat c0 c1 f0 f1 hlk hown1
        go_wp2_with (at_builtin; refine wpList_append_own_at _ rfl _ _ 28 rfl w2.heap.size 3 j0 (.int .i64 0) 1 8 Try.underlying28 ji jz0 jz1 jz2 rfl (by decide) _ _ _ rfl (hown5.alloc _) ⟨w5.heap.size, 0, none⟩ 1 1 [.int .i64 ((NS.length + 1 : Nat) : Int)] rfl rfl ?d1 ?d2 ?d3 ?d4 ?d5 ?_)
        case d1 => exact cell_one_new _ _ _
        case d2 => intro u hu; simp at hu; subst hu; rfl
        case d3 => unfold maxLen; omega
        case d4 => omega
        case d5 => simp; omega
        intro v' w6 hown' hgrow _ hat
        have N6 := Lib.hid ((N5.out.alloc _).grown hgrow (fun g e => by have := (hown5.lt g e).1; omega))
        have R6 := Lib.hid (R5.out.push2 (s := NS.length + 1) hgrow (by rw [htl]; exact hown') hat)
        clear hown' hgrow hat hown5
        go_wp2
        go_roundw
        case rel => exact ⟨k + 1, by go_num, by omega, N6.out, by rw [E1.out, E2.out]; exact R6.out⟩
        case measure => simp [intOf]; omega
    · have hend : b.take k = b := List.take_of_length_le (by omega)
      have n2 : ¬ (k : Int) < (b.length : Int) := by omega
      have hR := R.out
      rw [hend, toK_end a b (by omega)] at hR
      have R2 := Lib.hid hR
      obtain ⟨B, cb, rfl⟩ := own_form hR.own1
      have hV := HV.out
      clear hR hend R
      by_cases h5 : 500 < (newN a b).length
      · rw [if_pos h5] at hV
        have HV2 := Lib.hid hV
        clear hV HV
        generalize hNS : newN a b = NS at *
        go_wp2
        go_ret3
        exact ⟨.slice none 0 0, .slice none 0 0, by rw [HV2.out]; rfl, by rw [HV2.out]; exact StrSl.nil _, by rw [HV2.out]; exact IntSl.nil _, N.out.below⟩
      · rw [if_neg h5] at hV
        have HV2 := Lib.hid hV
        clear hV HV
        generalize hNS : newN a b = NS at *
        go_wp2
        go_ret3
        exact ⟨.slice B NS.length cb, u5, by rw [HV2.out]; rfl, by rw [HV2.out]; exact StrSl.of_own R2.out.own1, by rw [HV2.out]; exact IntSl.of_own (l := ofNats (toT a b)) (by rw [nats_vals]; simpa [ofNats] using R2.out.own2), N.out.below⟩
end Go.Proofs.Ytegbgkljpdlpnaa
