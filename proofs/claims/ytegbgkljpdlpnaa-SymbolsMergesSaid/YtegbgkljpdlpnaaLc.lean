/- SymbolsMerges, walked. -/
import Derived.Test.YtegbgkljpdlpnaaLb
import Derived.Test.YtegbgkljpdlpnaaUc
set_option linter.unusedVariables false
set_option linter.unusedSimpArgs false
namespace Go.Proofs.Ytegbgkljpdlpnaa
open Go.RowKit

theorem newN_self (a : List ByteArray) : newN a a = a := by
  unfold newN
  rw [List.filter_eq_nil_iff.2 (by intro x hx; simp [hx]), List.append_nil]
theorem merge_self {a : List ByteArray} (h : tableB a = true) : mergeL a a = (a, toT a a, 0) := by
  unfold mergeL
  rw [h, newN_self]
  have := (tableB_iff.1 h).1
  rw [if_pos (show (true && true) = true from rfl), if_neg (by omega)]
theorem toT_self {a : List ByteArray} (h : tableB a = true) {k : Nat} (hk : k < a.length) : (toT a a)[k]? = some (k + 1) := by
  unfold toT
  rw [newN_self, List.getElem?_map, List.getElem?_eq_getElem hk]
  show some (pos a a[k]) = _
  rw [pos_at (goodB_iff.1 (tableB_iff.1 h).2).2 (List.getElem?_eq_getElem hk)]
theorem toT_len (a b : List ByteArray) : (toT a b).length = b.length := by unfold toT; simp
theorem merge_len (a b : List ByteArray) (ha : a.length ≤ 600) (hb : b.length ≤ 600) : (mergeL a b).1.length ≤ 1200 ∧ (mergeL a b).2.1.length ≤ 600 := by
  unfold mergeL
  split
  · split
    · simp
    · have := newN_len a b
      have := toT_len a b
      constructor
      · show (newN a b).length ≤ 1200; omega
      · show (toT a b).length ≤ 600; omega
  · simp

set_option maxRecDepth 20000 in
set_option maxHeartbeats 4000000 in
theorem merges_any (a b : List ByteArray) (va vb : Value) (w : World) (hva : StrArg w va a) (hvb : StrArg w vb b) (ha : a.length ≤ maxLen) (hb : b.length ≤ maxLen) :
    Calls Try.prog 6 #[va, vb] w (BoolPost true w) := by
  obtain ⟨A, ca, hae, _⟩ := hva.form
  subst hae
  obtain ⟨B, cb, hbe, _⟩ := hvb.form
  subst hbe
  have hla := large_any A a.length ca w
  by_cases hbig : 600 < a.length
  · rw [show decide (600 < a.length) = true by simpa using hbig] at hla
    clear hva hvb ha hb hbig
    go_enter Try.func6, Try.ntmps6
    go_wp2_with fail
    refine hla.mono ?_
    rintro e w1 ⟨rfl, rfl⟩
    go_wp2_with fail
    refine (awake_any _).mono ?_
    rintro e w2 ⟨rfl, hb⟩
    go_wp2
    go_ret
    exact ⟨rfl, hb⟩
  rw [show decide (600 < a.length) = false by simpa using hbig] at hla
  have hlb := large_any B b.length cb w
  by_cases hbig2 : 600 < b.length
  · rw [show decide (600 < b.length) = true by simpa using hbig2] at hlb
    clear hva hvb ha hb hbig hbig2
    go_enter Try.func6, Try.ntmps6
    go_wp2_with fail
    refine hla.mono ?_
    rintro e w1 ⟨rfl, rfl⟩
    go_wp2_with fail
    refine hlb.mono ?_
    rintro e w1 ⟨rfl, rfl⟩
    go_wp2_with fail
    refine (awake_any _).mono ?_
    rintro e w2 ⟨rfl, hb⟩
    go_wp2
    go_ret
    exact ⟨rfl, hb⟩
  rw [show decide (600 < b.length) = false by simpa using hbig2] at hlb
  have h1 := merge_any hva hvb ha hb
  have h2 := fun w' (h : Below w.heap.size w w') => rmerge_any (hva.below h) (hvb.below h) ha hb
  have hlen := merge_len a b (by omega) (by omega)
  have ha600 : a.length ≤ 600 := by omega
  unfold MergePost at h1 h2
  obtain ⟨R, hR⟩ : ∃ R, mergeL a b = R := ⟨_, rfl⟩
  rw [hR] at h1 h2 hlen
  obtain ⟨l, ts, q⟩ := R
  simp only at h1 h2 hlen
  have hl1 := hlen.1; have hl2 := hlen.2
  have H2 := Lib.hid h2; have HVA := Lib.hid hva
  clear hva hvb hbig hbig2 h2 hR hlen
  go_enter Try.func6, Try.ntmps6
  go_wp2_with fail
  refine hla.mono ?_
  rintro e w0 ⟨rfl, rfl⟩
  clear hla
  go_wp2_with fail
  refine hlb.mono ?_
  rintro e w0 ⟨rfl, rfl⟩
  clear hlb
  go_wp2_with fail
  refine h1.mono ?_
  rintro e w1 ⟨n1, t1, rfl, hn1, ht1, hb⟩
  have N1 := Lib.hid hn1; have T1 := Lib.hid ht1; have B1 := Lib.hid hb
  clear hn1 ht1 hb h1
  go_wp2_with fail
  refine (H2.out _ B1.out).mono ?_
  rintro e w2 ⟨n2, t2, rfl, hn2, ht2, hb⟩
  have hn1 := N1.out.below hb
  have T2 := Lib.hid (T1.out.below hb)
  have U2 := Lib.hid ht2
  have B2 := Lib.hid (below_chain B1.out hb)
  clear hb B1 N1 T1 ht2
  go_wp2_with fail
  refine (sameList_any _ _ _ _ _ hn1 hn2 (by omega)).mono ?_
  unfold SamePost
  rintro e w3 ⟨rfl, n3, rfl⟩
  have hq : Below w2.heap.size w2 (w2.drewN n3) := below_drewN3 (Below.refl _ _) n3
  have ht1 := T2.out.below hq
  have ht2 := U2.out.below hq
  have B3 := Lib.hid (below_chain B2.out hq)
  clear hn1 hn2 B2 T2 U2 hq
  generalize World.drewN _ n3 = w3 at *
  rw [show decide (l = l) = true by simp]
  go_wp2_with fail
  refine (sameInts_any _ _ _ _ _ ht1 ht2 (by simp [ofNats]; omega)).mono ?_
  rintro e w4 ⟨rfl, n4, rfl⟩
  have B4 := Lib.hid (below_drewN3 B3.out n4)
  clear ht1 ht2 B3
  generalize World.drewN _ n4 = w4 at *
  rw [show decide (ofNats ts = ofNats ts) = true by simp]
  cases hT : tableB a
  · have hva := valid_val hT (HVA.out.below B4.out).sl ha
    clear hT
    go_wp2_with fail
    refine hva.mono ?_
    rintro e w5 ⟨rfl, hb⟩
    have B5 := Lib.hid (below_chain B4.out hb)
    clear hb B4 hva
    go_wp2_with fail
    refine (awake_any _).mono ?_
    rintro e w6 ⟨rfl, hb⟩
    have B6 := Lib.hid (below_chain B5.out hb)
    clear hb B5
    go_wp2
    go_ret
    exact ⟨rfl, B6.out⟩
  · have hva := valid_val hT (HVA.out.below B4.out).sl ha
    have h3 := fun w' (h : Below w.heap.size w w') => merge_any (HVA.out.below h) (HVA.out.below h) ha ha
    rw [merge_self hT] at h3
    unfold MergePost at h3
    simp only at h3
    have H3 := Lib.hid h3
    have HT := Lib.hid hT
    have htl := toT_len a a
    clear hT h3
    generalize hts : toT a a = TS at *
    have HTS := Lib.hid hts
    clear hts
    go_wp2_with fail
    refine hva.mono ?_
    rintro e w5 ⟨rfl, hb⟩
    have B5 := Lib.hid (below_chain B4.out hb)
    clear hb B4 hva
    go_wp2_with fail
    refine (H3.out _ B5.out).mono ?_
    rintro e w6 ⟨n6, t6, rfl, hn6, ht6, hb⟩
    have B6 := Lib.hid (below_chain B5.out hb)
    have hA6 := (HVA.out.below B6.out).sl
    obtain ⟨D, cd, hde⟩ := ht6.len
    subst hde
    have T6 := Lib.hid ht6
    clear hb B5 H3 ht6
    go_wp2_with fail
    refine (sameList_any _ _ _ _ _ hn6 hA6 (by omega)).mono ?_
    unfold SamePost
    rintro e w7 ⟨rfl, n7, rfl⟩
    have hq : Below w6.heap.size w6 (w6.drewN n7) := below_drewN3 (Below.refl _ _) n7
    have ht7 := T6.out.below hq
    have B7 := Lib.hid (below_chain B6.out hq)
    clear hn6 hA6 B6 T6 hq
    generalize World.drewN _ n7 = w7 at *
    rw [show decide (a = a) = true by simp]
    have f9 : ((TS.length : Int) != (a.length : Int)) = false := by simp; omega
    go_wp2
    go_loop [14] (fun i => ∃ k : Nat, i = .int .i64 k ∧ k ≤ TS.length) (fun i => TS.length - (intOf i).toNat)
    case atStart => exact ⟨0, rfl, by omega⟩
    case round =>
      obtain ⟨k, rfl, hk⟩ := hrel
      by_cases hlt : k < TS.length
      · obtain ⟨D', cd', e', hr⟩ := ht7
        injection e' with e1 e2 e3
        subst e1
        obtain ⟨ad, z, hD, hadb, hz, hc⟩ := row_int hr (by simp [ofNats]; exact hlt : k < (ofNats TS).length)
        subst hD
        have hz2 : z = ((k + 1 : Nat) : Int) := by
          have h1 := toT_self HT.out (show k < a.length by omega)
          rw [HTS.out] at h1
          unfold ofNats at hz
          rw [List.getElem?_map, h1] at hz
          simpa using hz.symm
        have n1 : (k : Int) < (TS.length : Int) := by omega
        have n2 : IntKind.i64.wrap ((k : Int) + 1) = (k : Int) + 1 := by rw [IntKind.wrap_i64]; omega
        have n3 : (z != (k : Int) + 1) = false := by rw [hz2]; simp
        clear hz hz2 hr
        go_wp2
        go_round
        case rel => exact ⟨k + 1, by go_num, by omega⟩
        case measure => simp [intOf]; omega
      · have n1 : ¬ (k : Int) < (TS.length : Int) := by omega
        clear ht7
        go_wp2_with fail
        refine (awake_any _).mono ?_
        rintro e w8 ⟨rfl, hb⟩
        have B8 := Lib.hid (below_chain B7.out hb)
        clear hb B7
        go_wp2
        go_ret
        exact ⟨rfl, B8.out⟩
end Go.Proofs.Ytegbgkljpdlpnaa
