/- SymbolsNames, walked. -/
import Derived.Test.YtegbgkljpdlpnaaLa
import Derived.Test.YtegbgkljpdlpnaaTj
set_option linter.unusedVariables false
set_option linter.unusedSimpArgs false
namespace Go.Proofs.Ytegbgkljpdlpnaa
open Go.RowKit

theorem newN_table {a b : List ByteArray} (ha : tableB a = true) (hb : tableB b = true) (hal : a.length ≤ 200) (hbl : b.length ≤ 200) : tableB (newN a b) = true := by
  have h1 := goodB_iff.1 (tableB_iff.1 ha).2
  have h2 := goodB_iff.1 (tableB_iff.1 hb).2
  have hl := newN_len a b
  rw [tableB_iff, goodB_iff]
  refine ⟨by omega, fun s hs => ?_, ?_⟩
  · unfold newN at hs
    rcases List.mem_append.1 hs with h | h
    · exact h1.1 s h
    · exact h2.1 s (List.mem_filter.1 h).1
  · unfold newN
    rw [List.nodup_append]
    refine ⟨h1.2, h2.2.filter _, fun x hx y hy e => ?_⟩
    subst e
    have := (List.mem_filter.1 hy).2
    simp at this
    exact this hx
theorem newN_at {a b : List ByteArray} {k : Nat} (hk : k < a.length) : (newN a b)[k]? = a[k]? := by
  unfold newN; rw [List.getElem?_append_left hk]
theorem newN_mem {a b : List ByteArray} {x : ByteArray} (h : x ∈ b) : x ∈ newN a b := by
  unfold newN
  by_cases hx : x ∈ a
  · simp [hx]
  · simp [hx, h]
theorem merge_small {a b : List ByteArray} (ha : tableB a = true) (hb : tableB b = true) (hal : a.length ≤ 200) (hbl : b.length ≤ 200) : mergeL a b = (newN a b, toT a b, 0) := by
  have hl := newN_len a b
  unfold mergeL
  rw [ha, hb, if_pos (show (true && true) = true from rfl), if_neg (by omega)]
theorem name_at {a : List ByteArray} (ha : tableB a = true) {k : Nat} {x : ByteArray} (hk : a[k]? = some x) : nameV a ((k : Int) + 1) = .tuple #[.string x, .bool true] := by
  have h1 := (List.getElem?_eq_some_iff.1 hk).1
  unfold nameV
  rw [show (tableB a && hasB a.length ((k : Int) + 1)) = true by rw [ha]; unfold hasB; simp; omega, if_pos rfl, show ((k : Int) + 1 - 1).toNat = k by omega, List.getD_eq_getElem?_getD, hk]
  rfl
theorem find_at {a : List ByteArray} (ha : tableB a = true) {k : Nat} {x : ByteArray} (hk : a[k]? = some x) : findV a x = .tuple #[.int .i64 ((k : Int) + 1), .bool true] := by
  unfold findV
  rw [if_pos ha, pos_at (goodB_iff.1 (tableB_iff.1 ha).2).2 hk, show decide (x ∈ a) = true by simpa using List.mem_of_getElem? hk]
  rfl
theorem find_new {a b : List ByteArray} (h : tableB (newN a b) = true) {x : ByteArray} (hx : x ∈ b) : findV (newN a b) x = .tuple #[.int .i64 (pos (newN a b) x : Int), .bool true] := by
  unfold findV
  rw [if_pos h, show decide (x ∈ newN a b) = true by simpa using newN_mem hx]
theorem toT_at {a b : List ByteArray} {k : Nat} {x : ByteArray} (hk : b[k]? = some x) : (toT a b)[k]? = some (pos (newN a b) x) := by
  unfold toT; rw [List.getElem?_map, hk]; rfl

set_option maxRecDepth 20000 in
set_option maxHeartbeats 8000000 in
theorem names_any (a b : List ByteArray) (va vb : Value) (w : World) (hva : StrArg w va a) (hvb : StrArg w vb b) (ha : a.length ≤ maxLen) (hb : b.length ≤ maxLen) :
    Calls Try.prog 10 #[va, vb] w (BoolPost true w) := by
  obtain ⟨A, ca, hae, _⟩ := hva.form
  subst hae
  obtain ⟨B, cb, hbe, _⟩ := hvb.form
  subst hbe
  by_cases h1 : 200 < a.length
  · have f1 : decide ((200 : Int) < (a.length : Int)) = true := by simp; omega
    clear hva hvb ha hb
    go_enter Try.func10, Try.ntmps10
    go_wp2_with fail
    refine (awake_any _).mono ?_
    rintro e w2 ⟨rfl, hb⟩
    go_wp2
    go_ret
    exact ⟨rfl, hb⟩
  have f1 : decide ((200 : Int) < (a.length : Int)) = false := by simp; omega
  by_cases h2 : 200 < b.length
  · have f2 : decide ((200 : Int) < (b.length : Int)) = true := by simp; omega
    clear hva hvb ha hb
    go_enter Try.func10, Try.ntmps10
    go_wp2_with fail
    refine (awake_any _).mono ?_
    rintro e w2 ⟨rfl, hb⟩
    go_wp2
    go_ret
    exact ⟨rfl, hb⟩
  have f2 : decide ((200 : Int) < (b.length : Int)) = false := by simp; omega
  have hal : a.length ≤ 200 := by omega
  have hbl : b.length ≤ 200 := by omega
  cases hTa : tableB a
  · have hv1 := valid_val hTa hva.sl ha
    clear hva hvb ha hb hTa h1 h2
    go_enter Try.func10, Try.ntmps10
    go_wp2_with fail
    refine hv1.mono ?_
    rintro e w1 ⟨rfl, hb1⟩
    go_wp2_with fail
    refine (awake_any _).mono ?_
    rintro e w2 ⟨rfl, hb⟩
    have hb3 := below_chain hb1 hb
    go_wp2
    go_ret
    exact ⟨rfl, hb3⟩
  have hv1 := valid_val hTa hva.sl ha
  cases hTb : tableB b
  · have hv2 := fun w' (h : Below w.heap.size w w') => valid_val hTb (hvb.below h).sl hb
    have HV2 := Lib.hid hv2
    clear hva hvb ha hb hTa hTb hv2 h1 h2
    go_enter Try.func10, Try.ntmps10
    go_wp2_with fail
    refine hv1.mono ?_
    rintro e w1 ⟨rfl, hb1⟩
    go_wp2_with fail
    refine (HV2.out _ hb1).mono ?_
    rintro e w2 ⟨rfl, hb2⟩
    have hb3 := below_chain hb1 hb2
    go_wp2_with fail
    refine (awake_any _).mono ?_
    rintro e w3 ⟨rfl, hb⟩
    have hb4 := below_chain hb3 hb
    go_wp2
    go_ret
    exact ⟨rfl, hb4⟩
  have hv2 := fun w' (h : Below w.heap.size w w') => valid_val hTb (hvb.below h).sl hb
  have hmg := fun w' (h : Below w.heap.size w w') => merge_any (hva.below h) (hvb.below h) ha hb
  rw [merge_small hTa hTb hal hbl] at hmg
  unfold MergePost at hmg
  simp only at hmg
  have hTN := newN_table hTa hTb hal hbl
  have htl : (toT a b).length = b.length := by unfold toT; simp
  have hng := newN_ge a b
  have hnl := newN_len a b
  have HV2 := Lib.hid hv2; have HMG := Lib.hid hmg; have HTA := Lib.hid hTa; have HTB := Lib.hid hTb; have HTN := Lib.hid hTN; have HVA := Lib.hid hva; have HVB := Lib.hid hvb
  clear hva hvb hTa hTb hv2 hmg hTN h1 h2
  go_enter Try.func10, Try.ntmps10
  go_wp2_with fail
  refine hv1.mono ?_
  rintro e w1 ⟨rfl, hb1⟩
  have B1 := Lib.hid hb1
  clear hv1 hb1
  go_wp2_with fail
  refine (HV2.out _ B1.out).mono ?_
  rintro e w2 ⟨rfl, hb2⟩
  have B2 := Lib.hid (below_chain B1.out hb2)
  clear hb2 B1 HV2
  go_wp2
  go_loopw [5] (fun i wr => ∃ k : Nat, i = .int .i64 k ∧ k ≤ a.length ∧ Below w.heap.size w wr) (fun i _ => a.length - (intOf i).toNat)
  case atStart => exact ⟨0, rfl, by omega, B2.out⟩
  case round =>
    obtain ⟨k, rfl, hk, hbw⟩ := hrel
    have BW := Lib.hid hbw
    clear hbw B2
    by_cases hlt : k < a.length
    · obtain ⟨A', ca', ea, hr⟩ := HVA.out.sl
      injection ea with ea1 ea2 ea3
      subst ea1
      obtain ⟨ad, x, hA, hadb, hx, hc0⟩ := row_str hr hlt
      subst hA
      have n1 : (k : Int) < (a.length : Int) := by omega
      have n2 : IntKind.i64.wrap ((k : Int) + 1) = (k : Int) + 1 := by rw [IntKind.wrap_i64]; omega
      have hnm := name_at HTA.out hx
      have hfd := find_at HTA.out hx
      have hxs := name_small ((goodB_iff.1 (tableB_iff.1 HTA.out).2).1 x (List.mem_of_getElem? hx))
      have hcw : wr.cell? (ad.add k) = some (.string x) := (BW.out.cell (by rw [block_of_add]; exact hadb)).trans hc0
      have hcall := name_val hnm (HVA.out.below BW.out).sl ha
      have HF := Lib.hid hfd
      clear hx hnm hfd hr ea2 ea3
      go_wp2_with fail
      refine hcall.mono ?_
      rintro e w3 ⟨rfl, hb3⟩
      have hb4 := below_chain BW.out hb3
      have hc3 : w3.cell? (ad.add k) = some (.string x) := (hb4.cell (by rw [block_of_add]; exact hadb)).trans hc0
      have B4 := Lib.hid hb4
      clear hb3 hb4 hcall hcw BW
      go_wp2_with fail
      refine (find_val HF.out (HVA.out.below B4.out).sl ha hxs).mono ?_
      rintro e w5 ⟨rfl, hb5⟩
      have hb6 := below_chain B4.out hb5
      have hc5 : w5.cell? (ad.add k) = some (.string x) := (hb6.cell (by rw [block_of_add]; exact hadb)).trans hc0
      have B6 := Lib.hid hb6
      clear hb5 hb6 hc3 B4 hc0 HF
      go_wp2
      go_roundw
      case rel => exact ⟨k + 1, by go_num, by omega, B6.out⟩
      case measure => simp [intOf]; omega
    · have n1 : ¬ (k : Int) < (a.length : Int) := by omega
      go_wp2_with fail
      refine (HMG.out _ BW.out).mono ?_
      rintro e w3 ⟨vn, vt, rfl, hn, ht, hb3⟩
      have B3 := Lib.hid (below_chain BW.out hb3)
      have hvd := valid_val HTN.out hn (by unfold maxLen; omega)
      obtain ⟨N, cn, hne, hnr⟩ := hn
      subst hne
      obtain ⟨D, cd, hde⟩ := ht.len
      subst hde
      have HN := Lib.hid hnr; have HD := Lib.hid ht
      have g1 : decide (((newN a b).length : Int) < (a.length : Int)) = false := by simp; omega
      have g2 : (((toT a b).length : Int) != (b.length : Int)) = false := by rw [htl]; simp
      obtain ⟨NN, hNN⟩ : ∃ NN, newN a b = NN := ⟨_, rfl⟩
      obtain ⟨TT, hTT⟩ : ∃ TT, toT a b = TT := ⟨_, rfl⟩
      rw [hNN] at HN hvd g1 HTN hng hnl
      rw [hTT] at HD g2 htl
      have HNN := Lib.hid hNN; have HTT := Lib.hid hTT
      rw [hNN, hTT]
      clear hb3 hnr ht hNN hTT BW
      go_wp2_with fail
      refine hvd.mono ?_
      rintro e w4 ⟨rfl, hb4⟩
      have HN4 := Lib.hid ((HN.out.below hb4).more hb4.size)
      have HD4 := Lib.hid (HD.out.below hb4)
      have B4 := Lib.hid (below_chain B3.out hb4)
      clear hvd hb4 HN HD B3
      clear hlt n1 hk
      generalize wr = w9 at *
      go_wp2
      go_loopw [13] (fun i wr => ∃ k : Nat, i = .int .i64 k ∧ k ≤ a.length ∧ Below w4.heap.size w4 wr) (fun i _ => a.length - (intOf i).toNat)
      case atStart => exact ⟨0, rfl, by omega, Below.refl _ _⟩
      case round =>
        obtain ⟨k, rfl, hk, hbw⟩ := hrel
        by_cases hlt : k < a.length
        · obtain ⟨A', ca', ea, hr⟩ := (HVA.out.below B4.out).sl
          injection ea with ea1 ea2 ea3
          subst ea1
          obtain ⟨ad, x, hA, hadb, hx, hc0⟩ := row_str hr hlt
          subst hA
          obtain ⟨nd, y, hN, hndb, hy, hd0⟩ := row_str HN4.out (show k < NN.length by omega)
          subst hN
          have hxy : y = x := by
            have h1 := newN_at (b := b) hlt
            rw [HNN.out, hx, hy] at h1
            exact Option.some.inj h1
          subst hxy
          have hcx : wr.cell? (ad.add k) = some (.string y) := (hbw.cell (by rw [block_of_add]; exact hadb)).trans hc0
          have hcy : wr.cell? (nd.add k) = some (.string y) := (hbw.cell (by rw [block_of_add]; exact hndb)).trans hd0
          have n1 : (k : Int) < (a.length : Int) := by omega
          have n5 : (k : Int) < (NN.length : Int) := by omega
          have n2 : IntKind.i64.wrap ((k : Int) + 1) = (k : Int) + 1 := by rw [IntKind.wrap_i64]; omega
          have n3 : IntKind.i64.wrap (k : Int) = (k : Int) := by rw [IntKind.wrap_i64]; omega
          have BW := Lib.hid hbw
          clear hx hy hr hc0 hd0 hbw ea2 ea3
          go_wp2
          go_quiet (fail)
          go_wp2
          go_roundw
          case rel => exact ⟨k + 1, by go_num, by omega, below_drewN3 BW.out _⟩
          case measure => simp [intOf]; omega
        · have n1 : ¬ (k : Int) < (a.length : Int) := by omega
          have BW := Lib.hid hbw
          clear hbw hlt hk
          generalize wr = w8 at *
          go_wp2
          go_loopw [14] (fun i wr => ∃ k : Nat, i = .int .i64 k ∧ k ≤ b.length ∧ Below w4.heap.size w4 wr) (fun i _ => b.length - (intOf i).toNat)
          case atStart => exact ⟨0, rfl, by omega, BW.out⟩
          case round =>
            obtain ⟨k, rfl, hk, hbw⟩ := hrel
            by_cases hlt : k < b.length
            · obtain ⟨B', cb', eb, hr⟩ := (HVB.out.below B4.out).sl
              injection eb with eb1 eb2 eb3
              subst eb1
              obtain ⟨bd, x, hB, hbdb, hx, hc0⟩ := row_str hr hlt
              subst hB
              obtain ⟨D', cd', ed, hdr⟩ := HD4.out
              injection ed with ed1 ed2 ed3
              subst ed1
              have hofl : (ofNats TT).length = TT.length := by simp [ofNats]
              obtain ⟨dd, z, hD, hddb, hz, hd0⟩ := row_int hdr (show k < (ofNats TT).length by omega)
              subst hD
              have hmem := List.mem_of_getElem? hx
              have hz2 : z = (pos NN x : Int) := by
                have h1 := toT_at (a := a) hx
                rw [HTT.out, HNN.out] at h1
                unfold ofNats at hz
                rw [List.getElem?_map, h1] at hz
                simpa using hz.symm
              have hfd := find_new (a := a) (b := b) (by rw [HNN.out]; exact HTN.out) hmem
              rw [HNN.out, ← hz2] at hfd
              have hxs := name_small ((goodB_iff.1 (tableB_iff.1 HTB.out).2).1 x hmem)
              have hcx : wr.cell? (bd.add k) = some (.string x) := (hbw.cell (by rw [block_of_add]; exact hbdb)).trans hc0
              have n1 : (k : Int) < (b.length : Int) := by omega
              have n5 : (k : Int) < (TT.length : Int) := by omega
              have n2 : IntKind.i64.wrap ((k : Int) + 1) = (k : Int) + 1 := by rw [IntKind.wrap_i64]; omega
              have hsn : StrSl wr (.slice N NN.length cn) NN := ⟨N, cn, rfl, (HN4.out.below hbw).more hbw.size⟩
              have hcall := find_val hfd hsn (by unfold maxLen; omega) hxs
              have BW2 := Lib.hid hbw
              clear hx hz hz2 hr hdr hc0 hbw eb2 eb3 ed2 ed3 hmem hfd hsn hofl
              go_wp2_with fail
              refine hcall.mono ?_
              rintro e w5 ⟨rfl, hb5⟩
              have hb6 := BW2.out.trans (hb5.mono BW2.out.size)
              have hcz : w5.cell? (dd.add k) = some (.int .i64 z) := (hb6.cell (by rw [block_of_add]; exact hddb)).trans hd0
              have B6 := Lib.hid hb6
              clear hb5 hb6 hcall hcx hd0
              go_wp2
              go_roundw
              case rel => exact ⟨k + 1, by go_num, by omega, B6.out⟩
              case measure => simp [intOf]; omega
            · have n1 : ¬ (k : Int) < (b.length : Int) := by omega
              have BW2 := Lib.hid (B4.out.trans (hbw.mono B4.out.size))
              clear hbw
              go_wp2_with fail
              refine (awake_any _).mono ?_
              rintro e w5 ⟨rfl, hb5⟩
              have B6 := Lib.hid (below_chain BW2.out hb5)
              clear hb5
              go_wp2
              go_ret
              exact ⟨rfl, B6.out⟩
end Go.Proofs.Ytegbgkljpdlpnaa
