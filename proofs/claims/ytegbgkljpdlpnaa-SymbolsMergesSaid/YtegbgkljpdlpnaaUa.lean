/- The reference's position, Valid, Find, Name, Word, SameInts, by contract. -/
import Derived.Test.YtegbgkljpdlpnaaTk
set_option linter.unusedVariables false
set_option linter.unusedSimpArgs false
namespace Go.Proofs.Ytegbgkljpdlpnaa
open Go.RowKit

theorem str_test (a b : ByteArray) : (a.toList == b.toList) = decide (a = b) := by
  rw [Lib.toList_data, Lib.toList_data, Bool.eq_iff_iff, beq_iff_eq, decide_eq_true_eq]
  constructor
  · intro h; exact ByteArray.ext (Array.toList_inj.1 h)
  · intro h; rw [h]
theorem pos_first {L : List ByteArray} {s : ByteArray} {k : Nat} (h : L[k]? = some s) (hn : s ∉ L.take k) : pos L s = k + 1 := by
  have := pos_mid (m := L.drop (k + 1)) hn
  rw [take_drop_at h, List.length_take] at this
  have := (List.getElem?_eq_some_iff.1 h).1
  omega

set_option maxHeartbeats 1000000 in
theorem position_any {w : World} {v : Value} {L : List ByteArray} (hv : StrSl w v L) (hl : L.length ≤ maxLen) (s : ByteArray) :
    Calls Try.prog 38 #[v, .string s] w fun e w' => e = .returned (.int .i64 ((pos L s : Int) - 1)) ∧ w = w' := by
  obtain ⟨A, ca, rfl, hr⟩ := hv
  unfold maxLen at hl
  go_enter Try.func38, Try.ntmps38
  go_wp2
  go_loop [5] (fun i => ∃ k : Nat, i = .int .i64 k ∧ k ≤ L.length ∧ s ∉ L.take k) (fun i => L.length - (intOf i).toNat)
  case atStart => exact ⟨0, rfl, by omega, by simp⟩
  case round =>
    obtain ⟨k, rfl, hk, hn⟩ := hrel
    have HN := Lib.hid hn
    clear hn
    by_cases hlt : k < L.length
    · obtain ⟨ad, x, rfl, hadb, hx, hc⟩ := row_str hr hlt
      have n1 : (k : Int) < (L.length : Int) := by omega
      have n2 : IntKind.i64.wrap ((k : Int) + 1) = (k : Int) + 1 := by rw [IntKind.wrap_i64]; omega
      have ht := str_test x s
      by_cases he : x = s
      · rw [show decide (x = s) = true by simpa using he] at ht
        have hp : (pos L s : Int) - 1 = (k : Int) := by rw [pos_first (by rw [← he]; exact hx) HN.out]; omega
        have HP := Lib.hid hp
        clear he hx hp
        go_wp2
        go_ret
        exact ⟨by rw [HP.out]; rfl, rfl⟩
      · rw [show decide (x = s) = false by simpa using he] at ht
        have hn2 : s ∉ L.take (k + 1) := by
          rw [take_snoc hx]
          simp only [List.mem_append, List.mem_singleton, not_or]
          exact ⟨HN.out, fun e => he e.symm⟩
        have HN2 := Lib.hid hn2
        clear he hx hn2
        go_wp2
        go_round
        case rel => exact ⟨k + 1, by go_num, by omega, HN2.out⟩
        case measure => simp [intOf]; omega
    · have n1 : ¬ (k : Int) < (L.length : Int) := by omega
      have hp : (pos L s : Int) - 1 = -1 := by
        have := HN.out
        rw [List.take_of_length_le (by omega)] at this
        rw [pos_not this]; rfl
      have HP := Lib.hid hp
      clear hp
      go_wp2
      go_ret
      exact ⟨by rw [HP.out]; rfl, rfl⟩

set_option maxHeartbeats 4000000 in
theorem rvalid5_any {w : World} {v : Value} {L : List ByteArray} (hv : StrSl w v L) (hl : L.length ≤ maxLen) :
    Calls Try.prog 25 #[v] w (ValPost (.bool (tableB L)) w) := by
  have hps := fun w' (h : Below w.heap.size w w') (s : ByteArray) => position_any (hv.below h) hl s
  obtain ⟨A, ca, rfl, hr⟩ := hv
  by_cases hlen : 500 < L.length
  · have hT : tableB L = false := by unfold tableB; simp; omega
    have f0 : decide ((500 : Int) < (L.length : Int)) = true := by simp; omega
    rw [hT]
    clear hT hr hlen hps
    go_enter Try.func25, Try.ntmps25
    go_wp2
    go_ret
    exact ⟨rfl, Below.refl _ _⟩
  have f0 : decide ((500 : Int) < (L.length : Int)) = false := by simp; omega
  have HPS := Lib.hid hps
  clear hps
  go_enter Try.func25, Try.ntmps25
  go_wp2
  go_loopw [3] (fun i wr => ∃ k : Nat, i = .int .i64 k ∧ k ≤ L.length ∧ goodB (L.take k) = true ∧ Below w.heap.size w wr) (fun i _ => L.length - (intOf i).toNat)
  case atStart => exact ⟨0, rfl, by omega, goodB_nil, Below.refl _ _⟩
  case round =>
    obtain ⟨k, rfl, hk, hg, hb⟩ := hrel
    have HG := Lib.hid hg
    clear hg
    by_cases hlt : k < L.length
    · obtain ⟨ad, s, rfl, hadb, hs, hc0⟩ := row_str hr hlt
      have hc : wr.cell? (ad.add k) = some (.string s) := (hb.cell (by rw [block_of_add]; exact hadb)).trans hc0
      have hnd := fun W => named_any s W
      have hts := take_snoc hs
      have n1 : (k : Int) < (L.length : Int) := by omega
      have n2 : IntKind.i64.wrap ((k : Int) + 1) = (k : Int) + 1 := by rw [IntKind.wrap_i64]; omega
      have HS := Lib.hid hs; have HTS := Lib.hid hts; have HB := Lib.hid hb
      have hb1 := hb.size
      clear hs hts hb
      cases hN : nameB s
      · rw [hN] at hnd
        have hT : tableB L = false := by
          cases hgd : tableB L
          · rfl
          · have := (goodB_iff.1 (tableB_iff.1 hgd).2).1 s (List.mem_of_getElem? HS.out)
            rw [hN] at this; cases this
        have HT := Lib.hid hT
        clear hT hN hc0
        go_wp2_with fail
        refine (hnd _).mono ?_
        rintro e w1 ⟨rfl, hb2⟩
        have hb3 := HB.out.trans (hb2.mono hb1)
        go_wp2
        go_ret
        exact ⟨by rw [HT.out]; rfl, hb3⟩
      · rw [hN] at hnd
        have HN := Lib.hid hN
        clear hN
        by_cases hmem : s ∈ L.take k
        · have hT : tableB L = false := by
            cases hgd : tableB L
            · rfl
            · have h1 := goodB_take (tableB_iff.1 hgd).2 (k + 1)
              rw [HTS.out, goodB_snoc] at h1
              exact absurd hmem h1.2.2
          have hp : (((pos L s : Int) - 1) != (k : Int)) = true := by
            have h1 := pos_append (m := L.drop k) hmem
            rw [List.take_append_drop] at h1
            have h2 := pos_le (L.take k) s
            rw [List.length_take] at h2
            simp
            omega
          have HT := Lib.hid hT
          clear hT hmem
          go_wp2_with fail
          refine (hnd _).mono ?_
          rintro e w1 ⟨rfl, hb2⟩
          have hb3 := HB.out.trans (hb2.mono hb1)
          have hc1 : w1.cell? (ad.add k) = some (.string s) := (hb3.cell (by rw [block_of_add]; exact hadb)).trans hc0
          have HB3 := Lib.hid hb3
          clear hb3 hc0 hb2
          go_wp2_with fail
          refine (HPS.out _ HB3.out s).mono ?_
          rintro e w2 ⟨rfl, rfl⟩
          go_wp2
          go_ret
          exact ⟨by rw [HT.out]; rfl, HB3.out⟩
        · have hp : (((pos L s : Int) - 1) != (k : Int)) = false := by
            rw [pos_first HS.out hmem]
            simp
          have hgs : goodB (L.take (k + 1)) = true := by rw [HTS.out, goodB_snoc]; exact ⟨HG.out, HN.out, hmem⟩
          have HGS := Lib.hid hgs
          clear hgs hmem
          go_wp2_with fail
          refine (hnd _).mono ?_
          rintro e w1 ⟨rfl, hb2⟩
          have hb3 := HB.out.trans (hb2.mono hb1)
          have hc1 : w1.cell? (ad.add k) = some (.string s) := (hb3.cell (by rw [block_of_add]; exact hadb)).trans hc0
          have HB3 := Lib.hid hb3
          clear hb3 hc0 hb2
          go_wp2_with fail
          refine (HPS.out _ HB3.out s).mono ?_
          rintro e w2 ⟨rfl, rfl⟩
          go_wp2
          go_roundw
          case rel => exact ⟨k + 1, by go_num, by omega, HGS.out, HB3.out⟩
          case measure => simp [intOf]; omega
    · have n1 : ¬ (k : Int) < (L.length : Int) := by omega
      have hT : tableB L = true := by
        have := HG.out
        rw [List.take_of_length_le (by omega)] at this
        rw [tableB_iff]; exact ⟨by omega, this⟩
      have HT := Lib.hid hT
      clear hT
      go_wp2
      go_ret
      exact ⟨by rw [HT.out]; rfl, hb⟩
end Go.Proofs.Ytegbgkljpdlpnaa
