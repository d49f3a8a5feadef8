/- The reference's Tokens, Text, by contract. -/
import Derived.Test.YtegbgkljpdlpnaaUd
import Derived.Lib.AppendStr
set_option linter.unusedVariables false
set_option linter.unusedSimpArgs false
namespace Go.Proofs.Ytegbgkljpdlpnaa
open Go.RowKit

theorem info_u8 : (Try.prog.info? 5).map (fun i => (i.zero, i.size, i.bytes)) = some (some (.int .u8 0), 1, 1) := by kernel_rfl

set_option maxHeartbeats 4000000 in
theorem rtokens_any {w : World} {v : Value} {L : List ByteArray} (hv : StrSl w v L) (hl : L.length ≤ maxLen) (t : ByteArray) :
    Calls Try.prog 28 #[v, .string t] w (TokPost (tokL L t) w) := by
  obtain ⟨i0, hi, hz0, hz1, hz2⟩ := info_parts info_int
  have hva := rvalid5_any hv hl
  cases hT : tableB L
  · rw [hT] at hva
    have hV : tokL L t = ([], 0, 1) := by unfold tokL; rw [hT]; rfl
    rw [hV]
    clear hV hT hv
    go_enter Try.func28, Try.ntmps28
    go_wp2_with fail
    refine hva.mono ?_
    rintro e w1 ⟨rfl, hb⟩
    go_wp2
    go_ret3
    exact ⟨_, rfl, IntSl.nil _, hb⟩
  rw [hT] at hva
  have hgood := (tableB_iff.1 hT).2
  have h500 := (tableB_iff.1 hT).1
  by_cases hbig : 16384 < t.size
  · have hV : tokL L t = ([], 0, 2) := by unfold tokL; rw [hT, if_pos rfl, if_pos hbig]
    rw [hV]
    clear hV hT hv hgood
    go_enter Try.func28, Try.ntmps28
    go_wp2_with fail
    refine hva.mono ?_
    rintro e w1 ⟨rfl, hb⟩
    go_wp2
    go_ret3
    exact ⟨_, rfl, IntSl.nil _, hb⟩
  have hV : tokL L t = if (divL L t).2 < t.size then ([], (divL L t).2, 3) else if 200 < (divL L t).1.length then ([], 0, 2) else ((divL L t).1, 0, 0) := by unfold tokL; rw [hT, if_pos rfl, if_neg hbig]
  have ht : t.size ≤ 16384 := by omega
  have hlg := fun (w' : World) (h : Below w.heap.size w w') (i : Nat) (hi : i ≤ t.size) => longest_any (hv.below h) h500 hgood t i ht hi
  have HV := Lib.hid hV; have HLG := Lib.hid hlg; have HG := Lib.hid hgood; have HSL := Lib.hid hv
  obtain ⟨A, ca, hvv, _⟩ := hv
  subst hvv
  clear hV hT hlg hgood
  go_enter Try.func28, Try.ntmps28
  go_wp2_with fail
  refine hva.mono ?_
  rintro e w1 ⟨rfl, hb⟩
  have HB := Lib.hid hb
  have hbs := hb.size
  clear hva hb
  go_wp2
  go_loopw [7, 8] (fun v i wr => ∃ (k f : Nat) (acc : List Nat), i = .int .i64 k ∧ k ≤ t.size ∧ t.size ≤ k + f ∧ acc.length ≤ k ∧ acc ++ (divF L t f k).1 = (divL L t).1 ∧ (divF L t f k).2 = (divL L t).2 ∧ wr.ownsRow w.heap.size 3 1 v acc.length (acc.map vNat) ∧ Below w.heap.size w wr) (fun _ i _ => t.size - (intOf i).toNat)
  case atStart => exact ⟨0, t.size, [], rfl, by omega, by omega, by simp, rfl, rfl, World.ownsRow_nil _ _ _ _, HB.out⟩
  case round =>
    obtain ⟨k, f, acc, rfl, hk, hkf, hal, hacc, hstop, hown, hb⟩ := hrel
    have HA := Lib.hid hacc; have HS := Lib.hid hstop
    have hbz := hb.size
    clear hacc hstop
    by_cases hlt : k < t.size
    · obtain ⟨f, rfl⟩ : ∃ f', f = f' + 1 := ⟨f - 1, by omega⟩
      have n1 : (k : Int) < (t.size : Int) := by omega
      have hcs := bst_cases HG.out (t.extract k t.size)
      have hcall := HLG.out _ hb k hk
      obtain ⟨s, n, hsn⟩ : ∃ s n, bst L (t.extract k t.size) = (s, n) := ⟨_, _, rfl⟩
      rw [hsn] at hcall hcs
      have HSN := Lib.hid hsn
      clear hsn
      by_cases hs0 : s = 0
      · subst hs0
        have hst := HS.out
        rw [divF_stop hlt (by rw [HSN.out])] at hst
        have hV := HV.out
        rw [← hst, if_pos hlt] at hV
        have HV2 := Lib.hid hV
        have HB4 := Lib.hid hb
        clear hst HV hV HA HS hcs hb hown
        go_wp2_with fail
        refine hcall.mono ?_
        rintro e w2 ⟨rfl, rfl⟩
        go_wp2
        go_ret3
        exact ⟨.slice none 0 0, by rw [HV2.out]; rfl, by rw [HV2.out]; exact IntSl.nil _, HB4.out⟩
      · have hst := HS.out
        have hac := HA.out
        rw [divF_step hlt HSN.out hs0] at hst hac
        have HST := Lib.hid hst; have HAC := Lib.hid hac
        rcases hcs with h | ⟨x, h1, h2, h3, h4, h5, h6⟩
        · simp only [Prod.mk.injEq] at h; exact absurd h.1 hs0
        simp only at h1 h2 h3 h4
        have hn2 : k + n ≤ t.size := by
          have := h5.size
          rw [ByteArray.size_extract] at this
          omega
        obtain ⟨ad, y, hA, hadb, hy, hcy0⟩ := (by
          obtain ⟨A', c', e', hr'⟩ := HSL.out
          cases e'
          exact row_str hr' (show s - 1 < L.length by omega) : ∃ ad y, A = some ad ∧ ad.block < w.heap.size ∧ L[s - 1]? = some y ∧ w.cell? (ad.add (s - 1)) = some (.string y))
        subst hA
        rw [h3] at hy
        cases hy
        obtain ⟨q, hq⟩ : ∃ q, s = q + 1 := ⟨s - 1, by omega⟩
        have hq1 : s - 1 = q := by omega
        rw [hq1] at hcy0
        have n3 : IntKind.i64.wrap ((s : Int) - 1) = (q : Int) := by rw [IntKind.wrap_i64]; omega
        have n4 : (q : Int) < (L.length : Int) := by omega
        have g1 : ((s : Int) == 0) = false := by simp; exact hs0
        have n2 : IntKind.i64.wrap ((k : Int) + (x.size : Int)) = ((k + n : Nat) : Int) := by rw [IntKind.wrap_i64]; omega
        have HB4 := Lib.hid hb
        clear hst hac HA HS h3 h5 hb hq hq1
        go_wp2_with fail
        refine hcall.mono ?_
        rintro e w2 ⟨rfl, rfl⟩
        clear hcall
        go_wp2_with (at_builtin; refine wpList_append_own_at _ rfl _ _ 28 rfl w.heap.size 3 i0 (.int .i64 0) 1 8 Try.underlying28 hi hz0 hz1 hz2 rfl (by decide) _ _ _ rfl (hown.alloc _) ⟨wr.heap.size, 0, none⟩ 1 1 [.int .i64 (s : Int)] rfl rfl ?c1 ?c2 ?c3 ?c4 ?c5 ?_)
        case c1 => exact cell_one_new _ _ _
        case c2 => intro u hu; simp at hu; subst hu; rfl
        case c3 => unfold maxLen; omega
        case c4 => omega
        case c5 => simp; omega
        intro v' w3 hown' hgrow _ _
        have hb3 := (HB4.out.alloc hbz _).grown hgrow (by simp; omega) (fun g e => by have := (hown.lt g e).1; omega)
        have hcy : w3.cell? (ad.add q) = some (.string x) := (hb3.cell (by rw [block_of_add]; exact hadb)).trans hcy0
        have HB5 := Lib.hid hb3
        clear hown hgrow hb3 hcy0
        go_wp2
        go_roundw
        case rel => exact ⟨k + n, f, acc ++ [s], by go_num, by omega, by omega, by simp; omega, by rw [← HAC.out]; simp, HST.out, by rw [List.length_append, List.map_append]; exact hown', HB5.out⟩
        case measure => simp [intOf]; omega
    · have hst := HS.out
      have hac := HA.out
      rw [divF_end hlt] at hst hac
      have hk2 : k = t.size := by omega
      have n1 : ¬ (k : Int) < (t.size : Int) := by omega
      have hV := HV.out
      rw [← hst, if_neg hlt] at hV
      rw [List.append_nil] at hac
      rw [← hac] at hV
      obtain ⟨B, cb, hB⟩ := own_form hown
      subst hB
      have HOWN := Lib.hid hown; have HB4 := Lib.hid hb
      clear hst hac HV HA HS hown hb
      by_cases h2 : 200 < acc.length
      · rw [if_pos h2] at hV
        have HV2 := Lib.hid hV
        have f5 : decide ((200 : Int) < (acc.length : Int)) = true := by simp; omega
        clear hV
        go_wp2
        go_ret3
        exact ⟨.slice none 0 0, by rw [HV2.out]; rfl, by rw [HV2.out]; exact IntSl.nil _, HB4.out⟩
      · rw [if_neg h2] at hV
        have HV2 := Lib.hid hV
        have f5 : decide ((200 : Int) < (acc.length : Int)) = false := by simp; omega
        clear hV
        go_wp2
        go_ret3
        exact ⟨.slice B acc.length cb, by rw [HV2.out]; rfl, by rw [HV2.out]; exact IntSl.of_own (l := ofNats acc) (by rw [nats_vals]; simpa [ofNats] using HOWN.out), HB4.out⟩
end Go.Proofs.Ytegbgkljpdlpnaa
