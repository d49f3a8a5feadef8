/- The walk of LettersExamples. -/
import Derived.Test.YtpchdggppkenkaaDoorWs
import Derived.Test.YtpchdggppkenkaaDoorWl
import Derived.Test.YtpchdggppkenkaaDoorPm
set_option linter.unusedVariables false
set_option linter.unusedSimpArgs false
namespace Go.Proofs.YtpchdggppkenkaaDoor
open Go.RowKit

theorem ex_k0 : clsS ⟨#[195, 169]⟩ = 1 := by kernel_rfl
theorem ex_k1 : clsS ⟨#[195, 183]⟩ = 6 := by kernel_rfl
theorem ex_k2 : clsS ⟨#[53]⟩ = 3 := by kernel_rfl
theorem ex_k3 : clsS ⟨#[32]⟩ = 4 := by kernel_rfl
theorem ex_k4 : clsS ⟨#[37]⟩ = 5 := by kernel_rfl
theorem ex_k5 : clsS ⟨#[226, 130, 172]⟩ = 6 := by kernel_rfl
theorem ex_k6 : clsS ⟨#[97, 98]⟩ = 0 := by kernel_rfl

set_option maxHeartbeats 4000000 in
set_option maxRecDepth 20000 in
theorem examples_walk (w : World) (hT : Tabs w) :
    Calls Tryd.prog 3 #[] w fun e w' => e = .returned (.bool true) ∧ Below w.heap.size w w' := by
  have HT := Lib.hid hT; clear hT
  have hb0 : Below w.heap.size w w := Below.refl _ _
  obtain ⟨w0, hw0⟩ : ∃ w0, w0 = w := ⟨w, rfl⟩
  have hbw : Below w.heap.size w w0 := by rw [hw0]; exact hb0
  go_enter Tryd.func3, Tryd.ntmps3
  rw [← hw0]
  clear hb0
  have HW0 := Lib.hid hw0; clear hw0
  have h := split_any ⟨#[]⟩ w0 (by decide)
  unfold SplitPost at h
  rw [ex_s0] at h
  go_wp2_with fail
  refine h.mono ?_
  rintro e w1 ⟨v0, rfl, hv0, hb⟩
  have hbw' : Below w.heap.size w w1 := hbw.trans (hb.mono hbw.size)
  clear hbw hb h
  have hbw := hbw'; clear hbw'
  obtain ⟨a0, c0, rfl, _⟩ := hv0
  have h := split_any ⟨#[237, 160, 128]⟩ w1 (by decide)
  unfold SplitPost at h
  rw [ex_s1] at h
  go_wp2_with fail
  refine h.mono ?_
  rintro e w2 ⟨v1, rfl, hv1, hb⟩
  have hbw' : Below w.heap.size w w2 := hbw.trans (hb.mono hbw.size)
  clear hbw hb h
  have hbw := hbw'; clear hbw'
  obtain ⟨a1, c1, rfl, _⟩ := hv1
  have h := split_any ⟨#[192, 128]⟩ w2 (by decide)
  unfold SplitPost at h
  rw [ex_s2] at h
  go_wp2_with fail
  refine h.mono ?_
  rintro e w3 ⟨v2, rfl, hv2, hb⟩
  have hbw' : Below w.heap.size w w3 := hbw.trans (hb.mono hbw.size)
  clear hbw hb h
  have hbw := hbw'; clear hbw'
  obtain ⟨a2, c2, rfl, _⟩ := hv2
  have h := split_any ⟨#[97, 226, 130]⟩ w3 (by decide)
  unfold SplitPost at h
  rw [ex_s3] at h
  go_wp2_with fail
  refine h.mono ?_
  rintro e w4 ⟨v3, rfl, hv3, hb⟩
  have hbw' : Below w.heap.size w w4 := hbw.trans (hb.mono hbw.size)
  clear hbw hb h
  have hbw := hbw'; clear hbw'
  obtain ⟨a3, c3, rfl, _⟩ := hv3
  have h := class_any ⟨#[195, 169]⟩ w4 (by decide) (HT.out.below hbw)
  rw [ex_k0] at h
  go_wp2_with fail
  refine h.mono ?_
  rintro e w5 ⟨rfl, hb⟩
  have hbw' : Below w.heap.size w w5 := hbw.trans (hb.mono hbw.size)
  clear hbw hb h
  have hbw := hbw'; clear hbw'
  have h := class_any ⟨#[195, 183]⟩ w5 (by decide) (HT.out.below hbw)
  rw [ex_k1] at h
  go_wp2_with fail
  refine h.mono ?_
  rintro e w6 ⟨rfl, hb⟩
  have hbw' : Below w.heap.size w w6 := hbw.trans (hb.mono hbw.size)
  clear hbw hb h
  have hbw := hbw'; clear hbw'
  have h := class_any ⟨#[53]⟩ w6 (by decide) (HT.out.below hbw)
  rw [ex_k2] at h
  go_wp2_with fail
  refine h.mono ?_
  rintro e w7 ⟨rfl, hb⟩
  have hbw' : Below w.heap.size w w7 := hbw.trans (hb.mono hbw.size)
  clear hbw hb h
  have hbw := hbw'; clear hbw'
  have h := class_any ⟨#[32]⟩ w7 (by decide) (HT.out.below hbw)
  rw [ex_k3] at h
  go_wp2_with fail
  refine h.mono ?_
  rintro e w8 ⟨rfl, hb⟩
  have hbw' : Below w.heap.size w w8 := hbw.trans (hb.mono hbw.size)
  clear hbw hb h
  have hbw := hbw'; clear hbw'
  have h := class_any ⟨#[37]⟩ w8 (by decide) (HT.out.below hbw)
  rw [ex_k4] at h
  go_wp2_with fail
  refine h.mono ?_
  rintro e w9 ⟨rfl, hb⟩
  have hbw' : Below w.heap.size w w9 := hbw.trans (hb.mono hbw.size)
  clear hbw hb h
  have hbw := hbw'; clear hbw'
  have h := class_any ⟨#[226, 130, 172]⟩ w9 (by decide) (HT.out.below hbw)
  rw [ex_k5] at h
  go_wp2_with fail
  refine h.mono ?_
  rintro e w10 ⟨rfl, hb⟩
  have hbw' : Below w.heap.size w w10 := hbw.trans (hb.mono hbw.size)
  clear hbw hb h
  have hbw := hbw'; clear hbw'
  have h := class_any ⟨#[97, 98]⟩ w10 (by decide) (HT.out.below hbw)
  rw [ex_k6] at h
  go_wp2_with fail
  refine h.mono ?_
  rintro e w11 ⟨rfl, hb⟩
  have hbw' : Below w.heap.size w w11 := hbw.trans (hb.mono hbw.size)
  clear hbw hb h
  have hbw := hbw'; clear hbw'
  have h := quote_any ⟨#[]⟩ w11 (by decide) (HT.out.below hbw)
  unfold QuotePost at h
  rw [ex_q0] at h
  go_wp2_with fail
  refine h.mono ?_
  rintro e w12 ⟨rfl, hb⟩
  have hbw' : Below w.heap.size w w12 := hbw.trans (hb.mono hbw.size)
  clear hbw hb h
  have hbw := hbw'; clear hbw'
  have h := quote_any ⟨#[97, 32, 98]⟩ w12 (by decide) (HT.out.below hbw)
  unfold QuotePost at h
  rw [ex_q1] at h
  go_wp2_with fail
  refine h.mono ?_
  rintro e w13 ⟨rfl, hb⟩
  have hbw' : Below w.heap.size w w13 := hbw.trans (hb.mono hbw.size)
  clear hbw hb h
  have hbw := hbw'; clear hbw'
  have h := quote_any ⟨#[200]⟩ w13 (by decide) (HT.out.below hbw)
  unfold QuotePost at h
  rw [ex_q2] at h
  go_wp2_with fail
  refine h.mono ?_
  rintro e w14 ⟨rfl, hb⟩
  have hbw' : Below w.heap.size w w14 := hbw.trans (hb.mono hbw.size)
  clear hbw hb h
  have hbw := hbw'; clear hbw'
  go_wp2
  have hcell : ∀ k x, exL[k]? = some x → (w14.alloc (.cells #[.string ⟨#[37, 120, 52, 49]⟩, .string ⟨#[97, 37]⟩, .string ⟨#[120, 37, 48]⟩, .string ⟨#[]⟩, .string ⟨#[37, 97]⟩, .string ⟨#[97, 45]⟩, .string ⟨#[37, 120, 48, 65]⟩, .string ⟨#[37, 120, 99, 51, 37, 120, 97, 57]⟩] 9)).cell? ⟨w14.heap.size, k, none⟩ = some (.string x) := by
    intro k x hx
    rw [World.cell?_alloc_at _ _ _ _ rfl]
    have : (#[.string ⟨#[37, 120, 52, 49]⟩, .string ⟨#[97, 37]⟩, .string ⟨#[120, 37, 48]⟩, .string ⟨#[]⟩, .string ⟨#[37, 97]⟩, .string ⟨#[97, 45]⟩, .string ⟨#[37, 120, 48, 65]⟩, .string ⟨#[37, 120, 99, 51, 37, 120, 97, 57]⟩] : Array Value)[k]? = (exL.map Value.string)[k]? := by rw [← Array.getElem?_toList]; rfl
    show (#[.string ⟨#[37, 120, 52, 49]⟩, .string ⟨#[97, 37]⟩, .string ⟨#[120, 37, 48]⟩, .string ⟨#[]⟩, .string ⟨#[37, 97]⟩, .string ⟨#[97, 45]⟩, .string ⟨#[37, 120, 48, 65]⟩, .string ⟨#[37, 120, 99, 51, 37, 120, 97, 57]⟩] : Array Value)[k]? = _
    rw [this, List.getElem?_map, hx]; rfl
  have hbW : Below w.heap.size w (w14.alloc (.cells #[.string ⟨#[37, 120, 52, 49]⟩, .string ⟨#[97, 37]⟩, .string ⟨#[120, 37, 48]⟩, .string ⟨#[]⟩, .string ⟨#[37, 97]⟩, .string ⟨#[97, 45]⟩, .string ⟨#[37, 120, 48, 65]⟩, .string ⟨#[37, 120, 99, 51, 37, 120, 97, 57]⟩] 9)) := hbw.alloc hbw.size _
  have hgs : w14.heap.size < (w14.alloc (.cells #[.string ⟨#[37, 120, 52, 49]⟩, .string ⟨#[97, 37]⟩, .string ⟨#[120, 37, 48]⟩, .string ⟨#[]⟩, .string ⟨#[37, 97]⟩, .string ⟨#[97, 45]⟩, .string ⟨#[37, 120, 48, 65]⟩, .string ⟨#[37, 120, 99, 51, 37, 120, 97, 57]⟩] 9)).heap.size := by simp
  clear hbw
  generalize w14.alloc (.cells #[.string ⟨#[37, 120, 52, 49]⟩, .string ⟨#[97, 37]⟩, .string ⟨#[120, 37, 48]⟩, .string ⟨#[]⟩, .string ⟨#[37, 97]⟩, .string ⟨#[97, 45]⟩, .string ⟨#[37, 120, 48, 65]⟩, .string ⟨#[37, 120, 99, 51, 37, 120, 97, 57]⟩] 9) = W0 at *
  go_loopw [16, 118] (fun f i wr => ∃ (k : Nat), f = .bool true ∧ i = .int .i64 k ∧ k ≤ 8 ∧ Below W0.heap.size W0 wr) (fun _ i _ => 8 - (intOf i).toNat)
  case atStart => exact ⟨0, rfl, rfl, by omega, Below.refl _ _⟩
  case round =>
    obtain ⟨k, rfl, rfl, hk, hbr⟩ := hrel
    by_cases hlt : k < 8
    · obtain ⟨x, hx⟩ : ∃ x, exL[k]? = some x := ⟨exL[k]'hlt, List.getElem?_eq_getElem hlt⟩
      obtain ⟨hn, hxs⟩ := exL_none k x hx
      have hc : wr.cell? ⟨w14.heap.size, k, none⟩ = some (.string x) := (hbr.cell (p := ⟨w14.heap.size, k, none⟩) hgs).trans (hcell k x hx)
      have hbwr : Below w.heap.size w wr := hbW.trans (hbr.mono hbW.size)
      have hu := unquote_any x wr (by omega) (HT.out.below hbwr)
      unfold UnqPost at hu
      rw [hn] at hu
      have HX := Lib.hid hx
      clear hx hn hbwr
      go_wp2_with fail
      refine hu.mono ?_
      rintro e W1 ⟨rfl, hb⟩
      unfold unqV
      go_wp2
      go_roundw
      case rel => exact ⟨k + 1, rfl, by go_num, by omega, hbr.trans (hb.mono hbr.size)⟩
      case measure => simp [intOf]; omega
    · have hbw : Below w.heap.size w wr := hbW.trans (hbr.mono hbW.size)
      clear hbr hbW hcell hgs
      obtain ⟨w15, hwq⟩ : ∃ w15, w15 = wr := ⟨wr, rfl⟩
      rw [← hwq] at hbw ⊢
      clear hwq
      have h := unquote_any ⟨#[37, 37]⟩ w15 (by decide) (HT.out.below hbw)
      unfold UnqPost at h
      rw [ex_v0] at h
      go_wp2_with fail
      refine h.mono ?_
      rintro e w16 ⟨rfl, hb⟩
      have hbw' : Below w.heap.size w w16 := hbw.trans (hb.mono hbw.size)
      clear hbw hb h
      have hbw := hbw'; clear hbw'
      unfold unqV
      have h := unquote_any ⟨#[37, 48]⟩ w16 (by decide) (HT.out.below hbw)
      unfold UnqPost at h
      rw [ex_v1] at h
      go_wp2_with fail
      refine h.mono ?_
      rintro e w17 ⟨rfl, hb⟩
      have hbw' : Below w.heap.size w w17 := hbw.trans (hb.mono hbw.size)
      clear hbw hb h
      have hbw := hbw'; clear hbw'
      unfold unqV
      have h := compare_any ⟨#[195, 169]⟩ ⟨#[122]⟩ w17
      rw [ex_c0] at h
      go_wp2_with fail
      refine h.mono ?_
      rintro e w18 ⟨rfl, rfl⟩
      clear h
      have h := compare_any ⟨#[]⟩ ⟨#[]⟩ w17
      rw [ex_c1] at h
      go_wp2_with fail
      refine h.mono ?_
      rintro e w18 ⟨rfl, rfl⟩
      clear h
      have h := awake_any w17 (HT.out.below hbw)
      go_wp2_with fail
      refine h.mono ?_
      rintro e w18 ⟨rfl, hb⟩
      have hbw' := hbw.trans (hb.mono hbw.size)
      clear h hb hbw
      go_wp2
      go_ret
      exact ⟨rfl, by rw [HW0.out]; exact hbw'⟩
end Go.Proofs.YtpchdggppkenkaaDoor
