/- The walk of LettersJoins, over strings that are not too long for any machine. -/
import Derived.Test.YtpockcolelfecaaDoorWs
import Derived.Test.YtpockcolelfecaaDoorWy
import Derived.Test.YtpockcolelfecaaDoorVd
set_option linter.unusedVariables false
set_option linter.unusedSimpArgs false
namespace Go.Proofs.YtpockcolelfecaaDoor
open Go.RowKit

set_option maxHeartbeats 2000000 in
theorem joins_walk (L : List ByteArray) (A : Option Addr) (ca : Nat) (w : World) (hr : Reads w w.heap.size 1 A L.length (L.map Value.string)) (hlen : L.length ≤ maxLen) (hz : ∀ x ∈ L, x.size ≤ 9223372036854775800) (hT : Tabs w) :
    Calls Tryd.prog 5 #[.slice A L.length ca] w fun e w' => e = .returned (.bool true) ∧ Below w.heap.size w w' := by
  by_cases hbig : 300 < L.length
  · have hk := awake_any w hT
    have f1 : decide ((300 : Int) < (L.length : Int)) = true := by simp; omega
    clear hT hbig hr hz
    go_enter Tryd.func5, Tryd.ntmps5
    go_wp2_with fail
    refine hk.mono ?_
    rintro e w1 ⟨rfl, hb⟩
    go_wp2
    go_ret
    exact ⟨rfl, hb⟩
  have f1 : decide ((300 : Int) < (L.length : Int)) = false := by simp; omega
  have HT := Lib.hid hT
  have h1 := join_any L A ca w (by omega) hr hz hT
  have hr2 := fun w' (hb : Below w.heap.size w w') => (hr.below hb).more hb.size
  have h2 := fun w' hb => rjoin_any L A ca w' (by omega) (hr2 w' hb) hz
  have H2 := Lib.hid h2; have HR2 := Lib.hid hr2
  have hll : L.length ≤ 300 := by omega
  clear hT h2 hr2
  cases hJ : joinB L
  · have hV : joinV L = .tuple #[.string ⟨#[]⟩, .int .i64 1] := by unfold joinV; rw [hJ]; rfl
    rw [hV] at h1
    have HV := Lib.hid hV
    clear hV hJ hr hz
    go_enter Tryd.func5, Tryd.ntmps5
    go_wp2_with fail
    refine h1.mono ?_
    rintro e w1 ⟨rfl, hb1⟩
    clear h1
    have h2 := H2.out w1 hb1
    rw [HV.out] at h2
    go_wp2_with fail
    refine h2.mono ?_
    rintro e w2 ⟨rfl, hb2⟩
    have hb2' : Below w.heap.size w w2 := hb1.trans (hb2.mono hb1.size)
    clear h2 hb1 hb2
    have hk := awake_any _ (HT.out.below hb2')
    go_wp2_with fail
    refine hk.mono ?_
    rintro e w8 ⟨rfl, hb8⟩
    have hb8' : Below w.heap.size w w8 := hb2'.trans (hb8.mono hb2'.size)
    clear hk hb2' hb8
    go_wp2
    go_ret
    exact ⟨rfl, hb8'⟩
  · have hV : joinV L = .tuple #[.string ⟨(flat L).toArray⟩, .int .i64 0] := by unfold joinV; rw [hJ]; rfl
    rw [hV] at h1
    have hfl : (flat L).length ≤ 4 * L.length := by
      have hj := hJ
      unfold joinB at hj
      rw [List.all_eq_true] at hj
      exact flat_len L hj
    have h3 := fun w => split_any ⟨(flat L).toArray⟩ w (by rw [len_q]; omega)
    unfold SplitPost at h3
    simp only [split_join L hJ hll] at h3
    have HV := Lib.hid hV; have H3 := Lib.hid h3
    clear hV hJ hr hz h3 hfl
    generalize flat L = q at *
    go_enter Tryd.func5, Tryd.ntmps5
    go_wp2_with fail
    refine h1.mono ?_
    rintro e w1 ⟨rfl, hb1⟩
    clear h1
    have h2 := H2.out w1 hb1
    rw [HV.out] at h2
    go_wp2_with fail
    refine h2.mono ?_
    rintro e w2 ⟨rfl, hb2⟩
    have hb2' : Below w.heap.size w w2 := hb1.trans (hb2.mono hb1.size)
    clear h2 hb1 hb2
    go_wp2_with fail
    refine (H3.out _).mono ?_
    rintro e w3 ⟨v3, rfl, hv3, hb3⟩
    have hb3' : Below w.heap.size w w3 := hb2'.trans (hb3.mono hb2'.size)
    clear hb2' hb3
    have hvA : StrSl w3 (.slice A L.length ca) L := ⟨A, ca, rfl, HR2.out _ hb3'⟩
    go_wp2_with fail
    refine (sameList_any _ _ _ _ _ hvA hv3 (by omega)).mono ?_
    unfold SamePost
    rintro e w5 ⟨rfl, n5, rfl⟩
    have hb5 := below_drewN hb3' n5
    clear hvA hv3 hb3'
    generalize World.drewN _ n5 = w5 at *
    rw [show decide (L = L) = true by simp]
    have hk := awake_any _ (HT.out.below hb5)
    go_wp2_with fail
    refine hk.mono ?_
    rintro e w8 ⟨rfl, hb8⟩
    have hb8' : Below w.heap.size w w8 := hb5.trans (hb8.mono hb5.size)
    clear hk hb5 hb8
    go_wp2
    go_ret
    exact ⟨rfl, hb8'⟩
end Go.Proofs.YtpockcolelfecaaDoor
