/- The walk of LettersSplits. -/
import Derived.Test.YtpchdggppkenkaaDoorWs
import Derived.Test.YtpchdggppkenkaaDoorWu
import Derived.Test.YtpchdggppkenkaaDoorPl
set_option linter.unusedVariables false
set_option linter.unusedSimpArgs false
namespace Go.Proofs.YtpchdggppkenkaaDoor
open Go.RowKit

set_option maxHeartbeats 2000000 in
theorem splits_walk (s : ByteArray) (w : World) (_hm : s.size ≤ maxLen) (hT : Tabs w) :
    Calls Tryd.prog 4 #[.string s] w fun e w' => e = .returned (.bool true) ∧ Below w.heap.size w w' := by
  by_cases hbig : 20000 < s.size
  · have hk := awake_any w hT
    have f1 : decide ((20000 : Int) < (s.size : Int)) = true := by simp; omega
    clear hT hbig
    go_enter Tryd.func4, Tryd.ntmps4
    go_wp2_with fail
    refine hk.mono ?_
    rintro e w1 ⟨rfl, hb⟩
    go_wp2
    go_ret
    exact ⟨rfl, hb⟩
  have f1 : decide ((20000 : Int) < (s.size : Int)) = false := by simp; omega
  have HT := Lib.hid hT
  have h1 := split_any s w (by omega)
  have h2 := fun w => rsplit_any s w (by omega)
  have h3 := fun w hT => valid_any s w (by omega) hT
  have h4 := fun w => rvalid_any s w (by omega)
  unfold SplitPost at h1 h2
  rw [vrS_eq] at h4
  simp only [validS_eq] at h3
  have H2 := Lib.hid h2; have H3 := Lib.hid h3; have H4 := Lib.hid h4
  clear hT h2 h3 h4
  have hL := splitL_len s
  generalize (splitL s).1 = L at *
  generalize ((splitL s).2.1 : Int) = at1 at *
  generalize ((splitL s).2.2 : Int) = er at *
  generalize vrD s = V at *
  go_enter Tryd.func4, Tryd.ntmps4
  go_wp2_with fail
  refine h1.mono ?_
  rintro e w1 ⟨v1, rfl, hv1, hb1⟩
  clear h1
  go_wp2_with fail
  refine (H2.out _).mono ?_
  rintro e w2 ⟨v2, rfl, hv2, hb2⟩
  have hv1' := hv1.below hb2
  have hb2' : Below w.heap.size w w2 := hb1.trans (hb2.mono hb1.size)
  clear hv1 hb1 hb2
  go_wp2_with fail
  refine (sameList_any _ _ _ _ _ hv1' hv2 (by omega)).mono ?_
  unfold SamePost
  rintro e w5 ⟨rfl, n5, rfl⟩
  have hb5 := below_drewN hb2' n5
  clear hv1' hv2 hb2'
  generalize World.drewN _ n5 = w5 at *
  rw [show decide (L = L) = true by simp]
  have h3 := H3.out w5 (HT.out.below hb5)
  go_wp2_with fail
  refine h3.mono ?_
  rintro e w6 ⟨rfl, hb6⟩
  have hb6' : Below w.heap.size w w6 := hb5.trans (hb6.mono hb5.size)
  clear h3 hb5 hb6
  go_wp2_with fail
  refine (H4.out _).mono ?_
  rintro e w7 ⟨rfl, rfl⟩
  have hk := awake_any _ (HT.out.below hb6')
  have hV : (V == V) = true := by simp
  go_wp2_with fail
  refine hk.mono ?_
  rintro e w8 ⟨rfl, hb8⟩
  have hb8' : Below w.heap.size w w8 := hb6'.trans (hb8.mono hb6'.size)
  clear hk hb6' hb8
  go_wp2
  go_ret
  exact ⟨rfl, hb8'⟩
end Go.Proofs.YtpchdggppkenkaaDoor
