/- awake. -/
import Derived.Test.YtpockcolelfecaaDoorWr
import Derived.Test.YtpockcolelfecaaDoorWl
import Derived.Test.YtpockcolelfecaaDoorWm
import Derived.Test.YtpockcolelfecaaDoorWk
import Derived.Test.YtpockcolelfecaaDoorPi
set_option linter.unusedVariables false
set_option linter.unusedSimpArgs false
namespace Go.Proofs.YtpockcolelfecaaDoor
open Go.RowKit

theorem aw_4 : clsS ⟨#[195, 137]⟩ = 2 := by kernel_rfl

set_option maxHeartbeats 1000000 in
set_option maxRecDepth 20000 in
theorem awake_any (w : World) (hT : Tabs w) : Calls Tryd.prog 17 #[] w fun e w' => e = .returned (.bool true) ∧ Below w.heap.size w w' := by
  have HT := Lib.hid hT; clear hT
  have h1 := split_any ⟨#[97, 195, 169, 226, 130, 172]⟩ w (by decide)
  unfold SplitPost at h1; rw [aw_1] at h1
  go_enter Tryd.func17, Tryd.ntmps17
  go_wp2_with fail
  refine h1.mono ?_
  rintro e w1 ⟨v1, rfl, hv1, hb1⟩
  clear h1
  have h2 := split_any ⟨#[97, 195, 98]⟩ w1 (by decide)
  unfold SplitPost at h2; rw [aw_2] at h2
  go_wp2_with fail
  refine h2.mono ?_
  rintro e w2 ⟨v2, rfl, _, hb2⟩
  have hv2 := hv1.below hb2
  have hb2' : Below w.heap.size w w2 := hb1.trans (hb2.mono hb1.size)
  clear h2 hv1 hb1 hb2
  have h3 := unquote_any ⟨#[37, 120, 48, 97, 37, 45]⟩ w2 (by decide) (HT.out.below hb2')
  unfold UnqPost at h3; rw [aw_3] at h3
  go_wp2_with fail
  refine h3.mono ?_
  rintro e w3 ⟨rfl, hb3⟩
  have hv3 := hv2.below hb3
  have hb3' : Below w.heap.size w w3 := hb2'.trans (hb3.mono hb2'.size)
  clear h3 hv2 hb2' hb3
  unfold unqV
  go_wp2_with fail
  have hown : (w3.alloc (.cells #[.string ⟨#[97]⟩, .string ⟨#[195, 169]⟩, .string ⟨#[226, 130, 172]⟩] 9)).ownsRow w3.heap.size 9 1 (.slice (some ⟨w3.heap.size, 0, none⟩) 3 3) 3 _ := World.ownsRow_lit w3 #[.string ⟨#[97]⟩, .string ⟨#[195, 169]⟩, .string ⟨#[226, 130, 172]⟩] 3 (Nat.le_refl _) (by decide) rfl
  have hl : StrSl _ _ [⟨#[97]⟩, ⟨#[195, 169]⟩, ⟨#[226, 130, 172]⟩] := StrSl.of_own (l := [⟨#[97]⟩, ⟨#[195, 169]⟩, ⟨#[226, 130, 172]⟩]) hown
  have hb4 : Below w.heap.size w (w3.alloc (.cells #[.string ⟨#[97]⟩, .string ⟨#[195, 169]⟩, .string ⟨#[226, 130, 172]⟩] 9)) := hb3'.alloc hb3'.size _
  have hv4 := hv3.below ((Below.refl _ w3).alloc (Nat.le_refl _) (.cells #[.string ⟨#[97]⟩, .string ⟨#[195, 169]⟩, .string ⟨#[226, 130, 172]⟩] 9))
  refine (sameList_any _ _ _ _ _ hv4 hl (by simp)).mono ?_
  unfold SamePost
  rintro e w5 ⟨rfl, n5, rfl⟩
  have hb5 := below_drewN hb4 n5
  clear hown hl hv4 hb4 hv3 hb3'
  generalize World.drewN _ n5 = w5 at *
  have h4 := class_any ⟨#[195, 137]⟩ w5 (by decide) (HT.out.below hb5)
  rw [aw_4] at h4
  have f1 : decide (([⟨#[97]⟩, ⟨#[195, 169]⟩, ⟨#[226, 130, 172]⟩] : List ByteArray) = [⟨#[97]⟩, ⟨#[195, 169]⟩, ⟨#[226, 130, 172]⟩]) = true := by simp
  rw [f1]
  clear f1
  go_wp2_with fail
  refine h4.mono ?_
  rintro e w6 ⟨rfl, hb6⟩
  have hb6' : Below w.heap.size w w6 := hb5.trans (hb6.mono hb5.size)
  clear h4 hb5 hb6
  have h5 := lower_any ⟨#[195, 128, 66, 195, 151]⟩ w6 (by decide) (HT.out.below hb6')
  rw [aw_5] at h5
  go_wp2_with fail
  refine h5.mono ?_
  rintro e w7 ⟨rfl, hb7⟩
  have hb7' : Below w.heap.size w w7 := hb6'.trans (hb7.mono hb6'.size)
  clear h5 hb6' hb7
  have h6 := upper_any ⟨#[195, 159, 195, 191, 195, 169]⟩ w7 (by decide) (HT.out.below hb7')
  rw [aw_6] at h6
  go_wp2_with fail
  refine h6.mono ?_
  rintro e w8 ⟨rfl, hb8⟩
  have hb8' : Below w.heap.size w w8 := hb7'.trans (hb8.mono hb7'.size)
  clear h6 hb7' hb8
  have h7 := quote_any ⟨#[97, 45, 98, 10, 53, 37]⟩ w8 (by decide) (HT.out.below hb8')
  unfold QuotePost at h7; rw [aw_7] at h7
  go_wp2_with fail
  refine h7.mono ?_
  rintro e w9 ⟨rfl, hb9⟩
  have hb9' : Below w.heap.size w w9 := hb8'.trans (hb9.mono hb8'.size)
  clear h7 hb8' hb9
  have h8 := compare_any ⟨#[97]⟩ ⟨#[97, 98]⟩ w9
  rw [aw_8] at h8
  go_wp2_with fail
  refine h8.mono ?_
  rintro e w10 ⟨rfl, rfl⟩
  clear h8
  go_wp2_with fail
  go_ret
  exact ⟨rfl, hb9'⟩
end Go.Proofs.YtpockcolelfecaaDoor
