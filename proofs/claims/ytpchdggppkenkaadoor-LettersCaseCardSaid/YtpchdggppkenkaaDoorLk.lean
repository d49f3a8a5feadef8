/- The walk of LettersCase. -/
import Derived.Test.YtpchdggppkenkaaDoorLn
import Derived.Test.YtpchdggppkenkaaDoorPv
import Derived.BigQuiet
set_option linter.unusedVariables false
set_option linter.unusedSimpArgs false
namespace Go.Proofs.YtpchdggppkenkaaDoor
open Go.RowKit

theorem split_none (s : ByteArray) (h : s.size ≤ 16384) (hb : badFrom s s.size 0 = none) : splitL s = (piecesFrom s s.size 0, 0, 0) := by
  unfold splitL bad
  rw [if_neg (by omega), hb]; rfl
theorem split_some (s : ByteArray) (h : s.size ≤ 16384) (p : Nat) (hb : badFrom s s.size 0 = some p) : splitL s = ([], p, 3) := by
  unfold splitL bad
  rw [if_neg (by omega), hb]; rfl

set_option maxHeartbeats 4000000 in
set_option maxRecDepth 20000 in
theorem case_bad (s : ByteArray) (w : World) (hs : s.size ≤ 2000) (p : Nat) (hbad : badFrom s s.size 0 = some p) (hT : Tabs w) :
    Calls Tryd.prog 7 #[.string s] w fun e w' => e = .returned (.bool true) ∧ Below w.heap.size w w' := by
  have f1 : decide ((2000 : Int) < (s.size : Int)) = false := by simp; omega
  have HT := Lib.hid hT
  obtain ⟨A, hA⟩ : ∃ A, chT lowR s = A := ⟨_, rfl⟩
  obtain ⟨B, hB⟩ : ∃ B, chT upR s = B := ⟨_, rfl⟩
  have hAz : A.size = s.size := by rw [← hA]; exact chT_size _ low_tr s
  have hBz : B.size = s.size := by rw [← hB]; exact chT_size _ up_tr s
  have h1 : ∀ w, Tabs w → Calls Tryd.prog 26 #[.string s] w fun e w' => e = .returned (.string A) ∧ Below w.heap.size w w' := by
    intro w hT; rw [← hA]; exact lower_any s w (by omega) hT
  have h2 : ∀ w, Tabs w → Calls Tryd.prog 28 #[.string s] w fun e w' => e = .returned (.string B) ∧ Below w.heap.size w w' := by
    intro w hT; rw [← hB]; exact upper_any s w (by omega) hT
  have h3 : ∀ w, Tabs w → Calls Tryd.prog 26 #[.string B] w fun e w' => e = .returned (.string A) ∧ Below w.heap.size w w' := by
    intro w hT
    have e : A = ⟨(chS lowR B).toArray⟩ := by rw [← hA, ← hB, twice upR lowR lowR up_tr low_up s]; rfl
    rw [e]; exact lower_any B w (by omega) hT
  have h4 : ∀ w, Tabs w → Calls Tryd.prog 28 #[.string A] w fun e w' => e = .returned (.string B) ∧ Below w.heap.size w w' := by
    intro w hT
    have e : B = ⟨(chS upR A).toArray⟩ := by rw [← hA, ← hB, twice lowR upR upR low_tr up_low s]; rfl
    rw [e]; exact upper_any A w (by omega) hT
  have hsS := split_some s (by omega) p hbad
  have hsA := split_some A (by omega) p (by rw [hAz, ← hA, bad_ch _ low_tr]; exact hbad)
  have hsB := split_some B (by omega) p (by rw [hBz, ← hB, bad_ch _ up_tr]; exact hbad)
  have h5 := fun w => split_any s w (by omega)
  have h6 := fun w => split_any A w (by omega)
  have h7 := fun w => split_any B w (by omega)
  unfold SplitPost at h5 h6 h7
  simp only [hsS] at h5
  simp only [hsA] at h6
  simp only [hsB] at h7
  have H1 := Lib.hid h1; have H2 := Lib.hid h2; have H3 := Lib.hid h3; have H4 := Lib.hid h4; have H5 := Lib.hid h5; have H6 := Lib.hid h6; have H7 := Lib.hid h7
  have g3 : ((A.size : Int) != (s.size : Int)) = false := by rw [hAz]; simp
  have g4 : ((B.size : Int) != (s.size : Int)) = false := by rw [hBz]; simp
  clear hT h1 h2 h3 h4 h5 h6 h7 hsS hsA hsB hA hB hAz hBz hbad
  go_enter Tryd.func7, Tryd.ntmps7
  go_wp2_with fail
  refine (H1.out _ HT.out).mono ?_
  rintro e w1 ⟨rfl, hb1⟩
  go_wp2_with fail
  refine (H2.out _ (HT.out.below hb1)).mono ?_
  rintro e w2 ⟨rfl, hb⟩
  have hb2 := hb1.trans (hb.mono hb1.size); clear hb hb1
  go_wp2_with fail
  refine (H3.out _ (HT.out.below hb2)).mono ?_
  rintro e w3 ⟨rfl, hb⟩
  have hb3 := hb2.trans (hb.mono hb2.size); clear hb hb2
  go_wp2_with fail
  refine (H4.out _ (HT.out.below hb3)).mono ?_
  rintro e w4 ⟨rfl, hb⟩
  have hb4 := hb3.trans (hb.mono hb3.size); clear hb hb3
  go_wp2_with fail
  refine (H5.out _).mono ?_
  rintro e w5 ⟨v5, rfl, hv5, hb⟩
  have hb5 := hb4.trans (hb.mono hb4.size); clear hb hb4
  obtain ⟨A5, c5, rfl, _⟩ := hv5
  go_wp2_with fail
  refine (H6.out _).mono ?_
  rintro e w6 ⟨v6, rfl, hv6, hb⟩
  have hb6 := hb5.trans (hb.mono hb5.size); clear hb hb5
  obtain ⟨A6, c6, rfl, _⟩ := hv6
  go_wp2_with fail
  refine (H7.out _).mono ?_
  rintro e w7 ⟨v7, rfl, hv7, hb⟩
  have hb7 := hb6.trans (hb.mono hb6.size); clear hb hb6
  obtain ⟨A7, c7, rfl, _⟩ := hv7
  go_wp2
  go_loopw [14] (fun i wr => i = .int .i64 0 ∧ wr = w7) (fun i _ => 0)
  case atStart => exact ⟨rfl, rfl⟩
  case round =>
    obtain ⟨rfl, rfl⟩ := hrel
    have hk := awake_any _ (HT.out.below hb7)
    go_wp2_with fail
    refine hk.mono ?_
    rintro e w8 ⟨rfl, hb8⟩
    have hb8' := hb7.trans (hb8.mono hb7.size)
    clear hk hb7 hb8
    go_wp2
    go_ret
    exact ⟨rfl, hb8'⟩
end Go.Proofs.YtpchdggppkenkaaDoor
