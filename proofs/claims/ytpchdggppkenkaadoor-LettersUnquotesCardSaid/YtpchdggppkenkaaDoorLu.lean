/- The walk of LettersUnquotes. -/
import Derived.Test.YtpchdggppkenkaaDoorWs
import Derived.Test.YtpchdggppkenkaaDoorVa
set_option linter.unusedVariables false
set_option linter.unusedSimpArgs false
namespace Go.Proofs.YtpchdggppkenkaaDoor
open Go.RowKit

set_option maxHeartbeats 2000000 in
theorem unquotes_walk (s : ByteArray) (w : World) (_hm : s.size ≤ maxLen) (hT : Tabs w) :
    Calls Tryd.prog 9 #[.string s] w fun e w' => e = .returned (.bool true) ∧ Below w.heap.size w w' := by
  by_cases hbig : 2000 < s.size
  · have hk := awake_any w hT
    have f1 : decide ((2000 : Int) < (s.size : Int)) = true := by simp; omega
    clear hT hbig
    go_enter Tryd.func9, Tryd.ntmps9
    go_wp2_with fail
    refine hk.mono ?_
    rintro e w1 ⟨rfl, hb⟩
    go_wp2
    go_ret
    exact ⟨rfl, hb⟩
  have f1 : decide ((2000 : Int) < (s.size : Int)) = false := by simp; omega
  have HT := Lib.hid hT
  have h1 := unquote_any s w (by omega) hT
  have h2 := fun w => runq_any s w (by omega)
  unfold UnqPost at h1 h2
  have HB := Lib.hid (unq_back s); have HLN := Lib.hid (unq_len s)
  cases hU : unqL s with
  | none =>
    rw [hU] at h1 h2
    unfold unqV at h1 h2
    have H2 := Lib.hid h2
    clear hT h2 hU
    go_enter Tryd.func9, Tryd.ntmps9
    go_wp2_with fail
    refine h1.mono ?_
    rintro e w1 ⟨rfl, hb1⟩
    clear h1
    go_wp2_with fail
    refine (H2.out _).mono ?_
    rintro e w2 ⟨rfl, hb2⟩
    have hb2' : Below w.heap.size w w2 := hb1.trans (hb2.mono hb1.size)
    clear hb1 hb2
    have hk := awake_any _ (HT.out.below hb2')
    go_wp2_with fail
    refine hk.mono ?_
    rintro e w8 ⟨rfl, hb8⟩
    have hb8' : Below w.heap.size w w8 := hb2'.trans (hb8.mono hb2'.size)
    clear hk hb2' hb8
    go_wp2
    go_ret
    exact ⟨rfl, hb8'⟩
  | some l =>
    rw [hU] at h1 h2
    unfold unqV at h1 h2
    have hl := HLN.out l hU
    have hq := HB.out l hU
    have h3 := fun w hT => quote_any ⟨l.toArray⟩ w (by rw [len_q]; omega) hT
    unfold QuotePost at h3
    rw [hq] at h3
    have H2 := Lib.hid h2; have H3 := Lib.hid h3
    clear hT h2 h3 hU hq
    have g1 : (l == l) = true := by simp
    have g2 : (s.data.toList == s.toList) = true := by rw [Lib.toList_data]; simp
    go_enter Tryd.func9, Tryd.ntmps9
    go_wp2_with fail
    refine h1.mono ?_
    rintro e w1 ⟨rfl, hb1⟩
    clear h1
    go_wp2_with fail
    refine (H2.out _).mono ?_
    rintro e w2 ⟨rfl, hb2⟩
    have hb2' : Below w.heap.size w w2 := hb1.trans (hb2.mono hb1.size)
    clear hb1 hb2
    go_wp2_with fail
    refine (H3.out _ (HT.out.below hb2')).mono ?_
    rintro e w3 ⟨rfl, hb3⟩
    have hb3' : Below w.heap.size w w3 := hb2'.trans (hb3.mono hb2'.size)
    clear hb2' hb3
    have hk := awake_any _ (HT.out.below hb3')
    go_wp2_with fail
    refine hk.mono ?_
    rintro e w8 ⟨rfl, hb8⟩
    have hb8' : Below w.heap.size w w8 := hb3'.trans (hb8.mono hb3'.size)
    clear hk hb3' hb8
    go_wp2
    go_ret
    exact ⟨rfl, hb8'⟩
end Go.Proofs.YtpchdggppkenkaaDoor
