/- The walk of LettersQuotes. -/
import Derived.Test.YtpchdggppkenkaaDoorWs
import Derived.Test.YtpchdggppkenkaaDoorWy
set_option linter.unusedVariables false
set_option linter.unusedSimpArgs false
namespace Go.Proofs.YtpchdggppkenkaaDoor
open Go.RowKit

theorem qFrom_len (s : ByteArray) : ∀ f i, (qFrom s f i).length ≤ 5 * f
  | 0, i => by simp [qFrom]
  | f + 1, i => by
    unfold qFrom
    split
    · have := qFrom_len s f (i + pw s i)
      have := qUnit_le s i
      simp; omega
    · simp
theorem quoteL_len (s : ByteArray) : (quoteL s).length ≤ 5 * s.size + 2 := by
  unfold quoteL
  split
  · simp
  · have := qFrom_len s s.size 0; omega

set_option maxHeartbeats 2000000 in
theorem quotes_walk (s : ByteArray) (w : World) (_hm : s.size ≤ maxLen) (hT : Tabs w) :
    Calls Tryd.prog 8 #[.string s] w fun e w' => e = .returned (.bool true) ∧ Below w.heap.size w w' := by
  by_cases hbig : 2000 < s.size
  · have hk := awake_any w hT
    have f1 : decide ((2000 : Int) < (s.size : Int)) = true := by simp; omega
    clear hT hbig
    go_enter Tryd.func8, Tryd.ntmps8
    go_wp2_with fail
    refine hk.mono ?_
    rintro e w1 ⟨rfl, hb⟩
    go_wp2
    go_ret
    exact ⟨rfl, hb⟩
  have f1 : decide ((2000 : Int) < (s.size : Int)) = false := by simp; omega
  have HT := Lib.hid hT
  have hl := quoteL_len s
  have h1 := quote_any s w (by omega) hT
  have h2 := fun w hT => unquote_any ⟨(quoteL s).toArray⟩ w (by rw [len_q]; omega) hT
  have h3 := fun w => rquote_any s w (by omega)
  unfold QuotePost at h1 h3
  unfold UnqPost at h2
  rw [unq_quote] at h2
  have H2 := Lib.hid h2; have H3 := Lib.hid h3
  clear hT h2 h3 hl
  generalize quoteL s = q at *
  have g1 : (q == q) = true := by simp
  have g2 : (s.data.toList == s.toList) = true := by rw [Lib.toList_data]; simp
  go_enter Tryd.func8, Tryd.ntmps8
  go_wp2_with fail
  refine h1.mono ?_
  rintro e w1 ⟨rfl, hb1⟩
  clear h1
  go_wp2_with fail
  refine (H2.out _ (HT.out.below hb1)).mono ?_
  rintro e w2 ⟨rfl, hb2⟩
  unfold unqV
  have hb2' : Below w.heap.size w w2 := hb1.trans (hb2.mono hb1.size)
  clear hb1 hb2
  go_wp2_with fail
  refine (H3.out _).mono ?_
  rintro e w3 ⟨rfl, hb3⟩
  have hb3' : Below w.heap.size w w3 := hb2'.trans (hb3.mono hb2'.size)
  clear hb2' hb3
  have hk := awake_any _ (HT.out.below hb3')
  go_wp2_with fail
  refine hk.mono ?_
  rintro e w8 ⟨rfl, hb8⟩
  have hb8' : Below w.heap.size w w8 := hb3'.trans (hb8.mono hb3'.size)
  clear hk hb3' hb8
  go_wp2
  go_ret
  exact ⟨rfl, hb8'⟩
end Go.Proofs.YtpchdggppkenkaaDoor
