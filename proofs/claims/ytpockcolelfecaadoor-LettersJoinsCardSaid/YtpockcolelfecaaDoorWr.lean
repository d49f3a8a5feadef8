/- Unquote. -/
import Derived.Test.YtpockcolelfecaaDoorWq
import Derived.Test.YtpockcolelfecaaDoorPh
set_option linter.unusedVariables false
set_option linter.unusedSimpArgs false
namespace Go.Proofs.YtpockcolelfecaaDoor
open Go.RowKit

def unqV (x : Option (List UInt8)) : Value := match x with
  | none => .tuple #[.string ⟨#[]⟩, .int .i64 3]
  | some l => .tuple #[.string ⟨l.toArray⟩, .int .i64 0]
def UnqPost (s : ByteArray) (w : World) (e : Ending) (w' : World) : Prop := e = .returned (unqV (unqL s)) ∧ Below w.heap.size w w'

set_option maxHeartbeats 1000000 in
theorem unquote_any (s : ByteArray) (w : World) (hs : s.size ≤ 17592186044416) (hT : Tabs w) :
    Calls Tryd.prog 15 #[.string s] w (UnqPost s w) := by
  by_cases h0 : s.data.toList = [37, 48]
  · have f0 : (s.toList == [37, 48]) = true := by rw [Lib.toList_data]; simpa using h0
    have HU := Lib.hid (unqL_zero s h0)
    clear h0 hT
    go_enter Tryd.func15, Tryd.ntmps15
    go_wp2
    go_ret2
    exact ⟨by rw [HU.out]; rfl, Below.refl _ _⟩
  have f0 : (s.toList == [37, 48]) = false := by rw [Lib.toList_data]; simpa using h0
  have hx := expand_any s w hs
  unfold ExpandPost at hx
  have HT := Lib.hid hT
  have HNO := Lib.hid (unqL_none s h0); have HSO := Lib.hid (unqL_some s · h0); have HOT := Lib.hid (unqL_other s · h0)
  have HLEN := Lib.hid (expandL_len s)
  clear h0 hT
  cases hX : expandL s with
  | none =>
    rw [hX] at hx
    have HX := Lib.hid hX; clear hX
    go_enter Tryd.func15, Tryd.ntmps15
    go_wp2_with fail
    refine hx.mono ?_
    rintro e w1 ⟨rfl, hb⟩
    unfold expandV
    go_wp2
    go_ret2
    exact ⟨by rw [HNO.out HX.out]; rfl, hb⟩
  | some l =>
    rw [hX] at hx
    have hl := HLEN.out l hX
    have HX := Lib.hid hX; clear hX
    have hq := fun w (hT : Tabs w) => quote_any ⟨l.toArray⟩ w (by simp only [ByteArray.size, List.size_toArray]; omega) hT
    unfold QuotePost at hq
    obtain ⟨q, hqq⟩ : ∃ q, quoteL ⟨l.toArray⟩ = q := ⟨_, rfl⟩
    simp only [hqq] at hq
    have hQ := Lib.hid hq; clear hq
    by_cases h3 : q = s.data.toList
    · have f3 : (q == s.toList) = true := by rw [Lib.toList_data]; simpa using h3
      have HU := Lib.hid (HSO.out l HX.out (by rw [hqq]; exact h3))
      clear hqq h3 HNO HSO HOT HLEN
      go_enter Tryd.func15, Tryd.ntmps15
      go_wp2_with fail
      refine hx.mono ?_
      rintro e w1 ⟨rfl, hb⟩
      unfold expandV
      have hT1 := Lib.hid (HT.out.below hb)
      go_wp2_with fail
      refine (hQ.out _ hT1.out).mono ?_
      rintro e w2 ⟨rfl, hb2⟩
      go_wp2
      go_ret2
      exact ⟨by rw [HU.out]; rfl, hb.trans (hb2.mono hb.size)⟩
    · have f3 : (q == s.toList) = false := by rw [Lib.toList_data]; simpa using h3
      have HU := Lib.hid (HOT.out l HX.out (by rw [hqq]; exact h3))
      clear hqq h3 HNO HSO HOT HLEN
      go_enter Tryd.func15, Tryd.ntmps15
      go_wp2_with fail
      refine hx.mono ?_
      rintro e w1 ⟨rfl, hb⟩
      unfold expandV
      have hT1 := Lib.hid (HT.out.below hb)
      go_wp2_with fail
      refine (hQ.out _ hT1.out).mono ?_
      rintro e w2 ⟨rfl, hb2⟩
      go_wp2
      go_ret2
      exact ⟨by rw [HU.out]; rfl, hb.trans (hb2.mono hb.size)⟩
end Go.Proofs.YtpockcolelfecaaDoor
