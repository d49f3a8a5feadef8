/- The program's isStray, Valid, Class, Compare; the reference's latin, Compare. -/
import Derived.Test.YtpockcolelfecaaDoorWg
import Derived.Test.YtpockcolelfecaaDoorWe
import Derived.Test.YtpockcolelfecaaDoorSh
import Derived.Test.YtpockcolelfecaaDoorPd
import Derived.Laws.Strings3
set_option linter.unusedVariables false
set_option linter.unusedSimpArgs false
namespace Go.Proofs.YtpockcolelfecaaDoor
open Go.RowKit

/-- The tables that the code reads. -/
structure Tabs (w : World) : Prop where
  spans : SpansAt w
  utf8 : Lib.Utf8Tabs 1 2 w
  pos : 0 < w.heap.size
theorem Tabs.below {w w' : World} (h : Tabs w) (hb : Below w.heap.size w w') : Tabs w' :=
  ⟨h.spans.below hb (by have := h.pos; omega), Utf8Tabs_below h.utf8 hb, by have := h.pos; have := hb.size; omega⟩

set_option maxHeartbeats 400000 in
theorem isStray_any (s : ByteArray) (i : Nat) (r : Int) (w : World) (hi : i ≤ s.size) (hs : s.size ≤ 9223372036854775807) :
    Calls Tryd.prog 34 #[.string s, .int .i64 i, .int .i32 r] w fun e w' => e = .returned (.bool (strayR s i r)) ∧ w = w' := by
  by_cases h : r = 65533
  · have f1 : (r == 65533) = true := by simpa using h
    have hp : ∀ w, Calls Tryd.prog 54 #[.string (s.extract i s.size), .string ⟨#[239, 191, 189]⟩] w fun e w' => e = .returned (.bool (Lib.hasPrefix (s.data.toList.drop i) isB)) ∧ w = w' := by
      intro w
      refine (Tryd.sh_HasPrefix _ _ w).mono ?_
      rintro e w' ⟨rfl, rfl⟩
      exact ⟨by rw [Lib.extract_to_end]; rfl, rfl⟩
    obtain ⟨B, hB⟩ : ∃ B, Lib.hasPrefix (s.data.toList.drop i) isB = B := ⟨_, rfl⟩
    have hR : strayR s i r = !B := by unfold strayR; rw [hB]; simp [h]
    rw [hR]
    rw [hB] at hp
    clear hB hR h
    cases B
    all_goals
      go_enter Tryd.func34, Tryd.ntmps34
      go_wp2_with (go_at_call 54; refine (hp _).mono ?_; rintro e w' ⟨rfl, rfl⟩)
      go_ret
      exact ⟨rfl, rfl⟩
  · have f1 : (r == 65533) = false := by simpa using h
    have hR : strayR s i r = false := by unfold strayR; simp [h]
    rw [hR]
    clear hR h
    go_enter Tryd.func34, Tryd.ntmps34
    go_wp2
    go_ret
    exact ⟨rfl, rfl⟩

/-- What Valid answers. -/
def validS (s : ByteArray) : Bool := Lib.validD s.data.toList && decide (Lib.runeCount s = 1)

set_option maxHeartbeats 400000 in
theorem valid_any (s : ByteArray) (w : World) (hs : s.size < 9223372036854775807) (hT : Tabs w) :
    Calls Tryd.prog 20 #[.string s] w fun e w' => e = .returned (.bool (validS s)) ∧ Below w.heap.size w w' := by
  have hv := Tryd.sh_ValidString s w (by omega) hT.utf8
  have hc := fun w => Tryd.sh_RuneCount s w hs
  obtain ⟨V, hV⟩ : ∃ V, Lib.validD s.data.toList = V := ⟨_, rfl⟩
  obtain ⟨n, hn⟩ : ∃ n, Lib.runeCount s = n := ⟨_, rfl⟩
  have hR : validS s = (V && decide (n = 1)) := by unfold validS; rw [hV, hn]
  rw [hR]
  rw [hV] at hv
  simp only [hn] at hc
  clear hV hn hR
  cases V
  · go_enter Tryd.func20, Tryd.ntmps20
    go_wp2_with fail
    refine hv.mono ?_
    rintro e w1 ⟨rfl, hb⟩
    go_wp2
    go_ret
    exact ⟨rfl, hb⟩
  · obtain ⟨B, hB⟩ : ∃ B, decide (n = 1) = B := ⟨_, rfl⟩
    have f1 : ((n : Int) == 1) = B := by rw [← hB, Bool.eq_iff_iff]; simp; omega
    rw [hB]
    clear hB
    go_enter Tryd.func20, Tryd.ntmps20
    go_wp2_with fail
    refine hv.mono ?_
    rintro e w1 ⟨rfl, hb⟩
    go_wp2_with fail
    refine (hc _).mono ?_
    rintro e w2 ⟨rfl, pos, rfl⟩
    go_wp2
    go_ret
    exact ⟨ret_bool (by simp), hb.trans (((Below.refl w1.heap.size w1).alloc (Nat.le_refl _) (.stringIter s pos)).mono hb.size)⟩

set_option maxHeartbeats 400000 in
theorem compare_any (a b : ByteArray) (w : World) :
    Calls Tryd.prog 16 #[.string a, .string b] w fun e w' => e = .returned (.int .i64 (Lib.compareBytes a.data.toList b.data.toList)) ∧ w = w' := by
  have hc := Tryd.sh_Compare a b w
  go_enter Tryd.func16, Tryd.ntmps16
  go_wp2_with (go_at_call 43; refine hc.mono ?_; rintro e w' ⟨rfl, rfl⟩)
  go_ret
  exact ⟨rfl, rfl⟩
end Go.Proofs.YtpockcolelfecaaDoor
