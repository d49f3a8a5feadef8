/- The program's Class. -/
import Derived.Test.YtpockcolelfecaaDoorWh
set_option linter.unusedVariables false
set_option linter.unusedSimpArgs false
namespace Go.Proofs.YtpockcolelfecaaDoor
open Go.RowKit

def clsS (s : ByteArray) : Int := if validS s then cls ((Lib.decodeGo s).1 : Int) else 0

set_option maxHeartbeats 1000000 in
theorem class_any (s : ByteArray) (w : World) (hs : s.size < 9223372036854775807) (hT : Tabs w) :
    Calls Tryd.prog 13 #[.string s] w fun e w' => e = .returned (.int .i64 (clsS s)) ∧ Below w.heap.size w w' := by
  have hv := valid_any s w hs hT
  have HT := Lib.hid hT
  unfold clsS
  obtain ⟨R, hR⟩ : ∃ R : Int, ((Lib.decodeGo s).1 : Int) = R := ⟨_, rfl⟩
  have hd : ∀ w, Tabs w → Calls Tryd.prog 35 #[.string s] w fun e w' => e = .returned (.tuple #[.int .i32 R, .int .i64 (Lib.decodeGo s).2]) ∧ Below w.heap.size w w' := by
    intro w h; rw [← hR]; exact Tryd.sh_DecodeRune s w h.utf8
  have HD := Lib.hid hd; clear hd
  rw [hR]
  generalize (Lib.decodeGo s).2 = n at *
  clear hR
  generalize validS s = V at *
  clear hT
  cases V
  · go_enter Tryd.func13, Tryd.ntmps13
    go_wp2_with fail
    refine hv.mono ?_
    rintro e w1 ⟨rfl, hb⟩
    go_wp2
    go_ret
    exact ⟨rfl, hb⟩
  · go_enter Tryd.func13, Tryd.ntmps13
    go_wp2_with fail
    refine hv.mono ?_
    rintro e w1 ⟨rfl, hb⟩
    have hT1 := HT.out.below hb
    have HT1 := Lib.hid hT1; clear hT1 hv
    go_wp2_with fail
    refine (HD.out _ HT1.out).mono ?_
    rintro e w2 ⟨rfl, hb2⟩
    have hT2 := HT1.out.below hb2
    have hsp := hT2.spans
    have HSP := Lib.hid hsp
    have hps := hT2.pos
    clear hT2 hsp
    go_wp2_with fail
    refine (classOf_any R _ HSP.out (by omega)).mono ?_
    rintro e w3 ⟨rfl, hb3⟩
    go_wp2
    go_ret
    have hz := hb.size; have hz2 := hb2.size
    exact ⟨rfl, (hb.trans (hb2.mono hz)).trans (hb3.mono (by omega))⟩
end Go.Proofs.YtpockcolelfecaaDoor
