/- The reference's Pieces. -/
import Derived.Test.YtegbgkljpdlpnaaWf
import Derived.Test.YtegbgkljpdlpnaaPc
import Derived.Test.YtegbgkljpdlpnaaRd
import Derived.Maps.AppendAt
set_option linter.unusedVariables false
set_option linter.unusedSimpArgs false
namespace Go.Proofs.Ytegbgkljpdlpnaa
open Go.RowKit

theorem info_str : (Try.prog.info? 9).map (fun i => (i.zero, i.size, i.bytes)) = some (some (.string ⟨#[]⟩), 1, 16) := by kernel_rfl

/-- One round more. -/
theorem PC_step (s : ByteArray) (w wr w1 : World) (pos f : Nat) (acc : List ByteArray) (v v' : Value) {k : Nat} (o : Obj) (hp : pos < s.size) (hk : pw s pos = k)
    (hacc : acc ++ piecesFrom s f pos = pieces s) (hown : wr.ownsRow w.heap.size 9 1 v acc.length (acc.map Value.string)) (hb : Below w.heap.size w wr)
    (hg : (wr.alloc o).grownBy w1 v.ownBlock) (hown' : w1.ownsRow w.heap.size 9 1 v' (acc.length + 1) (acc.map Value.string ++ [.string (s.extract pos (pos + k))])) (hf : s.size ≤ pos + f) :
    (acc ++ [s.extract pos (pos + k)]) ++ piecesFrom s (f - 1) (pos + k) = pieces s ∧
    w1.ownsRow w.heap.size 9 1 v' (acc ++ [s.extract pos (pos + k)]).length ((acc ++ [s.extract pos (pos + k)]).map Value.string) ∧ Below w.heap.size w w1 := by
  obtain ⟨f, rfl⟩ : ∃ f', f = f' + 1 := ⟨f - 1, by omega⟩
  refine ⟨?_, by simpa using hown', (hb.alloc hb.size o).grown hg (by have := hb.size; simp; omega) (fun g e => (hown.lt g e).1)⟩
  rw [← hacc, piecesFrom_step s f pos hp, hk]
  simp

def PiecesPost (s : ByteArray) (w : World) (e : Ending) (w' : World) : Prop := ∃ v, e = .returned v ∧ StrSl w' v (pieces s) ∧ Below w.heap.size w w'

set_option maxHeartbeats 1000000 in
theorem pieces_any (s : ByteArray) (w : World) (hs : s.size ≤ 1099511627776) :
    Calls Try.prog 49 #[.string s] w (PiecesPost s w) := by
  obtain ⟨i0, hi, hz0, hz1, hz2⟩ := info_parts info_str
  have hpt := fun i w => point_any s i w (by omega)
  have HPT := Lib.hid hpt; clear hpt
  go_enter Try.func49, Try.ntmps49
  go_wp2
  go_loopw [3, 4] (fun v i wr => ∃ (pos f : Nat) (acc : List ByteArray), i = .int .i64 pos ∧ pos ≤ s.size ∧ s.size ≤ pos + f ∧ acc.length ≤ pos ∧ acc ++ piecesFrom s f pos = pieces s ∧ wr.ownsRow w.heap.size 9 1 v acc.length (acc.map Value.string) ∧ Below w.heap.size w wr) (fun _ i _ => s.size - (intOf i).toNat)
  case atStart => exact ⟨0, s.size, [], rfl, by omega, by omega, by simp, rfl, World.ownsRow_nil _ _ _ _, Below.refl _ _⟩
  case round =>
    obtain ⟨pos, f, acc, rfl, hps, hpf, hal, hacc, hown, hb⟩ := hrel
    have HACC := Lib.hid hacc; clear hacc
    by_cases hp : pos < s.size
    · have hpt := HPT.out pos
      have hpw := pw_within s pos hp
      have hp1 := pw_pos s pos
      have hcase : ((ptN s pos).2 = 0 ∧ pw s pos = 1) ∨ (1 ≤ (ptN s pos).2 ∧ (ptN s pos).2 = pw s pos) := by unfold pw; omega
      generalize ((ptN s pos).1 : Int) = p at *
      generalize (ptN s pos).2 = n at *
      rcases hcase with ⟨rfl, hk⟩ | ⟨h1, hk⟩
      · have HK := Lib.hid hk
        rw [hk] at hpw hp1
        clear hk hp1
        go_wp2_with (first | (go_at_call 52; refine (hpt _).mono ?_; rintro e w' ⟨rfl, rfl⟩) | (at_builtin; refine wpList_append_own _ rfl _ _ 22 rfl w.heap.size 9 i0 (.string ⟨#[]⟩) 1 16 Try.underlying22 hi hz0 hz1 hz2 rfl (by decide) _ _ _ rfl (hown.alloc _) ⟨wr.heap.size, 0, none⟩ 1 1 [.string (s.extract pos (pos + 1))] rfl rfl ?c1 ?c2 ?c3 ?c4 ?c5 ?_))
        case c1 => exact cell_one_new _ _ _
        case c2 => intro u hu; simp at hu; subst hu; rfl
        case c3 => unfold maxLen; omega
        case c4 => omega
        case c5 => simp; have := hb.size; omega
        intro v' w1 hown' hgrow _
        have hfin := PC_step s w wr w1 pos f acc u3 v' _ hp HK.out HACC.out hown hb hgrow hown' hpf
        clear hown hown' hgrow hpt
        go_wp2
        go_roundw
        case rel => exact ⟨pos + 1, f - 1, acc ++ [s.extract pos (pos + 1)], by go_num, by omega, by omega, by simp; omega, hfin.1, hfin.2.1, hfin.2.2⟩
        case measure => simp [intOf]; omega
      · have HK := Lib.hid hk.symm
        rw [← hk] at hpw
        clear hk hp1
        go_wp2_with (first | (go_at_call 52; refine (hpt _).mono ?_; rintro e w' ⟨rfl, rfl⟩) | (at_builtin; refine wpList_append_own _ rfl _ _ 22 rfl w.heap.size 9 i0 (.string ⟨#[]⟩) 1 16 Try.underlying22 hi hz0 hz1 hz2 rfl (by decide) _ _ _ rfl (hown.alloc _) ⟨wr.heap.size, 0, none⟩ 1 1 [.string (s.extract pos (pos + n))] rfl rfl ?c1 ?c2 ?c3 ?c4 ?c5 ?_))
        case c1 => exact cell_one_new _ _ _
        case c2 => intro u hu; simp at hu; subst hu; rfl
        case c3 => unfold maxLen; omega
        case c4 => omega
        case c5 => simp; have := hb.size; omega
        intro v' w1 hown' hgrow _
        have hfin := PC_step s w wr w1 pos f acc u3 v' _ hp HK.out HACC.out hown hb hgrow hown' hpf
        clear hown hown' hgrow hpt
        go_wp2
        go_roundw
        case rel => exact ⟨pos + n, f - 1, acc ++ [s.extract pos (pos + n)], by go_num, by omega, by omega, by simp; omega, hfin.1, hfin.2.1, hfin.2.2⟩
        case measure => simp [intOf]; omega
    · go_wp2
      go_ret
      have HA := HACC.out
      rw [piecesFrom_end s f pos hp, List.append_nil] at HA
      exact ⟨u3, rfl, by rw [← HA]; exact StrSl.of_own hown, hb⟩
end Go.Proofs.Ytegbgkljpdlpnaa
