/- The program's Split. -/
import Derived.Test.YtegbgkljpdlpnaaWh
import Derived.Test.YtegbgkljpdlpnaaWj
import Derived.Lib.OthersKept
import Derived.WalkSmall
set_option linter.unusedVariables false
set_option linter.unusedSimpArgs false
namespace Go.Proofs.Ytegbgkljpdlpnaa
open Go.RowKit

def SplitPost (s : ByteArray) (w : World) (e : Ending) (w' : World) : Prop :=
  ∃ v, e = .returned (.tuple #[v, .int .i64 ((splitL s).2.1 : Int), .int .i64 ((splitL s).2.2 : Int)]) ∧ StrSl w' v (splitL s).1 ∧ Below w.heap.size w w'

theorem ret_spl {v : Value} {a b c d : Int} (h : a = c) (h2 : b = d) : Ending.returned (.tuple #[v, .int .i64 a, .int .i64 b]) = .returned (.tuple #[v, .int .i64 c, .int .i64 d]) := by rw [h, h2]

theorem grown_iter {wr w1 : World} {o : Obj} {v : Value} {k : Nat} {s : ByteArray} {pos : Nat} (hg : (wr.alloc o).grownBy w1 v.ownBlock) (hk : wr.heap[k]? = some (.stringIter s pos)) (hne : ∀ g, v.ownBlock = some g → k < g) : w1.heap[k]? = some (.stringIter s pos) := by
  have hlt : k < wr.heap.size := (Array.getElem?_eq_some_iff.1 hk).1
  rw [hg.block k (by simp; omega) (fun e => by have := hne k e.symm; omega)]
  exact (Below.heap_alloc wr o k hlt).trans hk

set_option maxHeartbeats 2000000 in
theorem split_any (s : ByteArray) (w : World) (hs : s.size ≤ 1099511627776) :
    Calls Try.prog 44 #[.string s] w (SplitPost s w) := by
  obtain ⟨i0, hi, hz0, hz1, hz2⟩ := info_parts info_str
  have hst := fun i r hi w => isStray_any s i r w hi (by omega)
  have HST := Lib.hid hst; clear hst
  by_cases hlen : 16384 < s.size
  · have hL : splitL s = ([], 0, 2) := by unfold splitL; rw [if_pos hlen]
    have HL := Lib.hid hL; clear hL
    go_enter Try.func44, Try.ntmps44
    go_wp2
    go_ret3
    exact ⟨.slice none 0 0, by rw [HL.out]; rfl, by rw [HL.out]; exact StrSl.nil _, Below.refl _ _⟩
  have hL : splitL s = splitOf (bad s) s := by unfold splitL; rw [if_neg hlen]
  have HL := Lib.hid hL; clear hL
  go_enter Try.func44, Try.ntmps44
  go_wp2
  go_loopw [2] (fun x wr => ∃ (v : Value) (pos f : Nat) (acc : List ByteArray), x = v ∧ pos ≤ s.size ∧ s.size ≤ pos + f ∧ acc.length ≤ pos ∧ acc ++ piecesFrom s f pos = pieces s ∧ badFrom s f pos = bad s ∧ wr.heap[w.heap.size]? = some (.stringIter s pos) ∧ wr.ownsRow (w.heap.size + 1) 9 1 v acc.length (acc.map Value.string) ∧ Below w.heap.size w wr) (fun _ wr => s.size - wr.iterPos w.heap.size)
  case atStart => exact ⟨_, 0, s.size, [], rfl, by omega, by omega, by simp, rfl, rfl, World.iter_heap w s 0, (World.ownsRow_nil _ _ _ _), (Below.refl _ w).alloc (Nat.le_refl _) _⟩
  case round =>
    obtain ⟨v, pos, f, acc, hx, hps, hpf, hal, hacc, hbad, hit, hown, hb⟩ := hrel
    subst hx
    have hsz : w.heap.size < wr.heap.size := (Array.getElem?_eq_some_iff.1 hit).1
    have HACC := Lib.hid hacc; have HBAD := Lib.hid hbad; clear hacc hbad
    by_cases hp : pos < s.size
    · have hnx : ∀ ty, (Instr.next (.pointer (some ⟨w.heap.size, 0, none⟩)) true ty).run Try.prog wr = _ := fun ty => Lib.run_next_any_at wr w.heap.size s pos ty hit hp
      have hst := HST.out pos ((Utf8.decode s pos).1 : Int) hps
      rw [strayR_eq] at hst
      have hpw := pw_within s pos hp
      have hp1 := pw_pos s pos
      have hd1 := decode_le s pos
      have hwd := pw_dec s pos hp
      rw [← hwd] at hnx
      obtain ⟨f, rfl⟩ : ∃ f', f = f' + 1 := ⟨f - 1, by omega⟩
      have hit2 := Lib.iterAt_heap wr w.heap.size s pos (pos + pw s pos) hit
      have hb2 := Lib.below_iterAt hb (k := w.heap.size) (by omega) s (pos + pw s pos)
      have hsz2 : w.heap.size < (wr.iterAt w.heap.size s (pos + pw s pos)).heap.size := by rw [Lib.iterAt_size]; exact hsz
      have hacc1 := HACC.out
      rw [piecesFrom_step s f pos hp] at hacc1
      have HA1 := Lib.hid hacc1; clear hacc1
      cases hs2 : stray s pos
      · rw [hs2] at hst
        have hbad1 := HBAD.out
        rw [badFrom_miss s f pos hp hs2] at hbad1
        have HB1 := Lib.hid hbad1; clear hbad1
        have henc := enc_dec s pos hp hs2
        rw [← hwd] at henc
        have HENC := Lib.hid henc
        clear hwd hs2 henc HACC HBAD
        generalize ((Utf8.decode s pos).1 : Int) = r at *
        generalize pw s pos = k at *
        have hown2 := ownsRow_iterAt hown (Nat.lt_succ_self _) s (pos + k)
        have hm : s.size - (pos + k) < s.size - wr.iterPos w.heap.size := by rw [iterPos_of hit]; omega
        have HM := Lib.hid hm
        clear hit hb hown hm
        generalize wr.iterAt w.heap.size s (pos + k) = W2 at *
        go_wp2_with (first | (go_at_call 48; refine (hst _).mono ?_; rintro e w' ⟨rfl, rfl⟩) | (at_builtin; refine wpList_append_own _ rfl _ _ 22 rfl (w.heap.size + 1) 9 i0 (.string ⟨#[]⟩) 1 16 Try.underlying22 hi hz0 hz1 hz2 rfl (by decide) _ _ _ rfl (hown2.alloc _) ⟨W2.heap.size, 0, none⟩ 1 1 [.string (Utf8.encode r)] rfl rfl ?c1 ?c2 ?c3 ?c4 ?c5 ?_))
        case c1 => exact cell_one_new _ _ _
        case c2 => intro u hu; simp at hu; subst hu; rfl
        case c3 => unfold maxLen; omega
        case c4 => omega
        case c5 => simp; omega
        intro v' w1 hown' hgrow _
        rw [HENC.out] at hown'
        have hit3 := grown_iter hgrow hit2 (fun g e => (hown2.lt g e).1)
        have hb3 : Below w.heap.size w w1 := (hb2.alloc (by omega) _).grown hgrow (by simp; omega) (fun g e => by have := (hown2.lt g e).1; omega)
        have hm3 : s.size - w1.iterPos w.heap.size < s.size - wr.iterPos w.heap.size := by
          have := HM.out
          rw [iterPos_of hit3]; exact this
        have HM3 := Lib.hid hm3
        clear hown2 hgrow hm3 hst hb2 hit2
        go_wp2
        go_roundw
        case rel => exact ⟨v', pos + k, f, acc ++ [s.extract pos (pos + k)], rfl, by omega, by omega, by simp; omega, by rw [← HA1.out]; simp, HB1.out, hit3, by simpa using hown', hb3⟩
        case measure => exact HM3.out
      · rw [hs2] at hst
        have hbad1 := HBAD.out
        rw [badFrom_hit s f pos hp hs2] at hbad1
        have HB1 := Lib.hid hbad1
        clear hbad1 HA1 HACC HBAD hs2 hwd
        generalize ((Utf8.decode s pos).1 : Int) = r at *
        generalize pw s pos = k at *
        go_wp2_with (first | (go_at_call 48; refine (hst _).mono ?_; rintro e w' ⟨rfl, rfl⟩))
        go_ret3
        exact ⟨.slice none 0 0, by rw [HL.out, ← HB1.out]; rfl, by rw [HL.out, ← HB1.out]; exact StrSl.nil _, hb2⟩
    · have hnx : ∀ ty, (Instr.next (.pointer (some ⟨w.heap.size, 0, none⟩)) true ty).run Try.prog wr = _ := fun ty => Lib.run_next_end_at wr w.heap.size s pos ty hit hp
      have ha := HACC.out
      rw [piecesFrom_end s f pos hp, List.append_nil] at ha
      have hbd := HBAD.out
      rw [badFrom_end s f pos hp] at hbd
      have HA := Lib.hid ha; have HB := Lib.hid hbd; clear ha hbd HACC HBAD
      go_wp2
      go_ret3
      exact ⟨u2, by rw [HL.out, ← HB.out]; rfl, by rw [HL.out, ← HB.out]; show StrSl _ _ (pieces s); rw [← HA.out]; exact StrSl.of_own hown, hb⟩
end Go.Proofs.Ytegbgkljpdlpnaa
