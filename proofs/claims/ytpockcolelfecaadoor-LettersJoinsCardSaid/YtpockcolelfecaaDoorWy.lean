/- The reference's Quote. -/
import Derived.Test.YtpockcolelfecaaDoorWx
set_option linter.unusedVariables false
set_option linter.unusedSimpArgs false
namespace Go.Proofs.YtpockcolelfecaaDoor
open Go.RowKit

theorem len_q : ∀ l : List UInt8, ByteArray.size ⟨l.toArray⟩ = l.length := fun l => by simp [ByteArray.size]

set_option maxHeartbeats 4000000 in
theorem rquote_any (s : ByteArray) (w : World) (hs : s.size ≤ 1099511627776) :
    Calls Tryd.prog 30 #[.string s] w (QuotePost s w) := by
  by_cases h0 : s.size = 0
  · have e : quoteL s = [37, 48] := by unfold quoteL; rw [if_pos h0]
    have he : s.toList.isEmpty = true := by rw [Lib.toList_data, List.isEmpty_iff, ← List.length_eq_zero_iff, len_list]; exact h0
    have E := Lib.hid e
    clear h0 e
    go_enter Tryd.func30, Tryd.ntmps30
    go_wp2
    go_ret
    exact ⟨by rw [E.out]; rfl, Below.refl _ _⟩
  have he : s.toList.isEmpty = false := by
    rw [Bool.eq_false_iff]; intro h; apply h0
    rw [Lib.toList_data, List.isEmpty_iff, ← List.length_eq_zero_iff, len_list] at h; exact h
  have hq : quoteL s = qFrom s s.size 0 := by unfold quoteL; rw [if_neg h0]
  have HQ := Lib.hid hq
  clear hq
  obtain ⟨i0, hi, hz0, hz1, hz2⟩ := info_parts info_u8
  have hpc := pieces_any s w hs
  unfold PiecesPost at hpc
  obtain ⟨L, hLL⟩ : ∃ L, pieces s = L := ⟨_, rfl⟩
  have hLL0 : L = piecesFrom s s.size 0 := hLL.symm
  have HLL := Lib.hid hLL; have HL0 := Lib.hid hLL0
  have hln := pieces_len s
  rw [hLL] at hpc hln
  clear hLL hLL0
  go_enter Tryd.func30, Tryd.ntmps30
  go_wp2_with fail
  refine hpc.mono ?_
  rintro e w2 ⟨v, rfl, hv, hb⟩
  obtain ⟨A, ca, rfl, ra⟩ := hv
  clear hpc he
  have hsz := hb.size
  go_wp2
  go_loopw [3, 5] (fun x i wr => ∃ (k pos f : Nat) (v : Value) (acc : List UInt8), x = v ∧ i = .int .i64 k ∧ L.drop k = piecesFrom s f pos ∧ pos ≤ s.size ∧ s.size ≤ pos + f ∧ acc ++ qFrom s f pos = qFrom s s.size 0 ∧ k ≤ L.length ∧ wr.ownsRow w2.heap.size 5 1 v acc.length (Lib.byteCells acc) ∧ Below w2.heap.size w2 wr ∧ acc.length ≤ 5 * pos) (fun _ i _ => L.length - (intOf i).toNat)
  case atStart => exact ⟨0, 0, s.size, _, [], rfl, rfl, by rw [List.drop_zero]; exact HL0.out, by omega, by omega, rfl, by omega, World.ownsRow_nil _ _ _ _, Below.refl _ _, by simp⟩
  case round =>
    obtain ⟨k, pos, f, v, acc, hx, rfl, hdr, hps, hpf, hacc, hkl, hown, hbr, hal⟩ := hrel
    subst hx
    have HDR := Lib.hid hdr; have HACC := Lib.hid hacc
    clear hdr hacc
    by_cases hp : pos < s.size
    · obtain ⟨f, rfl⟩ : ∃ f', f = f' + 1 := ⟨f - 1, by omega⟩
      have hdr1 := HDR.out
      rw [piecesFrom_step s f pos hp] at hdr1
      have hxx : L[k]? = some (piece s pos) := by
        have : (L.drop k)[0]? = some (piece s pos) := by rw [hdr1]; rfl
        rw [List.getElem?_drop] at this; simpa using this
      have hkl2 : k < L.length := by
        rcases Nat.lt_or_ge k L.length with h1 | h1
        · exact h1
        · rw [List.getElem?_eq_none h1] at hxx; cases hxx
      have hdr2 : L.drop (k + 1) = piecesFrom s f (pos + pw s pos) := by
        have := congrArg (List.drop 1) hdr1
        rw [List.drop_drop] at this
        simpa using this
      obtain ⟨ad, rfl, hadb, hc0⟩ := str_at ra hxx
      have hc : wr.cell? (ad.add k) = some (.string (piece s pos)) := (hbr.cell (by rw [block_of_add]; exact hadb)).trans hc0
      have hpw := pw_within s pos hp
      have hp1 := pw_pos s pos
      have hun := unit_piece s pos hp
      have hul := qUnit_le s pos
      have hacc1 := HACC.out
      rw [qFrom_step s f pos hp] at hacc1
      have HA1 := Lib.hid hacc1
      have HD2 := Lib.hid hdr2
      have hsz2 := hbr.size
      clear hdr1 hdr2 hxx HDR HACC hacc1 hc0
      have n1 : (k : Int) < (L.length : Int) := by omega
      generalize qUnit s pos = U at *
      generalize piece s pos = P at *
      generalize pw s pos = q at *
      go_wp2_with fail
      refine (hun _).mono ?_
      rintro e W3 ⟨rfl, n3, hW3⟩
      have hb3 : Below wr.heap.size wr W3 := by rw [hW3]; exact below_drewN (Below.refl _ _) n3
      clear hW3
      have hown3 := own_below hown hb3
      have hbr3 : Below w2.heap.size w2 W3 := hbr.trans (hb3.mono hsz2)
      have hsz3 := hbr3.size
      clear hown hbr hb3 hun hc
      go_wp2_with (at_builtin; refine Lib.wpList_append_own_string _ rfl _ _ 43 9 rfl w2.heap.size 5 i0 Tryd.underlying43 Tryd.underlying9 hi hz0 hz1 hz2 _ _ _ rfl hown3 ⟨U.toArray⟩ rfl ?c3 ?c4 ?c5 ?_)
      case c3 => rw [len_q]; unfold maxLen; omega
      case c4 => rw [len_q]; omega
      case c5 => exact hsz3
      intro v' W4 hown4 hg4 _
      have hbr4 := hbr3.grown hg4 hsz3 (fun g e => (hown3.lt g e).1)
      have hown5 : W4.ownsRow w2.heap.size 5 1 v' (acc ++ U).length (Lib.byteCells (acc ++ U)) := by
        rw [Lib.byteCells_append, List.length_append]; exact hown4
      have HO := Lib.hid hown5
      clear hown4 hown3 hg4 hbr3 hown5
      go_wp2
      go_roundw
      case rel => exact ⟨k + 1, pos + q, f, v', acc ++ U, rfl, by go_num, HD2.out, by omega, by omega, by rw [← HA1.out]; simp, by omega, HO.out, hbr4, by simp; omega⟩
      case measure => simp [intOf]; omega
    · have hdr1 := HDR.out
      rw [piecesFrom_end s f pos hp, List.drop_eq_nil_iff] at hdr1
      have ek : k = L.length := by omega
      have ha := HACC.out
      rw [qFrom_end s f pos hp, List.append_nil] at ha
      have HA := Lib.hid ha
      have hcv := conv_own hown
      clear HACC HDR hdr1 ha
      subst ek
      go_wp2
      go_ret
      exact ⟨by rw [HQ.out, ← HA.out]; rfl, hb.trans (hbr.mono hsz)⟩
end Go.Proofs.YtpockcolelfecaaDoor
