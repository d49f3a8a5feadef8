/- The walk of LettersChanges. -/
import Derived.Test.YtpchdggppkenkaaDoorWs
import Derived.Test.YtpchdggppkenkaaDoorWw
import Derived.Deep.RegionHeld3
set_option linter.unusedVariables false
set_option linter.unusedSimpArgs false
namespace Go.Proofs.YtpchdggppkenkaaDoor
open Go.RowKit

/-- What a region may rely on: a cell, and that all that was there stands. -/
def Held (w0 : World) (a : Addr) (x : Value) (w1 : World) : Prop := w1.cell? a = some x ∧ Below w0.heap.size w0 w1
theorem held_next {w0 w1 w2 : World} {a : Addr} {x : Value} (hb2 : Below w1.heap.size w1 w2) (h : w1.cell? a = some x ∧ Below w0.heap.size w0 w1) (ha : a.block < w0.heap.size) : w2.cell? a = some x ∧ Below w0.heap.size w0 w2 :=
  ⟨(hb2.cell (by have := h.2.size; omega)).trans h.1, h.2.trans (hb2.mono h.2.size)⟩
theorem held_tabs {w0 w1 : World} (a : Addr) (x : Value) (hT : Tabs w0) (h : w1.cell? a = some x ∧ Below w0.heap.size w0 w1) : Tabs w1 := hT.below h.2
theorem clsS_eq (s : ByteArray) : clsS s = clsD s := cls_same s

set_option maxHeartbeats 2000000 in
theorem changes_big (s : ByteArray) (w : World) (hbig : 2000 < s.size) (hT : Tabs w) :
    Calls Tryd.prog 6 #[.string s] w fun e w' => e = .returned (.bool true) ∧ Below w.heap.size w w' := by
  have hk := awake_any w hT
  have f1 : decide ((2000 : Int) < (s.size : Int)) = true := by simp; omega
  clear hT hbig
  go_enter Tryd.func6, Tryd.ntmps6
  go_wp2_with fail
  refine hk.mono ?_
  rintro e w1 ⟨rfl, hb⟩
  go_wp2
  go_ret
  exact ⟨rfl, hb⟩

set_option maxHeartbeats 4000000 in
theorem changes_small (s : ByteArray) (w : World) (hs : s.size ≤ 2000) (hT : Tabs w) :
    Calls Tryd.prog 6 #[.string s] w fun e w' => e = .returned (.bool true) ∧ Below w.heap.size w w' := by
  have f1 : decide ((2000 : Int) < (s.size : Int)) = false := by simp; omega
  have HT := Lib.hid hT
  have hpc := pieces_any s w (by omega)
  unfold PiecesPost at hpc
  obtain ⟨L, hLL⟩ : ∃ L, pieces s = L := ⟨_, rfl⟩
  have hLL0 : L = piecesFrom s s.size 0 := hLL.symm
  have HL0 := Lib.hid hLL0
  have hln := pieces_len s
  rw [hLL] at hpc hln
  clear hLL hLL0 hT
  go_enter Tryd.func6, Tryd.ntmps6
  go_wp2_with fail
  refine hpc.mono ?_
  rintro e w2 ⟨v, rfl, hv, hb⟩
  obtain ⟨A, ca, rfl, ra⟩ := hv
  clear hpc
  have hsz := hb.size
  go_wp2
  go_loopw [4] (fun i wr => ∃ (k pos f : Nat), i = .int .i64 k ∧ L.drop k = piecesFrom s f pos ∧ pos ≤ s.size ∧ s.size ≤ pos + f ∧ k ≤ L.length ∧ Below w2.heap.size w2 wr) (fun i _ => L.length - (intOf i).toNat)
  case atStart => exact ⟨0, 0, s.size, rfl, by rw [List.drop_zero]; exact HL0.out, by omega, by omega, by omega, Below.refl _ _⟩
  case round =>
    obtain ⟨k, pos, f, rfl, hdr, hps, hpf, hkl, hbr⟩ := hrel
    have HDR := Lib.hid hdr
    clear hdr
    by_cases hp : pos < s.size
    · obtain ⟨f, rfl⟩ : ∃ f', f = f' + 1 := ⟨f - 1, by omega⟩
      have hdr1 := HDR.out
      rw [piecesFrom_step s f pos hp] at hdr1
      have hxx : L[k]? = some (piece s pos) := by
        have : (L.drop k)[0]? = some (piece s pos) := by rw [hdr1]; rfl
        rw [List.getElem?_drop] at this; simpa using this
      have hkl2 : k < L.length := by
        rcases Nat.lt_or_ge k L.length with h1 | h1
        · exact h1
        · rw [List.getElem?_eq_none h1] at hxx; cases hxx
      have hdr2 : L.drop (k + 1) = piecesFrom s f (pos + pw s pos) := by
        have := congrArg (List.drop 1) hdr1
        rw [List.drop_drop] at this
        simpa using this
      obtain ⟨ad, rfl, hadb, hc0⟩ := str_at ra hxx
      have hc : wr.cell? (ad.add k) = some (.string (piece s pos)) := (hbr.cell (by rw [block_of_add]; exact hadb)).trans hc0
      have hadr : (ad.add k).block < wr.heap.size := by rw [block_of_add]; have := hbr.size; omega
      have hpw := pw_within s pos hp
      have hp1 := pw_pos s pos
      have hq4 := pw_le s pos hp
      have hszp := piece_size s pos hp
      have hTr : Tabs wr := (HT.out.below hb).below hbr
      have h1 := fun w hT => class_any (piece s pos) w (by rw [hszp]; omega) hT
      have h2 := fun w => rclass_any (piece s pos) w (by rw [hszp]; omega)
      have h3 := fun w hT => valid_any (piece s pos) w (by rw [hszp]; omega) hT
      have h4 := fun w => rvalid_any (piece s pos) w (by rw [hszp]; omega)
      simp only [clsS_eq] at h1
      simp only [clsR_eq] at h2
      simp only [validS_eq] at h3
      simp only [vrS_eq] at h4
      have HD2 := Lib.hid hdr2
      have H1 := Lib.hid h1; have H2 := Lib.hid h2; have H3 := Lib.hid h3; have H4 := Lib.hid h4; have HTr := Lib.hid hTr
      clear hdr1 hdr2 hxx HDR hc0 h1 h2 h3 h4 hTr hszp
      have n1 : (k : Int) < (L.length : Int) := by omega
      have n0 : (0 : Int) ≤ (k : Int) := by omega
      generalize piece s pos = P at *
      generalize pw s pos = q at *
      generalize clsD P = cl at *
      generalize vrD P = V at *
      have g1 : (cl != cl) = false := by simp
      have g2 : (V != V) = false := by simp
      have hbS := Below.refl wr.heap.size wr
      go_wp2_with fail
      go_region_held3 (fun W' => W'.cell? (ad.add k) = some (.string P) ∧ Below wr.heap.size wr W')
        (first
          | exact ⟨hc, hbS.drew⟩
          | assumption
          | exact s5
          | exact s6
          | go_keep)
        (first
          | (go_at_call 13; refine (H1.out _ (held_tabs (ad.add k) (.string P) HTr.out ?_)).mono ?_; assumption; rintro e w5 ⟨rfl, hb5⟩; have s5 := held_next hb5 ‹_› hadr)
          | (go_at_call 25; refine (H2.out _).mono ?_; rintro e w7 ⟨rfl, rfl⟩)
          | (go_at_call 20; refine (H3.out _ (held_tabs (ad.add k) (.string P) HTr.out ?_)).mono ?_; assumption; rintro e w6 ⟨rfl, hb6⟩; have s6 := held_next hb6 ‹_› hadr)
          | (go_at_call 21; refine (H4.out _).mono ?_; rintro e w8 ⟨rfl, rfl⟩))
      have hend : Below w2.heap.size w2 w6 := hbr.trans (s6.2.mono hbr.size)
      clear s5 s6 hb5 hb6
      go_wp2
      go_roundw
      case rel => exact ⟨k + 1, pos + q, f, by go_num, HD2.out, by omega, by omega, by omega, hend⟩
      case measure => simp [intOf]; omega
    · have hdr1 := HDR.out
      rw [piecesFrom_end s f pos hp, List.drop_eq_nil_iff] at hdr1
      have ek : k = L.length := by omega
      have hbw := hb.trans (hbr.mono hsz)
      clear HDR hdr1 hbr
      subst ek
      have hT0 := Lib.hid (HT.out.below hbw)
      have h1 := class_any s wr (by omega) hT0.out
      rw [clsS_eq] at h1
      have h2 := fun w => rclass_any s w (by omega)
      simp only [clsR_eq] at h2
      have H2 := Lib.hid h2
      have h3 := Lib.hid (fun w hT => lower_any s w (by omega) hT)
      have h4 := Lib.hid (fun w => rlower_any s w (by omega))
      have h5 := Lib.hid (fun w hT => upper_any s w (by omega) hT)
      have h6 := Lib.hid (fun w => rupper_any s w (by omega))
      clear h2
      generalize clsD s = cl at *
      generalize chS lowR s = lo at *
      generalize chS upR s = up at *
      have g1 : (cl == cl) = true := by simp
      go_wp2_with fail
      refine h1.mono ?_
      rintro e w3 ⟨rfl, hb3⟩
      have hbw' := hbw.trans (hb3.mono hbw.size); clear hbw hb3 h1
      go_wp2_with fail
      refine (H2.out _).mono ?_
      rintro e w4 ⟨rfl, rfl⟩
      go_wp2_with fail
      refine (h3.out _ (HT.out.below hbw')).mono ?_
      rintro e w5 ⟨rfl, hb3⟩
      have hbw := hbw'.trans (hb3.mono hbw'.size); clear hbw' hb3
      go_wp2_with fail
      refine (h4.out _).mono ?_
      rintro e w6 ⟨rfl, hb3⟩
      have hbw' := hbw.trans (hb3.mono hbw.size); clear hbw hb3
      go_wp2_with fail
      refine (h5.out _ (HT.out.below hbw')).mono ?_
      rintro e w7 ⟨rfl, hb3⟩
      have hbw := hbw'.trans (hb3.mono hbw'.size); clear hbw' hb3
      go_wp2_with fail
      refine (h6.out _).mono ?_
      rintro e w8 ⟨rfl, hb3⟩
      have hbw' := hbw.trans (hb3.mono hbw.size); clear hbw hb3
      have hk := awake_any _ (HT.out.below hbw')
      go_wp2_with fail
      refine hk.mono ?_
      rintro e w9 ⟨rfl, hb3⟩
      have hbw := hbw'.trans (hb3.mono hbw'.size); clear hbw' hb3 hk
      go_wp2
      go_ret
      exact ⟨rfl, hbw⟩

theorem changes_walk (s : ByteArray) (w : World) (_hm : s.size ≤ maxLen) (hT : Tabs w) :
    Calls Tryd.prog 6 #[.string s] w fun e w' => e = .returned (.bool true) ∧ Below w.heap.size w w' := by
  by_cases h : s.size ≤ 2000
  · exact changes_small s w h hT
  · exact changes_big s w (by omega) hT
end Go.Proofs.YtpchdggppkenkaaDoor
