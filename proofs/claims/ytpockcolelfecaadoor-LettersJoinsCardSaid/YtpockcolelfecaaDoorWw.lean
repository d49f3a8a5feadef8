/- The reference's Lower and Upper. -/
import Derived.Test.YtpockcolelfecaaDoorWi
import Derived.Test.YtpockcolelfecaaDoorWu
import Derived.Test.YtpockcolelfecaaDoorWv
import Derived.Test.YtpockcolelfecaaDoorPn
import Derived.Lib.AppendStr
import Derived.Laws.BytesArg
set_option linter.unusedVariables false
set_option linter.unusedSimpArgs false
namespace Go.Proofs.YtpockcolelfecaaDoor
open Go.RowKit

theorem info_u8 : (Tryd.prog.info? 5).map (fun i => (i.zero, i.size, i.bytes)) = some (some (.int .u8 0), 1, 1) := by kernel_rfl
theorem clsR_eq (s : ByteArray) : clsR s = clsD s := rfl

/-- string(b), b a row of bytes of the call's own. -/
theorem conv_own {w : World} {base : Nat} {v : Value} {l : List UInt8} (h : w.ownsRow base 5 1 v l.length (Lib.byteCells l)) :
    (convert 43 9 v).run Tryd.prog w = .ok (.string ⟨l.toArray⟩) w := by
  rcases h.2 with ⟨hv, hn⟩ | ⟨g, cap, cur, hv, _⟩
  · have : l = [] := List.length_eq_zero_iff.1 hn
    subst this
    rw [hv]
    have hz : ∀ w : World, (convert 43 9 (.slice none 0 0)).run Tryd.prog w = .ok (.string ⟨#[]⟩) w := fun w => by kernel_rfl
    exact hz w
  · rw [hv] at h ⊢
    refine run_convert_bytes_back w 43 9 5 ⟨g, 0, none⟩ cap l Tryd.underlying43 Tryd.underlying5 Tryd.underlying9 (fun j hj => ?_)
    refine h.cells (g := g) rfl j _ ?_
    unfold Lib.byteCells
    rw [List.getElem?_map, List.getElem?_eq_getElem hj]; rfl

/-- An owned row is kept by what leaves all that was there as it was. -/
theorem own_below {w w' : World} {base : Nat} {e : TypeId} {v : Value} {n : Nat} {xs : List Value} (h : w.ownsRow base e 1 v n xs) (hb : Below w.heap.size w w') : w'.ownsRow base e 1 v n xs := by
  obtain ⟨h1, h2⟩ := h
  refine ⟨h1, ?_⟩
  rcases h2 with h2 | ⟨g, cap, cur, a, b, c, d⟩
  · exact .inl h2
  · exact .inr ⟨g, cap, cur, a, b, (hb.block g (Array.getElem?_eq_some_iff.1 c).1).trans c, d⟩

theorem strCells_list (l : List UInt8) : Lib.strCells ⟨l.toArray⟩ = Lib.byteCells l := rfl
theorem strCells_bytes (s : ByteArray) : Lib.strCells s = Lib.byteCells s.data.toList := rfl
theorem latinL2_len (p : Nat) : (latinL2 p).length ≤ 2 := by unfold latinL2; split <;> simp

set_option maxHeartbeats 4000000 in
theorem rlower_any (s : ByteArray) (w : World) (hs : s.size ≤ 1099511627776) :
    Calls Tryd.prog 27 #[.string s] w fun e w' => e = .returned (.string ⟨(chS lowR s).toArray⟩) ∧ Below w.heap.size w w' := by
  obtain ⟨i0, hi, hz0, hz1, hz2⟩ := info_parts info_u8
  have hpc := pieces_any s w hs
  unfold PiecesPost at hpc
  obtain ⟨L, hLL⟩ : ∃ L, pieces s = L := ⟨_, rfl⟩
  have hLL0 : L = piecesFrom s s.size 0 := hLL.symm
  have HLL := Lib.hid hLL; have HL0 := Lib.hid hLL0
  have hln := pieces_len s
  rw [hLL] at hpc hln
  clear hLL hLL0
  go_enter Tryd.func27, Tryd.ntmps27
  go_wp2_with fail
  refine hpc.mono ?_
  rintro e w2 ⟨v, rfl, hv, hb⟩
  obtain ⟨A, ca, rfl, ra⟩ := hv
  clear hpc
  have hsz := hb.size
  go_wp2
  go_loopw [3, 5] (fun x i wr => ∃ (k pos f : Nat) (v : Value) (acc : List UInt8), x = v ∧ i = .int .i64 k ∧ L.drop k = piecesFrom s f pos ∧ pos ≤ s.size ∧ s.size ≤ pos + f ∧ acc ++ chFrom lowR s f pos = chS lowR s ∧ k ≤ L.length ∧ wr.ownsRow w2.heap.size 5 1 v acc.length (Lib.byteCells acc) ∧ Below w2.heap.size w2 wr ∧ acc.length ≤ 4 * pos) (fun _ i _ => L.length - (intOf i).toNat)
  case atStart => exact ⟨0, 0, s.size, _, [], rfl, rfl, by rw [List.drop_zero]; exact HL0.out, by omega, by omega, rfl, by omega, World.ownsRow_nil _ _ _ _, Below.refl _ _, by simp⟩
  case round =>
    obtain ⟨k, pos, f, v, acc, hx, rfl, hdr, hps, hpf, hacc, hkl, hown, hbr, hal⟩ := hrel
    subst hx
    have HDR := Lib.hid hdr; have HACC := Lib.hid hacc
    clear hdr hacc
    by_cases hp : pos < s.size
    · obtain ⟨f, rfl⟩ : ∃ f', f = f' + 1 := ⟨f - 1, by omega⟩
      have hdr1 := HDR.out
      rw [piecesFrom_step s f pos hp] at hdr1
      have hxx : L[k]? = some (piece s pos) := by
        have : (L.drop k)[0]? = some (piece s pos) := by rw [hdr1]; rfl
        rw [List.getElem?_drop] at this; simpa using this
      have hkl2 : k < L.length := by
        rcases Nat.lt_or_ge k L.length with h1 | h1
        · exact h1
        · rw [List.getElem?_eq_none h1] at hxx; cases hxx
      have hdr2 : L.drop (k + 1) = piecesFrom s f (pos + pw s pos) := by
        have := congrArg (List.drop 1) hdr1
        rw [List.drop_drop] at this
        simpa using this
      obtain ⟨ad, rfl, hadb, hc0⟩ := str_at ra hxx
      have hc : wr.cell? (ad.add k) = some (.string (piece s pos)) := (hbr.cell (by rw [block_of_add]; exact hadb)).trans hc0
      have hpw := pw_within s pos hp
      have hp1 := pw_pos s pos
      have hq4 := pw_le s pos hp
      have hszp := piece_size s pos hp
      have hpt := fun w => point_any (piece s pos) 0 w (by rw [hszp]; omega)
      have hcl := fun w => rclass_any (piece s pos) w (by rw [hszp]; omega)
      rw [clsR_eq] at hcl
      have hacc1 := HACC.out
      rw [chFrom_step lowR s f pos hp] at hacc1
      have HA1 := Lib.hid hacc1
      have HD2 := Lib.hid hdr2
      have hsz2 := hbr.size
      clear hdr1 hdr2 hxx HDR HACC hacc1 hc0
      have n1 : (k : Int) < (L.length : Int) := by omega
      by_cases h2 : clsD (piece s pos) = 2
      · obtain ⟨hp256, hU⟩ := low_yes s pos hp h2
        have hlat := fun w => latin_any ((ptN (piece s pos) 0).1 + 32) w hp256
        have hlat2 : latinL ((ptN (piece s pos) 0).1 + 32) = chUnit lowR s pos := hU.symm
        rw [hlat2] at hlat
        have hul := latinL2_len ((ptN (piece s pos) 0).1 + 32)
        rw [← hU] at hul
        have f2 : (clsD (piece s pos) == 2) = true := by simpa using h2
        clear hU hlat2 h2
        clear hq4
        generalize chUnit lowR s pos = U at *
        generalize piece s pos = P at *
        generalize pw s pos = q at *
        generalize clsD P = cl at *
        generalize (ptN P 0).1 = p at *
        generalize ((ptN P 0).2 : Int) = n at *
        have e32 : ((p + 32 : Nat) : Int) = (p : Int) + 32 := by omega
        rw [e32] at hlat
        clear e32
        go_wp2_with (first | (go_at_call 46; refine (hpt _).mono ?_; rintro e w' ⟨rfl, rfl⟩) | (go_at_call 25; refine (hcl _).mono ?_; rintro e w' ⟨rfl, rfl⟩))
        refine (hlat _).mono ?_
        rintro e W3 ⟨rfl, hb3⟩
        have hown3 := own_below hown hb3
        have hbr3 : Below w2.heap.size w2 W3 := hbr.trans (hb3.mono hsz2)
        have hsz3 := hbr3.size
        clear hown hbr hb3 hpt hcl hlat hc
        go_wp2_with (at_builtin; refine Lib.wpList_append_own_string _ rfl _ _ 43 9 rfl w2.heap.size 5 i0 Tryd.underlying43 Tryd.underlying9 hi hz0 hz1 hz2 _ _ _ rfl hown3 ⟨U.toArray⟩ rfl ?c3 ?c4 ?c5 ?_)
        case c3 => simp only [ByteArray.size, List.size_toArray]; unfold maxLen; omega
        case c4 => simp only [ByteArray.size, List.size_toArray]; omega
        case c5 => exact hsz3
        intro v' W4 hown4 hg4 _
        have hbr4 := hbr3.grown hg4 hsz3 (fun g e => (hown3.lt g e).1)
        have hown5 : W4.ownsRow w2.heap.size 5 1 v' (acc ++ U).length (Lib.byteCells (acc ++ U)) := by
          rw [Lib.byteCells_append, List.length_append]; exact hown4
        have HO := Lib.hid hown5
        clear hown4 hown3 hg4 hbr3 hown5
        go_wp2
        go_roundw
        case rel => exact ⟨k + 1, pos + q, f, v', acc ++ U, rfl, by go_num, HD2.out, by omega, by omega, by rw [← HA1.out]; simp, by omega, HO.out, hbr4, by simp; omega⟩
        case measure => simp [intOf]; omega
      · have f2 : (clsD (piece s pos) == 2) = false := by simpa using h2
        have HU := Lib.hid (low_no s pos hp h2)
        clear h2 hq4
        have hszP := hszp
        generalize chUnit lowR s pos = U at *
        generalize piece s pos = P at *
        generalize pw s pos = q at *
        generalize clsD P = cl at *
        generalize (ptN P 0).1 = p at *
        generalize ((ptN P 0).2 : Int) = n at *

        go_wp2_with (first | (go_at_call 46; refine (hpt _).mono ?_; rintro e w' ⟨rfl, rfl⟩) | (go_at_call 25; refine (hcl _).mono ?_; rintro e w' ⟨rfl, rfl⟩) | (at_builtin; refine Lib.wpList_append_own_string _ rfl _ _ 43 9 rfl w2.heap.size 5 i0 Tryd.underlying43 Tryd.underlying9 hi hz0 hz1 hz2 _ _ _ rfl hown P rfl ?c3 ?c4 ?c5 ?_))
        case c3 => rw [hszP]; unfold maxLen; omega
        case c4 => rw [hszP]; omega
        case c5 => exact hsz2
        intro v' W4 hown4 hg4 _
        have hbr4 := hbr.grown hg4 hsz2 (fun g e => (hown.lt g e).1)
        have hown5 : W4.ownsRow w2.heap.size 5 1 v' (acc ++ U).length (Lib.byteCells (acc ++ U)) := by
          rw [Lib.byteCells_append, List.length_append, HU.out, len_list, hszP, ← strCells_bytes]; exact hown4
        have HO := Lib.hid hown5
        have hul : U.length = q := by rw [HU.out, len_list]; exact hszP
        have HUL := Lib.hid hul
        clear hown4 hown hg4 hbr hown5 hpt hcl hc hul
        go_wp2
        go_roundw
        case rel => exact ⟨k + 1, pos + q, f, v', acc ++ U, rfl, by go_num, HD2.out, by omega, by omega, by rw [← HA1.out]; simp, by omega, HO.out, hbr4, by rw [List.length_append, HUL.out]; omega⟩
        case measure => simp [intOf]; omega
    · have hdr1 := HDR.out
      rw [piecesFrom_end s f pos hp, List.drop_eq_nil_iff] at hdr1
      have ek : k = L.length := by omega
      have ha := HACC.out
      rw [chFrom_end lowR s f pos hp, List.append_nil] at ha
      have HA := Lib.hid ha
      have hcv := conv_own hown
      clear HACC HDR hdr1 ha
      subst ek
      go_wp2
      go_ret
      exact ⟨by rw [← HA.out]; rfl, hb.trans (hbr.mono hsz)⟩

set_option maxHeartbeats 4000000 in
theorem rupper_any (s : ByteArray) (w : World) (hs : s.size ≤ 1099511627776) :
    Calls Tryd.prog 29 #[.string s] w fun e w' => e = .returned (.string ⟨(chS upR s).toArray⟩) ∧ Below w.heap.size w w' := by
  obtain ⟨i0, hi, hz0, hz1, hz2⟩ := info_parts info_u8
  have hpc := pieces_any s w hs
  unfold PiecesPost at hpc
  obtain ⟨L, hLL⟩ : ∃ L, pieces s = L := ⟨_, rfl⟩
  have hLL0 : L = piecesFrom s s.size 0 := hLL.symm
  have HLL := Lib.hid hLL; have HL0 := Lib.hid hLL0
  have hln := pieces_len s
  rw [hLL] at hpc hln
  clear hLL hLL0
  go_enter Tryd.func29, Tryd.ntmps29
  go_wp2_with fail
  refine hpc.mono ?_
  rintro e w2 ⟨v, rfl, hv, hb⟩
  obtain ⟨A, ca, rfl, ra⟩ := hv
  clear hpc
  have hsz := hb.size
  go_wp2
  go_loopw [3, 5] (fun x i wr => ∃ (k pos f : Nat) (v : Value) (acc : List UInt8), x = v ∧ i = .int .i64 k ∧ L.drop k = piecesFrom s f pos ∧ pos ≤ s.size ∧ s.size ≤ pos + f ∧ acc ++ chFrom upR s f pos = chS upR s ∧ k ≤ L.length ∧ wr.ownsRow w2.heap.size 5 1 v acc.length (Lib.byteCells acc) ∧ Below w2.heap.size w2 wr ∧ acc.length ≤ 4 * pos) (fun _ i _ => L.length - (intOf i).toNat)
  case atStart => exact ⟨0, 0, s.size, _, [], rfl, rfl, by rw [List.drop_zero]; exact HL0.out, by omega, by omega, rfl, by omega, World.ownsRow_nil _ _ _ _, Below.refl _ _, by simp⟩
  case round =>
    obtain ⟨k, pos, f, v, acc, hx, rfl, hdr, hps, hpf, hacc, hkl, hown, hbr, hal⟩ := hrel
    subst hx
    have HDR := Lib.hid hdr; have HACC := Lib.hid hacc
    clear hdr hacc
    by_cases hp : pos < s.size
    · obtain ⟨f, rfl⟩ : ∃ f', f = f' + 1 := ⟨f - 1, by omega⟩
      have hdr1 := HDR.out
      rw [piecesFrom_step s f pos hp] at hdr1
      have hxx : L[k]? = some (piece s pos) := by
        have : (L.drop k)[0]? = some (piece s pos) := by rw [hdr1]; rfl
        rw [List.getElem?_drop] at this; simpa using this
      have hkl2 : k < L.length := by
        rcases Nat.lt_or_ge k L.length with h1 | h1
        · exact h1
        · rw [List.getElem?_eq_none h1] at hxx; cases hxx
      have hdr2 : L.drop (k + 1) = piecesFrom s f (pos + pw s pos) := by
        have := congrArg (List.drop 1) hdr1
        rw [List.drop_drop] at this
        simpa using this
      obtain ⟨ad, rfl, hadb, hc0⟩ := str_at ra hxx
      have hc : wr.cell? (ad.add k) = some (.string (piece s pos)) := (hbr.cell (by rw [block_of_add]; exact hadb)).trans hc0
      have hpw := pw_within s pos hp
      have hp1 := pw_pos s pos
      have hq4 := pw_le s pos hp
      have hszp := piece_size s pos hp
      have hpt := fun w => point_any (piece s pos) 0 w (by rw [hszp]; omega)
      have hcl := fun w => rclass_any (piece s pos) w (by rw [hszp]; omega)
      rw [clsR_eq] at hcl
      have hacc1 := HACC.out
      rw [chFrom_step upR s f pos hp] at hacc1
      have HA1 := Lib.hid hacc1
      have HD2 := Lib.hid hdr2
      have hsz2 := hbr.size
      clear hdr1 hdr2 hxx HDR HACC hacc1 hc0
      have n1 : (k : Int) < (L.length : Int) := by omega
      by_cases h2 : clsD (piece s pos) = 1 ∧ (ptN (piece s pos) 0).1 ≠ 181 ∧ (ptN (piece s pos) 0).1 ≠ 223 ∧ (ptN (piece s pos) 0).1 ≠ 255
      · obtain ⟨h32, hp256, hU⟩ := up_yes s pos hp h2.1 h2.2.1 h2.2.2.1 h2.2.2.2
        have hlat := fun w => latin_any ((ptN (piece s pos) 0).1 - 32) w (by omega)
        have hlat2 : latinL ((ptN (piece s pos) 0).1 - 32) = chUnit upR s pos := hU.symm
        rw [hlat2] at hlat
        have hul := latinL2_len ((ptN (piece s pos) 0).1 - 32)
        rw [← hU] at hul
        have f2 : (clsD (piece s pos) == 1) = true := by simpa using h2.1
        have f3 : (((ptN (piece s pos) 0).1 : Int) != 181) = true := bne_iff_ne.2 (by have := h2.2.1; omega)
        have f4 : (((ptN (piece s pos) 0).1 : Int) != 223) = true := bne_iff_ne.2 (by have := h2.2.2.1; omega)
        have f5 : (((ptN (piece s pos) 0).1 : Int) != 255) = true := bne_iff_ne.2 (by have := h2.2.2.2; omega)
        clear hU hlat2 h2
        clear hq4
        generalize chUnit upR s pos = U at *
        generalize piece s pos = P at *
        generalize pw s pos = q at *
        generalize clsD P = cl at *
        generalize (ptN P 0).1 = p at *
        generalize ((ptN P 0).2 : Int) = n at *
        have e32 : ((p - 32 : Nat) : Int) = (p : Int) - 32 := by omega
        rw [e32] at hlat
        clear e32
        go_wp2_with (first | (go_at_call 46; refine (hpt _).mono ?_; rintro e w' ⟨rfl, rfl⟩) | (go_at_call 25; refine (hcl _).mono ?_; rintro e w' ⟨rfl, rfl⟩))
        refine (hlat _).mono ?_
        rintro e W3 ⟨rfl, hb3⟩
        have hown3 := own_below hown hb3
        have hbr3 : Below w2.heap.size w2 W3 := hbr.trans (hb3.mono hsz2)
        have hsz3 := hbr3.size
        clear hown hbr hb3 hpt hcl hlat hc
        go_wp2_with (at_builtin; refine Lib.wpList_append_own_string _ rfl _ _ 43 9 rfl w2.heap.size 5 i0 Tryd.underlying43 Tryd.underlying9 hi hz0 hz1 hz2 _ _ _ rfl hown3 ⟨U.toArray⟩ rfl ?c3 ?c4 ?c5 ?_)
        case c3 => simp only [ByteArray.size, List.size_toArray]; unfold maxLen; omega
        case c4 => simp only [ByteArray.size, List.size_toArray]; omega
        case c5 => exact hsz3
        intro v' W4 hown4 hg4 _
        have hbr4 := hbr3.grown hg4 hsz3 (fun g e => (hown3.lt g e).1)
        have hown5 : W4.ownsRow w2.heap.size 5 1 v' (acc ++ U).length (Lib.byteCells (acc ++ U)) := by
          rw [Lib.byteCells_append, List.length_append]; exact hown4
        have HO := Lib.hid hown5
        clear hown4 hown3 hg4 hbr3 hown5
        go_wp2
        go_roundw
        case rel => exact ⟨k + 1, pos + q, f, v', acc ++ U, rfl, by go_num, HD2.out, by omega, by omega, by rw [← HA1.out]; simp, by omega, HO.out, hbr4, by simp; omega⟩
        case measure => simp [intOf]; omega
      · have HU0 := Lib.hid (up_no s pos hp h2)
        have hcase : (clsD (piece s pos) == 1) = false ∨ ((clsD (piece s pos) == 1) = true ∧ (((ptN (piece s pos) 0).1 : Int) != 181) = false) ∨ ((clsD (piece s pos) == 1) = true ∧ (((ptN (piece s pos) 0).1 : Int) != 181) = true ∧ (((ptN (piece s pos) 0).1 : Int) != 223) = false) ∨ ((clsD (piece s pos) == 1) = true ∧ (((ptN (piece s pos) 0).1 : Int) != 181) = true ∧ (((ptN (piece s pos) 0).1 : Int) != 223) = true ∧ (((ptN (piece s pos) 0).1 : Int) != 255) = false) := by
          simp only [beq_eq_false_iff_ne, beq_iff_eq, bne_eq_false_iff_eq, bne_iff_ne]
          by_cases g1 : clsD (piece s pos) = 1
          · by_cases g2 : (ptN (piece s pos) 0).1 = 181
            · exact Or.inr (Or.inl ⟨g1, by omega⟩)
            · by_cases g3 : (ptN (piece s pos) 0).1 = 223
              · exact Or.inr (Or.inr (Or.inl ⟨g1, by omega, by omega⟩))
              · by_cases g4 : (ptN (piece s pos) 0).1 = 255
                · exact Or.inr (Or.inr (Or.inr ⟨g1, by omega, by omega, by omega⟩))
                · exact absurd ⟨g1, g2, g3, g4⟩ h2
          · exact Or.inl g1
        have HU := Lib.hid (HU0.out)
        clear h2 hq4 HU0
        have hszP := hszp
        generalize chUnit upR s pos = U at *
        generalize piece s pos = P at *
        generalize pw s pos = q at *
        generalize clsD P = cl at *
        generalize (ptN P 0).1 = p at *
        generalize ((ptN P 0).2 : Int) = n at *
        rcases hcase with f2 | ⟨f2, f3⟩ | ⟨f2, f3, f4⟩ | ⟨f2, f3, f4, f5⟩
        all_goals
          go_wp2_with (first | (go_at_call 46; refine (hpt _).mono ?_; rintro e w' ⟨rfl, rfl⟩) | (go_at_call 25; refine (hcl _).mono ?_; rintro e w' ⟨rfl, rfl⟩) | (at_builtin; refine Lib.wpList_append_own_string _ rfl _ _ 43 9 rfl w2.heap.size 5 i0 Tryd.underlying43 Tryd.underlying9 hi hz0 hz1 hz2 _ _ _ rfl hown P rfl ?c3 ?c4 ?c5 ?_))
          case c3 => rw [hszP]; unfold maxLen; omega
          case c4 => rw [hszP]; omega
          case c5 => exact hsz2
          intro v' W4 hown4 hg4 _
          have hbr4 := hbr.grown hg4 hsz2 (fun g e => (hown.lt g e).1)
          have hown5 : W4.ownsRow w2.heap.size 5 1 v' (acc ++ U).length (Lib.byteCells (acc ++ U)) := by
            rw [Lib.byteCells_append, List.length_append, HU.out, len_list, hszP, ← strCells_bytes]; exact hown4
          have HO := Lib.hid hown5
          have hul : U.length = q := by rw [HU.out, len_list]; exact hszP
          have HUL := Lib.hid hul
          clear hown4 hown hg4 hbr hown5 hpt hcl hc hul
          go_wp2
          go_roundw
          case rel => exact ⟨k + 1, pos + q, f, v', acc ++ U, rfl, by go_num, HD2.out, by omega, by omega, by rw [← HA1.out]; simp, by omega, HO.out, hbr4, by rw [List.length_append, HUL.out]; omega⟩
          case measure => simp [intOf]; omega
    · have hdr1 := HDR.out
      rw [piecesFrom_end s f pos hp, List.drop_eq_nil_iff] at hdr1
      have ek : k = L.length := by omega
      have ha := HACC.out
      rw [chFrom_end upR s f pos hp, List.append_nil] at ha
      have HA := Lib.hid ha
      have hcv := conv_own hown
      clear HACC HDR hdr1 ha
      subst ek
      go_wp2
      go_ret
      exact ⟨by rw [← HA.out]; rfl, hb.trans (hbr.mono hsz)⟩
end Go.Proofs.YtpockcolelfecaaDoor
