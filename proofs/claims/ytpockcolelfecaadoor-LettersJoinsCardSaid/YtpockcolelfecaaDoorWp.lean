/- Quote. -/
import Derived.Test.YtpockcolelfecaaDoorWo
import Derived.Test.YtpockcolelfecaaDoorPf
set_option linter.unusedVariables false
set_option linter.unusedSimpArgs false
namespace Go.Proofs.YtpockcolelfecaaDoor
open Go.RowKit

theorem isControl_b (r : Int) (w : World) :
    Calls Tryd.prog 37 #[.int .i32 r] w fun e w' => e = .returned (.bool (ctlR r)) ∧ w = w' := isControl_any r w

theorem hex_at (n : Nat) (h : n < ByteArray.size ⟨#[48, 49, 50, 51, 52, 53, 54, 55, 56, 57, 97, 98, 99, 100, 101, 102]⟩) : (⟨#[48, 49, 50, 51, 52, 53, 54, 55, 56, 57, 97, 98, 99, 100, 101, 102]⟩ : ByteArray)[n]'h = hexD n := by
  have h16 : n < 16 := h
  unfold hexD hexL
  rw [List.getD_eq_getElem?_getD, List.getElem?_eq_getElem (by simpa using h16)]
  rfl

theorem two_len : (Lib.strCells ⟨#[37, 120]⟩).length = 2 := rfl
theorem two_size : ByteArray.size ⟨#[37, 120]⟩ = 2 := rfl
theorem and15 (x : Nat) (h : x < 256) : bits .and .u8 (x : Int) 15 = ((x % 16 : Nat) : Int) := by
  have : ∀ y : Fin 256, bits .and .u8 ((y.val : Nat) : Int) 15 = ((y.val % 16 : Nat) : Int) := by decide +kernel
  exact this ⟨x, h⟩

def QuotePost (s : ByteArray) (w : World) (e : Ending) (w' : World) : Prop := e = .returned (.string ⟨(quoteL s).toArray⟩) ∧ Below w.heap.size w w'

set_option maxHeartbeats 4000000 in
set_option maxRecDepth 20000 in
theorem quote_any (s : ByteArray) (w : World) (hs : s.size ≤ 17592186044416) (hT : Tabs w) :
    Calls Tryd.prog 14 #[.string s] w (QuotePost s w) := by
  by_cases h0 : s.size = 0
  · have e : quoteL s = [37, 48] := by unfold quoteL; rw [if_pos h0]
    have he : s.toList.isEmpty = true := by rw [Lib.toList_data, List.isEmpty_iff, ← List.length_eq_zero_iff, len_list]; exact h0
    have E := Lib.hid e
    clear h0 e hT
    go_enter Tryd.func14, Tryd.ntmps14
    go_wp2
    go_ret
    exact ⟨by rw [E.out]; rfl, Below.refl _ _⟩
  have he : s.toList.isEmpty = false := by
    rw [Bool.eq_false_iff]; intro h; apply h0
    rw [Lib.toList_data, List.isEmpty_iff, ← List.length_eq_zero_iff, len_list] at h; exact h
  have hq : quoteL s = qFrom s s.size 0 := by unfold quoteL; rw [if_neg h0]
  have HQ := Lib.hid hq
  have hst := fun i r hi w => isStray_any s i r w hi (by omega)
  have HST := Lib.hid hst; have HT := Lib.hid hT
  clear hst hT h0 hq
  go_enter Tryd.func14, Tryd.ntmps14
  go_wp2
  clear he
  go_loopw [] (fun wr => ∃ (pos fuel : Nat) (acc : List UInt8), pos ≤ s.size ∧ Lib.IsBuilderF 45 5 w.heap.size w.heap.size (Lib.byteCells acc) wr ∧ wr.heap[w.heap.size + 1]? = some (.stringIter s pos) ∧ Below w.heap.size w wr ∧ acc ++ qFrom s fuel pos = qFrom s s.size 0 ∧ s.size ≤ pos + fuel ∧ acc.length ≤ 5 * pos) (fun wr => s.size - wr.iterPos (w.heap.size + 1))
  case atStart =>
    refine ⟨0, s.size, [], by omega, (Lib.IsBuilderF.of (Lib.fresh_isBuilder 45 5 w)).alloc _, ?_, ((Below.refl _ w).alloc (Nat.le_refl _) _).alloc (by simp) _, rfl, by omega, by simp⟩
    have := World.iter_heap (w.alloc (.cells #[.pointer none, .slice none 0 0] 45)) s 0
    simpa using this
  case round =>
    obtain ⟨pos, fuel, acc, hps, hI, hit, hbw, hacc, hfu, hal⟩ := hrel
    have hsz : w.heap.size + 1 < wr.heap.size := (Array.getElem?_eq_some_iff.1 hit).1
    have HACC := Lib.hid hacc; clear hacc
    by_cases hp : pos < s.size
    · have hnx : ∀ ty, (Instr.next (.pointer (some ⟨w.heap.size + 1, 0, none⟩)) true ty).run Tryd.prog wr = _ := fun ty => Lib.run_next_any_at wr (w.heap.size + 1) s pos ty hit hp
      have hst := HST.out pos ((Utf8.decode s pos).1 : Int) hps
      rw [strayR_eq] at hst
      have hpw := pw_within s pos hp
      have hp1 := pw_pos s pos
      have hd1 := decode_le s pos
      have hwd := pw_dec s pos hp
      rw [← hwd] at hnx
      clear hwd
      obtain ⟨f, rfl⟩ : ∃ f, fuel = f + 1 := ⟨fuel - 1, by omega⟩
      have hI2 := hI.iterAt hit (pos + pw s pos)
      have hit2 := Lib.iterAt_heap wr (w.heap.size + 1) s pos (pos + pw s pos) hit
      have hbw2 := Lib.below_iterAt hbw (k := w.heap.size + 1) (by omega) s (pos + pw s pos)
      have hsz2 : w.heap.size + 1 < (wr.iterAt (w.heap.size + 1) s (pos + pw s pos)).heap.size := by rw [Lib.iterAt_size]; omega
      have hm : s.size - (pos + pw s pos) < s.size - wr.iterPos (w.heap.size + 1) := by rw [iterPos_of hit]; omega
      have hu5 := qUnit_le s pos
      have hacc1 := HACC.out
      rw [qFrom_step s f pos hp] at hacc1
      have HA1 := Lib.hid hacc1; have HM := Lib.hid hm
      have hT2 := HT.out.below hbw2
      have HC := Lib.hid (classOf_any ((Utf8.decode s pos).1 : Int) _ hT2.spans (by have := hT2.pos; omega))
      have HHEX := Lib.hid (qUnit_hex s pos)
      have HMARK := Lib.hid (qUnit_mark s pos)
      have HPLAIN := Lib.hid (qUnit_plain s pos)
      have hctl := isControl_b ((Utf8.decode s pos).1 : Int)
      have hr0 : (0 : Int) ≤ ((Utf8.decode s pos).1 : Int) := by omega
      have hr1 : ((Utf8.decode s pos).1 : Int) ≤ 2147483647 := by omega
      clear hacc1 hm HACC hbw hit hI hsz hT2 hd1
      generalize ((Utf8.decode s pos).1 : Int) = r at *
      generalize pw s pos = k at *
      generalize qUnit s pos = U at *
      generalize stray s pos = B1 at *
      generalize ctlR r = B2 at *
      have h4 : ∀ c : Int, cls r = c → ((c == 4) = decide (cls r = 4)) ∧ ((c == 5) = decide (cls r = 5)) := by rintro c rfl; exact ⟨by rw [Bool.eq_iff_iff]; simp, by rw [Bool.eq_iff_iff]; simp⟩
      have H4 := Lib.hid h4; clear h4
      have enc4 := enc_len r
      generalize wr.iterAt (w.heap.size + 1) s (pos + k) = W2 at *
      by_cases hx : (B1 || B2) = true
      · have HU := Lib.hid (HHEX.out hx)
        have hB : B1 = true ∨ (B1 = false ∧ B2 = true) := by cases B1 <;> simp_all
        clear hx HHEX HMARK HPLAIN
        have hgb := gb_pos s pos hp
        have hx256 : s[pos].toNat < 256 := s[pos].toNat_lt
        have hand := and15 s[pos].toNat hx256
        have HGB := Lib.hid hgb; clear hgb
        have k16a : s[pos].toNat / 16 < 16 := by omega
        have k16b : s[pos].toNat % 16 < 16 := by omega
        rcases hB with rfl | ⟨rfl, rfl⟩
        all_goals
          go_wp2_with fail
          refine HC.out.mono ?_
          rintro e W3 ⟨rfl, hbf⟩
          have hI3 := builder_below hI2 hbf
          have hit3 := (hbf.block _ (lt_of_block hit2)).trans hit2
          have hbw3 : Below w.heap.size w W3 := hbw2.trans (hbf.mono (by omega))
          have hsz3 : w.heap.size + 1 < W3.heap.size := by have := hbf.size; omega
          clear hI2 hit2 hbw2 hbf hnx
          obtain ⟨c, hcc⟩ : ∃ c, cls r = c := ⟨_, rfl⟩
          have hq4 := H4.out c hcc
          rw [hcc] at hq4 ⊢
          go_wp2_with (first | (go_at_call 34; refine (hst _).mono ?_; rintro e w' ⟨rfl, rfl⟩) | (go_at_call 37; refine (hctl _).mono ?_; rintro e w' ⟨rfl, rfl⟩) | (go_at_call 38; refine (Tryd.sh_WriteString w.heap.size w.heap.size _ _ _ hI3 (by rw [Lib.byteCells_length, two_size]; omega) (by omega)).mono ?_))
          rintro e W5 ⟨rfl, h5, b5, k5⟩
          have hit5 := k5.iter hit3 (by omega)
          have hs5 := b5.size
          clear hst hctl hit3 hI3
          go_wp2_with fail
          refine (Tryd.sh_WriteByte w.heap.size w.heap.size _ _ _ (Or.inr h5) (by simp only [List.length_append, Lib.byteCells_length, two_len, List.length_cons, List.length_nil]; omega) (by omega)).mono ?_
          rintro e W6 ⟨rfl, h6, b6, k6⟩
          have hit6 := k6.iter hit5 (by omega)
          have hs6 := b6.size
          clear h5 hit5
          go_wp2_with fail
          refine (Tryd.sh_WriteByte w.heap.size w.heap.size _ _ _ (Or.inr h6) (by simp only [List.length_append, Lib.byteCells_length, two_len, List.length_cons, List.length_nil]; omega) (by omega)).mono ?_
          rintro e W1 ⟨rfl, h1, b1, k1⟩
          rw [hex_at _ k16a, hex_at _ k16b] at h1
          have hit7 := k1.iter hit6 (by omega)
          have hm4 : s.size - W1.iterPos (w.heap.size + 1) < s.size - wr.iterPos (w.heap.size + 1) := by rw [iterPos_of hit7]; exact HM.out
          have HM4 := Lib.hid hm4
          have eU : Lib.byteCells (acc ++ U) = ((Lib.byteCells acc ++ Lib.strCells ⟨#[37, 120]⟩) ++ [Value.int .u8 ((hexD (s[pos].toNat / 16)).toNat : Int)]) ++ [Value.int .u8 ((hexD (s[pos].toNat % 16)).toNat : Int)] := by
            rw [HU.out, HGB.out]; simp [Lib.byteCells, Lib.strCells]
          have EU := Lib.hid eU
          clear hm4 h6 hit6 eU hand
          go_wp2
          go_roundw
          case rel =>
            refine ⟨pos + k, f, acc ++ U, by omega, ?_, hit7, ((hbw3.trans b5).trans b6).trans b1, by rw [← HA1.out]; simp, by omega, by simp; omega⟩
            rw [EU.out]; exact Or.inr h1
          case measure => exact HM4.out
      · have hB1 : B1 = false := by cases B1 <;> simp_all
        have hB2 : B2 = false := by cases B2 <;> simp_all
        subst hB1 hB2
        clear hx HHEX
        by_cases h45 : cls r = 4 ∨ cls r = 5
        · have HU := Lib.hid (HMARK.out rfl rfl h45)
          clear HMARK HPLAIN
          have hc45 : cls r = 4 ∨ (cls r ≠ 4 ∧ cls r = 5) := by
            by_cases g : cls r = 4
            · exact Or.inl g
            · exact Or.inr ⟨g, h45.resolve_left g⟩
          clear h45
          rcases hc45 with g4' | ⟨g4', g5'⟩
          · have g4 : decide (cls r = 4) = true := by simpa using g4'
            clear g4'
            go_wp2_with fail
            refine HC.out.mono ?_
            rintro e W3 ⟨rfl, hbf⟩
            have hI3 := builder_below hI2 hbf
            have hit3 := (hbf.block _ (lt_of_block hit2)).trans hit2
            have hbw3 : Below w.heap.size w W3 := hbw2.trans (hbf.mono (by omega))
            have hsz3 : w.heap.size + 1 < W3.heap.size := by have := hbf.size; omega
            clear hI2 hit2 hbw2 hbf hnx
            obtain ⟨c, hcc⟩ : ∃ c, cls r = c := ⟨_, rfl⟩
            have hq4 := H4.out c hcc
            rw [hcc] at hq4 ⊢
            have f4 : (c == 4) = true := hq4.1.trans (by rw [← hcc]; exact g4)
            clear hq4 hcc g4
            go_wp2_with (first | (go_at_call 34; refine (hst _).mono ?_; rintro e w' ⟨rfl, rfl⟩) | (go_at_call 37; refine (hctl _).mono ?_; rintro e w' ⟨rfl, rfl⟩) | (go_at_call 39; refine (Tryd.sh_WriteByte w.heap.size w.heap.size _ _ _ hI3 (by rw [Lib.byteCells_length]; omega) (by omega)).mono ?_))
            rintro e W5 ⟨rfl, h5, b5, k5⟩
            have hit5 := k5.iter hit3 (by omega)
            have hs5 := b5.size
            clear hst hctl hit3 hI3
            go_wp2_with fail
            refine (Tryd.sh_WriteRune w.heap.size w.heap.size _ _ (by omega) (by omega) _ (Or.inr h5) (by simp [Lib.byteCells_length]; omega) (by omega)).mono ?_
            rintro e W1 ⟨rfl, h1, b1, k1⟩
            have hit4 := k1.iter hit5 (by omega)
            have hm4 : s.size - W1.iterPos (w.heap.size + 1) < s.size - wr.iterPos (w.heap.size + 1) := by rw [iterPos_of hit4]; exact HM.out
            have eU : Lib.byteCells (acc ++ U) = (Lib.byteCells acc ++ [Value.int .u8 37]) ++ Lib.runeCells r := by
              rw [HU.out, Lib.byteCells_append, ← Lib.byteCells_encodeRune]; simp [Lib.byteCells]
            have EU := Lib.hid eU
            have HM4 := Lib.hid hm4; clear hm4 h5 hit5 eU
            go_wp2
            go_roundw
            case rel =>
              refine ⟨pos + k, f, acc ++ U, by omega, ?_, hit4, (hbw3.trans b5).trans b1, by rw [← HA1.out]; simp, by omega, by simp; omega⟩
              rw [EU.out]; exact Or.inr h1
            case measure => exact HM4.out
          · have g4 : decide (cls r = 4) = false := by simpa using g4'
            have g5 : decide (cls r = 5) = true := by simpa using g5'
            clear g4' g5'
            go_wp2_with fail
            refine HC.out.mono ?_
            rintro e W3 ⟨rfl, hbf⟩
            have hI3 := builder_below hI2 hbf
            have hit3 := (hbf.block _ (lt_of_block hit2)).trans hit2
            have hbw3 : Below w.heap.size w W3 := hbw2.trans (hbf.mono (by omega))
            have hsz3 : w.heap.size + 1 < W3.heap.size := by have := hbf.size; omega
            clear hI2 hit2 hbw2 hbf hnx
            obtain ⟨c, hcc⟩ : ∃ c, cls r = c := ⟨_, rfl⟩
            have hq4 := H4.out c hcc
            rw [hcc] at hq4 ⊢
            have f4 : (c == 4) = false := hq4.1.trans (by rw [← hcc]; exact g4)
            have f5 : (c == 5) = true := hq4.2.trans (by rw [← hcc]; exact g5)
            clear hq4 hcc g4 g5
            go_wp2_with (first | (go_at_call 34; refine (hst _).mono ?_; rintro e w' ⟨rfl, rfl⟩) | (go_at_call 37; refine (hctl _).mono ?_; rintro e w' ⟨rfl, rfl⟩) | (go_at_call 39; refine (Tryd.sh_WriteByte w.heap.size w.heap.size _ _ _ hI3 (by rw [Lib.byteCells_length]; omega) (by omega)).mono ?_))
            rintro e W5 ⟨rfl, h5, b5, k5⟩
            have hit5 := k5.iter hit3 (by omega)
            have hs5 := b5.size
            clear hst hctl hit3 hI3
            go_wp2_with fail
            refine (Tryd.sh_WriteRune w.heap.size w.heap.size _ _ (by omega) (by omega) _ (Or.inr h5) (by simp [Lib.byteCells_length]; omega) (by omega)).mono ?_
            rintro e W1 ⟨rfl, h1, b1, k1⟩
            have hit4 := k1.iter hit5 (by omega)
            have hm4 : s.size - W1.iterPos (w.heap.size + 1) < s.size - wr.iterPos (w.heap.size + 1) := by rw [iterPos_of hit4]; exact HM.out
            have eU : Lib.byteCells (acc ++ U) = (Lib.byteCells acc ++ [Value.int .u8 37]) ++ Lib.runeCells r := by
              rw [HU.out, Lib.byteCells_append, ← Lib.byteCells_encodeRune]; simp [Lib.byteCells]
            have EU := Lib.hid eU
            have HM4 := Lib.hid hm4; clear hm4 h5 hit5 eU
            go_wp2
            go_roundw
            case rel =>
              refine ⟨pos + k, f, acc ++ U, by omega, ?_, hit4, (hbw3.trans b5).trans b1, by rw [← HA1.out]; simp, by omega, by simp; omega⟩
              rw [EU.out]; exact Or.inr h1
            case measure => exact HM4.out
        · have HU := Lib.hid (HPLAIN.out rfl rfl h45)
          clear HMARK HPLAIN
          have g4 : decide (cls r = 4) = false := by simp; exact fun h => h45 (Or.inl h)
          have g5 : decide (cls r = 5) = false := by simp; exact fun h => h45 (Or.inr h)
          go_wp2_with fail
          refine HC.out.mono ?_
          rintro e W3 ⟨rfl, hbf⟩
          have hI3 := builder_below hI2 hbf
          have hit3 := (hbf.block _ (lt_of_block hit2)).trans hit2
          have hbw3 : Below w.heap.size w W3 := hbw2.trans (hbf.mono (by omega))
          have hsz3 : w.heap.size + 1 < W3.heap.size := by have := hbf.size; omega
          clear hI2 hit2 hbw2 hbf hnx
          obtain ⟨c, hcc⟩ : ∃ c, cls r = c := ⟨_, rfl⟩
          have hq4 := H4.out c hcc
          rw [hcc] at hq4 ⊢
          have f4 : (c == 4) = false := hq4.1.trans (by rw [← hcc]; exact g4)
          have f5 : (c == 5) = false := hq4.2.trans (by rw [← hcc]; exact g5)
          clear hq4 hcc g4 g5 h45
          go_wp2_with (first | (go_at_call 34; refine (hst _).mono ?_; rintro e w' ⟨rfl, rfl⟩) | (go_at_call 37; refine (hctl _).mono ?_; rintro e w' ⟨rfl, rfl⟩) | (go_at_call 40; refine (Tryd.sh_WriteRune w.heap.size w.heap.size _ _ (by omega) (by omega) _ hI3 (by rw [Lib.byteCells_length]; omega) (by omega)).mono ?_))
          rintro e W1 ⟨rfl, h1, b1, k1⟩
          have hit4 := k1.iter hit3 (by omega)
          have hm4 : s.size - W1.iterPos (w.heap.size + 1) < s.size - wr.iterPos (w.heap.size + 1) := by rw [iterPos_of hit4]; exact HM.out
          have HM4 := Lib.hid hm4; clear hm4 hst hctl
          go_wp2
          go_roundw
          case rel =>
            refine ⟨pos + k, f, acc ++ Lib.encodeRune r, by omega, ?_, hit4, hbw3.trans b1, by rw [← HA1.out, HU.out]; simp, by omega, by simp; omega⟩
            rw [Lib.byteCells_append, Lib.byteCells_encodeRune]; exact Or.inr h1
          case measure => exact HM4.out
    · have hnx : ∀ ty, (Instr.next (.pointer (some ⟨w.heap.size + 1, 0, none⟩)) true ty).run Tryd.prog wr = _ := fun ty => Lib.run_next_end_at wr (w.heap.size + 1) s pos ty hit hp
      have ha := HACC.out
      rw [qFrom_end s fuel pos hp, List.append_nil] at ha
      have HA := Lib.hid ha; clear ha HACC
      go_wp2_with (go_at_call 41; refine (Tryd.sh_BString w.heap.size w.heap.size acc _ hI (by omega)).mono ?_)
      rintro e W1 ⟨rfl, _, b1, _⟩
      go_wp2
      go_ret
      exact ⟨by rw [HQ.out, ← HA.out]; rfl, hbw.trans b1⟩
end Go.Proofs.YtpockcolelfecaaDoor
