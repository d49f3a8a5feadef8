/- The program's Join, of at most 300 strings. -/
import Derived.Test.YtpockcolelfecaaDoorVc
set_option linter.unusedVariables false
set_option linter.unusedSimpArgs false
namespace Go.Proofs.YtpockcolelfecaaDoor
open Go.RowKit

set_option maxHeartbeats 4000000 in
theorem join_any (L : List ByteArray) (A : Option Addr) (ca : Nat) (w : World) (hl : L.length ≤ 300) (hr : Reads w w.heap.size 1 A L.length (L.map Value.string)) (hz : ∀ x ∈ L, x.size ≤ 9223372036854775800) (hT : Tabs w) :
    Calls Tryd.prog 22 #[.slice A L.length ca] w fun e w' => e = .returned (joinV L) ∧ Below w.heap.size w w' := by
  have HR := Lib.hid hr; have HZ := Lib.hid hz; have HT := Lib.hid hT
  have hval := fun (x : ByteArray) (h : x ∈ L) w hT => valid_any x w (by have := hz x h; omega) hT
  simp only [validS_eq] at hval
  have HV := Lib.hid hval
  clear hr hz hval hT
  go_enter Tryd.func22, Tryd.ntmps22
  go_wp2
  go_loopw [4, 12] (fun n i wr => ∃ (k m : Nat), i = .int .i64 k ∧ n = .int .i64 m ∧ k ≤ L.length ∧ m ≤ 4 * k ∧ (∀ y ∈ L.take k, vrD y = true) ∧ Below w.heap.size w wr) (fun _ i _ => L.length - (intOf i).toNat)
  case atStart => exact ⟨0, 0, rfl, rfl, by omega, by omega, by simp, Below.refl _ _⟩
  case round =>
    obtain ⟨k, m, rfl, rfl, hkl, hm, ha, hbr⟩ := hrel
    have HA := Lib.hid ha
    clear ha
    by_cases hk : k < L.length
    · obtain ⟨x, hx⟩ : ∃ x, L[k]? = some x := ⟨L[k], List.getElem?_eq_getElem hk⟩
      obtain ⟨ad, rfl, hb0, hcell0⟩ := str_at HR.out hx
      have hcell := (hbr.cell (by rw [block_of_add]; exact hb0)).trans hcell0
      clear hcell0
      have hmem : x ∈ L := List.mem_of_getElem? hx
      have hval := HV.out x hmem wr (HT.out.below hbr)
      have hxz := HZ.out x hmem
      have n1 : (k : Int) < (L.length : Int) := by omega
      cases hv : vrD x
      · rw [hv] at hval
        have HJ := Lib.hid (join_no L k x hx hv)
        clear hx hv hmem
        go_wp2_with fail
        refine hval.mono ?_
        rintro e w5 ⟨rfl, hb5⟩
        have hend := hbr.trans (hb5.mono hbr.size)
        clear hval hb5 hbr hcell
        go_wp2
        go_ret2
        exact ⟨by unfold joinV; rw [HJ.out]; rfl, hend⟩
      · rw [hv] at hval
        have h4 := (vr_pos x hv).2.1
        have HN := Lib.hid (all_take L k x hx hv HA.out)
        clear hx hv hmem hxz
        go_wp2_with fail
        refine hval.mono ?_
        rintro e w5 ⟨rfl, hb5⟩
        have hend := hbr.trans (hb5.mono hbr.size)
        clear hval hb5 hbr hcell
        go_wp2
        go_roundw
        case rel => exact ⟨k + 1, m + x.size, by go_num, by go_num, by omega, by omega, HN.out, hend⟩
        case measure => simp [intOf]; omega
    · have hall := take_all L k hk HA.out
      have HJ := Lib.hid (join_yes L hall)
      have f1 : decide ((16384 : Int) < (m : Int)) = false := by simp; omega
      have HALL := Lib.hid hall
      have hsz := hbr.size
      clear hall
      generalize wr = w1 at *
      go_wp2
      go_loopw [28] (fun i wq => ∃ (j : Nat), i = .int .i64 j ∧ j ≤ L.length ∧ Lib.IsBuilderF 45 5 w1.heap.size w1.heap.size (Lib.byteCells (flat (L.take j))) wq ∧ Below w1.heap.size w1 wq ∧ (flat (L.take j)).length ≤ 4 * j) (fun i _ => L.length - (intOf i).toNat)
      case atStart => exact ⟨0, rfl, by omega, Lib.IsBuilderF.of (Lib.fresh_isBuilder 45 5 w1), (Below.refl _ w1).alloc (Nat.le_refl _) _, by simp [flat]⟩
      case round =>
        obtain ⟨j, rfl, hjl, hI, hbq, hal⟩ := hrel
        by_cases hj : j < L.length
        · obtain ⟨x, hx⟩ : ∃ x, L[j]? = some x := ⟨L[j], List.getElem?_eq_getElem hj⟩
          obtain ⟨ad, rfl, hb0, hcell0⟩ := str_at HR.out hx
          have hcell1 := (hbr.cell (by rw [block_of_add]; exact hb0)).trans hcell0
          have hcell := (hbq.cell (by rw [block_of_add]; omega)).trans hcell1
          have h4 := (vr_pos x (HALL.out x (List.mem_of_getElem? hx))).2.1
          have n1 : (j : Int) < (L.length : Int) := by omega
          have HF := Lib.hid (flat_take L j x hx)
          have hsq := hbq.size
          clear hx hk hcell0 hcell1
          obtain ⟨acc, hacc⟩ : ∃ acc, flat (L.take j) = acc := ⟨_, rfl⟩
          rw [hacc] at hI hal
          have HACC := Lib.hid hacc
          clear hacc
          go_wp2_with (go_at_call 38; refine (Tryd.sh_WriteString w1.heap.size w1.heap.size _ _ _ hI (by rw [Lib.byteCells_length]; omega) (by omega)).mono ?_)
          rintro e W5 ⟨rfl, h5, b5, k5⟩
          have hfl : flat (L.take (j + 1)) = acc ++ x.data.toList := by rw [HF.out, HACC.out]
          have hI5 : Lib.IsBuilderF 45 5 w1.heap.size w1.heap.size (Lib.byteCells (flat (L.take (j + 1)))) W5 := by
            rw [hfl, Lib.byteCells_append, ← strCells_bytes]; exact Or.inr h5
          have hal5 : (flat (L.take (j + 1))).length ≤ 4 * (j + 1) := by rw [hfl, List.length_append, len_list]; omega
          have hb5 := hbq.trans b5
          have HO := Lib.hid hI5; have HL5 := Lib.hid hal5
          clear hI hI5 hal5 hfl h5 b5 k5 hbq
          go_wp2
          go_roundw
          case rel => exact ⟨j + 1, by go_num, by omega, HO.out, hb5, HL5.out⟩
          case measure => simp [intOf]; omega
        · rw [List.take_of_length_le (by omega)] at hI hal
          have hbe := hbr.trans (hbq.mono hsz)
          have hsq := hbq.size
          clear hk
          go_wp2_with (go_at_call 41; refine (Tryd.sh_BString w1.heap.size w1.heap.size (flat L) _ hI (by omega)).mono ?_)
          rintro e W1 ⟨rfl, _, b1, _⟩
          have hend := hbe.trans (b1.mono (by have := hbe.size; omega))
          clear hI hbq b1
          go_wp2
          go_ret2
          exact ⟨by unfold joinV; rw [HJ.out]; rfl, hend⟩
end Go.Proofs.YtpockcolelfecaaDoor
