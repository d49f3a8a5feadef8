/- Join and the reference's Join, of at most 300 strings. -/
import Derived.Test.YtpockcolelfecaaDoorWr
import Derived.Test.YtpockcolelfecaaDoorWw
import Derived.Test.YtpockcolelfecaaDoorPw
set_option linter.unusedVariables false
set_option linter.unusedSimpArgs false
namespace Go.Proofs.YtpockcolelfecaaDoor
open Go.RowKit

def joinV (L : List ByteArray) : Value := if joinB L then .tuple #[.string ⟨(flat L).toArray⟩, .int .i64 0] else .tuple #[.string ⟨#[]⟩, .int .i64 1]
theorem take_all (L : List ByteArray) (k : Nat) (h : ¬ k < L.length) (ha : ∀ y ∈ L.take k, vrD y = true) : ∀ y ∈ L, vrD y = true := by
  rw [List.take_of_length_le (by omega)] at ha; exact ha

set_option maxHeartbeats 4000000 in
theorem rjoin_any (L : List ByteArray) (A : Option Addr) (ca : Nat) (w : World) (hl : L.length ≤ 300) (hr : Reads w w.heap.size 1 A L.length (L.map Value.string)) (hz : ∀ x ∈ L, x.size ≤ 9223372036854775800) :
    Calls Tryd.prog 23 #[.slice A L.length ca] w fun e w' => e = .returned (joinV L) ∧ Below w.heap.size w w' := by
  obtain ⟨i0, hi, hz0, hz1, hz2⟩ := info_parts info_u8
  have HR := Lib.hid hr; have HZ := Lib.hid hz
  have hval := fun (x : ByteArray) (h : x ∈ L) w => rvalid_any x w (by have := hz x h; omega)
  simp only [vrS_eq] at hval
  have HV := Lib.hid hval
  clear hr hz hval
  go_enter Tryd.func23, Tryd.ntmps23
  go_wp2
  go_loop [4, 5] (fun n i => ∃ (k m : Nat), i = .int .i64 k ∧ n = .int .i64 m ∧ k ≤ L.length ∧ m ≤ 4 * k ∧ (∀ y ∈ L.take k, vrD y = true)) (fun _ i => L.length - (intOf i).toNat)
  case atStart => exact ⟨0, 0, rfl, rfl, by omega, by omega, by simp⟩
  case round =>
    obtain ⟨k, m, rfl, rfl, hkl, hm, ha⟩ := hrel
    have HA := Lib.hid ha
    clear ha
    by_cases hk : k < L.length
    · obtain ⟨x, hx⟩ : ∃ x, L[k]? = some x := ⟨L[k], List.getElem?_eq_getElem hk⟩
      obtain ⟨ad, rfl, hb0, hcell⟩ := str_at HR.out hx
      have hmem : x ∈ L := List.mem_of_getElem? hx
      have hval := HV.out x hmem
      have hxz := HZ.out x hmem
      have n1 : (k : Int) < (L.length : Int) := by omega
      cases hv : vrD x
      · rw [hv] at hval
        have HJ := Lib.hid (join_no L k x hx hv)
        clear hx hv hmem
        go_wp2_with (go_at_call 21; refine (hval _).mono ?_; rintro e w' ⟨rfl, rfl⟩)
        go_ret2
        exact ⟨by unfold joinV; rw [HJ.out]; rfl, Below.refl _ _⟩
      · rw [hv] at hval
        have h4 := (vr_pos x hv).2.1
        have HN := Lib.hid (all_take L k x hx hv HA.out)
        clear hx hv hmem hxz
        go_wp2_with (go_at_call 21; refine (hval _).mono ?_; rintro e w' ⟨rfl, rfl⟩)
        go_round
        case rel => exact ⟨k + 1, m + x.size, by go_num, by go_num, by omega, by omega, HN.out⟩
        case measure => simp [intOf]; omega
    · have hall := take_all L k hk HA.out
      have HJ := Lib.hid (join_yes L hall)
      have f1 : decide ((16384 : Int) < (m : Int)) = false := by simp; omega
      have HALL := Lib.hid hall
      clear hall
      go_wp2
      go_loopw [6, 7] (fun v i wr => ∃ (j : Nat) (v' : Value), v = v' ∧ i = .int .i64 j ∧ j ≤ L.length ∧ wr.ownsRow w.heap.size 5 1 v' (flat (L.take j)).length (Lib.byteCells (flat (L.take j))) ∧ Below w.heap.size w wr ∧ (flat (L.take j)).length ≤ 4 * j) (fun _ i _ => L.length - (intOf i).toNat)
      case atStart => exact ⟨0, _, rfl, rfl, by omega, World.ownsRow_nil _ _ _ _, Below.refl _ _, by simp [flat]⟩
      case round =>
        obtain ⟨j, v', hv', rfl, hjl, hown, hbr, hal⟩ := hrel
        replace hv' := hv'.symm
        subst hv'
        by_cases hj : j < L.length
        · obtain ⟨x, hx⟩ : ∃ x, L[j]? = some x := ⟨L[j], List.getElem?_eq_getElem hj⟩
          obtain ⟨ad, rfl, hb0, hcell0⟩ := str_at HR.out hx
          have hcell := (hbr.cell (by rw [block_of_add]; exact hb0)).trans hcell0
          clear hcell0
          have h4 := (vr_pos x (HALL.out x (List.mem_of_getElem? hx))).2.1
          have n1 : (j : Int) < (L.length : Int) := by omega
          have HF := Lib.hid (flat_take L j x hx)
          have hsz := hbr.size
          clear hx hk
          obtain ⟨acc, hacc⟩ : ∃ acc, flat (L.take j) = acc := ⟨_, rfl⟩
          rw [hacc] at hown hal
          have HACC := Lib.hid hacc
          clear hacc
          go_wp2_with (at_builtin; refine Lib.wpList_append_own_string _ rfl _ _ 43 9 rfl w.heap.size 5 i0 Tryd.underlying43 Tryd.underlying9 hi hz0 hz1 hz2 _ _ _ rfl hown x rfl ?c3 ?c4 ?c5 ?_)
          case c3 => unfold maxLen; omega
          case c4 => omega
          case c5 => exact hsz
          intro v2 W4 hown4 hg4 _
          have hbr4 := hbr.grown hg4 hsz (fun g e => (hown.lt g e).1)
          have hfl : flat (L.take (j + 1)) = acc ++ x.data.toList := by rw [HF.out, HACC.out]
          have hown5 : W4.ownsRow w.heap.size 5 1 v2 (flat (L.take (j + 1))).length (Lib.byteCells (flat (L.take (j + 1)))) := by
            rw [hfl, Lib.byteCells_append, List.length_append, len_list, ← strCells_bytes]; exact hown4
          have hal5 : (flat (L.take (j + 1))).length ≤ 4 * (j + 1) := by rw [hfl, List.length_append, len_list]; omega
          have HO := Lib.hid hown5; have HL5 := Lib.hid hal5
          clear hown4 hown hg4 hbr hown5 hal5 hfl
          go_wp2
          go_roundw
          case rel => exact ⟨j + 1, v2, rfl, by go_num, by omega, HO.out, hbr4, HL5.out⟩
          case measure => simp [intOf]; omega
        · rw [List.take_of_length_le (by omega)] at hown
          have hcv := conv_own hown
          clear hown hk
          go_wp2
          go_ret2
          exact ⟨by unfold joinV; rw [HJ.out]; rfl, hbr⟩
end Go.Proofs.YtpockcolelfecaaDoor
