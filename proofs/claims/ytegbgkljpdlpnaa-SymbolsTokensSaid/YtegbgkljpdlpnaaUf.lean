/- The reference's Text, by contract. -/
import Derived.Test.YtegbgkljpdlpnaaUe
import Derived.Laws.BytesArg
set_option linter.unusedVariables false
set_option linter.unusedSimpArgs false
namespace Go.Proofs.Ytegbgkljpdlpnaa
open Go.RowKit

/-- string(b), b a row of bytes of the call's own. -/
theorem conv_own {w : World} {base : Nat} {v : Value} {l : List UInt8} (h : w.ownsRow base 5 1 v l.length (Lib.byteCells l)) :
    (convert 55 9 v).run Try.prog w = .ok (.string ⟨l.toArray⟩) w := by
  rcases h.2 with ⟨hv, hn⟩ | ⟨g, cap, cur, hv, _⟩
  · have : l = [] := List.length_eq_zero_iff.1 hn
    subst this
    rw [hv]
    have hz : ∀ w : World, (convert 55 9 (.slice none 0 0)).run Try.prog w = .ok (.string ⟨#[]⟩) w := fun w => by kernel_rfl
    exact hz w
  · rw [hv] at h ⊢
    refine run_convert_bytes_back w 55 9 5 ⟨g, 0, none⟩ cap l Try.underlying55 Try.underlying5 Try.underlying9 (fun j hj => ?_)
    refine h.cells (g := g) rfl j _ ?_
    unfold Lib.byteCells
    rw [List.getElem?_map, List.getElem?_eq_getElem hj]; rfl

set_option maxHeartbeats 4000000 in
theorem rtext_any {w : World} {v x : Value} {L : List ByteArray} {X : List Int} (hv : StrSl w v L) (hx : IntSl w x X) (hl : L.length ≤ maxLen) (hxl : X.length ≤ maxLen) :
    Calls Try.prog 29 #[v, x] w (ValPost (textV L X) w) := by
  obtain ⟨i0, hi, hz0, hz1, hz2⟩ := info_parts info_u8
  have hva := rvalid5_any hv hl
  cases hT : tableB L
  · rw [hT] at hva
    have hV : textV L X = .tuple #[.string ⟨#[]⟩, .int .i64 1] := by unfold textV; rw [hT]; rfl
    rw [hV]
    clear hV hT hv hx
    go_enter Try.func29, Try.ntmps29
    go_wp2_with fail
    refine hva.mono ?_
    rintro e w1 ⟨rfl, hb⟩
    go_wp2
    go_ret2
    exact ⟨rfl, hb⟩
  rw [hT] at hva
  have hgood := (tableB_iff.1 hT).2
  have h500 := (tableB_iff.1 hT).1
  obtain ⟨A, ca, rfl, hr⟩ := hv
  have hw := fun w' (h : Below w.heap.size w w') => rword_any A L.length ca (hx.below h) hxl
  obtain ⟨C, cc, rfl, hrx⟩ := hx
  cases hW : wordB L.length X
  · rw [hW] at hw
    have hV : textV L X = .tuple #[.string ⟨#[]⟩, .int .i64 1] := by unfold textV; rw [hW]; simp
    rw [hV]
    have HW := Lib.hid hw
    clear hV hT hW hr hrx hgood hw
    go_enter Try.func29, Try.ntmps29
    go_wp2_with fail
    refine hva.mono ?_
    rintro e w1 ⟨rfl, hb⟩
    go_wp2_with fail
    refine (HW.out _ hb).mono ?_
    rintro e w2 ⟨rfl, rfl⟩
    go_wp2
    go_ret2
    exact ⟨rfl, hb⟩
  rw [hW] at hw
  have hV : textV L X = .tuple #[.string ⟨(namesD L X).toArray⟩, .int .i64 0] := by unfold textV; rw [hT, hW]; rfl
  have h200 : X.length ≤ 200 := by unfold wordB at hW; simp only [Bool.and_eq_true, decide_eq_true_eq] at hW; exact hW.1
  have HV := Lib.hid hV; have HG := Lib.hid hgood; have HR := Lib.hid hr; have HRX := Lib.hid hrx; have HW := Lib.hid hw; have HWB := Lib.hid hW
  clear hV hT hW hgood hr hrx hw
  go_enter Try.func29, Try.ntmps29
  go_wp2_with fail
  refine hva.mono ?_
  rintro e w1 ⟨rfl, hb⟩
  go_wp2_with fail
  refine (HW.out _ hb).mono ?_
  rintro e w2 ⟨rfl, rfl⟩
  have HB := Lib.hid hb
  have hbs := hb.size
  clear hva hb HW
  go_wp2
  go_loopw [6, 7] (fun v i wr => ∃ j : Nat, i = .int .i64 j ∧ j ≤ X.length ∧ wr.ownsRow w.heap.size 5 1 v (namesD L (X.take j)).length (Lib.byteCells (namesD L (X.take j))) ∧ Below w.heap.size w wr ∧ (namesD L (X.take j)).length ≤ 40 * j) (fun _ i _ => X.length - (intOf i).toNat)
  case atStart => exact ⟨0, rfl, by omega, World.ownsRow_nil _ _ _ _, HB.out, by simp [namesD]⟩
  case round =>
    obtain ⟨j, rfl, hj, hown, hb, hal⟩ := hrel
    have hbz := hb.size
    by_cases hlt : j < X.length
    · obtain ⟨ax, z, rfl, haxb, hz, hcz0⟩ := row_int HRX.out hlt
      have hcz : wr.cell? (ax.add j) = some (.int .i64 z) := (hb.cell (by rw [block_of_add]; exact haxb)).trans hcz0
      have n1 : (j : Int) < (X.length : Int) := by omega
      have n2 : IntKind.i64.wrap ((j : Int) + 1) = (j : Int) + 1 := by rw [IntKind.wrap_i64]; omega
      have hH := word_at HWB.out hz
      obtain ⟨k, hk1, hk2, hk3⟩ := hasB_idx hH
      obtain ⟨ad, s, hA, hadb, hs, hcs0⟩ := row_str HR.out hk2
      subst hA
      have hcs : wr.cell? (ad.add k) = some (.string s) := (hb.cell (by rw [block_of_add]; exact hadb)).trans hcs0
      have n3 : IntKind.i64.wrap (z - 1) = (k : Int) := by rw [IntKind.wrap_i64]; omega
      have n4 : (k : Int) < (L.length : Int) := by omega
      have hs40 := (nameB_size ((goodB_iff.1 HG.out).1 s (List.mem_of_getElem? hs))).2
      have hno : nameOf L z = s := by unfold nameOf; rw [hk3, List.getD_eq_getElem?_getD, hs]; rfl
      have hnx : namesD L (X.take (j + 1)) = namesD L (X.take j) ++ s.data.toList := by rw [take_snoc hz, namesD_snoc, hno]
      have HNX := Lib.hid hnx
      obtain ⟨acc, hacc⟩ : ∃ acc, namesD L (X.take j) = acc := ⟨_, rfl⟩
      rw [hacc] at hown hal
      have HACC := Lib.hid hacc
      have HB4 := Lib.hid hb
      clear hnx hacc hno hs hz hk1 hk3 hcs0 hcz0 hH hb
      go_wp2_with (at_builtin; refine Lib.wpList_append_own_string _ rfl _ _ 55 9 rfl w.heap.size 5 i0 Try.underlying55 Try.underlying9 hi hz0 hz1 hz2 _ _ _ rfl hown s rfl ?c3 ?c4 ?c5 ?_)
      case c3 => unfold maxLen; omega
      case c4 => omega
      case c5 => exact hbz
      intro v2 W4 hown4 hg4 _
      have hbr4 := HB4.out.grown hg4 hbz (fun g e => (hown.lt g e).1)
      have hfl : namesD L (X.take (j + 1)) = acc ++ s.data.toList := by rw [HNX.out, HACC.out]
      have hown5 : W4.ownsRow w.heap.size 5 1 v2 (namesD L (X.take (j + 1))).length (Lib.byteCells (namesD L (X.take (j + 1)))) := by
        rw [hfl, Lib.byteCells_append, List.length_append, len_list, ← strCells_bytes]; exact hown4
      have hal5 : (namesD L (X.take (j + 1))).length ≤ 40 * (j + 1) := by rw [hfl, List.length_append, len_list]; omega
      have HO := Lib.hid hown5; have HL5 := Lib.hid hal5; have HB5 := Lib.hid hbr4
      clear hown4 hown hg4 hbr4 hown5 hal5 hfl
      go_wp2
      go_roundw
      case rel => exact ⟨j + 1, by go_num, by omega, HO.out, HB5.out, HL5.out⟩
      case measure => simp [intOf]; omega
    · have n1 : ¬ (j : Int) < (X.length : Int) := by omega
      rw [List.take_of_length_le (by omega)] at hown hal
      have hcv := conv_own hown
      have HB4 := Lib.hid hb
      clear hb hown
      go_wp2
      go_ret2
      exact ⟨by rw [HV.out]; rfl, HB4.out⟩
end Go.Proofs.Ytegbgkljpdlpnaa
