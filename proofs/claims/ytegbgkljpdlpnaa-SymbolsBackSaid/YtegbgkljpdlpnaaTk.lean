/- The program's Text, by contract. -/
import Derived.Test.YtegbgkljpdlpnaaTj
import Derived.Test.YtegbgkljpdlpnaaSh
set_option linter.unusedVariables false
set_option linter.unusedSimpArgs false
namespace Go.Proofs.Ytegbgkljpdlpnaa
open Go.RowKit

theorem builderAt_below {T e : TypeId} {B b : Nat} {p : Value} {bs : List Value} {w w' : World} (h : Lib.BuilderAtF T e B b p bs w) (hbl : Below w.heap.size w w') : Lib.BuilderAtF T e B b p bs w' := by
  obtain ⟨hB, v, hb, hown, hne⟩ := h
  refine ⟨hB, v, (hbl.block b (Array.getElem?_eq_some_iff.1 hb).1).trans hb, ⟨hown.1, ?_⟩, hne⟩
  rcases hown.2 with hn | ⟨g, cap, cur, fz, hv, hbg, hg, rest⟩
  · exact .inl hn
  · exact .inr ⟨g, cap, cur, fz, hv, hbg, (hbl.block g (Array.getElem?_eq_some_iff.1 hg).1).trans hg, rest⟩
theorem builder_below {T e : TypeId} {B b : Nat} {bs : List Value} {w w' : World} (h : Lib.IsBuilderF T e B b bs w) (hbl : Below w.heap.size w w') : Lib.IsBuilderF T e B b bs w' :=
  h.elim (fun x => .inl (builderAt_below x hbl)) (fun x => .inr (builderAt_below x hbl))
theorem strCells_bytes (s : ByteArray) : Lib.strCells s = Lib.byteCells s.data.toList := rfl
/-- An element of a row of numbers. -/
theorem row_int {w : World} {A : Option Addr} {X : List Int} {k : Nat} (h : Reads w w.heap.size 1 A X.length (X.map vInt)) (hk : k < X.length) :
    ∃ ad z, A = some ad ∧ ad.block < w.heap.size ∧ X[k]? = some z ∧ w.cell? (ad.add k) = some (.int .i64 z) := by
  have hx : X[k]? = some X[k] := List.getElem?_eq_getElem hk
  obtain ⟨ad, u, hA, hb, hu, hc⟩ := h.at_ hk
  rw [List.getElem?_map, hx] at hu
  simp at hu
  subst hu
  exact ⟨ad, _, hA, hb, hx, hc⟩

/-- A word of a table of n names. -/
def wordB (n : Nat) (X : List Int) : Bool := decide (X.length ≤ 200) && X.all (hasB n)
/-- The name of a symbol; its letters one after the other. -/
def nameOf (L : List ByteArray) (s : Int) : ByteArray := L.getD (s - 1).toNat ⟨#[]⟩
def namesD (L : List ByteArray) (X : List Int) : List UInt8 := X.flatMap (fun s => (nameOf L s).data.toList)
theorem namesD_snoc (L : List ByteArray) (X : List Int) (s : Int) : namesD L (X ++ [s]) = namesD L X ++ (nameOf L s).data.toList := by unfold namesD; simp
/-- What Text answers. -/
def textV (L : List ByteArray) (X : List Int) : Value := if tableB L && wordB L.length X then .tuple #[.string ⟨(namesD L X).toArray⟩, .int .i64 0] else .tuple #[.string ⟨#[]⟩, .int .i64 1]
theorem hasB_idx {n : Nat} {s : Int} (h : hasB n s = true) : ∃ k : Nat, s - 1 = (k : Int) ∧ k < n ∧ (s - 1).toNat = k := by
  unfold hasB at h
  simp only [Bool.and_eq_true, decide_eq_true_eq] at h
  exact ⟨(s - 1).toNat, by omega, by omega, rfl⟩
theorem word_at {n : Nat} {X : List Int} (h : wordB n X = true) {k : Nat} {z : Int} (hz : X[k]? = some z) : hasB n z = true := by
  unfold wordB at h
  simp only [Bool.and_eq_true, List.all_eq_true] at h
  exact h.2 z (List.mem_of_getElem? hz)

set_option maxHeartbeats 4000000 in
theorem text_any {w : World} {v x : Value} {L : List ByteArray} {X : List Int} (hv : StrSl w v L) (hx : IntSl w x X) (hl : L.length ≤ maxLen) (hxl : X.length ≤ maxLen) :
    Calls Try.prog 15 #[v, x] w (ValPost (textV L X) w) := by
  have hva := valid_any hv hl
  cases hT : tableB L
  · rw [hT] at hva
    have hV : textV L X = .tuple #[.string ⟨#[]⟩, .int .i64 1] := by unfold textV; rw [hT]; rfl
    rw [hV]
    clear hV hT hv hx
    go_enter Try.func15, Try.ntmps15
    go_wp2_with fail
    refine hva.mono ?_
    rintro e w1 ⟨rfl, hb⟩
    go_wp2
    go_ret2
    exact ⟨rfl, hb⟩
  rw [hT] at hva
  have hgood := (tableB_iff.1 hT).2
  have h500 := (tableB_iff.1 hT).1
  obtain ⟨A, ca, rfl, hr⟩ := hv
  obtain ⟨C, cc, rfl, hrx⟩ := hx
  by_cases hbig : 200 < X.length
  · have f2 : decide ((200 : Int) < (X.length : Int)) = true := by simp; omega
    have hV : textV L X = .tuple #[.string ⟨#[]⟩, .int .i64 1] := by unfold textV wordB; rw [show decide (X.length ≤ 200) = false by simp; omega]; simp
    rw [hV]
    clear hV hT hr hrx hgood
    go_enter Try.func15, Try.ntmps15
    go_wp2_with fail
    refine hva.mono ?_
    rintro e w1 ⟨rfl, hb⟩
    go_wp2
    go_ret2
    exact ⟨rfl, hb⟩
  have f2 : decide ((200 : Int) < (X.length : Int)) = false := by simp; omega
  have hh := fun (s : Int) (w : World) => has_any A L.length ca s w
  have hV : textV L X = if wordB L.length X then .tuple #[.string ⟨(namesD L X).toArray⟩, .int .i64 0] else .tuple #[.string ⟨#[]⟩, .int .i64 1] := by unfold textV; rw [hT]; simp
  have HV := Lib.hid hV; have HG := Lib.hid hgood; have HR := Lib.hid hr; have HRX := Lib.hid hrx; have HH := Lib.hid hh
  clear hV hT hgood hr hrx hh
  go_enter Try.func15, Try.ntmps15
  go_wp2_with fail
  refine hva.mono ?_
  rintro e w1 ⟨rfl, hb⟩
  go_wp2
  go_loopw [19] (fun i wr => ∃ j : Nat, i = .int .i64 j ∧ j ≤ X.length ∧ (∀ m, m < j → ∀ z, X[m]? = some z → hasB L.length z = true) ∧ Lib.IsBuilderF 57 5 w1.heap.size w1.heap.size (Lib.byteCells (namesD L (X.take j))) wr ∧ Below w1.heap.size w1 wr ∧ (namesD L (X.take j)).length ≤ 40 * j) (fun i _ => X.length - (intOf i).toNat)
  case atStart => exact ⟨0, rfl, by omega, fun m hm => by omega, Lib.IsBuilderF.of (Lib.fresh_isBuilder 57 5 w1), (Below.refl _ w1).alloc (Nat.le_refl _) _, by simp [namesD]⟩
  case round =>
    obtain ⟨j, rfl, hj, hall, hI, hbq, hal⟩ := hrel
    have HALL := Lib.hid hall
    have hb1 := hb.size
    have hbq1 := hbq.size
    clear hall
    by_cases hlt : j < X.length
    · obtain ⟨ax, z, rfl, haxb, hz, hcz0⟩ := row_int HRX.out hlt
      have hcz : wr.cell? (ax.add j) = some (.int .i64 z) := (hbq.cell (by rw [block_of_add]; omega)).trans ((hb.cell (by rw [block_of_add]; exact haxb)).trans hcz0)
      have n1 : (j : Int) < (X.length : Int) := by omega
      have n2 : IntKind.i64.wrap ((j : Int) + 1) = (j : Int) + 1 := by rw [IntKind.wrap_i64]; omega
      have hhz := HH.out z
      cases hH : hasB L.length z
      · rw [hH] at hhz
        have hV := HV.out
        rw [if_neg (by intro h; rw [word_at h hz] at hH; cases hH)] at hV
        have HV2 := Lib.hid hV
        have HBB := Lib.hid (hb.trans (hbq.mono hb1))
        clear hV HV hI hbq hal hcz0 hz
        go_wp2_with fail
        refine (hhz _).mono ?_
        rintro e w' ⟨rfl, rfl⟩
        go_wp2
        go_ret2
        exact ⟨by rw [HV2.out]; rfl, HBB.out⟩
      · rw [hH] at hhz
        obtain ⟨k, hk1, hk2, hk3⟩ := hasB_idx hH
        obtain ⟨ad, s, hA, hadb, hs, hcs0⟩ := row_str HR.out hk2
        subst hA
        have hcs : wr.cell? (ad.add k) = some (.string s) := (hbq.cell (by rw [block_of_add]; omega)).trans ((hb.cell (by rw [block_of_add]; exact hadb)).trans hcs0)
        have n3 : IntKind.i64.wrap (z - 1) = (k : Int) := by rw [IntKind.wrap_i64]; omega
        have n4 : (k : Int) < (L.length : Int) := by omega
        have hs40 := (nameB_size ((goodB_iff.1 HG.out).1 s (List.mem_of_getElem? hs))).2
        have hno : nameOf L z = s := by unfold nameOf; rw [hk3, List.getD_eq_getElem?_getD, hs]; rfl
        have hnx : namesD L (X.take (j + 1)) = namesD L (X.take j) ++ s.data.toList := by rw [take_snoc hz, namesD_snoc, hno]
        have HNX := Lib.hid hnx
        have HALL2 : Hid (∀ m, m < j + 1 → ∀ z, X[m]? = some z → hasB L.length z = true) := Lib.hid (fun m hm y hy => by
          by_cases e : m = j
          · subst e; rw [hz] at hy; cases hy; exact hH
          · exact HALL.out m (by omega) y hy)
        obtain ⟨acc, hacc⟩ : ∃ acc, namesD L (X.take j) = acc := ⟨_, rfl⟩
        rw [hacc] at hI hal
        have HACC := Lib.hid hacc
        clear hnx hacc hno hs hz hk1 hk3 hcs0 hcz0 hH
        go_wp2_with fail
        refine (hhz _).mono ?_
        rintro e w' ⟨rfl, rfl⟩
        go_wp2_with (go_at_call 34; refine (Try.sh_WriteString w1.heap.size w1.heap.size _ _ _ hI (by rw [Lib.byteCells_length]; omega) (by omega)).mono ?_)
        rintro e W5 ⟨rfl, h5, b5, k5⟩
        have hfl : namesD L (X.take (j + 1)) = acc ++ s.data.toList := by rw [HNX.out, HACC.out]
        have hI5 : Lib.IsBuilderF 57 5 w1.heap.size w1.heap.size (Lib.byteCells (namesD L (X.take (j + 1)))) W5 := by
          rw [hfl, Lib.byteCells_append, ← strCells_bytes]; exact Or.inr h5
        have hal5 : (namesD L (X.take (j + 1))).length ≤ 40 * (j + 1) := by rw [hfl, List.length_append, len_list]; omega
        have hb5 := hbq.trans b5
        have HO := Lib.hid hI5; have HL5 := Lib.hid hal5
        clear hI hI5 hal5 hfl h5 b5 k5 hbq
        go_wp2
        go_roundw
        case rel => exact ⟨j + 1, by go_num, by omega, HALL2.out, HO.out, hb5, HL5.out⟩
        case measure => simp [intOf]; omega
    · have n1 : ¬ (j : Int) < (X.length : Int) := by omega
      have hw : wordB L.length X = true := by
        unfold wordB
        simp only [Bool.and_eq_true, decide_eq_true_eq, List.all_eq_true]
        refine ⟨by omega, fun z hz => ?_⟩
        obtain ⟨m, hm⟩ := List.mem_iff_getElem?.1 hz
        exact HALL.out m (by have := (List.getElem?_eq_some_iff.1 hm).1; omega) z hm
      have hV := HV.out
      rw [if_pos hw] at hV
      have HV2 := Lib.hid hV
      rw [List.take_of_length_le (by omega)] at hI hal
      have hbe := hb.trans (hbq.mono hb1)
      clear hV HV hw
      go_wp2_with (go_at_call 35; refine (Try.sh_BString w1.heap.size w1.heap.size (namesD L X) _ hI (by omega)).mono ?_)
      rintro e W1 rfl _ b1 _
      have hend := Lib.hid (hbe.trans (b1.mono (by have := hbe.size; omega)))
      clear hI hbq b1
      go_wp2
      go_ret2
      exact ⟨by rw [HV2.out]; rfl, hend.out⟩
end Go.Proofs.Ytegbgkljpdlpnaa
