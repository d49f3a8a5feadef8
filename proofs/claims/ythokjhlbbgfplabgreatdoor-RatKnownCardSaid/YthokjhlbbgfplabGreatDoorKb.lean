/- RatKnown: the walk. -/
import Derived.Test.YthokjhlbbgfplabGreatDoorKa
set_option linter.unusedVariables false
set_option linter.unusedSimpArgs false
namespace Go.Proofs.YthokjhlbbgfplabGreatDoor
open Go.RowKit
open Go.ChangeMaps (setBlock)
open Go.Lib (nDigits decDigits)

def valsOf (l : List ByteArray) : Array Value := (l.map Value.string).toArray
theorem vals_at (l : List ByteArray) (k : Nat) (S : ByteArray) (h : l[k]? = some S) : (valsOf l)[k]? = some (.string S) := by unfold valsOf; simp [h]
structure KnownCalls (T B T0 : ByteArray) : Prop where
  c1 : ∀ w, Calls Tryz.prog 7 #[.string T, .string ⟨#[49, 48]⟩] w (ValPost (.tuple #[.string ⟨#[]⟩, .int .i64 2]) w)
  c2 : ∀ w, Calls Tryz.prog 8 #[.string ⟨#[49]⟩, .string T] w (ValPost (.tuple #[.string B, .int .i64 0]) w)
  c3 : ∀ w, Calls Tryz.prog 7 #[.string B, .string ⟨#[49, 47, 49, 48]⟩] w (ValPost (.tuple #[.string ⟨#[]⟩, .int .i64 2]) w)
  c4 : ∀ w, Calls Tryz.prog 4 #[.string T0] w (ValPost (.tuple #[.string ⟨#[]⟩, .int .i64 2]) w)
  c5 : ∀ w, Calls Tryz.prog 7 #[.string T, .string B] w (ValPost (.tuple #[.string ⟨#[49]⟩, .int .i64 0]) w)
  c6 : ∀ w, Calls Tryz.prog 9 #[.string ⟨#[50, 47, 51]⟩] w (ValPost (.tuple #[.string ⟨#[45, 50, 47, 51]⟩, .int .i64 0]) w)
  c7 : ∀ w, Calls Tryz.prog 9 #[.string ⟨#[50, 47, 54]⟩] w (ValPost (.tuple #[.string ⟨#[]⟩, .int .i64 1]) w)
  c8 : ∀ w, Calls Tryz.prog 10 #[.bool false, .string ⟨#[49]⟩, .string ⟨#[48]⟩] w (ValPost (.tuple #[.string ⟨#[]⟩, .int .i64 1]) w)
  c9 : ∀ w, Calls Tryz.prog 10 #[.bool true, .string ⟨#[48]⟩, .string ⟨#[53]⟩] w (ValPost (.tuple #[.string ⟨#[48]⟩, .int .i64 0]) w)
  v1 : ValidIs T true
  v2 : ValidIs T0 false
theorem knownCalls : KnownCalls (tenB 399) (⟨#[49, 47]⟩ ++ tenB 399) (tenB 400) := by
  refine ⟨fun w => ?_, fun w => ?_, fun w => ?_, fun w => ?_, fun w => ?_, fun w => ?_, fun w => ?_, fun w => ?_, fun w => ?_, fun w => ratvalid_yes r_ten w, fun w => ratvalid_no (not_by (by decide +kernel)) (by rw [ten_size]; decide) w⟩
  · have h := mul_rat r_ten r_10 w
    rw [finV_long (show ¬ Short (mkRat (10 ^ 399) 1 * mkRat 10 1) by decide +kernel)] at h
    exact h
  · have h := div_rat r_1 r_ten (by decide +kernel) w
    rw [show mkRat 1 1 / mkRat (10 ^ 399) 1 = mkRat 1 (10 ^ 399) by decide +kernel, finV_rat r_tenth] at h
    exact h
  · have h := mul_rat r_tenth r_1_10 w
    rw [finV_long (show ¬ Short (mkRat 1 (10 ^ 399) * mkRat 1 10) by decide +kernel)] at h
    exact h
  · have hr := rest_size (tenB 400)
    have hs := ten_size 400
    have h := parse_any (tenB 400) w (by omega) (ix_ascii _ (by rw [list_size]; omega) (by rw [list_back]; exact all_ascii (by decide +kernel)))
    have e : parseV (tenB 400) = finV (mkRat (sg (negA (tenB 400)) (10 ^ 400)) 1) := by
      unfold parseV
      rw [show numeralP (restA (tenB 400)) = some (10 ^ 400, 1) by decide +kernel]
      simp only [if_neg (show ¬ 900 < (tenB 400).size by omega)]
    rw [e, finV_long (by decide +kernel)] at h
    exact h
  · have h := mul_rat r_ten r_tenth w
    rw [show mkRat (10 ^ 399) 1 * mkRat 1 (10 ^ 399) = mkRat 1 1 by decide +kernel, finV_rat r_1] at h
    exact h
  · have h := ratneg_yes r_2_3 w
    rw [show ratS (-mkRat 2 3) = ⟨#[45, 50, 47, 51]⟩ by decide +kernel] at h
    exact h
  · exact ratneg_no (not_by (by decide +kernel)) (by decide) w
  · have h := make_any false ⟨#[49]⟩ ⟨#[48]⟩ w (by decide) (by decide)
    have e : makeV false ⟨#[49]⟩ ⟨#[48]⟩ = errV 1 := by
      unfold makeV
      rw [show nv ⟨#[48]⟩ = 0 by decide +kernel]
      simp [errV]
    rw [e] at h
    exact h
  · have h := make_any true ⟨#[48]⟩ ⟨#[53]⟩ w (by decide) (by decide)
    have e : makeV true ⟨#[48]⟩ ⟨#[53]⟩ = finV (mkRat (sg true 0) 5) := by
      unfold makeV
      rw [show numB ⟨#[48]⟩ = true by decide +kernel, show numB ⟨#[53]⟩ = true by decide +kernel, show nv ⟨#[48]⟩ = 0 by decide +kernel, show nv ⟨#[53]⟩ = 5 by decide +kernel]
      rfl
    rw [e, show mkRat (sg true 0) 5 = mkRat 0 1 by decide +kernel, finV_rat r_0] at h
    exact h

set_option maxRecDepth 100000 in
set_option maxHeartbeats 4000000 in
theorem known_any (w : World) :
    Calls Tryz.prog 3 #[] w (LawPost w) := by
  have hm := fun w : World => run_makeMap (P := Tryz.prog) 22 w
  obtain ⟨i1, i2, i3, i4, i5, i6, i7⟩ := inserts w
  have hr := run_range_map (P := Tryz.prog) (w.alloc (.map es7 7)) 22 9 9 w.heap.size es7 7 Tryz.underlying22 (heap_alloc_new _ _)
  go_enter Tryz.func3, Tryz.ntmps3
  go_wp2
  clear i1 i2 i3 i4 i5 i6 i7 hr hm
  go_loopg [1, 2, 3, 4] 7 (fun g _ _ _ _ wx => ∃ (seen : Array Nat) (c0 : Nat), (leftOf es7 seen).size ≤ g ∧ wx.heap[w.heap.size + 1]? = some (.mapIter (some w.heap.size) 7 seen c0) ∧ wx.heap[w.heap.size]? = some (.map es7 7) ∧ 7 ≤ c0 ∧ w.grownBy wx none)
  case atStart =>
    refine ⟨#[], 7, by decide +kernel, ?_, ?_, Nat.le_refl _, grown_trans (World.grownBy_alloc _ _ none) (World.grownBy_alloc _ _ none)⟩
    · exact block_at _ _ _ (by simp)
    · rw [block_old _ _ _ (by simp)]; exact block_at _ _ _ rfl
  case round =>
    obtain ⟨seen, c0, hls, hri, hbi, hsc, hgr⟩ := hrel
    have HGR := Lib.hid hgr
    rcases run_next_at (P := Tryz.prog) wr 0 (w.heap.size + 1) w.heap.size 7 c0 seen es7 7 hri hbi es_born.1 hsc with ⟨h0, hn⟩ | ⟨e, he, w1, hw1, hn⟩
    · clear hri hbi hsc hgr hls h0
      go_wp2
      generalize hwa : wr = wa at *
      have hrow : (wa.alloc (.cells (valsOf bads) 9)).heap[wa.heap.size]? = some (.cells (valsOf bads) 9 (0, 0)) := new_block _ _
      clear hwa
      go_loopw [50] (fun i wr => ∃ k : Nat, i = .int .i64 k ∧ k ≤ 11 ∧ wr.heap[wa.heap.size]? = some (.cells (valsOf bads) 9 (0, 0)) ∧ w.grownBy wr none) (fun i _ => 11 - (intOf i).toNat)
      case atStart => exact ⟨0, rfl, by omega, hrow, grown_trans HGR.out (World.grownBy_alloc _ _ none)⟩
      case round =>
        obtain ⟨k, rfl, hk, hrw, hgr⟩ := hrel
        clear hrow HGR
        have HGR := Lib.hid hgr
        by_cases hlt : (k : Int) < 11
        · obtain ⟨S, hS⟩ : ∃ S, bads[k]? = some S := ⟨_, List.getElem?_eq_getElem (show k < bads.length by show k < 11; omega)⟩
          have hcell : wr.cell? ⟨wa.heap.size, k, none⟩ = some (.string S) := by rw [cell_of_row _ _ _ _ _ (0, 0) hrw]; exact vals_at _ _ _ hS
          have HP := Lib.hid (parse_bads S (List.mem_of_getElem? hS))
          unfold errV at HP
          go_wp2_with fail
          refine (HP.out _).mono ?_
          rintro e1 w3 ⟨rfl, hg⟩
          have HG1 := Lib.hid hg; have HRW := Lib.hid hrw
          clear hg hrw hgr hS hcell
          go_wp2
          go_roundw
          case rel => exact ⟨k + 1, by go_num, by omega, (HG1.out.block _ (lt_of_block HRW.out) (by simp)).trans HRW.out, grown_trans HGR.out HG1.out⟩
          case measure => simp [intOf]; omega
        · clear hrw hgr
          go_wp2
          generalize hwa : wr = wa at *
          have hrow : (wa.alloc (.cells (valsOf nots) 9)).heap[wa.heap.size]? = some (.cells (valsOf nots) 9 (0, 0)) := new_block _ _
          clear hwa
          go_loopw [68] (fun i wr => ∃ k : Nat, i = .int .i64 k ∧ k ≤ 10 ∧ wr.heap[wa.heap.size]? = some (.cells (valsOf nots) 9 (0, 0)) ∧ w.grownBy wr none) (fun i _ => 10 - (intOf i).toNat)
          case atStart => exact ⟨0, rfl, by omega, hrow, grown_trans HGR.out (World.grownBy_alloc _ _ none)⟩
          case round =>
            obtain ⟨k, rfl, hk, hrw, hgr⟩ := hrel
            clear hrow HGR
            have HGR := Lib.hid hgr
            by_cases hlt : (k : Int) < 10
            · obtain ⟨S, hS⟩ : ∃ S, nots[k]? = some S := ⟨_, List.getElem?_eq_getElem (show k < nots.length by show k < 10; omega)⟩
              have hcell : wr.cell? ⟨wa.heap.size, k, none⟩ = some (.string S) := by rw [cell_of_row _ _ _ _ _ (0, 0) hrw]; exact vals_at _ _ _ hS
              have HP := Lib.hid (valid_nots S (List.mem_of_getElem? hS))
              go_wp2_with fail
              refine (HP.out _).mono ?_
              rintro e1 w3 ⟨rfl, hg⟩
              have HG1 := Lib.hid hg; have HRW := Lib.hid hrw
              clear hg hrw hgr hS hcell
              go_wp2
              go_roundw
              case rel => exact ⟨k + 1, by go_num, by omega, (HG1.out.block _ (lt_of_block HRW.out) (by simp)).trans HRW.out, grown_trans HGR.out HG1.out⟩
              case measure => simp [intOf]; omega
            · clear hrw hgr
              go_wp2
              generalize hwa : wr = wb at *
              clear hwa
              go_loop [11] (fun v => ∃ k : Nat, v = .string (tenB k) ∧ k ≤ 399) (fun v => match v with | .string t => 400 - t.size | _ => 0)
              case atStart => exact ⟨0, rfl, by omega⟩
              case round =>
                obtain ⟨k, rfl, hk⟩ := hrel
                have hsz := ten_size k
                by_cases hlt : k < 399
                · have hst := ten_step k
                  have hsz2 := ten_size (k + 1)
                  generalize tenB k = Z at *
                  have HST := Lib.hid hst; have HZ2 := Lib.hid hsz2
                  have hs1 : (Z.size : Int) < 400 := by omega
                  have hs2 : Z.size ≤ 400 := by omega
                  clear hst hsz2
                  go_wp2
                  go_round
                  case rel => exact ⟨k + 1, by rw [HST.out], by omega⟩
                  case measure => simp only [ByteArray.size_append]; show 400 - (Z.size + 1) < 400 - Z.size; omega
                · have hk9 : k = 399 := by omega
                  subst hk9
                  have KC := Lib.hid knownCalls
                  have eT := ten_step 399
                  obtain ⟨B, eB⟩ : ∃ B, (⟨#[49, 47]⟩ : ByteArray) ++ tenB 399 = B := ⟨_, rfl⟩
                  rw [eB] at KC
                  generalize tenB 400 = T0 at *
                  generalize tenB 399 = T at *
                  have hs1 : ¬ (T.size : Int) < 400 := by omega
                  have hs2 : T.size ≤ 400 := by omega
                  clear hlt hk
                  have G0 := Lib.hid HGR.out
                  go_wp2_with fail
                  refine (KC.out.c1 _).mono ?_
                  rintro e1 x1 ⟨rfl, hg⟩
                  have G1 := Lib.hid (grown_trans G0.out hg)
                  clear hg G0
                  go_wp2_with fail
                  refine (KC.out.c2 _).mono ?_
                  rintro e1 x2 ⟨rfl, hg⟩
                  have G2 := Lib.hid (grown_trans G1.out hg)
                  clear hg G1
                  go_wp2_with fail
                  refine (KC.out.c3 _).mono ?_
                  rintro e1 x3 ⟨rfl, hg⟩
                  have G3 := Lib.hid (grown_trans G2.out hg)
                  clear hg G2
                  go_wp2_with fail
                  refine (KC.out.c4 _).mono ?_
                  rintro e1 x4 ⟨rfl, hg⟩
                  have G4 := Lib.hid (grown_trans G3.out hg)
                  clear hg G3
                  go_wp2_with fail
                  refine (KC.out.c5 _).mono ?_
                  rintro e1 x5 ⟨rfl, hg⟩
                  have G5 := Lib.hid (grown_trans G4.out hg)
                  clear hg G4
                  go_wp2_with fail
                  refine (KC.out.c6 _).mono ?_
                  rintro e1 x6 ⟨rfl, hg⟩
                  have G6 := Lib.hid (grown_trans G5.out hg)
                  clear hg G5
                  go_wp2_with fail
                  refine (KC.out.c7 _).mono ?_
                  rintro e1 x7 ⟨rfl, hg⟩
                  have G7 := Lib.hid (grown_trans G6.out hg)
                  clear hg G6
                  go_wp2_with fail
                  refine (KC.out.c8 _).mono ?_
                  rintro e1 x8 ⟨rfl, hg⟩
                  have G8 := Lib.hid (grown_trans G7.out hg)
                  clear hg G7
                  go_wp2_with fail
                  refine (KC.out.c9 _).mono ?_
                  rintro e1 x9 ⟨rfl, hg⟩
                  have G9 := Lib.hid (grown_trans G8.out hg)
                  clear hg G8
                  go_wp2_with fail
                  refine (is_same _ _).mono ?_
                  rintro e1 w' ⟨rfl, rfl⟩
                  go_wp2_with fail
                  refine (is_same _ _).mono ?_
                  rintro e1 w' ⟨rfl, rfl⟩
                  go_wp2_with fail
                  refine (is_same _ _).mono ?_
                  rintro e1 w' ⟨rfl, rfl⟩
                  go_wp2_with fail
                  refine (is_same _ _).mono ?_
                  rintro e1 w' ⟨rfl, rfl⟩
                  go_wp2_with fail
                  refine (KC.out.v1 _).mono ?_
                  rintro e1 x10 ⟨rfl, hg⟩
                  have G10 := Lib.hid (grown_trans G9.out hg)
                  clear hg G9
                  go_wp2_with fail
                  refine (KC.out.v2 _).mono ?_
                  rintro e1 x11 ⟨rfl, hg⟩
                  have G11 := Lib.hid (grown_trans G10.out hg)
                  clear hg G10
                  go_wp2_with fail
                  refine (awake_any _).mono ?_
                  rintro e1 x12 ⟨rfl, hg⟩
                  have G12 := Lib.hid (grown_trans G11.out hg)
                  clear hg G11
                  go_wp2
                  go_ret
                  exact ⟨rfl, G12.out⟩
    · have hri1 : w1.heap[w.heap.size + 1]? = some (.mapIter (some w.heap.size) 7 seen c0) := by rcases hw1 with rfl | rfl <;> exact hri
      have hbi1 : w1.heap[w.heap.size]? = some (.map es7 7) := by rcases hw1 with rfl | rfl <;> exact hbi
      have hg1 : w.grownBy w1 none := by
        rcases hw1 with rfl | rfl
        · exact hgr
        · exact grown_trans hgr (grown_drew _ none)
      obtain ⟨f1, f2, f3⟩ := setBlock_facts (o' := .mapIter (some w.heap.size) 7 (seen.push e.born) 7) hg1 hri1 hbi1 (by omega) (by omega)
      have hen := run_entry_at (P := Tryz.prog) (setBlock w1 (w.heap.size + 1) (.mapIter (some w.heap.size) 7 (seen.push e.born) 7)) (w.heap.size + 1) w.heap.size 7 seen es7 7 e f1 f2 (left_mem he) es_born.2
      obtain ⟨K, V, hK, hV, hP⟩ := ents_ok e (left_mem he)
      rw [hK, hV] at hn hen
      have hless := left_less he
      generalize setBlock w1 (w.heap.size + 1) (.mapIter (some w.heap.size) 7 (seen.push e.born) 7) = W2 at *
      have HP := Lib.hid hP; have F1 := Lib.hid f1; have F2 := Lib.hid f2; have F3 := Lib.hid f3; have HL := Lib.hid hless; have HLS := Lib.hid hls
      clear hri hbi hsc hgr hls hri1 hbi1 hg1 hw1 f1 f2 f3 hK hV hP hless he HGR
      go_wp2_with fail
      refine (HP.out _).mono ?_
      rintro e1 w3 ⟨rfl, hg3⟩
      have HG3 := Lib.hid hg3
      clear hg3
      go_wp2_with fail
      refine (is_same _ _).mono ?_
      rintro e1 w' ⟨rfl, rfl⟩
      go_wp2
      cases gk with
      | zero => have := HL.out; have := HLS.out; omega
      | succ g =>
        go_roundg g
        case measure => omega
        case rel =>
          have hl := HL.out
          have hls := HLS.out
          exact ⟨seen.push e.born, 7, by omega, (HG3.out.block _ (lt_of_block F1.out) (by simp)).trans F1.out, (HG3.out.block _ (lt_of_block F2.out) (by simp)).trans F2.out, Nat.le_refl _, grown_trans F3.out HG3.out⟩
end Go.Proofs.YthokjhlbbgfplabGreatDoor
