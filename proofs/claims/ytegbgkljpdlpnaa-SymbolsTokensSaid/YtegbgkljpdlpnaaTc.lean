/- The program's read, by contract. -/
import Derived.Test.YtegbgkljpdlpnaaTb
import Derived.Test.YtegbgkljpdlpnaaMa
import Derived.Laws.ResultCell
set_option linter.unusedVariables false
set_option linter.unusedSimpArgs false
namespace Go.Proofs.Ytegbgkljpdlpnaa
open Go.RowKit

/-- The row of a struct table. -/
def TabAt (w : World) (g : Nat) (m : Value) (n : Int) : Prop := w.heap[g]? = some (.cells #[m, .int .i64 n] 48 (0, 0))
structure TabCells (w : World) (g : Nat) (m : Value) (n : Int) : Prop where
  c0 : w.cell? ⟨g, 0, none⟩ = some m
  c1 : w.cell? ⟨g, 1, none⟩ = some (.int .i64 n)
  f0 : w.frozen? ⟨g, 0, none⟩ = false
  f1 : w.frozen? ⟨g, 1, none⟩ = false
theorem TabAt.cells {w : World} {g : Nat} {m : Value} {n : Int} (h : TabAt w g m n) : TabCells w g m n :=
  ⟨by rw [cell_of_row w g 0 _ _ (0, 0) h]; rfl, by rw [cell_of_row w g 1 _ _ (0, 0) h]; rfl, frozen_of_row w g 0 _ _ h, frozen_of_row w g 1 _ _ h⟩
theorem TabAt.below {w w' : World} {g B : Nat} {m : Value} {n : Int} (h : TabAt w g m n) (hb : Below B w w') (hg : g < B) : TabAt w' g m n := (hb.block g hg).trans h
theorem TabAt.grown {w w' : World} {g : Nat} {r : Option Nat} {m : Value} {n : Int} (h : TabAt w g m n) (hb : w.grownBy w' r) (hg : some g ≠ r) : TabAt w' g m n := (hb.block g (Array.getElem?_eq_some_iff.1 h).1 hg).trans h
theorem TabAt.lt {w : World} {g : Nat} {m : Value} {n : Int} (h : TabAt w g m n) : g < w.heap.size := (Array.getElem?_eq_some_iff.1 h).1
theorem TabAt.set1 {w : World} {g : Nat} {m : Value} {n : Int} (h : TabAt w g m n) (k : Int) : TabAt (w.setCell ⟨g, 1, none⟩ (.int .i64 k)) g m k := by
  have := heap_setCell_same w g 1 _ _ (.int .i64 k) h
  exact this

theorem TabAt.set2 {w : World} {g : Nat} {m m' : Value} {n n' : Int} (h : TabAt w g m n) : TabAt ((w.setCell ⟨g, 0, none⟩ m').setCell ⟨g, 1, none⟩ (.int .i64 n')) g m' n' := by
  have h1 := heap_setCell_same w g 0 _ _ m' h
  have h2 := heap_setCell_same _ g 1 _ _ (.int .i64 n') h1
  exact h2
theorem below_set2 {w w1 : World} {g : Nat} {u v : Value} (h : Below w.heap.size w w1) (hg : w.heap.size ≤ g) : Below w.heap.size w ((w1.setCell ⟨g, 0, none⟩ u).setCell ⟨g, 1, none⟩ v) := (h.setCell (p := ⟨g, 0, none⟩) hg _).setCell (p := ⟨g, 1, none⟩) hg _

/-- An element of a row of strings. -/
theorem row_str {w : World} {A : Option Addr} {L : List ByteArray} {k : Nat} (h : Reads w w.heap.size 1 A L.length (L.map Value.string)) (hk : k < L.length) :
    ∃ ad s, A = some ad ∧ ad.block < w.heap.size ∧ L[k]? = some s ∧ w.cell? (ad.add k) = some (.string s) := by
  have hx : L[k]? = some L[k] := List.getElem?_eq_getElem hk
  obtain ⟨ad, hA, hb, hc⟩ := str_at h hx
  exact ⟨ad, _, hA, hb, hx, hc⟩

def tabV (b : Nat) (L : List ByteArray) : Value := .agg #[.map (some b), .int .i64 (wide L : Int)]
def noTab : Value := .agg #[.map none, .int .i64 0]
def ReadPost (L : List ByteArray) (w : World) (e : Ending) (w' : World) : Prop :=
  ∃ b, e = .returned (.tuple #[tabV b L, .bool true]) ∧ IsMapOf w' b L ∧ w.heap.size ≤ b ∧ Below w.heap.size w w'

theorem name_small {s : ByteArray} (h : nameB s = true) : s.size ≤ maxLen := by
  have := (nameB_size h).2
  unfold maxLen; omega

set_option maxHeartbeats 4000000 in
theorem read_any (L : List ByteArray) (A : Option Addr) (ca : Nat) (w : World) (hr : Reads w w.heap.size 1 A L.length (L.map Value.string)) (hll : L.length ≤ maxLen) :
    Calls Try.prog 31 #[.slice A L.length ca] w fun e w' => (tableB L = true ∧ ReadPost L w e w') ∨ (tableB L = false ∧ ValPost (.tuple #[noTab, .bool false]) w e w') := by
  by_cases hlen : 500 < L.length
  · have hT : tableB L = false := by unfold tableB; simp; omega
    have f0 : decide ((500 : Int) < (L.length : Int)) = true := by simp; omega
    have HT := Lib.hid hT
    clear hT hr hll hlen
    go_enter Try.func31, Try.ntmps31
    go_wp2
    refine bodyPost_ret (v := .tuple #[noTab, .bool false]) ?_ rfl (.inr ⟨HT.out, rfl, (Below.refl _ _).alloc (Nat.le_refl _) _⟩)
    rw [results_cell_tmp rfl]; go_simp; rfl
  have f0 : decide ((500 : Int) < (L.length : Int)) = false := by simp; omega
  have hmm := makeMap_hint
  go_enter Try.func31, Try.ntmps31
  go_wp2
  go_wp2
  go_loopw [16] (fun i wr => ∃ k : Nat, i = .int .i64 k ∧ k ≤ L.length ∧ goodB (L.take k) = true ∧ IsMapOf wr (w.heap.size + 1) (L.take k) ∧ TabAt wr w.heap.size (.map (some (w.heap.size + 1))) (wide (L.take k)) ∧ Below w.heap.size w wr) (fun i _ => L.length - (intOf i).toNat)
  case atStart =>
    refine ⟨0, rfl, by omega, goodB_nil, ?_, ?_, ((Below.refl _ _).alloc (Nat.le_refl _) _).alloc (by simp) _⟩
    · have := IsMapOf.made (w.alloc (Obj.cells #[Value.map (some (w.heap.size + 1)), Value.int IntKind.i64 0] 48))
      simpa using this
    · show ((w.heap.push _).push _)[w.heap.size]? = _
      rw [Array.getElem?_push_lt (by simp), Array.getElem_push_eq]
      rfl
  case round =>
    obtain ⟨k, rfl, hk, hg, hm, ht, hb⟩ := hrel
    have hml := hm.lt
    have htl := ht.lt
    have hb1 := hb.size
    have HG := Lib.hid hg; have HB := Lib.hid hb
    clear hg hb
    by_cases hlt : k < L.length
    · obtain ⟨ad, s, rfl, hadb, hs, hc0⟩ := row_str hr hlt
      have hc : wr.cell? (ad.add k) = some (.string s) := (HB.out.cell (by rw [block_of_add]; exact hadb)).trans hc0
      have hn := fun W => isName_any s W
      have hts := take_snoc hs
      have n1 : IntKind.i64.wrap ((k : Int) + 1) = (k : Int) + 1 := by rw [IntKind.wrap_i64]; unfold maxLen at hll; omega
      have n2 : (k : Int) < (L.length : Int) := by omega
      have HS := Lib.hid hs; have HTS := Lib.hid hts; have HM := Lib.hid hm; have HT := Lib.hid ht
      clear hs hts hc0 hm ht
      cases hN : nameB s
      · rw [hN] at hn
        have hgood : goodB L = false := by
          cases hgd : goodB L
          · rfl
          · have := (goodB_iff.1 hgd).1 s (List.mem_of_getElem? HS.out)
            rw [hN] at this; cases this
        have HGD := Lib.hid hgood
        clear hgood hN
        go_wp2_with fail
        refine (hn _).mono ?_
        rintro e w1 ⟨rfl, hb2⟩
        have t1 := (HT.out.below hb2 htl).cells
        obtain ⟨c0, c1, f0, f1⟩ := t1
        go_wp2
        have hb3 := below_set2 (u := .map none) (v := .int .i64 0) (HB.out.trans (hb2.mono hb1)) (Nat.le_refl _)
        have t2 := ((HT.out.below hb2 htl).set2 (m' := .map none) (n' := 0)).cells
        clear c0 c1 f0 f1
        obtain ⟨c0, c1, f0, f1⟩ := t2
        refine bodyPost_ret (v := .tuple #[noTab, .bool false]) ?_ rfl (.inr ⟨?_, rfl, hb3⟩)
        · rw [results_cell_tmp rfl]; go_simp; rfl
        · unfold tableB; rw [HGD.out]; simp
      · rw [hN] at hn
        have hml2 : w.heap.size + 1 < wr.heap.size := hml
        go_wp2_with fail
        refine (hn _).mono ?_
        rintro e w1 ⟨rfl, hb2⟩
        have t0 := HT.out.below hb2 htl
        have m1 := HM.out.below hb2 hml
        have hlk := m1.look (name_small hN)
        have hb3 := HB.out.trans (hb2.mono hb1)
        have t1 := t0.cells
        obtain ⟨c0, c1, f0, f1⟩ := t1
        have HB3 := Lib.hid hb3
        clear hb3 hb2
        by_cases hmem : s ∈ L.take k
        · have hgood : goodB L = false := by
            cases hgd : goodB L
            · rfl
            · have h1 := goodB_take hgd (k + 1)
              rw [HTS.out, goodB_snoc] at h1
              exact absurd hmem h1.2.2
          have hp : ((pos (L.take k) s : Int) != 0) = true := by
            have := pos_mem hmem
            simp; omega
          have HGD := Lib.hid hgood
          clear hgood hmem
          go_wp2
          have hb4 := below_set2 (u := .map none) (v := .int .i64 0) HB3.out (Nat.le_refl _)
          have t2 := (t0.set2 (m' := .map none) (n' := 0)).cells
          clear c0 c1 f0 f1
          obtain ⟨c0, c1, f0, f1⟩ := t2
          refine bodyPost_ret (v := .tuple #[noTab, .bool false]) ?_ rfl (.inr ⟨?_, rfl, hb4⟩)
          · rw [results_cell_tmp rfl]; go_simp; rfl
          · unfold tableB; rw [HGD.out]; simp
        · have hp : ((pos (L.take k) s : Int) != 0) = false := by
            have := pos_not hmem
            simp; omega
          have hlk2 : (L.take k).length = k := by rw [List.length_take]; omega
          obtain ⟨w2, hst, m2, hg2⟩ := m1.store (z := (k : Int) + 1) (name_small hN) hmem (by rw [hlk2]; omega) (by rw [hlk2]; omega)
          have t2 := t0.grown hg2 (by simp)
          have hgs : goodB (L.take (k + 1)) = true := by rw [HTS.out, goodB_snoc]; exact ⟨HG.out, hN, hmem⟩
          have hws : (wide (L.take (k + 1)) : Int) = max (wide (L.take k) : Int) (s.size : Int) := by rw [HTS.out, wide_snoc]; omega
          have hb4 := HB3.out.grown hg2 HB3.out.size (by simp)
          obtain ⟨d0, d1, d2, d3⟩ := t2.cells
          have MM := Lib.hid m2; have TT := Lib.hid t2; have WS := Lib.hid hws; have BB := Lib.hid hb4
          clear hg2 m2 t2 hws hb4 hmem hN
          go_wp2
          go_roundw
          case rel => exact ⟨k + 1, by go_num, by omega, hgs, by rw [HTS.out]; exact MM.out.setCell (a := ⟨w.heap.size, 1, none⟩) (by simp) _, by rw [WS.out]; exact TT.out.set1 _, BB.out.setCell (p := ⟨w.heap.size, 1, none⟩) (Nat.le_refl _) _⟩
          case measure => simp [intOf]; omega
    · have hend : L.take k = L := List.take_of_length_le (by omega)
      have n2 : ¬ (k : Int) < (L.length : Int) := by omega
      rw [hend] at hm ht
      have hgd := HG.out
      rw [hend] at hgd
      have HGD := Lib.hid hgd
      have HM := Lib.hid hm; have HT := Lib.hid ht
      obtain ⟨c0, c1, f0, f1⟩ := ht.cells
      clear hgd HG hend hm ht
      go_wp2
      have t2 := (HT.out.set2 (m' := .map (some (w.heap.size + 1))) (n' := (wide L : Int))).cells
      clear c0 c1 f0 f1
      obtain ⟨c0, c1, f0, f1⟩ := t2
      refine bodyPost_ret (v := .tuple #[tabV (w.heap.size + 1) L, .bool true]) ?_ rfl (.inl ⟨?_, _, rfl, (HM.out.setCell (a := ⟨w.heap.size, 0, none⟩) (by simp) _).setCell (a := ⟨w.heap.size, 1, none⟩) (by simp) _, by omega, below_set2 HB.out (Nat.le_refl _)⟩)
      · rw [results_cell_tmp rfl]; go_simp; rfl
      · unfold tableB; rw [HGD.out]; simp; omega
end Go.Proofs.Ytegbgkljpdlpnaa
