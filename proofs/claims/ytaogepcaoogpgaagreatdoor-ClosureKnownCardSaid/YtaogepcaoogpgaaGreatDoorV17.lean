/- U82 -/
import Derived.Test.YtaogepcaoogpgaaGreatDoorV09
import Derived.Test.YtaogepcaoogpgaaGreatDoorV14
import Derived.Deep.RegionHeld3
import Derived.Deep.LoopGhost
set_option linter.unusedVariables false
set_option linter.unusedSimpArgs false
namespace Go.Proofs.YtaogepcaoogpgaaGreatDoor
open Go.RowKit
def OrDieQ (P : Prop) (Q : Value → World → Prop) (w : World) (e : Ending) (w' : World) : Prop := (P ∧ ∃ v, e = .returned v ∧ Q v w' ∧ w.grownBy w' none) ∨ (¬ P ∧ DiePost 2 w e w')
def RowAt (w : World) (g off n : Nat) (L : Nat → Value) : Prop := g < w.heap.size ∧ ∀ j, j < n → w.cell? ⟨g, off + j, none⟩ = some (L j)
def RowR (w : World) (v : Value) (n : Nat) (L : Nat → Value) : Prop :=
 ∃ A cap, v = .slice A n cap ∧ n ≤ cap ∧ cap ≤ maxLen ∧ ∀ j, j < n → ∃ ad, A = some ad ∧ ad.block < w.heap.size ∧ w.cell? (ad.add j) = some (L j)
theorem add_off (g off j : Nat) : (⟨g, off, none⟩ : Addr).add j = ⟨g, off + j, none⟩ := by unfold Addr.add; split <;> simp_all
theorem RowAt.row {w : World} {g off n cap : Nat} {L : Nat → Value} (h : RowAt w g off n L) (h1 : n ≤ cap) (h2 : cap ≤ maxLen) : RowR w (.slice (some ⟨g, off, none⟩) n cap) n L :=
 ⟨_, cap, rfl, h1, h2, fun j hj => ⟨_, rfl, h.1, by rw [add_off]; exact h.2 j hj⟩⟩
theorem add_block7 (ad : Addr) (j : Nat) : (ad.add j).block = ad.block := by unfold Addr.add; split <;> rfl
theorem cell_same {w w' : World} {ad : Addr} (h : w'.heap[ad.block]? = w.heap[ad.block]?) : w'.cell? ad = w.cell? ad := by
 unfold World.cell?
 rw [h]
theorem RowAt.keep {w w' : World} {g off n : Nat} {L : Nat → Value} (h : RowAt w g off n L) (hs : w.heap.size ≤ w'.heap.size) (hb : w'.heap[g]? = w.heap[g]?) : RowAt w' g off n L :=
 ⟨Nat.lt_of_lt_of_le h.1 hs, fun j hj => (cell_same (ad := ⟨g, off + j, none⟩) hb).trans (h.2 j hj)⟩
theorem RowAt.grown {w w' : World} {g off n : Nat} {L : Nat → Value} (h : RowAt w g off n L) (hg : w.grownBy w' none) : RowAt w' g off n L := h.keep hg.size (hg.block g h.1 (by simp))
theorem RowAt.grownB {w w' : World} {g off n b : Nat} {L : Nat → Value} (h : RowAt w g off n L) (hg : w.grownBy w' (some b)) (hb : g ≠ b) : RowAt w' g off n L := h.keep hg.size (hg.block g h.1 (by simpa using hb))
theorem RowR.grown {w w' : World} {v : Value} {n : Nat} {L : Nat → Value} (h : RowR w v n L) (hg : w.grownBy w' none) : RowR w' v n L := by
 obtain ⟨A, cap, rfl, h1, h2, h3⟩ := h
 refine ⟨A, cap, rfl, h1, h2, fun j hj => ?_⟩
 obtain ⟨ad, rfl, hb, hc⟩ := h3 j hj
 exact ⟨ad, rfl, Nat.lt_of_lt_of_le hb hg.size, (cell_same (ad := ad.add j) (by rw [add_block7]; exact hg.block ad.block hb (by simp))).trans hc⟩
structure FillRow (T : TypeId) (z : Value) (n : Nat) (zs : List Value) (w wr : World) : Prop where
 row : wr.heap[w.heap.size]? = some (.cells (zs ++ List.replicate (n - zs.length) z).toArray T (0, 0))
 gr : w.grownBy wr none
 le : zs.length ≤ n
theorem FillRow.cell {T : TypeId} {z : Value} {n : Nat} {zs : List Value} {w wr : World} (h : FillRow T z n zs w wr) (hk : zs.length < n) : wr.cell? ⟨w.heap.size, zs.length, none⟩ = some z := by
 rw [cell_of_row wr w.heap.size zs.length _ _ (0, 0) h.row, List.getElem?_toArray, List.getElem?_append_right (Nat.le_refl _), Nat.sub_self, show n - zs.length = (n - zs.length - 1) + 1 by omega]
 rfl
theorem FillRow.free {T : TypeId} {z : Value} {n : Nat} {zs : List Value} {w wr : World} (h : FillRow T z n zs w wr) (k : Nat) : wr.frozen? ⟨w.heap.size, k, none⟩ = false := frozen_of_row wr _ _ _ _ h.row
theorem FillRow.put {T : TypeId} {z : Value} {n : Nat} {zs : List Value} {w wr : World} (h : FillRow T z n zs w wr) (hk : zs.length < n) (u : Value) : FillRow T z n (zs ++ [u]) w (wr.setCell ⟨w.heap.size, zs.length, none⟩ u) := by
 refine ⟨?_, grown_step h.gr (grown_setCell _ _ _) (Nat.le_refl _), by simp; omega⟩
 have h1 := heap_setCell_same wr w.heap.size zs.length _ _ u h.row
 rw [h1]
 congr 2
 apply Array.toList_inj.1
 simp only [Array.toList_setIfInBounds, List.append_assoc]
 rw [List.set_append_right _ _ (Nat.le_refl _), Nat.sub_self, show n - zs.length = (n - (zs ++ [u]).length) + 1 by simp; omega, List.replicate_succ, List.set_cons_zero]
 rfl
theorem FillRow.grown {T : TypeId} {z : Value} {n : Nat} {zs : List Value} {w wr w' : World} (h : FillRow T z n zs w wr) (hg : wr.grownBy w' none) : FillRow T z n zs w w' :=
 ⟨(hg.block _ (Array.getElem?_eq_some_iff.1 h.row).1 (by simp)).trans h.row, grown_trans h.gr hg, h.le⟩
theorem FillRow.rowAt {T : TypeId} {z : Value} {n : Nat} {zs : List Value} {w wr : World} (h : FillRow T z n zs w wr) (hn : zs.length = n) : RowAt wr w.heap.size 0 n (fun j => zs.getD j z) := by
 refine ⟨(Array.getElem?_eq_some_iff.1 h.row).1, fun j hj => ?_⟩
 rw [Nat.zero_add, cell_of_row wr w.heap.size j _ _ (0, 0) h.row]
 have e : (zs ++ List.replicate (n - zs.length) z) = zs := by rw [hn, Nat.sub_self]; simp
 dsimp only
 rw [e, List.getElem?_toArray, List.getD_eq_getElem?_getD, List.getElem?_eq_getElem (by omega)]
 rfl
theorem FillRow.start {T : TypeId} {z : Value} {n : Nat} {w w1 : World} (hown : w1.ownsRow w.heap.size T 1 (.slice (some ⟨w.heap.size, 0, none⟩) n n) n (madeCells #[z] n).toList) (hgr : w.grownBy w1 none) : FillRow T z n [] w w1 := by
 refine ⟨?_, hgr, Nat.zero_le _⟩
 rcases hown.2 with ⟨h', _⟩ | ⟨g', cap', cur, h', hb, hg, _, _, hs, ht⟩
 ·simp at h'
 ·simp only [Value.slice.injEq, Option.some.injEq, Addr.mk.injEq, and_true, true_and] at h'
  obtain ⟨rfl, rfl⟩ := h'
  rw [List.take_of_length_le (by rw [Array.length_toList, hs]; simp), toList_madeCells_one] at ht
  rw [hg]
  congr 2
  apply Array.toList_inj.1
  rw [ht]
  simp
theorem info_str : (Tryz.prog.info? 9).map (fun i => (i.zero, i.size, i.bytes)) = some (some (.string ⟨#[]⟩), 1, 16) := by kernel_rfl
theorem info_row : (Tryz.prog.info? 33).map (fun i => (i.zero, i.size, i.bytes)) = some (some (.slice none 0 0), 1, 24) := by kernel_rfl
def RowPost7 (P : Prop) (H m : Nat) (L : Nat → Value) (w : World) (e : Ending) (w' : World) : Prop :=
 OrDieQ P (fun v w' => ∃ g off c, v = .slice (some ⟨g, off, none⟩) m c ∧ m ≤ c ∧ c ≤ maxLen ∧ (g < H ∨ w.heap.size ≤ g) ∧ RowAt w' g off m L) w e w'
def RowsAt (w : World) (H g n m : Nat) (zs : List Value) (A : Nat → Nat → Value) : Prop :=
 zs.length = n ∧ RowAt w g 0 n (fun j => zs.getD j (.slice none 0 0)) ∧ ∀ i, i < n → ∃ gi off c, zs.getD i (.slice none 0 0) = .slice (some ⟨gi, off, none⟩) m c ∧ m ≤ c ∧ c ≤ maxLen ∧ gi ≠ g ∧ RowAt w gi off m (A i)
def RowsPost (P : Prop) (n m : Nat) (A : Nat → Nat → Value) (w : World) (e : Ending) (w' : World) : Prop :=
 OrDieQ P (fun v w' => ∃ zs, v = .slice (some ⟨w.heap.size, 0, none⟩) n n ∧ RowsAt w' w.heap.size w.heap.size n m zs A) w e w'
def StrsPost (P : Prop) (n : Nat) (G : Nat → ByteArray) (w : World) (e : Ending) (w' : World) : Prop :=
 OrDieQ P (fun v w' => v = .slice (some ⟨w.heap.size, 0, none⟩) n n ∧ RowAt w' w.heap.size 0 n (fun i => .string (G i))) w e w'
def strs7 (G : Nat → ByteArray) (k : Nat) : List Value := (List.range k).map (fun i => .string (G i))
theorem strs7_len (G : Nat → ByteArray) (k : Nat) : (strs7 G k).length = k := by simp [strs7]
theorem strs7_succ (G : Nat → ByteArray) (k : Nat) : strs7 G k ++ [.string (G k)] = strs7 G (k + 1) := by simp [strs7, List.range_succ]
theorem strs7_get (G : Nat → ByteArray) {n j : Nat} (z : Value) (h : j < n) : (strs7 G n).getD j z = .string (G j) := by
 unfold strs7
 rw [List.getD_eq_getElem?_getD, List.getElem?_map, List.getElem?_range h]
 rfl
theorem FillRow.strs {n : Nat} {G : Nat → ByteArray} {w wr : World} (h : FillRow 9 (.string ⟨#[]⟩) n (strs7 G n) w wr) : RowAt wr w.heap.size 0 n (fun i => .string (G i)) := by
 have h1 := h.rowAt (strs7_len G n)
 refine ⟨h1.1, fun j hj => (h1.2 j hj).trans ?_⟩
 dsimp only
 rw [strs7_get G _ hj]
def OrDie0 (P : Prop) (V : Value) (w : World) (e : Ending) (w' : World) : Prop := (P ∧ ValPost V w e w') ∨ (¬ P ∧ DiePost 2 w e w')
set_option maxRecDepth 20000 in
set_option maxHeartbeats 4000000 in
theorem mapped_rows (F : Nat) (he : Enters F) (first cap : Array Value) (n : Nat) (V : Nat → Value) (m : Nat) (P : Nat → Prop) (A : Nat → Nat → Value) (lv : Value) (w : World) (hn : n ≤ 10000) (hl : RowR w lv n V)
  (hF : ∀ i, i < n → ∀ w', w.grownBy w' none → Calls Tryz.prog F (first ++ #[V i] ++ cap) w' (RowPost7 (P i) w.heap.size m (A i) w')) :
  Calls Tryz.prog 78 #[lv, .func (.func F) first cap] w (RowsPost (∀ i, i < n → P i) n m A w) := by
 obtain ⟨Ad, c, rfl, h1, h2, h3⟩ := hl
 obtain ⟨i0, hi, hz0, hz1, hz2⟩ := info_parts info_row
 have HE := Lib.hid he; have HF := Lib.hid hF; have HL := Lib.hid h3; have HN := Lib.hid hn
 clear he hF h3 h1 h2 hn
 go_enter Tryz.func78, Tryz.ntmps78
 go_wp2_with (at_make; refine wpList_make_full _ rfl _ _ 22 rfl w.heap.size 33 i0 (.slice none 0 0) 1 Tryz.underlying22 hi hz0 hz1 _ _ _ _ n rfl rfl ?c0 ?c1 ?c2 (by have := HN.out; unfold maxLen; omega) (Nat.le_refl _) ?_)
 case c0 => omega
 case c1 => omega
 case c2 => have := HN.out; first | omega | (rw [hz2]; omega)
 intro w1 hown hgr
 have hfill := FillRow.start hown hgr
 have HW := Lib.hid hfill
 clear hown hgr hfill
 go_wp2
 go_loopw [13] (fun iv wr => ∃ zs : List Value, iv = .int .i64 (zs.length : Int) ∧ FillRow 33 (.slice none 0 0) n zs w wr ∧ ∀ i, i < zs.length → ∃ gi off c, zs.getD i (.slice none 0 0) = .slice (some ⟨gi, off, none⟩) m c ∧ m ≤ c ∧ c ≤ maxLen ∧ gi ≠ w.heap.size ∧ RowAt wr gi off m (A i) ∧ P i) (fun iv _ => n - (intOf iv).toNat)
 case atStart => exact ⟨[], rfl, HW.out, fun i hi => absurd hi (by simp)⟩
 case round =>
  obtain ⟨zs, rfl, hfill, hrows⟩ := hrel
  obtain ⟨k, hzk⟩ : ∃ k, zs.length = k := ⟨_, rfl⟩
  have hle := hfill.le
  by_cases hk : k < n
  ·obtain ⟨ad, rfl, hb, hc⟩ := HL.out k hk
   have hc2 : wr.cell? (ad.add k) = some (V k) := (cell_same (ad := ad.add k) (by rw [add_block7]; exact hfill.gr.block ad.block hb (by simp))).trans hc
   have t1 : decide (k < n) = true := by simpa using hk
   have t1' : decide ((k : Int) < (n : Int)) = true := by simpa using hk
   have hik : (k : Int) < (n : Int) := by omega
   have n1 : IntKind.i64.wrap ((k : Int) + 1) = (k : Int) + 1 := by have := HN.out; rw [IntKind.wrap_i64]; omega
   have HFL := Lib.hid hfill; have HK := Lib.hid (And.intro hk (And.intro hzk hle))
   have HR := Lib.hid hrows
   rw [hzk]
   clear hrows
   clear hfill hk hle hzk hb hc
   go_wp2_with fail
   rw [HE.out]
   refine (HF.out k HK.out.1 wr HFL.out.gr).mono ?_
   rintro e w' (⟨hpk, v, rfl, ⟨g, off, c2, rfl, hm1, hm2, hgl, hrow⟩, hg⟩ | ⟨hnp, rfl, hg⟩)
   ·have HPK := Lib.hid hpk
    clear hpk
    have hf2 := HFL.out.grown hg
    have hcl := hf2.cell (by rw [HK.out.2.1]; exact HK.out.1)
    have hfr := hf2.free k
    rw [HK.out.2.1] at hcl
    have HF2 := Lib.hid hf2; have HG := Lib.hid hg; have HROW := Lib.hid (And.intro hm1 (And.intro hm2 (And.intro hgl hrow)))
    clear hf2 hg hm1 hm2 hgl hrow
    go_wp2
    obtain ⟨hk, hzk, hle⟩ := HK.out
    have hput := HF2.out.put (by rw [hzk]; exact hk) (.slice (some ⟨g, off, none⟩) m c2)
    rw [hzk] at hput
    obtain ⟨hm1, hm2, hgl, hrow⟩ := HROW.out
    have hne : g ≠ w.heap.size := by
     rcases hgl with h | h
     ·omega
     ·have := (Array.getElem?_eq_some_iff.1 HFL.out.row).1; omega
    refine ⟨⟨zs ++ [.slice (some ⟨g, off, none⟩) m c2], by simp [hzk], hput, fun i hi => ?_⟩, by simp [intOf]; omega⟩
    by_cases hik2 : i < zs.length
    ·obtain ⟨gi, oi, ci, e1, e2, e3, e4, e5, e6⟩ := HR.out i hik2
     refine ⟨gi, oi, ci, ?_, e2, e3, e4, (e5.grown HG.out).grownB (grown_setCell _ _ _) e4, e6⟩
     rw [List.getD_eq_getElem?_getD, List.getElem?_append_left hik2, ← List.getD_eq_getElem?_getD]
     exact e1
    ·have hi2 : i = k := by simp at hi; omega
     subst hi2
     refine ⟨g, off, c2, ?_, hm1, hm2, hne, hrow.grownB (grown_setCell _ _ _) hne, HPK.out⟩
     rw [List.getD_eq_getElem?_getD, List.getElem?_append_right (by omega), hzk, Nat.sub_self]
     rfl
   ·go_wp2
    exact ⟨rfl, .inr ⟨fun h => hnp (h k HK.out.1), rfl, grown_trans HFL.out.gr hg⟩⟩
  ·have hkn : k = n := by omega
   subst hkn
   have t1 : decide (k < k) = false := by simp
   have t1' : decide ((k : Int) < (k : Int)) = false := by simp
   have HFL := Lib.hid hfill; have HK := Lib.hid hzk
   have HR := Lib.hid hrows
   rw [hzk]
   clear hrows
   clear hfill hk hle hzk
   go_wp2
   go_ret
   have hzk := HK.out
   exact .inl ⟨fun i hi => by obtain ⟨_, _, _, _, _, _, _, _, h⟩ := HR.out i (by omega); exact h, _, rfl, ⟨zs, rfl, hzk, HFL.out.rowAt hzk, fun i hi => by obtain ⟨gi, oi, ci, e1, e2, e3, e4, e5, e6⟩ := HR.out i (by omega); exact ⟨gi, oi, ci, e1, e2, e3, e4, e5⟩⟩, HFL.out.gr⟩
set_option maxRecDepth 20000 in
set_option maxHeartbeats 4000000 in
theorem mapped_strs (F : Nat) (he : Enters F) (first cap : Array Value) (n : Nat) (V : Nat → Value) (P : Nat → Prop) (G : Nat → ByteArray) (lv : Value) (w : World) (hn : n ≤ 10000) (hl : RowR w lv n V)
  (hF : ∀ i, i < n → ∀ w', w.grownBy w' none → Calls Tryz.prog F (first ++ #[V i] ++ cap) w' (OrDie0 (P i) (.string (G i)) w')) :
  Calls Tryz.prog 165 #[lv, .func (.func F) first cap] w (StrsPost (∀ i, i < n → P i) n G w) := by
 obtain ⟨Ad, c, rfl, h1, h2, h3⟩ := hl
 obtain ⟨i0, hi, hz0, hz1, hz2⟩ := info_parts info_str
 have HE := Lib.hid he; have HF := Lib.hid hF; have HL := Lib.hid h3; have HN := Lib.hid hn
 clear he hF h3 h1 h2 hn
 go_enter Tryz.func165, Tryz.ntmps165
 go_wp2_with (at_make; refine wpList_make_full _ rfl _ _ 33 rfl w.heap.size 9 i0 (.string ⟨#[]⟩) 1 Tryz.underlying33 hi hz0 hz1 _ _ _ _ n rfl rfl ?c0 ?c1 ?c2 (by have := HN.out; unfold maxLen; omega) (Nat.le_refl _) ?_)
 case c0 => omega
 case c1 => omega
 case c2 => have := HN.out; first | omega | (rw [hz2]; omega)
 intro w1 hown hgr
 have hfill := FillRow.start hown hgr
 have HW := Lib.hid hfill
 clear hown hgr hfill
 go_wp2
 go_loopw [13] (fun iv wr => ∃ k : Nat, iv = .int .i64 (k : Int) ∧ k ≤ n ∧ FillRow 9 (.string ⟨#[]⟩) n (strs7 G k) w wr ∧ ∀ i, i < k → P i) (fun iv _ => n - (intOf iv).toNat)
 case atStart => exact ⟨0, rfl, Nat.zero_le _, HW.out, fun i hi => absurd hi (by omega)⟩
 case round =>
  obtain ⟨k, rfl, hle, hfill, hps⟩ := hrel
  have HPS := Lib.hid hps
  clear hps
  have hzk := strs7_len G k
  by_cases hk : k < n
  ·obtain ⟨ad, rfl, hb, hc⟩ := HL.out k hk
   have hc2 : wr.cell? (ad.add k) = some (V k) := (cell_same (ad := ad.add k) (by rw [add_block7]; exact hfill.gr.block ad.block hb (by simp))).trans hc
   have t1 : decide (k < n) = true := by simpa using hk
   have t1' : decide ((k : Int) < (n : Int)) = true := by simpa using hk
   have hik : (k : Int) < (n : Int) := by omega
   have n1 : IntKind.i64.wrap ((k : Int) + 1) = (k : Int) + 1 := by have := HN.out; rw [IntKind.wrap_i64]; omega
   have HFL := Lib.hid hfill; have HK := Lib.hid (And.intro hk (And.intro hzk hle))
   clear hfill hk hle hzk hb hc
   go_wp2_with fail
   rw [HE.out]
   refine (HF.out k HK.out.1 wr HFL.out.gr).mono ?_
   rintro e w' (⟨hpk, rfl, hg⟩ | ⟨hnp, rfl, hg⟩)
   ·have HPK := Lib.hid hpk
    clear hpk
    have hf2 := HFL.out.grown hg
    have hcl := hf2.cell (by rw [HK.out.2.1]; exact HK.out.1)
    have hfr := hf2.free k
    rw [HK.out.2.1] at hcl
    have HF2 := Lib.hid hf2; have HG := Lib.hid hg
    clear hf2 hg
    go_wp2
    obtain ⟨hk, hzk, hle⟩ := HK.out
    have hput := HF2.out.put (by rw [hzk]; exact hk) (.string (G k))
    rw [hzk, strs7_succ] at hput
    refine ⟨⟨k + 1, by simp, hk, hput, fun i hi => ?_⟩, by simp [intOf]; omega⟩
    by_cases e : i = k
    ·subst e; exact HPK.out
    ·exact HPS.out i (by omega)
   ·go_wp2
    exact ⟨rfl, .inr ⟨fun h => hnp (h k HK.out.1), rfl, grown_trans HFL.out.gr hg⟩⟩
  ·have hkn : k = n := by omega
   subst hkn
   have t1 : decide (k < k) = false := by simp
   have t1' : decide ((k : Int) < (k : Int)) = false := by simp
   have HFL := Lib.hid hfill; have HK := Lib.hid hzk
   clear hfill hk hle hzk
   go_wp2
   go_ret
   exact .inl ⟨HPS.out, _, rfl, ⟨rfl, HFL.out.strs⟩, HFL.out.gr⟩
set_option maxRecDepth 20000 in
set_option maxHeartbeats 4000000 in
theorem mapped_firsts (F : Nat) (he : Enters F) (first cap : Array Value) (n : Nat) (V : Nat → Value) (P : Nat → Prop) (G : Nat → ByteArray) (lv : Value) (w : World) (hn : n ≤ 10000) (hl : RowR w lv n V)
  (hF : ∀ i, i < n → ∀ w', w.grownBy w' none → Calls Tryz.prog F (first ++ #[V i] ++ cap) w' (OrDie0 (P i) (.string (G i)) w')) :
  Calls Tryz.prog 141 #[lv, .func (.func F) first cap] w (StrsPost (∀ i, i < n → P i) n G w) := by
 obtain ⟨Ad, c, rfl, h1, h2, h3⟩ := hl
 obtain ⟨i0, hi, hz0, hz1, hz2⟩ := info_parts info_str
 have HE := Lib.hid he; have HF := Lib.hid hF; have HL := Lib.hid h3; have HN := Lib.hid hn
 clear he hF h3 h1 h2 hn
 go_enter Tryz.func141, Tryz.ntmps141
 go_wp2_with (at_make; refine wpList_make_full _ rfl _ _ 33 rfl w.heap.size 9 i0 (.string ⟨#[]⟩) 1 Tryz.underlying33 hi hz0 hz1 _ _ _ _ n rfl rfl ?c0 ?c1 ?c2 (by have := HN.out; unfold maxLen; omega) (Nat.le_refl _) ?_)
 case c0 => omega
 case c1 => omega
 case c2 => have := HN.out; first | omega | (rw [hz2]; omega)
 intro w1 hown hgr
 have hfill := FillRow.start hown hgr
 have HW := Lib.hid hfill
 clear hown hgr hfill
 go_wp2
 go_loopw [13] (fun iv wr => ∃ k : Nat, iv = .int .i64 (k : Int) ∧ k ≤ n ∧ FillRow 9 (.string ⟨#[]⟩) n (strs7 G k) w wr ∧ ∀ i, i < k → P i) (fun iv _ => n - (intOf iv).toNat)
 case atStart => exact ⟨0, rfl, Nat.zero_le _, HW.out, fun i hi => absurd hi (by omega)⟩
 case round =>
  obtain ⟨k, rfl, hle, hfill, hps⟩ := hrel
  have HPS := Lib.hid hps
  clear hps
  have hzk := strs7_len G k
  by_cases hk : k < n
  ·obtain ⟨ad, rfl, hb, hc⟩ := HL.out k hk
   have hc2 : wr.cell? (ad.add k) = some (V k) := (cell_same (ad := ad.add k) (by rw [add_block7]; exact hfill.gr.block ad.block hb (by simp))).trans hc
   have t1 : decide (k < n) = true := by simpa using hk
   have t1' : decide ((k : Int) < (n : Int)) = true := by simpa using hk
   have hik : (k : Int) < (n : Int) := by omega
   have n1 : IntKind.i64.wrap ((k : Int) + 1) = (k : Int) + 1 := by have := HN.out; rw [IntKind.wrap_i64]; omega
   have HFL := Lib.hid hfill; have HK := Lib.hid (And.intro hk (And.intro hzk hle))
   clear hfill hk hle hzk hb hc
   go_wp2_with fail
   rw [HE.out]
   refine (HF.out k HK.out.1 wr HFL.out.gr).mono ?_
   rintro e w' (⟨hpk, rfl, hg⟩ | ⟨hnp, rfl, hg⟩)
   ·have HPK := Lib.hid hpk
    clear hpk
    have hf2 := HFL.out.grown hg
    have hcl := hf2.cell (by rw [HK.out.2.1]; exact HK.out.1)
    have hfr := hf2.free k
    rw [HK.out.2.1] at hcl
    have HF2 := Lib.hid hf2; have HG := Lib.hid hg
    clear hf2 hg
    go_wp2
    obtain ⟨hk, hzk, hle⟩ := HK.out
    have hput := HF2.out.put (by rw [hzk]; exact hk) (.string (G k))
    rw [hzk, strs7_succ] at hput
    refine ⟨⟨k + 1, by simp, hk, hput, fun i hi => ?_⟩, by simp [intOf]; omega⟩
    by_cases e : i = k
    ·subst e; exact HPK.out
    ·exact HPS.out i (by omega)
   ·go_wp2
    exact ⟨rfl, .inr ⟨fun h => hnp (h k HK.out.1), rfl, grown_trans HFL.out.gr hg⟩⟩
  ·have hkn : k = n := by omega
   subst hkn
   have t1 : decide (k < k) = false := by simp
   have t1' : decide ((k : Int) < (k : Int)) = false := by simp
   have HFL := Lib.hid hfill; have HK := Lib.hid hzk
   clear hfill hk hle hzk
   go_wp2
   go_ret
   exact .inl ⟨HPS.out, _, rfl, ⟨rfl, HFL.out.strs⟩, HFL.out.gr⟩
set_option maxRecDepth 20000 in
set_option maxHeartbeats 4000000 in
theorem combined_strs (F : Nat) (he : Enters F) (first cap : Array Value) (n m2 : Nat) (V V2 : Nat → Value) (P : Nat → Prop) (G : Nat → ByteArray) (lv rv : Value) (w : World) (hn : n ≤ 10000) (hl : RowR w lv n V) (hr : RowR w rv m2 V2) (hm2 : n ≤ m2)
  (hF : ∀ i, i < n → ∀ w', w.grownBy w' none → Calls Tryz.prog F (first ++ (#[V i, V2 i] ++ cap)) w' (OrDie0 (P i) (.string (G i)) w')) :
  Calls Tryz.prog 86 #[lv, rv, .func (.func F) first cap] w (StrsPost (∀ i, i < n → P i) n G w) := by
 obtain ⟨Ad, c, rfl, h1, h2, h3⟩ := hl
 obtain ⟨Ad2, c', rfl, h1', h2', h3'⟩ := hr
 obtain ⟨i0, hi, hz0, hz1, hz2⟩ := info_parts info_str
 have HE := Lib.hid he; have HF := Lib.hid hF; have HL := Lib.hid h3; have HN := Lib.hid hn
 clear he hF h3 h1 h2 hn
 have HL2 := Lib.hid h3'; have HM2 := Lib.hid hm2
 clear h1' h2' h3' hm2
 go_enter Tryz.func86, Tryz.ntmps86
 go_wp2_with (at_make; refine wpList_make_full _ rfl _ _ 33 rfl w.heap.size 9 i0 (.string ⟨#[]⟩) 1 Tryz.underlying33 hi hz0 hz1 _ _ _ _ n rfl rfl ?c0 ?c1 ?c2 (by have := HN.out; unfold maxLen; omega) (Nat.le_refl _) ?_)
 case c0 => omega
 case c1 => omega
 case c2 => have := HN.out; first | omega | (rw [hz2]; omega)
 intro w1 hown hgr
 have hfill := FillRow.start hown hgr
 have HW := Lib.hid hfill
 clear hown hgr hfill
 go_wp2
 go_loopw [15] (fun iv wr => ∃ k : Nat, iv = .int .i64 (k : Int) ∧ k ≤ n ∧ FillRow 9 (.string ⟨#[]⟩) n (strs7 G k) w wr ∧ ∀ i, i < k → P i) (fun iv _ => n - (intOf iv).toNat)
 case atStart => exact ⟨0, rfl, Nat.zero_le _, HW.out, fun i hi => absurd hi (by omega)⟩
 case round =>
  obtain ⟨k, rfl, hle, hfill, hps⟩ := hrel
  have HPS := Lib.hid hps
  clear hps
  have hzk := strs7_len G k
  by_cases hk : k < n
  ·obtain ⟨ad, rfl, hb, hc⟩ := HL.out k hk
   have hc2 : wr.cell? (ad.add k) = some (V k) := (cell_same (ad := ad.add k) (by rw [add_block7]; exact hfill.gr.block ad.block hb (by simp))).trans hc
   obtain ⟨ad2, rfl, hb2, hc3⟩ := HL2.out k (Nat.lt_of_lt_of_le hk HM2.out)
   have hc4 : wr.cell? (ad2.add k) = some (V2 k) := (cell_same (ad := ad2.add k) (by rw [add_block7]; exact hfill.gr.block ad2.block hb2 (by simp))).trans hc3
   have hik2' : (k : Int) < (m2 : Int) := by have := HM2.out; omega
   clear hb2 hc3
   have t1 : decide (k < n) = true := by simpa using hk
   have t1' : decide ((k : Int) < (n : Int)) = true := by simpa using hk
   have hik : (k : Int) < (n : Int) := by omega
   have n1 : IntKind.i64.wrap ((k : Int) + 1) = (k : Int) + 1 := by have := HN.out; rw [IntKind.wrap_i64]; omega
   have HFL := Lib.hid hfill; have HK := Lib.hid (And.intro hk (And.intro hzk hle))
   clear hfill hk hle hzk hb hc
   go_wp2_with fail
   rw [HE.out]
   refine (HF.out k HK.out.1 wr HFL.out.gr).mono ?_
   rintro e w' (⟨hpk, rfl, hg⟩ | ⟨hnp, rfl, hg⟩)
   ·have HPK := Lib.hid hpk
    clear hpk
    have hf2 := HFL.out.grown hg
    have hcl := hf2.cell (by rw [HK.out.2.1]; exact HK.out.1)
    have hfr := hf2.free k
    rw [HK.out.2.1] at hcl
    have HF2 := Lib.hid hf2; have HG := Lib.hid hg
    clear hf2 hg
    go_wp2
    obtain ⟨hk, hzk, hle⟩ := HK.out
    have hput := HF2.out.put (by rw [hzk]; exact hk) (.string (G k))
    rw [hzk, strs7_succ] at hput
    refine ⟨⟨k + 1, by simp, hk, hput, fun i hi => ?_⟩, by simp [intOf]; omega⟩
    by_cases e : i = k
    ·subst e; exact HPK.out
    ·exact HPS.out i (by omega)
   ·go_wp2
    exact ⟨rfl, .inr ⟨fun h => hnp (h k HK.out.1), rfl, grown_trans HFL.out.gr hg⟩⟩
  ·have hkn : k = n := by omega
   subst hkn
   have t1 : decide (k < k) = false := by simp
   have t1' : decide ((k : Int) < (k : Int)) = false := by simp
   have HFL := Lib.hid hfill; have HK := Lib.hid hzk
   clear hfill hk hle hzk
   go_wp2
   go_ret
   exact .inl ⟨HPS.out, _, rfl, ⟨rfl, HFL.out.strs⟩, HFL.out.gr⟩
set_option maxRecDepth 20000 in
set_option maxHeartbeats 4000000 in
theorem combined_rows (F : Nat) (he : Enters F) (first cap : Array Value) (n m2 : Nat) (V V2 : Nat → Value) (m : Nat) (P : Nat → Prop) (A : Nat → Nat → Value) (lv rv : Value) (w : World) (hn : n ≤ 10000) (hl : RowR w lv n V) (hr : RowR w rv m2 V2) (hm2 : n ≤ m2)
  (hF : ∀ i, i < n → ∀ w', w.grownBy w' none → Calls Tryz.prog F (first ++ (#[V i, V2 i] ++ cap)) w' (RowPost7 (P i) w.heap.size m (A i) w')) :
  Calls Tryz.prog 76 #[lv, rv, .func (.func F) first cap] w (RowsPost (∀ i, i < n → P i) n m A w) := by
 obtain ⟨Ad, c, rfl, h1, h2, h3⟩ := hl
 obtain ⟨Ad2, c', rfl, h1', h2', h3'⟩ := hr
 obtain ⟨i0, hi, hz0, hz1, hz2⟩ := info_parts info_row
 have HE := Lib.hid he; have HF := Lib.hid hF; have HL := Lib.hid h3; have HN := Lib.hid hn
 clear he hF h3 h1 h2 hn
 have HL2 := Lib.hid h3'; have HM2 := Lib.hid hm2
 clear h1' h2' h3' hm2
 go_enter Tryz.func76, Tryz.ntmps76
 go_wp2_with (at_make; refine wpList_make_full _ rfl _ _ 22 rfl w.heap.size 33 i0 (.slice none 0 0) 1 Tryz.underlying22 hi hz0 hz1 _ _ _ _ n rfl rfl ?c0 ?c1 ?c2 (by have := HN.out; unfold maxLen; omega) (Nat.le_refl _) ?_)
 case c0 => omega
 case c1 => omega
 case c2 => have := HN.out; first | omega | (rw [hz2]; omega)
 intro w1 hown hgr
 have hfill := FillRow.start hown hgr
 have HW := Lib.hid hfill
 clear hown hgr hfill
 go_wp2
 go_loopw [15] (fun iv wr => ∃ zs : List Value, iv = .int .i64 (zs.length : Int) ∧ FillRow 33 (.slice none 0 0) n zs w wr ∧ ∀ i, i < zs.length → ∃ gi off c, zs.getD i (.slice none 0 0) = .slice (some ⟨gi, off, none⟩) m c ∧ m ≤ c ∧ c ≤ maxLen ∧ gi ≠ w.heap.size ∧ RowAt wr gi off m (A i) ∧ P i) (fun iv _ => n - (intOf iv).toNat)
 case atStart => exact ⟨[], rfl, HW.out, fun i hi => absurd hi (by simp)⟩
 case round =>
  obtain ⟨zs, rfl, hfill, hrows⟩ := hrel
  obtain ⟨k, hzk⟩ : ∃ k, zs.length = k := ⟨_, rfl⟩
  have hle := hfill.le
  by_cases hk : k < n
  ·obtain ⟨ad, rfl, hb, hc⟩ := HL.out k hk
   have hc2 : wr.cell? (ad.add k) = some (V k) := (cell_same (ad := ad.add k) (by rw [add_block7]; exact hfill.gr.block ad.block hb (by simp))).trans hc
   obtain ⟨ad2, rfl, hb2, hc3⟩ := HL2.out k (Nat.lt_of_lt_of_le hk HM2.out)
   have hc4 : wr.cell? (ad2.add k) = some (V2 k) := (cell_same (ad := ad2.add k) (by rw [add_block7]; exact hfill.gr.block ad2.block hb2 (by simp))).trans hc3
   have hik2' : (k : Int) < (m2 : Int) := by have := HM2.out; omega
   clear hb2 hc3
   have t1 : decide (k < n) = true := by simpa using hk
   have t1' : decide ((k : Int) < (n : Int)) = true := by simpa using hk
   have hik : (k : Int) < (n : Int) := by omega
   have n1 : IntKind.i64.wrap ((k : Int) + 1) = (k : Int) + 1 := by have := HN.out; rw [IntKind.wrap_i64]; omega
   have HFL := Lib.hid hfill; have HK := Lib.hid (And.intro hk (And.intro hzk hle))
   have HR := Lib.hid hrows
   rw [hzk]
   clear hrows
   clear hfill hk hle hzk hb hc
   go_wp2_with fail
   rw [HE.out]
   refine (HF.out k HK.out.1 wr HFL.out.gr).mono ?_
   rintro e w' (⟨hpk, v, rfl, ⟨g, off, c2, rfl, hm1, hm2, hgl, hrow⟩, hg⟩ | ⟨hnp, rfl, hg⟩)
   ·have HPK := Lib.hid hpk
    clear hpk
    have hf2 := HFL.out.grown hg
    have hcl := hf2.cell (by rw [HK.out.2.1]; exact HK.out.1)
    have hfr := hf2.free k
    rw [HK.out.2.1] at hcl
    have HF2 := Lib.hid hf2; have HG := Lib.hid hg; have HROW := Lib.hid (And.intro hm1 (And.intro hm2 (And.intro hgl hrow)))
    clear hf2 hg hm1 hm2 hgl hrow
    go_wp2
    obtain ⟨hk, hzk, hle⟩ := HK.out
    have hput := HF2.out.put (by rw [hzk]; exact hk) (.slice (some ⟨g, off, none⟩) m c2)
    rw [hzk] at hput
    obtain ⟨hm1, hm2, hgl, hrow⟩ := HROW.out
    have hne : g ≠ w.heap.size := by
     rcases hgl with h | h
     ·omega
     ·have := (Array.getElem?_eq_some_iff.1 HFL.out.row).1; omega
    refine ⟨⟨zs ++ [.slice (some ⟨g, off, none⟩) m c2], by simp [hzk], hput, fun i hi => ?_⟩, by simp [intOf]; omega⟩
    by_cases hik2 : i < zs.length
    ·obtain ⟨gi, oi, ci, e1, e2, e3, e4, e5, e6⟩ := HR.out i hik2
     refine ⟨gi, oi, ci, ?_, e2, e3, e4, (e5.grown HG.out).grownB (grown_setCell _ _ _) e4, e6⟩
     rw [List.getD_eq_getElem?_getD, List.getElem?_append_left hik2, ← List.getD_eq_getElem?_getD]
     exact e1
    ·have hi2 : i = k := by simp at hi; omega
     subst hi2
     refine ⟨g, off, c2, ?_, hm1, hm2, hne, hrow.grownB (grown_setCell _ _ _) hne, HPK.out⟩
     rw [List.getD_eq_getElem?_getD, List.getElem?_append_right (by omega), hzk, Nat.sub_self]
     rfl
   ·go_wp2
    exact ⟨rfl, .inr ⟨fun h => hnp (h k HK.out.1), rfl, grown_trans HFL.out.gr hg⟩⟩
  ·have hkn : k = n := by omega
   subst hkn
   have t1 : decide (k < k) = false := by simp
   have t1' : decide ((k : Int) < (k : Int)) = false := by simp
   have HFL := Lib.hid hfill; have HK := Lib.hid hzk
   have HR := Lib.hid hrows
   rw [hzk]
   clear hrows
   clear hfill hk hle hzk
   go_wp2
   go_ret
   have hzk := HK.out
   exact .inl ⟨fun i hi => by obtain ⟨_, _, _, _, _, _, _, _, h⟩ := HR.out i (by omega); exact h, _, rfl, ⟨zs, rfl, hzk, HFL.out.rowAt hzk, fun i hi => by obtain ⟨gi, oi, ci, e1, e2, e3, e4, e5, e6⟩ := HR.out i (by omega); exact ⟨gi, oi, ci, e1, e2, e3, e4, e5⟩⟩, HFL.out.gr⟩
set_option maxRecDepth 20000 in
set_option maxHeartbeats 4000000 in
theorem combined_cls (F : Nat) (he : Enters F) (first cap : Array Value) (n m2 : Nat) (V V2 : Nat → Value) (m : Nat) (P : Nat → Prop) (A : Nat → Nat → Value) (lv rv : Value) (w : World) (hn : n ≤ 10000) (hl : RowR w lv n V) (hr : RowR w rv m2 V2) (hm2 : n ≤ m2)
  (hF : ∀ i, i < n → ∀ w', w.grownBy w' none → Calls Tryz.prog F (first ++ (#[V i, V2 i] ++ cap)) w' (RowPost7 (P i) w.heap.size m (A i) w')) :
  Calls Tryz.prog 84 #[lv, rv, .func (.func F) first cap] w (RowsPost (∀ i, i < n → P i) n m A w) := by
 obtain ⟨Ad, c, rfl, h1, h2, h3⟩ := hl
 obtain ⟨Ad2, c', rfl, h1', h2', h3'⟩ := hr
 obtain ⟨i0, hi, hz0, hz1, hz2⟩ := info_parts info_row
 have HE := Lib.hid he; have HF := Lib.hid hF; have HL := Lib.hid h3; have HN := Lib.hid hn
 clear he hF h3 h1 h2 hn
 have HL2 := Lib.hid h3'; have HM2 := Lib.hid hm2
 clear h1' h2' h3' hm2
 go_enter Tryz.func84, Tryz.ntmps84
 go_wp2_with (at_make; refine wpList_make_full _ rfl _ _ 22 rfl w.heap.size 33 i0 (.slice none 0 0) 1 Tryz.underlying22 hi hz0 hz1 _ _ _ _ n rfl rfl ?c0 ?c1 ?c2 (by have := HN.out; unfold maxLen; omega) (Nat.le_refl _) ?_)
 case c0 => omega
 case c1 => omega
 case c2 => have := HN.out; first | omega | (rw [hz2]; omega)
 intro w1 hown hgr
 have hfill := FillRow.start hown hgr
 have HW := Lib.hid hfill
 clear hown hgr hfill
 go_wp2
 go_loopw [15] (fun iv wr => ∃ zs : List Value, iv = .int .i64 (zs.length : Int) ∧ FillRow 33 (.slice none 0 0) n zs w wr ∧ ∀ i, i < zs.length → ∃ gi off c, zs.getD i (.slice none 0 0) = .slice (some ⟨gi, off, none⟩) m c ∧ m ≤ c ∧ c ≤ maxLen ∧ gi ≠ w.heap.size ∧ RowAt wr gi off m (A i) ∧ P i) (fun iv _ => n - (intOf iv).toNat)
 case atStart => exact ⟨[], rfl, HW.out, fun i hi => absurd hi (by simp)⟩
 case round =>
  obtain ⟨zs, rfl, hfill, hrows⟩ := hrel
  obtain ⟨k, hzk⟩ : ∃ k, zs.length = k := ⟨_, rfl⟩
  have hle := hfill.le
  by_cases hk : k < n
  ·obtain ⟨ad, rfl, hb, hc⟩ := HL.out k hk
   have hc2 : wr.cell? (ad.add k) = some (V k) := (cell_same (ad := ad.add k) (by rw [add_block7]; exact hfill.gr.block ad.block hb (by simp))).trans hc
   obtain ⟨ad2, rfl, hb2, hc3⟩ := HL2.out k (Nat.lt_of_lt_of_le hk HM2.out)
   have hc4 : wr.cell? (ad2.add k) = some (V2 k) := (cell_same (ad := ad2.add k) (by rw [add_block7]; exact hfill.gr.block ad2.block hb2 (by simp))).trans hc3
   have hik2' : (k : Int) < (m2 : Int) := by have := HM2.out; omega
   clear hb2 hc3
   have t1 : decide (k < n) = true := by simpa using hk
   have t1' : decide ((k : Int) < (n : Int)) = true := by simpa using hk
   have hik : (k : Int) < (n : Int) := by omega
   have n1 : IntKind.i64.wrap ((k : Int) + 1) = (k : Int) + 1 := by have := HN.out; rw [IntKind.wrap_i64]; omega
   have HFL := Lib.hid hfill; have HK := Lib.hid (And.intro hk (And.intro hzk hle))
   have HR := Lib.hid hrows
   rw [hzk]
   clear hrows
   clear hfill hk hle hzk hb hc
   go_wp2_with fail
   rw [HE.out]
   refine (HF.out k HK.out.1 wr HFL.out.gr).mono ?_
   rintro e w' (⟨hpk, v, rfl, ⟨g, off, c2, rfl, hm1, hm2, hgl, hrow⟩, hg⟩ | ⟨hnp, rfl, hg⟩)
   ·have HPK := Lib.hid hpk
    clear hpk
    have hf2 := HFL.out.grown hg
    have hcl := hf2.cell (by rw [HK.out.2.1]; exact HK.out.1)
    have hfr := hf2.free k
    rw [HK.out.2.1] at hcl
    have HF2 := Lib.hid hf2; have HG := Lib.hid hg; have HROW := Lib.hid (And.intro hm1 (And.intro hm2 (And.intro hgl hrow)))
    clear hf2 hg hm1 hm2 hgl hrow
    go_wp2
    obtain ⟨hk, hzk, hle⟩ := HK.out
    have hput := HF2.out.put (by rw [hzk]; exact hk) (.slice (some ⟨g, off, none⟩) m c2)
    rw [hzk] at hput
    obtain ⟨hm1, hm2, hgl, hrow⟩ := HROW.out
    have hne : g ≠ w.heap.size := by
     rcases hgl with h | h
     ·omega
     ·have := (Array.getElem?_eq_some_iff.1 HFL.out.row).1; omega
    refine ⟨⟨zs ++ [.slice (some ⟨g, off, none⟩) m c2], by simp [hzk], hput, fun i hi => ?_⟩, by simp [intOf]; omega⟩
    by_cases hik2 : i < zs.length
    ·obtain ⟨gi, oi, ci, e1, e2, e3, e4, e5, e6⟩ := HR.out i hik2
     refine ⟨gi, oi, ci, ?_, e2, e3, e4, (e5.grown HG.out).grownB (grown_setCell _ _ _) e4, e6⟩
     rw [List.getD_eq_getElem?_getD, List.getElem?_append_left hik2, ← List.getD_eq_getElem?_getD]
     exact e1
    ·have hi2 : i = k := by simp at hi; omega
     subst hi2
     refine ⟨g, off, c2, ?_, hm1, hm2, hne, hrow.grownB (grown_setCell _ _ _) hne, HPK.out⟩
     rw [List.getD_eq_getElem?_getD, List.getElem?_append_right (by omega), hzk, Nat.sub_self]
     rfl
   ·go_wp2
    exact ⟨rfl, .inr ⟨fun h => hnp (h k HK.out.1), rfl, grown_trans HFL.out.gr hg⟩⟩
  ·have hkn : k = n := by omega
   subst hkn
   have t1 : decide (k < k) = false := by simp
   have t1' : decide ((k : Int) < (k : Int)) = false := by simp
   have HFL := Lib.hid hfill; have HK := Lib.hid hzk
   have HR := Lib.hid hrows
   rw [hzk]
   clear hrows
   clear hfill hk hle hzk
   go_wp2
   go_ret
   have hzk := HK.out
   exact .inl ⟨fun i hi => by obtain ⟨_, _, _, _, _, _, _, _, h⟩ := HR.out i (by omega); exact h, _, rfl, ⟨zs, rfl, hzk, HFL.out.rowAt hzk, fun i hi => by obtain ⟨gi, oi, ci, e1, e2, e3, e4, e5, e6⟩ := HR.out i (by omega); exact ⟨gi, oi, ci, e1, e2, e3, e4, e5⟩⟩, HFL.out.gr⟩
end Go.Proofs.YtaogepcaoogpgaaGreatDoor
