/- U29 -/
import Derived.Test.YtaogepcaoogpgaaGreatDoorV33
import Derived.Test.YtaogepcaoogpgaaGreatDoorV34
import Derived.Test.YtaogepcaoogpgaaGreatDoorV08
import Derived.Deep.AppendLies
import Derived.Deep.RegionHeld3
set_option linter.unusedVariables false
set_option linter.unusedSimpArgs false
namespace Go.Proofs.YtaogepcaoogpgaaGreatDoor
open Go.RowKit
def backP (m : Mach) (k j x : Nat) : List Nat := (List.range k).flatMap (fun i => (stepsM m i).filterMap (fun t => if t = x then some i else none)) ++ ((stepsM m k).take j).filterMap (fun t => if t = x then some k else none)
def rowsP (m : Mach) (n k j : Nat) : List (List Nat) := (List.range n).map (backP m k j)
theorem rowsP_len (m : Mach) (n k j : Nat) : (rowsP m n k j).length = n := by simp [rowsP]
theorem rowsP_get {m : Mach} {n k j x : Nat} (h : x < n) : (rowsP m n k j)[x]? = some (backP m k j x) := by unfold rowsP; rw [List.getElem?_map, List.getElem?_range h]; rfl
theorem backP_next {m : Mach} {k j y : Nat} (h : (stepsM m k)[j]? = some y) (x : Nat) : backP m k (j + 1) x = if x = y then backP m k j x ++ [k] else backP m k j x := by
 unfold backP
 rw [take_one h, List.filterMap_append]
 by_cases e : x = y
 ·subst e
  rw [if_pos rfl, List.append_assoc]
  congr 2
  simp
 ·rw [if_neg e]
  congr 1
  have : ([y].filterMap (fun t => if t = x then some k else none)) = [] := by simp [Ne.symm e]
  rw [this, List.append_nil]
theorem rowsP_next {m : Mach} {n k j y : Nat} (h : (stepsM m k)[j]? = some y) (hy : y < n) : (rowsP m n k j).set y (backP m k j y ++ [k]) = rowsP m n k (j + 1) := by
 apply List.ext_getElem?
 intro i
 by_cases hi : i < n
 ·rw [rowsP_get hi, backP_next h]
  by_cases e : i = y
  ·subst e
   rw [List.getElem?_set_self (by rw [rowsP_len]; exact hi), if_pos rfl]
  ·rw [List.getElem?_set_ne (Ne.symm e), rowsP_get hi, if_neg e]
 ·rw [List.getElem?_eq_none (by rw [List.length_set, rowsP_len]; omega), List.getElem?_eq_none (by rw [rowsP_len]; omega)]
theorem backP_turn (m : Mach) (k x : Nat) {j : Nat} (h : (stepsM m k).length ≤ j) : backP m k j x = backP m (k + 1) 0 x := by
 unfold backP
 rw [List.take_of_length_le h, List.range_succ, List.flatMap_append, List.take_zero]
 simp
theorem rowsP_turn (m : Mach) (n k : Nat) {j : Nat} (h : (stepsM m k).length ≤ j) : rowsP m n k j = rowsP m n (k + 1) 0 := by
 unfold rowsP
 apply List.map_congr_left
 intro x _
 exact backP_turn m k x h
theorem backP_end (m : Mach) (x : Nat) : backP m m.states.length 0 x = backM m x := by unfold backP backM; simp
theorem rowsP_start (m : Mach) (n : Nat) : rowsP m n 0 0 = List.replicate n [] := by
 unfold rowsP
 apply List.ext_getElem?
 intro i
 rw [List.getElem?_map, List.getElem?_replicate]
 by_cases hi : i < n
 ·rw [List.getElem?_range hi, if_pos hi]; simp [backP]
 ·rw [List.getElem?_eq_none (by rw [List.length_range]; omega), if_neg hi]; rfl
structure NRows (W : World) (C r n : Nat) (vals : List Value) (rows : List (List Nat)) : Prop where
 row : W.heap[r]? = some (.cells vals.toArray 51 (0, 0))
 vl : vals.length = n
 rl : rows.length = n
 own : ∀ (k : Nat) (v : Value) (q : List Nat), vals[k]? = some v → rows[k]? = some q → W.ownsRow C 3 1 v q.length (nvL q)
 dis : ∀ (i j : Nat) (v v' : Value), i ≠ j → vals[i]? = some v → vals[j]? = some v' → v.ownBlock = none ∨ v.ownBlock ≠ v'.ownBlock
 hr : r < C
 hC : C ≤ W.heap.size
theorem NRows.next {W W' : World} {C r n : Nat} {vals : List Value} {rows : List (List Nat)} (h : NRows W C r n vals rows) (hg : W.grownBy W' none) : NRows W' C r n vals rows :=
 ⟨(hg.block r (by have := h.hr; have := h.hC; omega) (by simp)).trans h.row, h.vl, h.rl, fun k v q hv hq => (h.own k v q hv hq).kept hg (by cases e : v.ownBlock <;> simp), h.dis, h.hr, by have := hg.size; have := h.hC; omega⟩
theorem NRows.at_ {W : World} {C r n : Nat} {vals : List Value} {rows : List (List Nat)} (h : NRows W C r n vals rows) {y : Nat} (hy : y < n) : ∃ v q, vals[y]? = some v ∧ rows[y]? = some q ∧ W.cell? ⟨r, y, none⟩ = some v ∧ W.frozen? ⟨r, y, none⟩ = false ∧ W.ownsRow C 3 1 v q.length (nvL q) := by
 have h1 : vals[y]? = some (vals[y]'(by rw [h.vl]; exact hy)) := List.getElem?_eq_getElem (by rw [h.vl]; exact hy)
 have h2 : rows[y]? = some (rows[y]'(by rw [h.rl]; exact hy)) := List.getElem?_eq_getElem (by rw [h.rl]; exact hy)
 refine ⟨_, _, h1, h2, ?_, frozen_of_row W r y _ _ h.row, h.own y _ _ h1 h2⟩
 rw [cell_of_row W r y _ _ (0, 0) h.row, List.getElem?_toArray]; exact h1
theorem NRows.push {W w1 : World} {C r n y i g c : Nat} {vals : List Value} {rows : List (List Nat)} {v : Value} {q : List Nat} (h : NRows W C r n vals rows) (hv : vals[y]? = some v) (hq : rows[y]? = some q)
  (hown : w1.ownsRow C 3 1 (.slice (some ⟨g, 0, none⟩) (q.length + 1) c) (q.length + 1) (nvL q ++ [.int .i64 (i : Int)])) (hg : W.grownBy w1 v.ownBlock) (hat : v.ownBlock = some g ∨ g = W.heap.size) :
  NRows (w1.setCell ⟨r, y, none⟩ (.slice (some ⟨g, 0, none⟩) (q.length + 1) c)) C r n (vals.set y (.slice (some ⟨g, 0, none⟩) (q.length + 1) c)) (rows.set y (q ++ [i])) := by
 have hyl : y < n := by have := (List.getElem?_eq_some_iff.1 hv).1; rw [h.vl] at this; exact this
 have hvo := (h.own y v q hv hq).lt
 have hr := h.hr; have hC := h.hC
 have h1 : w1.heap[r]? = some (.cells vals.toArray 51 (0, 0)) := (hg.block r (by omega) (fun e => by have := (hvo r e.symm).1; omega)).trans h.row
 have gs := grown_setCell w1 ⟨r, y, none⟩ (.slice (some ⟨g, 0, none⟩) (q.length + 1) c)
 have hgC : C ≤ g := by
  have := (hown.lt g rfl).1
  exact this
 refine ⟨?_, by rw [List.length_set]; exact h.vl, by rw [List.length_set]; exact h.rl, fun k u p hu hp => ?_, fun a b u u' hne hu hu' => ?_, hr, by have := hg.size; simp; omega⟩
 ·rw [heap_setCell_same w1 r y _ _ _ h1]; simp
 ·by_cases e : k = y
  ·subst e
   rw [List.getElem?_set_self (by rw [h.vl]; exact hyl)] at hu
   rw [List.getElem?_set_self (by rw [h.rl]; exact hyl)] at hp
   cases hu; cases hp
   have hh := hown.kept gs (.inr (by show some g ≠ some r; intro e; cases e; omega))
   rw [List.length_append, List.length_singleton]
   unfold nvL
   rw [List.map_append]
   exact hh
  ·rw [List.getElem?_set_ne (Ne.symm e)] at hu hp
   have ho := h.own k u p hu hp
   have h2 : w1.ownsRow C 3 1 u p.length (nvL p) := ho.kept hg (by
    rcases h.dis k y u v e hu hv with h | h
    ·exact .inl h
    ·exact .inr h)
   exact h2.kept gs (by
    cases eb : u.ownBlock with
    | none => exact .inl rfl
    | some b => exact .inr (by have := (ho.lt b eb).1; show some b ≠ some r; intro e; cases e; omega))
 ·have hlt : ∀ (k : Nat) (z : Value), vals[k]? = some z → z.ownBlock ≠ some W.heap.size := fun k z hz e => by
   obtain ⟨p, hp⟩ : ∃ p, rows[k]? = some p := ⟨_, List.getElem?_eq_getElem (by have := (List.getElem?_eq_some_iff.1 hz).1; rw [h.rl, ← h.vl]; exact this)⟩
   have := ((h.own k z p hz hp).lt _ e).2
   omega
  by_cases ea : a = y
  ·subst ea
   rw [List.getElem?_set_self (by rw [h.vl]; exact hyl)] at hu
   rw [List.getElem?_set_ne hne] at hu'
   cases hu
   right
   show some g ≠ u'.ownBlock
   rcases hat with e | e
   ·intro e2
    rcases h.dis a b v u' hne hv hu' with h3 | h3
    ·rw [e] at h3; cases h3
    ·exact h3 (e.trans e2)
   ·intro e2; exact hlt b u' hu' (by rw [← e2, e])
  ·rw [List.getElem?_set_ne (Ne.symm ea)] at hu
   by_cases eb : b = y
   ·subst eb
    rw [List.getElem?_set_self (by rw [h.vl]; exact hyl)] at hu'
    cases hu'
    show u.ownBlock = none ∨ u.ownBlock ≠ some g
    rcases hat with e | e
    ·rcases h.dis a b u v hne hu hv with h3 | h3
     ·exact .inl h3
     ·exact .inr (by rw [← e]; exact h3)
    ·exact .inr (by rw [e]; exact hlt a u hu)
   ·rw [List.getElem?_set_ne (Ne.symm eb)] at hu'
    exact h.dis a b u u' hne hu hu'
theorem NRows.start {W : World} {B g n : Nat} {l : List Value} (hc : W.heap[g]? = some (.cells (List.replicate n (Value.slice none 0 0)).toArray 51 (0, 0))) : NRows W W.heap.size g n (List.replicate n (.slice none 0 0)) (List.replicate n []) := by
 refine ⟨hc, by simp, by simp, fun k v q hv hq => ?_, fun i j v v' _ hv _ => ?_, lt_of_block hc, Nat.le_refl _⟩
 ·rw [List.getElem?_replicate] at hv hq
  split at hv
  ·cases hv
   rw [if_pos (by assumption)] at hq
   cases hq
   exact World.ownsRow_nil _ _ _ _
  ·cases hv
 ·rw [List.getElem?_replicate] at hv
  split at hv
  ·cases hv; exact .inl rfl
  ·cases hv
theorem info_int6 : (Tryz.prog.info? 3).map (fun i => (i.zero, i.size, i.bytes)) = some (some (.int .i64 0), 1, 8) := by kernel_rfl
theorem info_row6 : (Tryz.prog.info? 51).map (fun i => (i.zero, i.size, i.bytes)) = some (some (.slice none 0 0), 1, 24) := by kernel_rfl
open Go.RowKit
theorem enters_pred : Enters 219 := enters_of Tryz.func219 (by kernel_rfl) rfl
structure BackAt (w0 : World) (p n : Nat) (f : Nat → List Nat) : Prop where
 ex : ∃ r, w0.heap[p]? = some (.cells #[.slice (some ⟨r, 0, none⟩) n n] 82 (0, 0)) ∧ r < w0.heap.size ∧ ∀ x, x < n → ∃ v, w0.cell? ⟨r, x, none⟩ = some v ∧ NSl w0 v (f x)
theorem reads_own1 {w : World} {B n : Nat} {v : Value} {xs : List Value} (h : w.ownsRow B 3 1 v n xs) : ∃ A cap, v = .slice A n cap ∧ Reads w w.heap.size 1 A n xs := reads_of_own h
theorem BackAt.of {W : World} {C r p n : Nat} {vals : List Value} {f : Nat → List Nat} (h : NRows W C r n vals ((List.range n).map f)) (hp : W.heap[p]? = some (.cells #[.slice (some ⟨r, 0, none⟩) n n] 82 (0, 0))) : BackAt W p n f := by
 refine ⟨r, hp, by have := h.hr; have := h.hC; omega, fun x hx => ?_⟩
 obtain ⟨v, q, h1, h2, h3, _, h5⟩ := h.at_ hx
 rw [List.getElem?_map, List.getElem?_range hx] at h2
 simp at h2
 subst h2
 obtain ⟨A, cap, hv, hr⟩ := reads_own1 h5
 exact ⟨v, h3, A, cap, hv, hr⟩
set_option maxRecDepth 20000 in
set_option maxHeartbeats 2000000 in
theorem pred_steps {w0 : World} {p : Nat} {m : Mach} (hbk : BackAt w0 p m.states.length (backM m)) (hm : Small m) (hlen : ∀ x, (backM m x).length ≤ 1000000000) : Steps w0 219 p m.states.length (backM m) := by
 intro W B C s r t x o v hB0 hBB hmem hx hnd hlt
 obtain ⟨rb, hp, hrb, hrow⟩ := hbk
 obtain ⟨vx, hcx, hns⟩ := hrow x hx
 obtain ⟨x0, _⟩ := one_cell ((hB0.block p (lt_of_block hp)).trans hp)
 have y0 := (hB0.cell (p := ⟨rb, x, none⟩) hrb).trans hcx
 obtain ⟨A, cap, rfl, hr⟩ := hns
 have n1 : (0 : Int) ≤ (x : Int) := by omega
 have n2 : (x : Int) < (m.states.length : Int) := by omega
 have hln := hlen x
 have hn3 := hm.n
 have HMEM := Lib.hid hmem; have HR := Lib.hid hr; have HB0 := Lib.hid hB0; have HND := Lib.hid hnd; have HLT := Lib.hid hlt
 clear hp hrb hrow hcx hmem hr hm hnd hlt hB0 hlen
 go_enter Tryz.func219, Tryz.ntmps219
 go_wp2
 clear x0 y0
 go_loopw [12] (fun i wr => ∃ (j : Nat) (v : Value), i = .int .i64 j ∧ j ≤ (backM m x).length ∧ SMem wr B C s r t m.states.length (((backM m x).take j).foldl pushN o) v ∧ Below B W wr) (fun i _ => (backM m x).length - (intOf i).toNat)
 case atStart => exact ⟨0, v, rfl, by omega, HMEM.out, Below.refl _ _⟩
 case round =>
  obtain ⟨j, v', rfl, hj, hmem, hb⟩ := hrel
  have HMEM2 := Lib.hid hmem; have HB := Lib.hid hb
  have hB1 : Below w0.heap.size w0 wr := HB0.out.trans (hb.mono hBB)
  clear hmem hb
  by_cases hjl : j < (backM m x).length
  ·obtain ⟨ad, y, hA, hst, hc⟩ := reads_nat ((HR.out.below hB1).more hB1.size) hjl
   subst hA
   have hyn : y < m.states.length := back_below x y (List.mem_of_getElem? hst)
   have htk : ((backM m x).take (j + 1)).foldl pushN o = pushN (((backM m x).take j).foldl pushN o) y := by
    rw [take_one hst, folds_snoc]
   have hlen : (((backM m x).take j).foldl pushN o).length ≤ 1000000 := by
    have := short_list (folds_nodup (l := (backM m x).take j) HND.out) (folds_below (l := (backM m x).take j) HLT.out (fun z hz => back_below x z (List.mem_of_mem_take hz)))
    omega
   have n3 : (j : Int) < ((backM m x).length : Int) := by omega
   have n4 : IntKind.i64.wrap ((j : Int) + 1) = (j : Int) + 1 := by rw [IntKind.wrap_i64]; omega
   have HTK := Lib.hid htk
   have HRR := Lib.hid (reach_any HMEM2.out hyn hlen)
   clear hst htk hB1
   go_wp2_with fail
   refine HRR.out.mono ?_
   rintro e w5 ⟨rfl, ⟨v5, hm5⟩, hb5⟩
   have HM5 := Lib.hid hm5
   have HB5 := Lib.hid (HB.out.trans hb5)
   clear hm5 hb5 hc
   go_wp2
   go_roundw
   case rel => exact ⟨j + 1, v5, by go_num, by omega, by rw [HTK.out]; exact HM5.out, HB5.out⟩
   case measure => simp [intOf]; omega
  ·have n3 : ¬ (j : Int) < ((backM m x).length : Int) := by omega
   have e : (backM m x).take j = backM m x := List.take_of_length_le (by omega)
   rw [e] at HMEM2
   clear hB1
   go_wp2
   go_end0
   exact ⟨rfl, ⟨v', HMEM2.out⟩, HB.out⟩
def PredPost (m : Mach) (w : World) (e : Ending) (w' : World) : Prop := ∃ p, e = .returned (.func (.func 219) #[] #[.pointer (some ⟨p, 0, none⟩)]) ∧ BackAt w' p m.states.length (backM m) ∧ w.grownBy w' none
theorem full_row {w : World} {B g n : Nat} {e : TypeId} {l : List Value} (h : w.ownsRow B e 1 (.slice (some ⟨g, 0, none⟩) n n) n l) : w.heap[g]? = some (.cells l.toArray e (0, 0)) := by
 rcases h.2 with ⟨h', _⟩ | ⟨g', cap', cur, h', hb, hg, _, _, hs, ht⟩
 ·simp at h'
 ·simp only [Value.slice.injEq, Option.some.injEq, Addr.mk.injEq, and_true, true_and] at h'
  obtain ⟨rfl, rfl⟩ := h'
  rw [List.take_of_length_le (by rw [Array.length_toList, hs]; exact Nat.le_refl _)] at ht
  subst ht
  rw [hg]
theorem keep_cell {W3 w1 : World} {ob : Obj} {v : Value} {a : Addr} {x : Value} (h : W3.cell? a = some x) (hg : ((W3.alloc ob).drew).grownBy w1 v.ownBlock) (hne : some a.block ≠ v.ownBlock) : w1.cell? a = some x :=
 hg.cell (show (W3.alloc ob).cell? a = some x from (World.grownBy_alloc W3 ob none).cell h (by simp)) hne
theorem keep_free {W3 w1 : World} {ob : Obj} {v : Value} {a : Addr} (hlt : a.block < W3.heap.size) (h : W3.frozen? a = false) (hg : ((W3.alloc ob).drew).grownBy w1 v.ownBlock) (hne : some a.block ≠ v.ownBlock) : w1.frozen? a = false :=
 (World.frozen?_of_block ((hg.block a.block (by show a.block < (W3.alloc ob).heap.size; simp; omega) hne).trans ((World.grownBy_alloc W3 ob none).block a.block hlt (by simp)))).trans h
theorem keep_new {W3 : World} {ob : Obj} {a : Addr} {x : Value} (h : W3.cell? a = some x) : ((W3.alloc ob).drew).cell? a = some x := (World.grownBy_alloc W3 ob none).cell h (by simp)
theorem back_len {m : Mach} (hm : Small m) : ∀ k j x, (backP m k j x).length ≤ (k + 1) * 30000 := by
 have hs : ∀ i, (stepsM m i).length ≤ 30000 := fun i => by
  unfold stepsM
  split
  ·rename_i s h
   rw [List.length_map]; exact hm.a s (List.mem_of_getElem? h)
  ·simp
 intro k j x
 unfold backP
 rw [List.length_append]
 have h1 : ((List.range k).flatMap (fun i => (stepsM m i).filterMap (fun t => if t = x then some i else none))).length ≤ k * 30000 := by
  induction k with
  | zero => simp
  | succ k ih =>
   rw [List.range_succ, List.flatMap_append, List.length_append]
   have := List.length_filterMap_le (fun t => if t = x then some k else none) (stepsM m k)
   have := hs k
   simp only [List.flatMap_cons, List.flatMap_nil, List.append_nil]
   omega
 have h2 := List.length_filterMap_le (fun t => if t = x then some k else none) ((stepsM m k).take j)
 have h3 := hs k
 rw [List.length_take] at h2
 omega
set_option maxRecDepth 20000 in
set_option maxHeartbeats 8000000 in
theorem predecessors_any {w : World} {v : Value} {m : Mach} (hv : MachV w v m) (hm : Small m) : Calls Tryz.prog 184 #[v] w (PredPost m w) := by
 obtain ⟨i0, hi, hz0, hz1, hz2⟩ := info_parts6 info_row6
 obtain ⟨i1, hj, hy0, hy1, hy2⟩ := info_parts6 info_int6
 obtain ⟨u, rfl, hst0⟩ := hv
 obtain ⟨A, cap, us, rfl, hS0⟩ := StAt.of hst0
 have hg : w.grownBy (w.alloc (.cells #[.int .i64 m.kind, .int .i64 m.start, .string m.lead, .slice A m.states.length cap] 31)) none := World.grownBy_alloc _ _ _
 have hbx := BoxAt.new w m (.slice A m.states.length cap)
 have HS := Lib.hid hS0; have HBX := Lib.hid hbx; have HG := Lib.hid hg; have HM := Lib.hid hm
 have hn3 := hm.n
 obtain ⟨x0, x1, x2, x3⟩ := hbx.cells
 clear hbx hg hst0 hS0 hm
 go_enter Tryz.func184, Tryz.ntmps184
 go_wp2_with (at_make; refine wpList_make_full _ rfl _ _ 82 rfl (w.heap.size + 1) 51 i0 (.slice none 0 0) 1 Tryz.underlying82 hi hz0 hz1 _ _ _ _ m.states.length rfl rfl rfl rfl (by rw [hz2]; omega) (by unfold maxLen; omega) (by simp) ?_)
 intro w1 hown hgr
 have hrow := full_row hown
 rw [toList_madeCells_one] at hrow
 have hga := World.grownBy_alloc w1 (.cells #[.slice (some ⟨w.heap.size + 1, 0, none⟩) m.states.length m.states.length] 82) none
 have hpv : (w1.alloc (.cells #[.slice (some ⟨w.heap.size + 1, 0, none⟩) m.states.length m.states.length] 82)).heap[w1.heap.size]? = some (.cells #[.slice (some ⟨w.heap.size + 1, 0, none⟩) m.states.length m.states.length] 82 (0, 0)) := by
  show (w1.heap.push _)[w1.heap.size]? = _
  rw [Array.getElem?_push_size]
 have hr1 := NRows.start (B := 0) (l := []) ((hga.block _ (lt_of_block hrow) (by simp)).trans hrow)
 have hbx1 := (HBX.out.grown hgr).grown hga
 obtain ⟨y0, y1, y2, y3⟩ := hbx1.cells
 have HG1 := Lib.hid (grown_trans HG.out (grown_trans hgr hga))
 have hsz : (w1.alloc (.cells #[.slice (some ⟨w.heap.size + 1, 0, none⟩) m.states.length m.states.length] 82)).heap.size = w1.heap.size + 1 := by simp
 rw [hsz] at hr1
 rw [← rowsP_start m] at hr1
 have HPV := Lib.hid hpv; have HR1 := Lib.hid hr1
 have hlt1 : w.heap.size + 1 < w1.heap.size := lt_of_block hrow
 clear hown hgr hrow hga hpv hr1 hbx1 hsz x0 x1 x2 x3
 go_wp2
 generalize hW : w1.alloc (.cells #[.slice (some ⟨w.heap.size + 1, 0, none⟩) m.states.length m.states.length] 82) = W at *
 clear hW y0 y1 y2 y3
 go_loopw [15] (fun i wr => ∃ (k : Nat) (vals : List Value), i = .int .i64 k ∧ k ≤ m.states.length ∧ NRows wr (w1.heap.size + 1) (w.heap.size + 1) m.states.length vals (rowsP m m.states.length k 0) ∧
  wr.heap[w1.heap.size]? = some (.cells #[.slice (some ⟨w.heap.size + 1, 0, none⟩) m.states.length m.states.length] 82 (0, 0)) ∧ Below w.heap.size w wr) (fun i _ => m.states.length - (intOf i).toNat)
 case atStart => exact ⟨0, _, rfl, by omega, HR1.out, HPV.out, below_of HG1.out⟩
 case round =>
  obtain ⟨k, vals, rfl, hk, hrows, hpv, hb⟩ := hrel
  have HROWS := Lib.hid hrows; have HPV2 := Lib.hid hpv; have HB := Lib.hid hb
  clear hrows hpv hb
  by_cases hlt : k < m.states.length
  ·obtain ⟨ad, s, Br, cb, hA, hs, hu, hc, hra⟩ := (HS.out.below HB.out).at_ hlt
   subst hA
   obtain ⟨z0, z1⟩ := hc
   have hal := HM.out.a s (List.mem_of_getElem? hs)
   have n1 : (k : Int) < (m.states.length : Int) := by omega
   have n2 : IntKind.i64.wrap ((k : Int) + 1) = (k : Int) + 1 := by rw [IntKind.wrap_i64]; omega
   have hga := World.grownBy_alloc wr (.cells #[.string s.fin, .slice Br s.arcs.length cb] 57) none
   have HSS := Lib.hid hs; have HU := Lib.hid hu
   have HR2 := Lib.hid (HROWS.out.next hga)
   have HP2 := Lib.hid ((hga.block _ (lt_of_block HPV2.out) (by simp)).trans HPV2.out)
   have HB2 := Lib.hid (grown_below HB.out |> fun h => below_of (grown_trans h hga))
   clear hs hu hra hga
   go_wp2
   generalize hW2 : wr.alloc (.cells #[.string s.fin, .slice Br s.arcs.length cb] 57) = W2 at *
   clear hW2 z0 z1
   generalize wr = w4 at *
   go_loopw [23] (fun i wr => ∃ (j : Nat) (vals : List Value), i = .int .i64 j ∧ j ≤ s.arcs.length ∧ NRows wr (w1.heap.size + 1) (w.heap.size + 1) m.states.length vals (rowsP m m.states.length k j) ∧
    wr.heap[w1.heap.size]? = some (.cells #[.slice (some ⟨w.heap.size + 1, 0, none⟩) m.states.length m.states.length] 82 (0, 0)) ∧ Below w.heap.size w wr) (fun i _ => s.arcs.length - (intOf i).toNat)
   case atStart => exact ⟨0, vals, rfl, by omega, HR2.out, HP2.out, HB2.out⟩
   case round =>
    obtain ⟨j, vals2, rfl, hj2, hrows, hpv, hb⟩ := hrel
    have HROWS3 := Lib.hid hrows; have HPV3 := Lib.hid hpv; have HB3 := Lib.hid hb
    clear hrows hpv hb
    by_cases hjl : j < s.arcs.length
    ·obtain ⟨ad2, a, hBr, hab, haj, hat⟩ := row_arc ((HS.out.below HB3.out).arcs_at HSS.out HU.out) hjl
     subst hBr
     obtain ⟨z0, z1, z2, z3⟩ := hat
     have harc := HM.out.wf.arcs s (List.mem_of_getElem? HSS.out) a (List.mem_of_getElem? haj)
     obtain ⟨y, hy⟩ : ∃ y : Nat, a.t = (y : Int) := ⟨a.t.toNat, by omega⟩
     have hyn : y < m.states.length := by omega
     have hst : (stepsM m k)[j]? = some y := by rw [stepsM_at HSS.out, List.getElem?_map, haj]; simp [hy]
     have hnx := rowsP_next hst hyn
     rw [hy] at z3
     have n3 : (j : Int) < (s.arcs.length : Int) := by omega
     have n4 : IntKind.i64.wrap ((j : Int) + 1) = (j : Int) + 1 := by rw [IntKind.wrap_i64]; omega
     have n5 : (0 : Int) ≤ (y : Int) := by omega
     have n6 : (y : Int) < (m.states.length : Int) := by omega
     have hga := World.grownBy_alloc wr (.cells #[.int .i64 a.i, .int .i64 a.o, .string a.w, .int .i64 (y : Int)] 59) none
     have hr4 := HROWS3.out.next hga
     obtain ⟨vy, q, hvy, hq, c3, f3, hown⟩ := hr4.at_ hyn
     have hqe : q = backP m k j y := by rw [rowsP_get hyn] at hq; exact (Option.some.inj hq).symm
     have hql : q.length ≤ 3001 * 30000 := by rw [hqe]; exact Nat.le_trans (back_len HM.out k j y) (Nat.mul_le_mul_right _ (by omega))
     have hownr := HROWS3.out.own y vy q hvy hq
     obtain ⟨c1, _⟩ := one_cell ((hga.block _ (lt_of_block HPV3.out) (by simp)).trans HPV3.out)
     have HNX := Lib.hid (by rw [hqe]; exact hnx : (rowsP m m.states.length k j).set y (q ++ [k]) = rowsP m m.states.length k (j + 1))
     have HB4 := Lib.hid (below_of (grown_trans (grown_below HB3.out) hga))
     have HR4 := Lib.hid hr4; have HVY := Lib.hid hvy; have HQ := Lib.hid hq; have HOWN := Lib.hid hown
     have N1 : some w1.heap.size ≠ vy.ownBlock := fun e => by have := (hown.lt _ e.symm).1; omega
     have N2 : some wr.heap.size ≠ vy.ownBlock := fun e => by have := (hownr.lt _ e.symm).2; omega
     have N3 : some (w.heap.size + 1) ≠ vy.ownBlock := fun e => by have := (hown.lt _ e.symm).1; omega
     have hlt3 := HROWS3.out.hC
     have HPV4 := Lib.hid ((hga.block _ (lt_of_block HPV3.out) (by simp)).trans HPV3.out)
     have HC1 := Lib.hid c1; have HC3 := Lib.hid c3; have HF3 := Lib.hid f3; have HN1 := Lib.hid N1; have HN2 := Lib.hid N2; have HN3 := Lib.hid N3
     clear haj harc hy hst hnx hr4 hvy hq hqe hownr hga hown c1 c3 f3 N1 N2 N3
     go_upto_region 8 with (fail)
     have c2 := (arc_new wr ⟨a.i, a.o, a.w, (y : Int)⟩).c3
     simp only [Nat.zero_add] at c2
     have hsz4 : (wr.alloc (.cells #[.int .i64 a.i, .int .i64 a.o, .string a.w, .int .i64 (y : Int)] 59)).heap.size = wr.heap.size + 1 := by simp
     generalize hW3 : wr.alloc (.cells #[.int .i64 a.i, .int .i64 a.o, .string a.w, .int .i64 (y : Int)] 59) = W3 at *
     clear hW3 z0 z1 z2 z3
     have c1 := HC1.out; have c3 := HC3.out; have f3 := HF3.out
     have N1 := HN1.out; have N2 := HN2.out; have N3 := HN3.out
     have q1 := World.new_ne W3 _ c1
     have q2 := World.new_ne W3 _ c2
     have q3 := World.new_ne W3 _ c3
     have HSZ4 := Lib.hid hsz4
     have hle4 : w1.heap.size + 1 ≤ W3.heap.size := by omega
     clear hsz4
     refine wp_region_last (e := 12) (n := 12) (fun W' => W'.cell? ⟨w1.heap.size, 0, none⟩ = some (.slice (some ⟨w.heap.size + 1, 0, none⟩) m.states.length m.states.length) ∧ W'.cell? ⟨wr.heap.size, 3, none⟩ = some (.int .i64 (y : Int)) ∧ W'.cell? ⟨w.heap.size + 1, y, none⟩ = some vy) (by kernel_rfl) (by kernel_rfl) rfl ?_
     have hS0 : (fun W' : World => W'.cell? ⟨w1.heap.size, 0, none⟩ = some (.slice (some ⟨w.heap.size + 1, 0, none⟩) m.states.length m.states.length) ∧ W'.cell? ⟨wr.heap.size, 3, none⟩ = some (.int .i64 (y : Int)) ∧ W'.cell? ⟨w.heap.size + 1, y, none⟩ = some vy) W3.drew := ⟨c1, c2, c3⟩
     refine wpAnyH_take (i := 0) (v := .slice (some ⟨w.heap.size + 1, 0, none⟩) m.states.length m.states.length) rfl (by kernel_rfl) (by kernel_rfl) (by kernel_rfl) (fun _ _ _ h => h) (Or.inl ⟨by rfl, ?_⟩) hS0 ?_
     ·intro W hSw
      (try dsimp only at hSw)
      first | (go_simp; done) | (go_simp; rfl)
     (try simp only [Act.put, List.setIfInBounds_toArray, List.set_cons_zero, List.set_cons_succ])
     refine wpAnyH_take (i := 1) (v := .pointer (some ⟨wr.heap.size, 3, none⟩)) rfl (by kernel_rfl) (by kernel_rfl) (by kernel_rfl) (fun _ _ _ h => h) (Or.inl ⟨by rfl, ?_⟩) hS0 ?_
     ·intro W hSw
      (try dsimp only at hSw)
      first | (go_simp; done) | (go_simp; rfl)
     (try simp only [Act.put, List.setIfInBounds_toArray, List.set_cons_zero, List.set_cons_succ])
     refine wpAnyH_take (i := 2) (v := .int .i64 (y : Int)) rfl (by kernel_rfl) (by kernel_rfl) (by kernel_rfl) (fun _ _ _ h => h) (Or.inl ⟨by rfl, ?_⟩) hS0 ?_
     ·intro W hSw
      (try dsimp only at hSw)
      first | (go_simp; done) | (go_simp; rfl)
     (try simp only [Act.put, List.setIfInBounds_toArray, List.set_cons_zero, List.set_cons_succ])
     refine wpAnyH_take (i := 3) (v := .slice (some ⟨w.heap.size + 1, 0, none⟩) m.states.length m.states.length) rfl (by kernel_rfl) (by kernel_rfl) (by kernel_rfl) (fun _ _ _ h => h) (Or.inl ⟨by rfl, ?_⟩) hS0 ?_
     ·intro W hSw
      (try dsimp only at hSw)
      first | (go_simp; done) | (go_simp; rfl)
     (try simp only [Act.put, List.setIfInBounds_toArray, List.set_cons_zero, List.set_cons_succ])
     refine wpAnyH_take (i := 4) (v := .pointer (some ⟨wr.heap.size, 3, none⟩)) rfl (by kernel_rfl) (by kernel_rfl) (by kernel_rfl) (fun _ _ _ h => h) (Or.inl ⟨by rfl, ?_⟩) hS0 ?_
     ·intro W hSw
      (try dsimp only at hSw)
      first | (go_simp; done) | (go_simp; rfl)
     (try simp only [Act.put, List.setIfInBounds_toArray, List.set_cons_zero, List.set_cons_succ])
     refine wpAnyH_take (i := 5) (v := .int .i64 (y : Int)) rfl (by kernel_rfl) (by kernel_rfl) (by kernel_rfl) (fun _ _ _ h => h) (Or.inl ⟨by rfl, ?_⟩) hS0 ?_
     ·intro W hSw
      (try dsimp only at hSw)
      first | (go_simp; done) | (go_simp; rfl)
     (try simp only [Act.put, List.setIfInBounds_toArray, List.set_cons_zero, List.set_cons_succ])
     refine wpAnyH_take (i := 6) (v := .pointer (some ⟨w.heap.size + 1, y, none⟩)) rfl (by kernel_rfl) (by kernel_rfl) (by kernel_rfl) (fun _ _ _ h => h) (Or.inl ⟨by rfl, ?_⟩) hS0 ?_
     ·intro W hSw
      (try dsimp only at hSw)
      first | (go_simp; done) | (go_simp; rfl)
     (try simp only [Act.put, List.setIfInBounds_toArray, List.set_cons_zero, List.set_cons_succ])
     refine wpAnyH_take (i := 7) (v := vy) rfl (by kernel_rfl) (by kernel_rfl) (by kernel_rfl) (fun _ _ _ h => h) (Or.inl ⟨by rfl, ?_⟩) hS0 ?_
     ·intro W hSw
      (try dsimp only at hSw)
      first | (go_simp; done) | (go_simp; rfl)
     (try simp only [Act.put, List.setIfInBounds_toArray, List.set_cons_zero, List.set_cons_succ])
     refine wpAnyH_take (i := 8) (v := .int .i64 (k : Int)) rfl (by kernel_rfl) (by kernel_rfl) (by kernel_rfl) (fun _ _ _ h => h) (Or.inl ⟨by rfl, ?_⟩) hS0 ?_
     ·intro W hSw
      (try dsimp only at hSw)
      first | (go_simp; done) | (go_simp; rfl)
     (try simp only [Act.put, List.setIfInBounds_toArray, List.set_cons_zero, List.set_cons_succ])
     refine wpAnyH_ready (rs := [9]) (by kernel_rfl) (by simp) ?_
     refine AllReadyH.cons rfl (fun K hK => ?_) AllReadyH.nil
     go_simp
     refine hK.out _ _ ⟨keep_new c1, keep_new c2, keep_new c3⟩ (fun hHeld => ?_)
     refine wpAnyH_ready (rs := [10]) (by kernel_rfl) (by simp) ?_
     refine AllReadyH.cons rfl (fun K hK => ?_) AllReadyH.nil
     refine step_append_lies _ (by rfl) _ _ _ (by rfl) (w1.heap.size + 1) 3 i1 (.int .i64 0) 1 8 Tryz.underlying51 hj hy0 hy1 hy2 rfl (by omega) vy q.length (nvL q) (by rfl) ((HOWN.out.alloc _).drew) ⟨W3.heap.size, 0, none⟩ 1 1 [.int .i64 (k : Int)] (by rfl) (by rfl) (World.news_of_block (cs := #[.int .i64 (k : Int)]) (t := 3) (fr := (0, 0)) (heap_alloc_new W3 _)) (by simp [Value.oneCell']) (by omega) (by unfold maxLen; omega) (by omega) (by simp; omega) (W3.heap.size + 1) (by simp) ?_
     intro gg cc w6 hown6 hgrow hat hlt6
     refine hK.out _ _ ⟨keep_cell c1 hgrow N1, keep_cell c2 hgrow N2, keep_cell c3 hgrow N3⟩ (fun hHeld => ?_)
     have s4 := keep_free (a := ⟨w.heap.size + 1, y, none⟩) (by show w.heap.size + 1 < W3.heap.size; omega) f3 hgrow N3
     have s3 := keep_cell c3 hgrow N3
     refine wpAnyH_take (i := 11) (v := .pointer (some ⟨w.heap.size + 1, y, none⟩)) rfl (by kernel_rfl) (by kernel_rfl) (by kernel_rfl) (fun _ _ _ h => h) (Or.inl ⟨by rfl, ?_⟩) hHeld ?_
     ·intro W hSw
      (try dsimp only at hSw)
      first | (go_simp; done) | (go_simp; rfl)
     (try simp only [Act.put, List.setIfInBounds_toArray, List.set_cons_zero, List.set_cons_succ])
     refine wpAnyH_done (by kernel_rfl) ?_ _
     refine lastQ_step (by rfl) (fun K hK => ?_)
     go_simp
     refine hK _ _ ?_
     iterate 1
      have hX : W3.grownBy (W3.alloc (.cells #[.int .i64 (k : Int)] 3)).drew none := grown_trans (World.grownBy_alloc _ _ _) (grown_drew _ _)
      have hr7 := (HR4.out.next hX).push HVY.out HQ.out hown6 hgrow (by first | exact hat | (simp; exact hat) | simpa using hat)
      have HR7 := Lib.hid hr7
      have HP7 : Hid ((w6.setCell ⟨w.heap.size + 1, y, none⟩ (.slice (some ⟨gg, 0, none⟩) (q.length + 1) cc)).heap[w1.heap.size]? = some (.cells #[.slice (some ⟨w.heap.size + 1, 0, none⟩) m.states.length m.states.length] 82 (0, 0))) :=
       Lib.hid (((grown_setCell w6 ⟨w.heap.size + 1, y, none⟩ _).block _ (by have := hgrow.size; have : W3.heap.size ≤ (W3.alloc (.cells #[.int .i64 (k : Int)] 3)).drew.heap.size := hX.size; omega) (by simp; omega)).trans ((hgrow.block _ (by have : W3.heap.size ≤ (W3.alloc (.cells #[.int .i64 (k : Int)] 3)).drew.heap.size := hX.size; omega) N1).trans ((hX.block _ (by omega) (by simp)).trans HPV4.out)))
      have hb7 : Below w.heap.size w (w6.setCell ⟨w.heap.size + 1, y, none⟩ (.slice (some ⟨gg, 0, none⟩) (q.length + 1) cc)) :=
       ((below_of (grown_trans (grown_below HB4.out) hX)).grown hgrow (by have := hX.size; omega) (fun b e => by have := (HOWN.out.lt b e).1; omega)).grown (grown_setCell w6 ⟨w.heap.size + 1, y, none⟩ _) (by have := hgrow.size; have := hX.size; omega) (fun b e => by cases e; show w.heap.size ≤ w.heap.size + 1; omega)
      have HB7 := Lib.hid hb7
      clear hX hr7 hb7 hown6 hgrow hat s3 s4 c1 c2 c3 f3 q1 q2 q3 N1 N2 N3
      go_wp2
      go_roundw
      case rel => exact ⟨j + 1, _, by go_num, by omega, by rw [← HNX.out]; exact HR7.out, HP7.out, HB7.out⟩
      case measure => simp [intOf]; omega
    ·have n3 : ¬ (j : Int) < (s.arcs.length : Int) := by omega
     have he := rowsP_turn m m.states.length k (j := j) (by rw [stepsM_at HSS.out, List.length_map]; omega)
     have hr5 := HROWS3.out
     rw [he] at hr5
     have HR5 := Lib.hid hr5
     clear he hr5
     go_wp2
     go_roundw
     case rel => exact ⟨k + 1, vals2, by go_num, by omega, HR5.out, HPV3.out, HB3.out⟩
     case measure => simp [intOf]; omega
  ·have n1 : ¬ (k : Int) < (m.states.length : Int) := by omega
   have hke : k = m.states.length := by omega
   have hbk := BackAt.of (f := backM m) (by
    have h := HROWS.out
    rw [hke, show rowsP m m.states.length m.states.length 0 = (List.range m.states.length).map (backM m) by unfold rowsP; apply List.map_congr_left; intro x _; exact backP_end m x] at h
    exact h) HPV2.out
   have HBK := Lib.hid hbk
   clear hbk
   go_wp2
   go_ret
   exact ⟨_, rfl, HBK.out, grown_below HB.out⟩
end Go.Proofs.YtaogepcaoogpgaaGreatDoor
