/- U32 -/
import Derived.Test.YtaogepcaoogpgaaGreatDoorV38
import Derived.Test.YtaogepcaoogpgaaGreatDoorV08
import Derived.Test.YtaogepcaoogpgaaGreatDoorV34
set_option linter.unusedVariables false
set_option linter.unusedSimpArgs false
namespace Go.Proofs.YtaogepcaoogpgaaGreatDoor
open Go.RowKit
def hasF (m : Mach) (x : Nat) : Bool := (stOf m x).fin.size != 0
def finsL (m : Mach) (k : Nat) : List Nat := (List.range k).filter (hasF m)
def fwdL (m : Mach) : List Nat := srch (stepsM m) m.states.length 0 ([m.start.toNat].foldl pushN [])
def bwdL (m : Mach) : List Nat := srch (backM m) m.states.length 0 ((finsL m m.states.length).foldl pushN [])
def keptL (m : Mach) : List Nat := (fwdL m).filter (fun x => decide (x ∈ bwdL m))
theorem fins_next (m : Mach) (k : Nat) : finsL m (k + 1) = finsL m k ++ (if hasF m k then [k] else []) := by
 unfold finsL
 rw [List.range_succ, List.filter_append]
 cases h : hasF m k <;> simp [List.filter, h]
theorem fins_mem {m : Mach} {k x : Nat} : x ∈ finsL m k ↔ x < k ∧ hasF m x = true := by
 unfold finsL
 rw [List.mem_filter, List.mem_range]
theorem fins_len (m : Mach) (k : Nat) : (finsL m k).length ≤ k := by
 unfold finsL
 exact Nat.le_trans (List.length_filter_le _ _) (by simp)
theorem fin_iff {m : Mach} {x : Nat} : isFin m x ↔ x < m.states.length ∧ hasF m x = true := by
 unfold isFin hasF
 constructor
 ·rintro ⟨s, hs, h⟩
  refine ⟨(List.getElem?_eq_some_iff.1 hs).1, ?_⟩
  rw [stOf_at hs]
  simpa using h
 ·rintro ⟨h, hb⟩
  have hs : m.states[x]? = some m.states[x] := List.getElem?_eq_getElem h
  rw [stOf_at hs] at hb
  exact ⟨_, hs, by simpa using hb⟩
theorem rfrom_congr {succ : Nat → List Nat} {S T : Nat → Prop} (h : ∀ x, S x → T x) {x : Nat} (hx : RFrom succ S x) : RFrom succ T x := by
 induction hx with
 | start h1 => exact .start (h _ h1)
 | step _ h2 ih => exact .step ih h2
theorem fwd_mem {m : Mach} (h : Wf m) (x : Nat) : x ∈ fwdL m ↔ RFrom (stepsM m) (fun y => y = m.start.toNat) x := by
 have hst : m.start.toNat < m.states.length := reach_lt h (.start rfl)
 unfold fwdL
 rw [srch_mem (steps_below h) (folds_nodup List.nodup_nil) (folds_below (fun z hz => by simp at hz) (fun z hz => by simp at hz; omega))]
 constructor
 ·exact rfrom_congr (fun y hy => by rw [folds_mem] at hy; simpa using hy)
 ·exact rfrom_congr (fun y hy => by rw [folds_mem]; simpa using hy)
theorem bwd_mem {m : Mach} (x : Nat) : x ∈ bwdL m ↔ RFrom (backM m) (isFin m) x := by
 unfold bwdL
 rw [srch_mem (n := m.states.length) back_below (folds_nodup List.nodup_nil) (folds_below (fun z hz => by simp at hz) (fun z hz => (fins_mem.1 hz).1))]
 constructor
 ·exact rfrom_congr (fun y hy => by rw [folds_mem] at hy; rw [fin_iff]; simpa [fins_mem] using hy)
 ·exact rfrom_congr (fun y hy => by rw [folds_mem]; rw [fin_iff] at hy; simpa [fins_mem] using hy)
theorem fwd_nodup (m : Mach) : (fwdL m).Nodup := srch_nodup (folds_nodup List.nodup_nil)
theorem bwd_nodup (m : Mach) : (bwdL m).Nodup := srch_nodup (folds_nodup List.nodup_nil)
theorem fwd_below {m : Mach} (h : Wf m) : ∀ x ∈ fwdL m, x < m.states.length := fun x hx => reach_lt h ((fwd_mem h x).1 hx)
theorem bwd_below {m : Mach} : ∀ x ∈ bwdL m, x < m.states.length := by
 intro x hx
 have := (bwd_mem x).1 hx
 cases this with
 | start h => exact fin_lt h
 | step _ h => exact back_below _ _ h
theorem fwd_start {m : Mach} (h : Wf m) : m.start.toNat ∈ fwdL m := (fwd_mem h _).2 (.start rfl)
theorem kept_sort {m : Mach} (h : Wf m) : (keptL m).mergeSort (fun x y => decide (x ≤ y)) = usefulL m := by
 have hp := List.mergeSort_perm (keptL m) (fun x y => decide (x ≤ y))
 have hnd : (keptL m).Nodup := List.Pairwise.filter _ (fwd_nodup m)
 have hs : ((keptL m).mergeSort (fun x y => decide (x ≤ y))).Pairwise (fun x y => decide (x ≤ y) = true) := List.pairwise_mergeSort (fun a b c h1 h2 => by simp at *; omega) (fun a b => by simp; omega) _
 have hn2 := hp.nodup_iff.2 hnd
 refine rising_eq ?_ (useful_sorted m) (fun x => ?_)
 ·exact (hs.and hn2).imp (fun ⟨h1, h2⟩ => by simp at h1; omega)
 ·rw [hp.mem_iff, useful_mem h]
  unfold keptL Useful
  rw [List.mem_filter, fwd_mem h, decide_eq_true_iff, bwd_mem]
theorem eg_keep : ∀ args w, (callFunc 186 args).run Tryz.prog w = .ok (.enter 186 args) w := enters_of Tryz.func186 (by kernel_rfl) rfl
theorem keep_gives {W : World} {p g n x : Nat} {b : Bool} (h1 : W.cell? ⟨p, 0, none⟩ = some (.slice (some ⟨g, 0, none⟩) n n)) (h2 : W.cell? ⟨g, x, none⟩ = some (.bool b)) (hx : x < n) :
  FnGives Tryz.prog 186 #[.pointer (some ⟨p, 0, none⟩)] #[.int .i64 (x : Int)] (.bool (!b)) W := by
 have n1 : (0 : Int) ≤ (x : Int) := by omega
 have n2 : (x : Int) < (n : Int) := by omega
 unfold FnGives
 show Calls Tryz.prog 186 #[.int .i64 (x : Int), .pointer (some ⟨p, 0, none⟩)] W _
 go_enter Tryz.func186, Tryz.ntmps186
 go_wp2
 all_goals (go_ret; exact ⟨by simp_all, 0, rfl⟩)
structure Ends (W : World) (p g n : Nat) (o : List Nat) : Prop where
 var : W.cell? ⟨p, 0, none⟩ = some (.slice (some ⟨g, 0, none⟩) n n)
 row : CellsB W g (bv (marksL n o))
 hp : p < W.heap.size
def encF (n : Nat) (x : Fin n) : Value := .int .i64 (x.val : Int)
theorem Ends.gives {W W' : World} {p g n : Nat} {o : List Nat} (h : Ends W p g n o) (x : Fin n) (h1 : W'.cell? ⟨p, 0, none⟩ = W.cell? ⟨p, 0, none⟩) (h2 : ∀ j, W'.cell? ⟨g, j, none⟩ = W.cell? ⟨g, j, none⟩) :
  FnGives Tryz.prog 186 #[.pointer (some ⟨p, 0, none⟩)] #[encF n x] (.bool (!decide (x.val ∈ o))) W' :=
 keep_gives (h1.trans h.var) ((h2 _).trans (by rw [h.row.cell]; exact bv_get _ _ _ (marks_get x.isLt))) x.isLt
theorem Ends.pred {W : World} {p g n : Nat} {o : List Nat} (h : Ends W p g n o) : PredAt Tryz.prog 186 #[.pointer (some ⟨p, 0, none⟩)] (encF n) (fun x => !decide (x.val ∈ o)) W :=
 fun W' x hb => h.gives x (hb.cell (p := ⟨p, 0, none⟩) h.hp) (fun j => hb.cell (p := ⟨g, j, none⟩) h.row.lt)
theorem Ends.over {n : Nat} [Inhabited (Fin n)] {W : World} {p g : Nat} {o : List Nat} (h : Ends W p g n o) {blk off size : Nat} (hp : p ≠ blk) (hg : g ≠ blk) : PredOver Tryz.prog 186 #[.pointer (some ⟨p, 0, none⟩)] (encF n) (fun x => !decide (x.val ∈ o)) blk off size W :=
 fun q os dk x _ => by
  have hgr : W.grownBy (sortWorld (encF n) W blk off q dk os) (some blk) := grown_putRow (encF n) W blk off q dk os
  exact h.gives x (World.cell?_of_block (hgr.block p h.hp (by simp; omega))) (fun j => World.cell?_of_block (hgr.block g h.row.lt (by simp; omega)))
open Go.RowKit
def HoldsN (w : World) (g off : Nat) (l : List Nat) : Prop := ∀ (j x : Nat), l[j]? = some x → w.cell? ⟨g, off + j, none⟩ = some (.int .i64 (x : Int)) ∧ w.frozen? ⟨g, off + j, none⟩ = false
theorem QAt.holdsN {w : World} {B : Nat} {v : Value} {q : List Nat} (h : QAt w B v q) (hq : q ≠ []) : ∃ g off cap, v = .slice (some ⟨g, off, none⟩) q.length cap ∧ B ≤ g ∧ g < w.heap.size ∧ q.length ≤ cap ∧ HoldsN w g off q := by
 obtain ⟨a, cap, hv, ⟨h0, _⟩ | ⟨g, off, cur, ha, hB, hh, hc, ho, hx⟩⟩ := h
 ·exact absurd h0 hq
 ·subst ha
  exact ⟨g, off, cap, hv, hB, (Array.getElem?_eq_some_iff.1 hh).1, hc, fun j x hj => ⟨by rw [cell_of_row w g _ _ _ (0, 0) hh]; exact hx j x hj, frozen_of_row w g _ _ _ hh⟩⟩
theorem HoldsN.below {w w' : World} {B g off : Nat} {l : List Nat} (h : HoldsN w g off l) (hb : Below B w w') (hg : g < B) : HoldsN w' g off l := fun j x hx =>
 ⟨(World.cell?_of_block (hb.block g hg)).trans (h j x hx).1, (World.frozen?_of_block (hb.block g hg)).trans (h j x hx).2⟩
theorem holds_fin {n : Nat} [Inhabited (Fin n)] {w : World} {g off : Nat} {l : List Nat} (h : HoldsN w g off l) {d : List (Fin n)} (hd : d.map Fin.val = l) : Go.Sort.Holds (encF n) w g off d.toArray := by
 intro j hj
 have hj2 : j < d.length := by simpa using hj
 have hx : l[j]? = some (d[j]).val := by rw [← hd, List.getElem?_map, List.getElem?_eq_getElem hj2]; rfl
 have he : d.toArray[j]! = d[j] := by
  rw [getElem!_pos d.toArray j hj]
  simp
 rw [he]
 exact h j _ hx
theorem holdsN_fin {n : Nat} [Inhabited (Fin n)] {w : World} {g off : Nat} {d : List (Fin n)} (h : Go.Sort.Holds (encF n) w g off d.toArray) : HoldsN w g off (d.map Fin.val) := by
 intro j x hx
 rw [List.getElem?_map] at hx
 cases hd : d[j]? with
 | none => rw [hd] at hx; cases hx
 | some y =>
  rw [hd] at hx
  cases hx
  obtain ⟨hj, he⟩ := List.getElem?_eq_some_iff.1 hd
  have := h j (by simpa using hj)
  have h2 : d.toArray[j]! = y := by
   rw [getElem!_pos d.toArray j (by simpa using hj)]
   simpa using he
  rw [h2] at this
  exact this
theorem holds_int {w : World} {g off : Nat} {l : List Nat} (h : HoldsN w g off l) : Go.Sort.Holds (Value.int .i64) w g off (l.map (fun x : Nat => (x : Int))).toArray := by
 intro j hj
 have hj2 : j < l.length := by simpa using hj
 have he : (l.map (fun x : Nat => (x : Int))).toArray[j]! = ((l[j] : Nat) : Int) := by
  rw [getElem!_pos _ j hj]
  simp
 rw [he]
 exact h j _ (List.getElem?_eq_getElem hj2)
theorem holdsN_int {w : World} {g off : Nat} {l : List Nat} (h : Go.Sort.Holds (Value.int .i64) w g off (l.map (fun x : Nat => (x : Int))).toArray) : HoldsN w g off l := by
 intro j x hx
 obtain ⟨hj, hv⟩ := List.getElem?_eq_some_iff.1 hx
 have := h j (by simpa using hj)
 have he : (l.map (fun x : Nat => (x : Int))).toArray[j]! = (x : Int) := by
  rw [getElem!_pos _ j (by simpa using hj)]
  simp [hv]
 rw [he] at this
 exact this
theorem nsl_of_holdsN {w : World} {g off cap : Nat} {l : List Nat} (h : HoldsN w g off l) (hg : g < w.heap.size) : NSl w (.slice (some ⟨g, off, none⟩) l.length cap) l :=
 ⟨_, cap, rfl, by unfold nvL; simp, fun _ => ⟨_, rfl, hg, fun j u hu => by
  unfold nvL at hu
  rw [List.getElem?_map] at hu
  cases hx : l[j]? with
  | none => rw [hx] at hu; cases hu
  | some x =>
   rw [hx] at hu
   cases hu
   have hadd : Addr.add ⟨g, off, none⟩ j = ⟨g, off + j, none⟩ := by unfold Addr.add; split <;> simp_all
   rw [hadd]
   exact (h j x hx).1⟩⟩
theorem lift_fin {n : Nat} : ∀ {l : List Nat}, (∀ x ∈ l, x < n) → ∃ d : List (Fin n), d.map Fin.val = l
 | [], _ => ⟨[], rfl⟩
 | x :: l, h => by
  obtain ⟨d, hd⟩ := lift_fin (l := l) (fun y hy => h y (by simp [hy]))
  exact ⟨⟨x, h x (by simp)⟩ :: d, by simp [hd]⟩
theorem zero_int6 : ∀ w, (zeroValue 3).run Tryz.prog w = .ok (.int .i64 0) w := fun w => by kernel_rfl
def DelPost (blk off cap : Nat) (k : List Nat) (w : World) (e : Ending) (w' : World) : Prop := e = .returned (.slice (some ⟨blk, off, none⟩) k.length cap) ∧ HoldsN w' blk off k ∧ w.grownBy w' (some blk)
theorem delete_any {w : World} {p gm n blk off cap : Nat} {l o : List Nat} (hE : Ends w p gm n o) (hl : ∀ x ∈ l, x < n) (hn : 0 < n) (hH : HoldsN w blk off l) (hp : p ≠ blk) (hg : gm ≠ blk) (hcap : l.length ≤ cap) (hsz : l.length ≤ 1000000) :
  Calls Tryz.prog 185 #[.slice (some ⟨blk, off, none⟩) l.length cap, .func (.func 186) #[] #[.pointer (some ⟨p, 0, none⟩)]] w (DelPost blk off cap (l.filter (fun x => decide (x ∈ o))) w) := by
 obtain ⟨d, hd⟩ := lift_fin hl
 letI : Inhabited (Fin n) := ⟨⟨0, hn⟩⟩
 have hlen : d.length = l.length := by rw [← hd, List.length_map]
 have hH2 := holds_fin hH hd
 have h := Tryz.slices_DeleteFunc (encF n) (fun _ => rfl) (fun x => !decide (x.val ∈ o)) 186 #[.pointer (some ⟨p, 0, none⟩)] eg_keep ⟨0, hn⟩ zero_int6 blk off cap d.toArray w hE.pred (hE.over hp hg) hH2 (by simp; omega) (by simp; omega)
 have hsz2 : d.toArray.size = l.length := by simp [hlen]
 rw [hsz2] at h
 refine h.mono ?_
 rintro e w' ⟨rfl, q, rfl⟩
 have hk : (d.filter (fun x => !!decide (x.val ∈ o))).map Fin.val = l.filter (fun x => decide (x ∈ o)) := by
  rw [← hd, List.filter_map]
  congr 1
  apply List.filter_congr
  intro x _
  simp [Function.comp]
 have hkl : (d.filter (fun x => !!decide (x.val ∈ o))).length = (l.filter (fun x => decide (x ∈ o))).length := by rw [← hk, List.length_map]
 refine ⟨by show Ending.returned (.slice _ (d.filter _).length cap) = _; rw [hkl], ?_, ?_⟩
 ·have hP := Go.Sort.holds_putRow (encF n) (Go.Sort.ahead w q) blk off d.toArray ((d.filter (fun x : Fin n => !!decide (x.val ∈ o))) ++ List.replicate (d.toArray.size - (d.filter (fun x : Fin n => !!decide (x.val ∈ o))).length) (⟨0, hn⟩ : Fin n)).toArray hH2 (by
   have := List.length_filter_le (fun x => !!decide (x.val ∈ o)) d
   simp at this ⊢; omega)
  have h2 := holdsN_fin hP
  intro j x hx
  rw [← hk] at hx
  have := h2 j x (by
   rw [List.map_append, List.getElem?_append_left (by rw [List.length_map]; have := (List.getElem?_eq_some_iff.1 hx).1; rw [List.length_map] at this; exact this)]
   exact hx)
  rw [hsz2] at this
  exact this
 ·exact grown_putRow (encF n) w blk off q _ #[]
def SortPost6 (blk off : Nat) (k : List Nat) (w : World) (e : Ending) (w' : World) : Prop := e = .returned (.tuple #[]) ∧ HoldsN w' blk off k ∧ w.grownBy w' (some blk)
theorem sort_any {w : World} {blk off cap : Nat} {l : List Nat} (hH : HoldsN w blk off l) (hb : blk < w.heap.size) (hsz : l.length ≤ 1000000) :
  Calls Tryz.prog 187 #[.slice (some ⟨blk, off, none⟩) l.length cap] w (SortPost6 blk off (l.mergeSort (fun x y => decide (x ≤ y))) w) := by
 have h := Tryz.slices_Sort_int blk off cap (l.map (fun x : Nat => (x : Int))) w (holds_int hH) hb (by simp; omega)
 rw [List.length_map] at h
 refine h.mono ?_
 rintro e w' ⟨rfl, q, os, rfl⟩
 have hms : (l.map (fun x : Nat => (x : Int))).mergeSort (fun x y => decide (x ≤ y)) = (l.mergeSort (fun x y => decide (x ≤ y))).map (fun x : Nat => (x : Int)) := by
  symm
  apply List.map_mergeSort
  intro a _ b _
  simp
 rw [hms]
 refine ⟨rfl, ?_, grown_putRow _ w blk off q _ os⟩
 have hP := Go.Sort.holds_putRow (Value.int .i64) (Go.Sort.ahead w q) blk off (l.map (fun x : Nat => (x : Int))).toArray ((l.mergeSort (fun x y => decide (x ≤ y))).map (fun x : Nat => (x : Int))).toArray (holds_int hH) (by simp)
 exact holdsN_int (Go.Sort.holds_grow _ _ os blk off _ (by simpa using hb) hP)
open Go.RowKit
def UsePost (l : List Nat) (w : World) (e : Ending) (w' : World) : Prop := ∃ v, e = .returned v ∧ NSl w' v l ∧ w.grownBy w' none
theorem search_fwd {w W : World} {p : Nat} {A : Option Addr} {cap : Nat} {us : List Value} {v : Value} {m : Mach} (hm : Small m) (hst : StAt w A us m.states) (hb : Below w.heap.size w W) (hbx : BoxAt W p m (.slice A m.states.length cap)) (hv : NSl W v [m.start.toNat]) :
  Calls Tryz.prog 182 #[.int .i64 (m.states.length : Int), v, .func (.func 218) #[] #[.pointer (some ⟨p, 0, none⟩)]] W (QPost (fwdL m) W) := by
 have hst0 : m.start.toNat < m.states.length := reach_lt hm.wf (.start rfl)
 exact search_any enters_succ (succ_steps hbx (hst.below hb) hm) (Below.refl _ _) hv hm.n (fun x hx => by simp at hx; omega) (steps_below hm.wf) (by simp)
theorem search_bwd {W : World} {p : Nat} {v : Value} {m : Mach} (hm : Small m) (hbk : BackAt W p m.states.length (backM m)) (hv : NSl W v (finsL m m.states.length)) :
  Calls Tryz.prog 182 #[.int .i64 (m.states.length : Int), v, .func (.func 219) #[] #[.pointer (some ⟨p, 0, none⟩)]] W (QPost (bwdL m) W) := by
 have hl : ∀ x, (backM m x).length ≤ 1000000000 := fun x => by
  have h := back_len hm m.states.length 0 x
  rw [backP_end] at h
  exact Nat.le_trans h (Nat.le_trans (Nat.mul_le_mul_right _ (by have := hm.n; omega : m.states.length + 1 ≤ 3001)) (by decide))
 exact search_any enters_pred (pred_steps hbk hm hl) (Below.refl _ _) hv hm.n (fun x hx => (fins_mem.1 hx).1) back_below (by have := fins_len m m.states.length; have := hm.n; omega)
theorem QAt.nsl {w : World} {B : Nat} {v : Value} {q : List Nat} (h : QAt w B v q) : NSl w v q := by
 obtain ⟨a, cap, hv, ⟨h0, _⟩ | ⟨g, off, cur, ha, hB, hh, hc, ho, hq⟩⟩ := h
 ·subst h0
  exact ⟨a, cap, hv, rfl, fun h => by simp at h⟩
 ·refine ⟨a, cap, hv, by unfold nvL; simp, fun _ => ⟨_, ha, (Array.getElem?_eq_some_iff.1 hh).1, fun j u hu => ?_⟩⟩
  unfold nvL at hu
  rw [List.getElem?_map] at hu
  cases hx : q[j]? with
  | none => rw [hx] at hu; cases hu
  | some x =>
   rw [hx] at hu
   cases hu
   have hadd : Addr.add ⟨g, off, none⟩ j = ⟨g, off + j, none⟩ := by unfold Addr.add; split <;> simp_all
   rw [hadd, cell_of_row w g _ _ _ (0, 0) hh]
   exact hq j x hx
theorem QAt.mono {w : World} {B B' : Nat} {v : Value} {q : List Nat} (h : QAt w B v q) (hB : B' ≤ B) : QAt w B' v q := by
 obtain ⟨a, cap, hv, h3 | ⟨g3, off3, cur3, k1, k2, k3⟩⟩ := h
 ·exact ⟨a, cap, hv, .inl h3⟩
 ·exact ⟨a, cap, hv, .inr ⟨g3, off3, cur3, k1, by omega, k3⟩⟩
theorem new_cellB (w : World) (x : Value) : (w.alloc (.cells #[x] 3)).cell? ⟨w.heap.size, 0, none⟩ = some x := by
 have h : (w.alloc (.cells #[x] 3)).heap[w.heap.size]? = some (.cells #[x] 3 (0, 0)) := by
  show (w.heap.push _)[w.heap.size]? = _
  rw [Array.getElem?_push_size]
 rw [cell_of_row _ w.heap.size 0 _ _ (0, 0) h]; rfl
theorem new_cellA (w : World) (x : Value) : (w.alloc (.cells #[x] 3)).drew.cell? ⟨w.heap.size, 0, none⟩ = some x := new_cellB w x
theorem nsl_one {w : World} {g x : Nat} (h : w.cell? ⟨g, 0, none⟩ = some (.int .i64 (x : Int))) (hg : g < w.heap.size) : NSl w (.slice (some ⟨g, 0, none⟩) 1 1) [x] :=
 ⟨_, _, rfl, rfl, fun _ => ⟨_, rfl, hg, fun j u hu => by
  cases j with
  | zero => cases hu; exact h
  | succ j => simp [nvL] at hu⟩⟩
set_option maxRecDepth 20000 in
set_option maxHeartbeats 8000000 in
theorem useful_any {w : World} {v : Value} {m : Mach} (hv : MachV w v m) (hm : Small m) : Calls Tryz.prog 145 #[v] w (UsePost (usefulL m) w) := by
 have hv0 := hv
 obtain ⟨u, rfl, hst0⟩ := hv
 obtain ⟨A, cap, us, rfl, hS0⟩ := StAt.of hst0
 have hg : w.grownBy (w.alloc (.cells #[.int .i64 m.kind, .int .i64 m.start, .string m.lead, .slice A m.states.length cap] 31)) none := World.grownBy_alloc _ _ _
 have hbx := BoxAt.new w m (.slice A m.states.length cap)
 have HS := Lib.hid hS0; have HBX := Lib.hid hbx; have HG := Lib.hid hg; have HM := Lib.hid hm; have HV := Lib.hid hv0
 have hn3 := hm.n
 obtain ⟨x0, x1, x2, x3⟩ := hbx.cells
 have e1 : (w.alloc (.cells #[.int .i64 m.kind, .int .i64 m.start, .string m.lead, .slice A m.states.length cap] 31)).heap.size = w.heap.size + 1 := by simp
 clear hbx hg hst0 hS0 hm hv0
 go_enter Tryz.func145, Tryz.ntmps145
 go_wp2
 generalize hW : w.alloc (.cells #[.int .i64 m.kind, .int .i64 m.start, .string m.lead, .slice A m.states.length cap] 31) = W at *
 clear hW x0 x1 x2 x3
 go_loopw [3, 15] (fun fv i wr => ∃ k : Nat, i = .int .i64 k ∧ k ≤ m.states.length ∧ QAt wr (w.heap.size + 1) fv (finsL m k) ∧ W.grownBy wr none) (fun _ i _ => m.states.length - (intOf i).toNat)
 case atStart => exact ⟨0, rfl, by omega, QAt.nil _ _, World.grownBy.refl _ _⟩
 case round =>
  obtain ⟨k, rfl, hk, hq, hgr⟩ := hrel
  rename_i fv
  have HQ := Lib.hid hq; have HGR := Lib.hid hgr
  clear hq hgr
  by_cases hlt : k < m.states.length
  ·obtain ⟨ad, s, B, cb, hA, hs, hu, hc, hra⟩ := (HS.out.below (below_of (grown_trans HG.out HGR.out))).at_ hlt
   subst hA
   obtain ⟨z0, z1⟩ := hc
   have n1 : (k : Int) < (m.states.length : Int) := by omega
   have n2 : IntKind.i64.wrap ((k : Int) + 1) = (k : Int) + 1 := by rw [IntKind.wrap_i64]; omega
   have hga := World.grownBy_alloc wr (.cells #[.string s.fin, .slice B s.arcs.length cb] 57) none
   have HQ2 := Lib.hid (HQ.out.grown hga (by simp))
   have HG2 := Lib.hid (grown_trans HGR.out hga)
   have hfb : hasF m k = (s.fin.size != 0) := by unfold hasF; rw [stOf_at hs]
   have hnx := fins_next m k
   have hfl := fins_len m k
   have hsz : w.heap.size + 1 ≤ wr.heap.size := by have := HGR.out.size; omega
   clear hu hra hga
   by_cases hf0 : s.fin.size = 0
   ·have b1 : (s.fin.toList == []) = true := by rw [Lib.toList_data, beq_iff_eq, ← List.length_eq_zero_iff, Array.length_toList]; exact hf0
    have b2 : (s.fin.toList != []) = false := flip_t b1
    have he : finsL m (k + 1) = finsL m k := by rw [hnx, hfb]; simp [hf0]
    have HE := Lib.hid he
    clear he hnx hfb hs
    go_wp2
    go_roundw
    case rel => exact ⟨k + 1, by go_num, by omega, by rw [HE.out]; exact HQ2.out, HG2.out⟩
    case measure => simp [intOf]; omega
   ·have b1 : (s.fin.toList == []) = false := by
     cases h : (s.fin.toList == [])
     ·rfl
     ·rw [Lib.toList_data, beq_iff_eq, ← List.length_eq_zero_iff, Array.length_toList] at h; exact absurd h hf0
    have b2 : (s.fin.toList != []) = true := flip_f b1
    have he : finsL m (k + 1) = finsL m k ++ [k] := by rw [hnx, hfb]; simp [hf0]
    have HE := Lib.hid he
    clear he hnx hfb hs
    have HQ3 := Lib.hid (HQ2.out.grown (World.grownBy_alloc (wr.alloc (.cells #[.string s.fin, .slice B s.arcs.length cb] 57)) (.cells #[.int .i64 (k : Int)] 3) none) (by simp))
    go_wp2_with (at_builtin; refine wpList_push HQ3.out (by simp; omega) rfl _ _ rfl rfl _ _ k rfl ?ca (by omega) ?_)
    case ca =>
     have := new_cell6 (wr.alloc (.cells #[.string s.fin, .slice B s.arcs.length cb] 57)) k
     simp only [World.size_alloc] at this ⊢
     first | exact this | simpa using this
    intro v' w5 hq5 hb5
    have HQ5 := Lib.hid hq5
    have HG5 := Lib.hid (grown_below (((below_of HG2.out).trans ((below_of (World.grownBy_alloc (wr.alloc (.cells #[.string s.fin, .slice B s.arcs.length cb] 57)) (.cells #[.int .i64 (k : Int)] 3) none)).mono (by simp; omega))).trans (hb5.mono (by omega))))
    clear hq5 hb5 z0 z1
    go_wp2
    go_roundw
    case rel => exact ⟨k + 1, by go_num, by omega, by rw [HE.out]; exact HQ5.out, HG5.out⟩
    case measure => simp [intOf]; omega
  ·have n1 : ¬ (k : Int) < (m.states.length : Int) := by omega
   have hke : k = m.states.length := by omega
   subst hke
   have hbx2 := (HBX.out.grown HGR.out)
   obtain ⟨y0, y1, y2, y3⟩ := hbx2.cells
   have HB2 := Lib.hid (below_of (grown_trans HG.out HGR.out))
   have HF := Lib.hid HQ.out.nsl
   clear hbx2
   have HSC : Hid (m.start = (m.start.toNat : Int)) := Lib.hid (by have := HM.out.wf.start; omega)
   have hs1 : w.heap.size + 1 ≤ wr.heap.size := by have := HGR.out.size; omega
   generalize wr = w4 at *
   go_upto_region 8 with (fail)
   go_cut [6] from 28 to 36 (fun b wx => QAt wx (w.heap.size + 1) b (fwdL m) ∧ w4.grownBy wx none)
   case first =>
    have d0 : w4.drew.cell? ⟨w.heap.size, 0, none⟩ = some (.int .i64 m.kind) := y0
    have d1 : w4.drew.cell? ⟨w.heap.size, 1, none⟩ = some (.int .i64 m.start) := y1
    have d2 : w4.drew.cell? ⟨w.heap.size, 2, none⟩ = some (.string m.lead) := y2
    have d3 : w4.drew.cell? ⟨w.heap.size, 3, none⟩ = some (.slice A m.states.length cap) := y3
    have q0 := World.new_ne w4 _ y0
    go_region_held3 (fun W' => W'.cell? ⟨w.heap.size, 0, none⟩ = some (.int .i64 m.kind) ∧ W'.cell? ⟨w.heap.size, 1, none⟩ = some (.int .i64 m.start) ∧ W'.cell? ⟨w.heap.size, 2, none⟩ = some (.string m.lead) ∧ W'.cell? ⟨w.heap.size, 3, none⟩ = some (.slice A m.states.length cap)) (go_keep)
     (first
      | (go_at_call 183; refine successors_any.mono ?_; rintro e w5 ⟨rfl, hbx5, hg5⟩; have s0 := hg5.cell (by first | exact d0 | exact (World.grownBy_alloc _ _ none).cell d0 (by simp)) (by simp); have s1 := hg5.cell (by first | exact d1 | exact (World.grownBy_alloc _ _ none).cell d1 (by simp)) (by simp); have s2 := hg5.cell (by first | exact d2 | exact (World.grownBy_alloc _ _ none).cell d2 (by simp)) (by simp); have s3 := hg5.cell (by first | exact d3 | exact (World.grownBy_alloc _ _ none).cell d3 (by simp)) (by simp); have q5 := World.new_ne w5 _ s0)
      | (go_at_call 182
         first
          | (refine (search_fwd (W := w5) HM.out HS.out (HB2.out.trans ((below_of (grown_trans (grown_trans (World.grownBy_alloc w4 _ none) (grown_drew _ none)) hg5)).mono HB2.out.size)) (by simpa using hbx5) (nsl_one (by rw [← HSC.out]; exact hg5.cell (new_cellA w4 _) (by simp)) (by have := hg5.size; simp at this; omega))).mono ?_
             rintro e w6 ⟨v6, rfl, hq6, hg6⟩
             have hgg := grown_trans (grown_trans (grown_trans (World.grownBy_alloc w4 _ none) (grown_drew _ none)) hg5) hg6
             have p0 := hg6.cell s0 (by simp); have p1 := hg6.cell s1 (by simp); have p2 := hg6.cell s2 (by simp); have p3 := hg6.cell s3 (by simp))
          | (refine (search_fwd (W := w5.alloc (.cells #[.int .i64 m.start] 3)) HM.out HS.out (HB2.out.trans ((below_of (grown_trans (grown_trans (grown_drew w4 none) hg5) (World.grownBy_alloc w5 _ none))).mono HB2.out.size)) (BoxAt.grown (by simpa using hbx5) (World.grownBy_alloc w5 _ none)) (nsl_one (by rw [← HSC.out]; exact new_cellB w5 _) (by simp))).mono ?_
             rintro e w6 ⟨v6, rfl, hq6, hg6⟩
             have hgg := grown_trans (grown_trans (grown_trans (grown_drew w4 none) hg5) (World.grownBy_alloc w5 _ none)) hg6
             have hg7 := grown_trans (World.grownBy_alloc w5 (.cells #[.int .i64 m.start] 3) none) hg6
             have p0 := hg7.cell s0 (by simp); have p1 := hg7.cell s1 (by simp); have p2 := hg7.cell s2 (by simp); have p3 := hg7.cell s3 (by simp))
         have HGG := Lib.hid hgg
         have HQ6 := Lib.hid hq6))
    all_goals
     go_wp2_with (fail)
     go_meet
     case rel => exact ⟨HQ6.out.mono (by (try simp); first | omega | (have := hg5.size; simp at this; omega)), HGG.out⟩
   case rest =>
    obtain ⟨hq6, hg6⟩ := hcut
    generalize wc = w6 at *
    have HQ6 := Lib.hid hq6
    have hbx3 := (HBX.out.grown HGR.out).grown hg6
    have HG6 := Lib.hid (grown_trans HGR.out hg6)
    have HF6 := Lib.hid (HF.out.grown hg6)
    have HV6 := Lib.hid (HV.out.grown (grown_trans HG.out (grown_trans HGR.out hg6)))
    have HS6 := Lib.hid hs1
    have hs2 : w.heap.size + 1 ≤ w6.heap.size := by have := hg6.size; omega
    clear y0 y1 y2 y3 hq6 hg6
    obtain ⟨y0, y1, y2, y3⟩ := hbx3.cells
    clear hbx3
    go_upto_region 9 with (fail)
    have d0 : w6.drew.cell? ⟨w.heap.size, 0, none⟩ = some (.int .i64 m.kind) := y0
    have d1 : w6.drew.cell? ⟨w.heap.size, 1, none⟩ = some (.int .i64 m.start) := y1
    have d2 : w6.drew.cell? ⟨w.heap.size, 2, none⟩ = some (.string m.lead) := y2
    have d3 : w6.drew.cell? ⟨w.heap.size, 3, none⟩ = some (.slice A m.states.length cap) := y3
    have HP := Lib.hid (predecessors_any (HV6.out.grown (grown_drew w6 none)) HM.out)
    go_region_held3 (fun W' => W'.cell? ⟨w.heap.size, 0, none⟩ = some (.int .i64 m.kind) ∧ W'.cell? ⟨w.heap.size, 1, none⟩ = some (.int .i64 m.start) ∧ W'.cell? ⟨w.heap.size, 2, none⟩ = some (.string m.lead) ∧ W'.cell? ⟨w.heap.size, 3, none⟩ = some (.slice A m.states.length cap)) (go_keep)
     (first
      | (go_at_call 184; refine HP.out.mono ?_; rintro e w7 ⟨p7, rfl, hbk7, hg7⟩; have s0 := hg7.cell d0 (by simp); have s1 := hg7.cell d1 (by simp); have s2 := hg7.cell d2 (by simp); have s3 := hg7.cell d3 (by simp))
      | (go_at_call 182
         refine (search_bwd HM.out hbk7 (HF6.out.grown (grown_trans (grown_drew w6 none) hg7))).mono ?_
         rintro e w8 ⟨v8, rfl, hq8, hg8⟩
         have p0 := hg8.cell s0 (by simp); have p1 := hg8.cell s1 (by simp); have p2 := hg8.cell s2 (by simp); have p3 := hg8.cell s3 (by simp)))
    have hg9 := grown_trans (grown_trans (grown_drew w6 none) hg7) hg8
    have HQ8 := Lib.hid (hq8.mono (show 0 ≤ w7.heap.size by omega))
    have HQ9 := Lib.hid (HQ6.out.grown hg9 (by simp))
    have HG9 := Lib.hid (grown_trans HG6.out hg9)
    have hs3 : w.heap.size + 1 ≤ w8.heap.size := by have := hg9.size; omega
    have HBX9 := Lib.hid ((HBX.out.grown HG9.out))
    clear d0 d1 d2 d3 s0 s1 s2 s3 y0 y1 y2 y3 hbk7 hg7 hq8 hg8 hg9
    have hne : fwdL m ≠ [] := List.ne_nil_of_mem (fwd_start HM.out.wf)
    obtain ⟨gf, off, capf, hv6, hgfB, hgf, hcapf, hHN⟩ := HQ9.out.holdsN hne
    subst hv6
    obtain ⟨a8, c8, hv8, hr8⟩ := HQ8.out.nsl
    subst hv8
    have HR8 := Lib.hid hr8; have HHN := Lib.hid hHN
    have hfl := short_list (fwd_nodup m) (fwd_below HM.out.wf)
    have hbl := short_list (bwd_nodup m) (bwd_below (m := m))
    obtain ⟨y0, y1, y2, y3⟩ := HBX9.out.cells
    obtain ⟨i0, hi, hz0, hz1, hz2⟩ := info_parts6 info_bool7
    clear hr8 hHN hne
    go_wp2_with (at_make; refine wpList_make_full _ rfl _ _ 166 rfl w8.heap.size 4 i0 (.bool false) 1 Tryz.underlying166 hi hz0 hz1 _ _ _ _ m.states.length rfl rfl rfl rfl (by rw [hz2]; omega) (by unfold maxLen; omega) (Nat.le_refl _) ?_)
    intro w9 hown hgr
    rw [bv_replicate] at hown
    have hga := World.grownBy_alloc w9 (.cells #[.slice (some ⟨w8.heap.size, 0, none⟩) m.states.length m.states.length] 166) none
    have hc9 := CellsB.of_full hown
    rw [← marks_nil] at hc9
    have hlt9 := hc9.lt
    have HC9 := Lib.hid (show CellsB _ w8.heap.size _ from (hga.block _ hc9.lt (by simp)).trans hc9)
    have hpv : (w9.alloc (.cells #[.slice (some ⟨w8.heap.size, 0, none⟩) m.states.length m.states.length] 166)).heap[w9.heap.size]? = some (.cells #[.slice (some ⟨w8.heap.size, 0, none⟩) m.states.length m.states.length] 166 (0, 0)) := by
     show (w9.heap.push _)[w9.heap.size]? = _
     rw [Array.getElem?_push_size]
    have HPV := Lib.hid hpv
    have HB9 := Lib.hid (below_of (grown_trans hgr hga))
    clear hown hgr hga hc9 hpv y0 y1 y2 y3
    go_wp2
    generalize hW : w9.alloc (.cells #[.slice (some ⟨w8.heap.size, 0, none⟩) m.states.length m.states.length] 166) = W9 at *
    clear hW
    go_loopw [50] (fun i wr => ∃ j : Nat, i = .int .i64 j ∧ j ≤ (bwdL m).length ∧ CellsB wr w8.heap.size (bv (marksL m.states.length ((bwdL m).take j))) ∧ wr.heap[w9.heap.size]? = some (.cells #[.slice (some ⟨w8.heap.size, 0, none⟩) m.states.length m.states.length] 166 (0, 0)) ∧ Below w8.heap.size w8 wr) (fun i _ => (bwdL m).length - (intOf i).toNat)
    case atStart => exact ⟨0, rfl, by omega, HC9.out, HPV.out, HB9.out⟩
    case round =>
     obtain ⟨j, rfl, hj, hc, hpv, hb⟩ := hrel
     have HC := Lib.hid hc; have HPV2 := Lib.hid hpv; have HB := Lib.hid hb
     obtain ⟨x0, _⟩ := one_cell hpv
     clear hpv
     by_cases hjl : j < (bwdL m).length
     ·obtain ⟨ad, x, hA, hx, hcx⟩ := reads_nat ((HR8.out.below HB.out).more HB.out.size) hjl
      subst hA
      have hxn : x < m.states.length := bwd_below x (List.mem_of_getElem? hx)
      have n1 : (j : Int) < ((bwdL m).length : Int) := by omega
      have n2 : IntKind.i64.wrap ((j : Int) + 1) = (j : Int) + 1 := by rw [IntKind.wrap_i64]; omega
      have n3 : (0 : Int) ≤ (x : Int) := by omega
      have n4 : (x : Int) < (m.states.length : Int) := by omega
      have hst : (marksL m.states.length ((bwdL m).take j)).set x true = marksL m.states.length ((bwdL m).take (j + 1)) := by rw [marks_set hxn, take_one hx]
      have HST := Lib.hid hst
      have hfr := hc.free x
      have c0 : wr.cell? ⟨w8.heap.size, x, none⟩ = some (.bool (decide (x ∈ (bwdL m).take j))) := by rw [hc.cell]; exact bv_get _ _ _ (marks_get hxn)
      have hcs := hc.set x (.bool true)
      rw [show (bv (marksL m.states.length ((bwdL m).take j))).set x (.bool true) = bv ((marksL m.states.length ((bwdL m).take j)).set x true) by unfold bv; rw [List.map_set], hst] at hcs
      have HCS := Lib.hid hcs
      have gs := grown_setCell wr ⟨w8.heap.size, x, none⟩ (.bool true)
      have HP3 := Lib.hid ((gs.block w9.heap.size (lt_of_block HPV2.out) (by simp; omega)).trans HPV2.out)
      have HB3 := Lib.hid (HB.out.grown gs HB.out.size (fun b e => by cases e; exact Nat.le_refl _))
      clear hst hx hc hcs gs hb
      go_wp2
      go_roundw
      case rel => exact ⟨j + 1, by go_num, by omega, HCS.out, HP3.out, HB3.out⟩
      case measure => simp [intOf]; omega
     ·have n1 : ¬ (j : Int) < ((bwdL m).length : Int) := by omega
      have hce := HC.out
      rw [List.take_of_length_le (by omega)] at hce
      have HE : Hid (Ends wr w9.heap.size w8.heap.size m.states.length (bwdL m)) := Lib.hid ⟨x0, hce, lt_of_block HPV2.out⟩
      have hH2 := HHN.out.below HB.out hgf
      have HDEL := Lib.hid (delete_any HE.out (fwd_below HM.out.wf) (by have := HM.out.wf.start; omega) hH2 (by omega) (by omega) hcapf (by omega))
      have HB4 := Lib.hid (grown_below (((below_of (grown_trans HG.out HG9.out)).trans (HB.out.mono (by omega)))))
      clear hc hce hH2 hb
      go_wp2_with fail
      refine HDEL.out.mono ?_
      rintro e w10 ⟨rfl, hk10, hg10⟩
      have hb10 : gf < w10.heap.size := by have := hg10.size; have := HB.out.size; omega
      have HK := Lib.hid hk10
      have HSO := Lib.hid (sort_any (cap := capf) hk10 hb10 (by have := List.length_filter_le (fun x => decide (x ∈ bwdL m)) (fwdL m); omega))
      have HG10 := Lib.hid (grown_step (g := gf) HB4.out hg10 (by omega))
      clear hk10 hg10
      go_wp2_with fail
      refine HSO.out.mono ?_
      rintro e w11 ⟨rfl, hk11, hg11⟩
      have hks := kept_sort HM.out.wf
      unfold keptL at hks
      have hkl : ((fwdL m).filter (fun x => decide (x ∈ bwdL m))).length = (usefulL m).length := by rw [← hks, List.length_mergeSort]
      rw [hks] at hk11
      have hns := nsl_of_holdsN (cap := capf) hk11 (by have := hg11.size; omega)
      rw [← hkl] at hns
      have HNS := Lib.hid hns
      have HG11 := Lib.hid (grown_step (g := gf) HG10.out hg11 (by omega))
      clear hk11 hg11 hks hkl hns
      go_wp2
      go_ret
      exact ⟨_, rfl, HNS.out, HG11.out⟩
end Go.Proofs.YtaogepcaoogpgaaGreatDoor
