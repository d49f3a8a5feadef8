/- U97 -/
import Derived.Test.YtaogepcaoogpgaaGreatDoorV22
import Derived.Shelf.Spec.SlicesInsertGrow
set_option linter.unusedVariables false
set_option linter.unusedSimpArgs false
namespace Go.Proofs.YtaogepcaoogpgaaGreatDoor
open Go.RowKit
structure Own7 (w : World) (g n c : Nat) (zs : List Value) : Prop where
 len : zs.length = n
 le : n ≤ c
 max : c ≤ maxLen
 row : ∃ sp : List Value, n + sp.length = c ∧ w.heap[g]? = some (.cells (zs ++ sp).toArray 33 (0, 0))
theorem Own7.lt {w : World} {g n c : Nat} {zs : List Value} (h : Own7 w g n c zs) : g < w.heap.size := by
 obtain ⟨sp, _, h⟩ := h.row
 exact (Array.getElem?_eq_some_iff.1 h).1
theorem Own7.keep {w w' : World} {g n c : Nat} {zs : List Value} (h : Own7 w g n c zs) (hb : w'.heap[g]? = w.heap[g]?) : Own7 w' g n c zs := by
 obtain ⟨sp, h1, h2⟩ := h.row
 exact ⟨h.len, h.le, h.max, sp, h1, hb.trans h2⟩
theorem Own7.grown {w w' : World} {g n c : Nat} {zs : List Value} (h : Own7 w g n c zs) (hg : w.grownBy w' none) : Own7 w' g n c zs := h.keep (hg.block g h.lt (by simp))
theorem Own7.rowAt {w : World} {g n c : Nat} {zs : List Value} (h : Own7 w g n c zs) : RowAt w g 0 n (fun j => zs.getD j (.slice none 0 0)) := by
 refine ⟨h.lt, fun j hj => ?_⟩
 obtain ⟨sp, h1, h2⟩ := h.row
 have hl := h.len
 rw [Nat.zero_add, cell_of_row w g j _ _ (0, 0) h2, List.getElem?_toArray, List.getElem?_append_left (by omega)]
 dsimp only
 rw [List.getD_eq_getElem?_getD, List.getElem?_eq_getElem (by omega)]
 rfl
def InsPost (n g : Nat) (u : Value) (zs : List Value) (w : World) (e : Ending) (w' : World) : Prop :=
 ∃ g' c', e = .returned (.slice (some ⟨g', 0, none⟩) (n + 1) c') ∧ Own7 w' g' (n + 1) c' (u :: zs) ∧ ((g' = g ∧ 0 < n ∧ w.grownBy w' (some g)) ∨ (w.heap.size ≤ g' ∧ w.grownBy w' none))
theorem info_rowP : ∃ i0 : TypeInfo, Tryz.prog.info? 33 = some i0 ∧ i0.zero = some (.slice none 0 0) ∧ i0.size = 1 ∧ i0.bytes = 24 := info_parts info_row
set_option maxRecDepth 100000 in
set_option maxHeartbeats 4000000 in
theorem insert_nil7 (vb : Nat) (u : Value) (w : World) (hv : w.cell? ⟨vb, 0, none⟩ = some u) (h1 : u.oneCell' = true) :
  Calls Tryz.prog 133 #[.slice none 0 0, .int .i64 0, .slice (some ⟨vb, 0, none⟩) 1 1] w (InsPost 0 0 u [] w) := by
 obtain ⟨i0, hi0, hz0, hzs, hzb⟩ := info_rowP
 have hsrc : Src Tryz.prog i0.size 22 (.slice (some ⟨vb, 0, none⟩) 1 1) 1 [u] w := by
  rw [hzs]
  exact Src.ofSlice w Tryz.underlying22 ⟨vb, 0, none⟩ 1 1 [u] rfl (fun j x hj => by
   obtain ⟨hj1, rfl⟩ := List.getElem?_eq_some_iff.1 hj
   obtain rfl : j = 0 := by simpa using hj1
   exact hv) (fun x hx => by rw [List.mem_singleton.1 hx]; exact h1)
 have hold : (Builtin.firstCells i0.size 0 (.slice none 0 0)).run Tryz.prog w.drew = .ok ([] : List Value).toArray w.drew := by
  rw [hzs]
  exact run_firstCells_none w.drew 1 0 0 0
 obtain ⟨G, hG⟩ : ∃ G, G = grownCap w (0 + 1) 0 33 := ⟨_, rfl⟩
 have hrun : ∀ ty, (Builtin.append_ #[22, 22] ty #[.slice none 0 0, .slice (some ⟨vb, 0, none⟩) 1 1]).run Tryz.prog w = .ok (.slice (some ⟨w.heap.size, 0, none⟩) (0 + 1) G) (w.drew.alloc (.cells (([] ++ [u] : List Value).toArray ++ Builtin.zeroCells (Value.slice none 0 0).cells (G - (0 + 1))) 33)) := fun ty => by
  rw [hG]
  exact run_append_grow_src w 22 22 ty 33 i0 _ Tryz.underlying22 hi0 hz0 none 0 0 [] hold _ 1 [u] hsrc (by omega) (by omega) (by rw [hzb]; exact growslice_fits (by omega) (by omega))
 have hGn : 1 ≤ G := by rw [hG]; exact grownCap_ge w _ _ _
 have hG63 : G ≤ maxLen := by
  rw [hG]
  exact grownCap_le_maxLen w (0 + 1) 0 33 (by unfold maxLen; omega)
 clear hG hsrc hold
 have HG := Lib.hid (And.intro hGn hG63)
 clear hGn hG63
 go_enter Tryz.func133, Tryz.ntmps133
 go_wp2_with (at_builtin; refine Lib.wpList_append_run _ rfl _ _ _ _ rfl _ _ rfl rfl _ _ (hrun _) ?_)
 go_ret
 obtain ⟨hGn, hG63⟩ := HG.out
 refine ⟨_, G, rfl, ⟨rfl, hGn, hG63, List.replicate (G - 1) (.slice none 0 0), by simp; omega, ?_⟩, .inr ⟨Nat.le_refl _, grown_trans (grown_drew w none) (World.grownBy_alloc _ _ none)⟩⟩
 show (w.drew.alloc _).heap[w.drew.heap.size]? = _
 rw [new_block]
 congr 2
 apply Array.toList_inj.1
 show ((#[u] ++ Builtin.zeroCells #[Value.slice none 0 0] (G - 1)) : Array Value).toList = _
 rw [Array.toList_append, zeroCells_one7]
theorem copyR7 (w : World) (g off dLen dCap sLen sCap : Nat) (ad : Addr) (cur cs : List Value) (T : TypeId) (hg : w.heap[g]? = some (.cells cur.toArray T (0, 0))) (hn : cs.length = Nat.min sLen dLen)
  (hsrc : ∀ j v, cs[j]? = some v → w.cell? (ad.add j) = some v) (hfit : off + cs.length ≤ cur.length) (h1 : ∀ v ∈ cs, v.oneCell' = true) :
  ∃ w', (∀ ty, (Builtin.copy_ #[22, 22] ty #[.slice (some ⟨g, off, none⟩) dLen dCap, .slice (some ad) sLen sCap]).run Tryz.prog w = .ok (goInt cs.length) w') ∧ w'.heap[g]? = some (.cells (splice cur off cs).toArray T (0, 0)) ∧ w.grownBy w' (some g) := by
 have hrun := fun ty => run_copy_row (P := Tryz.prog) w 22 22 ty 33 g off dLen dCap ad sLen sCap cur.toArray T cs Tryz.underlying22 (by kernel_rfl) hg hn hsrc (by simpa using hfit) h1
 refine ⟨_, hrun, ?_, ⟨rfl, rfl, rfl, by simp, fun k _ hk => setRow_other w g k _ (fun e => hk (by rw [e]))⟩⟩
 rw [setRow_heap w g _ _ T _ hg]
 simp [splice]
theorem own_cells7 {w : World} {g : Nat} {cur : List Value} {T : TypeId} (h : w.heap[g]? = some (.cells cur.toArray T (0, 0))) {j : Nat} {v : Value} (hj : cur[j]? = some v) : w.cell? ⟨g, j, none⟩ = some v := by
 rw [cell_of_row w g j _ _ (0, 0) h, List.getElem?_toArray, hj]
theorem shape7 {w : World} {g : Nat} {cur : Array Value} {T : TypeId} (h : w.heap[g]? = some (.cells cur T (0, 0))) : w.shape? g = some (T, cur.size) := by unfold World.shape?; rw [h]
theorem not_frozen7 {w : World} {g k : Nat} {cur : Array Value} {T : TypeId} (h : w.heap[g]? = some (.cells cur T (0, 0))) : w.frozen? ⟨g, k, none⟩ = false := frozen_of_row w g k _ _ h
set_option maxRecDepth 100000 in
set_option maxHeartbeats 4000000 in
theorem insert_room7 (n c g vb : Nat) (zs : List Value) (u : Value) (TB : TypeId) (w : World) (hn0 : 0 < n) (hn : n ≤ 10000) (hc : n + 1 ≤ c) (hown : Own7 w g n c zs) (hne : vb ≠ g) (hv : w.heap[vb]? = some (.cells #[u] TB (0, 0))) (h1 : u.oneCell' = true) (hz : ∀ z ∈ zs, z.oneCell' = true) :
  Calls Tryz.prog 133 #[.slice (some ⟨g, 0, none⟩) n c, .int .i64 0, .slice (some ⟨vb, 0, none⟩) 1 1] w (InsPost n g u zs w) := by
 obtain ⟨sp, hsp, hrow⟩ := hown.row
 have hlen := hown.len
 have hmax := hown.max
 obtain ⟨s0, sp', rfl⟩ : ∃ s0 sp', sp = s0 :: sp' := by
  cases sp with
  | nil => simp at hsp; omega
  | cons a b => exact ⟨a, b, rfl⟩
 have hvc : w.cell? ⟨vb, 0, none⟩ = some u := cell_of_row w vb 0 _ _ (0, 0) hv
 have hov : ∀ lb cb, (callFunc 168 #[.slice (some ⟨vb, 0, none⟩) 1 1, .slice (some ⟨g, 1, none⟩) lb cb]).run Tryz.prog w = .ok (.value (.bool false)) w := fun lb cb => by
  rw [run_callFunc_extern Tryz.func168 (by kernel_rfl) (by kernel_rfl) (by kernel_rfl) (e := Extern.SlicesOverlaps.overlaps #[22, 22] #[4]) (by kernel_rfl),
   Lib.run_overlaps_apart w 22 4 33 Tryz.underlying22 1 Tryz.sizeOf33 ⟨vb, 0, none⟩ ⟨g, 1, none⟩ 1 1 lb cb hne TB 33 1 (zs ++ s0 :: sp').toArray.size (shape7 hv) (shape7 hrow) (by simp) (not_frozen7 hv) (not_frozen7 hv)]
  rfl
 have hrowd : w.drew.heap[g]? = some (.cells (zs ++ s0 :: sp').toArray 33 (0, 0)) := hrow
 obtain ⟨w1, hc1, hr1, hg1⟩ := copyR7 w.drew g 1 n (c - 1) (n + 1) c ⟨g, 0, none⟩ (zs ++ s0 :: sp') zs 33 hrowd (by rw [hlen]; exact (Nat.min_eq_right (by omega)).symm) (fun j v hj => by
  rw [add_off, Nat.zero_add]
  exact own_cells7 hrowd (by rw [List.getElem?_append_left (List.getElem?_eq_some_iff.1 hj).1, hj])) (by simp; omega) hz
 have hspl : splice (zs ++ s0 :: sp') 1 zs = ((zs ++ s0 :: sp').take 1) ++ zs ++ sp' := by
  unfold splice
  rw [List.append_assoc]
  congr 2
  rw [List.drop_append, List.drop_eq_nil_of_le (by omega), show 1 + zs.length - zs.length = 1 by omega]
  rfl
 rw [hspl] at hr1
 have hv1 : w1.cell? ⟨vb, 0, none⟩ = some u := hg1.cell (show w.drew.cell? _ = _ from hvc) (by simpa using hne)
 obtain ⟨w2, hc2, hr2, hg2⟩ := copyR7 w1 g 0 (n + 1) c 1 1 ⟨vb, 0, none⟩ _ [u] 33 hr1 (by show 1 = Nat.min 1 (n + 1); exact (Nat.min_eq_left (by omega)).symm) (fun j v hj => by
  obtain ⟨hj1, rfl⟩ := List.getElem?_eq_some_iff.1 hj
  obtain rfl : j = 0 := by simpa using hj1
  rw [add_off]
  exact hv1) (by simp; omega) (fun x hx => by rw [List.mem_singleton.1 hx]; exact h1)
 have hspl2 : splice (((zs ++ s0 :: sp').take 1) ++ zs ++ sp') 0 [u] = (u :: zs) ++ sp' := by
  obtain ⟨z0, zr, rfl⟩ : ∃ z0 zr, zs = z0 :: zr := by
   cases zs with
   | nil => simp at hlen; omega
   | cons a b => exact ⟨a, b, rfl⟩
  unfold splice
  simp
 rw [hspl2] at hr2
 have hnz : ¬ (n : Int) = 0 := by omega
 have hnz2 : ¬ n = 0 := by omega
 have hi1 : (n : Int) + 1 ≤ (c : Int) := by omega
 have hi2 : ¬ (c : Int) < (n : Int) + 1 := by omega
 have hi3 : ¬ c = 1 := by omega
 have hi4 : (1 : Int) ≤ (n : Int) + 1 := by omega
 have hi5 : (0 : Int) ≤ (n : Int) + 1 := by omega
 have hi6 : ¬ (n + 1 = 1) := by omega
 have hi7 : ¬ (c = 0) := by omega
 have hw2 : IntKind.i64.wrap 1 = 1 := by decide
 have hw1 : IntKind.i64.wrap ((n : Int) + 1) = (n : Int) + 1 := by rw [IntKind.wrap_i64]; omega
 have HP := Lib.hid (And.intro hr2 (And.intro hg1 (And.intro hg2 (And.intro hsp (And.intro hlen (And.intro hc hmax))))))
 have HC1 := Lib.hid hc1; have HC2 := Lib.hid hc2
 clear hspl hspl2 hr1 hr2 hg1 hg2 hrow hrowd hown hv hvc hv1 hsp hlen hmax hc1 hc2 hn0 hn hc hz
 go_enter Tryz.func133, Tryz.ntmps133
 have mixed : Tryz.prog.follows .mixedOrders = true := by kernel_rfl
 go_wp2_with (simp only [hov])
 go_region_law_o (refine step_copy_runI rfl _ _ 22 22 rfl _ _ (by simp [Act.eval, Act.put]) (by simp [Act.eval, Act.put]) (HC1.out _) ?_)
 have hc2 := HC2.out 3
 go_wp2
 go_ret
 obtain ⟨hr2, hg1, hg2, hsp, hlen, hc, hmax⟩ := HP.out
 exact ⟨g, c, rfl, ⟨by simp [hlen], hc, hmax, sp', by simp at hsp; omega, hr2⟩, .inl ⟨rfl, by omega, (grown_trans (grown_drew w _) (grown_trans hg1 hg2))⟩⟩
theorem copyE7 (W : World) (g off dLen dCap sLen sCap : Nat) (ad : Addr) (cur cs : List Value) (hg : W.heap[g]? = some (.cells cur.toArray 33 (0, 0))) (hn : cs.length = Nat.min sLen dLen)
  (hsrc : ∀ j v, cs[j]? = some v → W.cell? (ad.add j) = some v) (hfit : off + cs.length ≤ cur.length) (h1 : ∀ v ∈ cs, v.oneCell' = true) :
  (∀ ty, (Builtin.copy_ #[22, 22] ty #[.slice (some ⟨g, off, none⟩) dLen dCap, .slice (some ad) sLen sCap]).run Tryz.prog W = .ok (goInt cs.length) (W.setRow g (splice cur off cs).toArray)) := fun ty => by
 have hrun := run_copy_row (P := Tryz.prog) W 22 22 ty 33 g off dLen dCap ad sLen sCap cur.toArray 33 cs Tryz.underlying22 (by kernel_rfl) hg hn hsrc (by simpa using hfit) h1
 rw [hrun]
 simp [splice]
theorem grown_setRow7 (W : World) (g : Nat) (row : Array Value) : W.grownBy (W.setRow g row) (some g) := ⟨rfl, rfl, rfl, by simp, fun k _ hk => setRow_other W g k _ (fun e => hk (by rw [e]))⟩
set_option maxRecDepth 100000 in
set_option maxHeartbeats 4000000 in
theorem insert_grow7 (n c g vb : Nat) (zs : List Value) (u : Value) (w : World) (hn0 : 0 < n) (hn : n ≤ 10000) (hc : c < n + 1) (hown : Own7 w g n c zs) (hv : w.cell? ⟨vb, 0, none⟩ = some u) (hvb : vb < w.heap.size) (h1 : u.oneCell' = true) (hz : ∀ z ∈ zs, z.oneCell' = true) :
  Calls Tryz.prog 133 #[.slice (some ⟨g, 0, none⟩) n c, .int .i64 0, .slice (some ⟨vb, 0, none⟩) 1 1] w (InsPost n g u zs w) := by
 obtain ⟨i0, hi0, hz0, hzs, hzb⟩ := info_rowP
 obtain ⟨sp, hsp, hrow⟩ := hown.row
 have hlen := hown.len
 have hle := hown.le
 have hlt := hown.lt
 obtain rfl : c = n := by omega
 have hold : (Builtin.firstCells i0.size 0 (.slice (some ⟨g, 0, none⟩) 0 c)).run Tryz.prog w.drew = .ok ([] : List Value).toArray w.drew := by
  rw [hzs]
  exact run_firstCells_some w.drew 1 0 ⟨g, 0, none⟩ 0 c [] rfl (fun j v hj => by simp at hj)
 obtain ⟨G, hG⟩ : ∃ G, G = grownCap w (c + 1) c 33 := ⟨_, rfl⟩
 have hGn : c + 1 ≤ G := by rw [hG]; exact grownCap_ge w _ _ _
 have hG63 : G ≤ maxLen := by
  rw [hG]
  exact grownCap_le_maxLen w (c + 1) c 33 (by unfold maxLen; omega)
 have hrz : ∀ ty, (Builtin.append_ #[22, 3] ty #[.slice (some ⟨g, 0, none⟩) 0 c, .int .i64 ((c : Int) + 1)]).run Tryz.prog w =
   .ok (.slice (some ⟨w.heap.size, 0, none⟩) (c + 1) G) (w.drew.alloc (.cells (List.replicate G (.slice none 0 0)).toArray 33)) := fun ty => by
  have h := Lib.run_append_grow_zeros w 22 3 ty 33 i0 _ .i64 .i64 Tryz.underlying22 Tryz.underlying3 hi0 hz0 (some ⟨g, 0, none⟩) 0 c [] hold (c + 1) (by omega) (by omega) (by omega) (by omega) (by rw [hzb]; omega) (by rw [hzb, Nat.zero_add]; exact growslice_fits (by omega) (by omega))
  rw [Nat.zero_add, ← hG] at h
  rw [show (c : Int) + 1 = ((c + 1 : Nat) : Int) by omega, h]
  congr 3
  apply Array.toList_inj.1
  show ((#[] ++ Builtin.zeroCells #[Value.slice none 0 0] (c + 1) ++ Builtin.zeroCells #[Value.slice none 0 0] (G - (c + 1))) : Array Value).toList = _
  rw [Array.toList_append, Array.toList_append, zeroCells_one7, zeroCells_one7]
  simp [hGn]
 have hrA : ∀ W : World, W.heap = (w.drew.alloc (.cells (List.replicate G (.slice none 0 0)).toArray 33)).heap → W.heap[w.heap.size]? = some (.cells (List.replicate G (.slice none 0 0) : List Value).toArray 33 (0, 0)) := fun W hW => by
  rw [hW]; exact new_block w.drew _
 have hold2 : ∀ W : World, W.heap = (w.drew.alloc (.cells (List.replicate G (.slice none 0 0)).toArray 33)).heap → ∀ b j, b < w.heap.size → W.cell? ⟨b, j, none⟩ = w.cell? ⟨b, j, none⟩ := fun W hW b j hb => by
  refine cell_same (ad := ⟨b, j, none⟩) ?_
  rw [hW]
  exact (World.grownBy_alloc w.drew _ none).block b hb (by simp)
 have hcA : ∀ W : World, W.heap = (w.drew.alloc (.cells (List.replicate G (.slice none 0 0)).toArray 33)).heap → ∀ ty, (Builtin.copy_ #[22, 22] ty #[.slice (some ⟨w.heap.size, 0, none⟩) (c + 1) G, .slice (some ⟨vb, 0, none⟩) 1 1]).run Tryz.prog W = .ok (goInt 1) (W.setRow w.heap.size (u :: List.replicate (G - 1) (.slice none 0 0)).toArray) := fun W hW ty => by
  have h := copyE7 W w.heap.size 0 (c + 1) G 1 1 ⟨vb, 0, none⟩ (List.replicate G (.slice none 0 0)) [u] (hrA W hW) (by show 1 = Nat.min 1 (c + 1); exact (Nat.min_eq_left (by omega)).symm) (fun j v hj => by
   obtain ⟨hj1, rfl⟩ := List.getElem?_eq_some_iff.1 hj
   obtain rfl : j = 0 := by simpa using hj1
   rw [add_off, hold2 W hW vb _ hvb]
   exact hv) (by simp; omega) (fun x hx => by rw [List.mem_singleton.1 hx]; exact h1) ty
  rw [h]
  have e : splice (List.replicate G (.slice none 0 0)) 0 [u] = u :: List.replicate (G - 1) (.slice none 0 0) := by
   unfold splice
   simp
  rw [e]
  rfl
 have hcB : ∀ W V : World, V.heap = (w.drew.alloc (.cells (List.replicate G (.slice none 0 0)).toArray 33)).heap → W.heap = (V.setRow w.heap.size (u :: List.replicate (G - 1) (.slice none 0 0)).toArray).heap → ∀ ty, (Builtin.copy_ #[22, 22] ty #[.slice (some ⟨w.heap.size, 1, none⟩) c (G - 1), .slice (some ⟨g, 0, none⟩) c c]).run Tryz.prog W = .ok (goInt c) (W.setRow w.heap.size (u :: (zs ++ List.replicate (G - (c + 1)) (.slice none 0 0))).toArray) := fun W V hV hW ty => by
  have hr : W.heap[w.heap.size]? = some (.cells (u :: List.replicate (G - 1) (.slice none 0 0)).toArray 33 (0, 0)) := by
   rw [hW, setRow_heap V w.heap.size _ _ 33 _ (hrA V hV)]
  have h := copyE7 W w.heap.size 1 c (G - 1) c c ⟨g, 0, none⟩ (u :: List.replicate (G - 1) (.slice none 0 0)) zs hr (by rw [hlen]; exact (Nat.min_self c).symm) (fun j v hj => by
   rw [add_off, Nat.zero_add]
   have e1 : W.cell? ⟨g, j, none⟩ = V.cell? ⟨g, j, none⟩ := cell_same (ad := ⟨g, j, none⟩) (by rw [hW]; exact setRow_other V w.heap.size g _ (by show g ≠ w.heap.size; omega))
   rw [e1, hold2 V hV g j hlt]
   exact own_cells7 hrow (by rw [List.getElem?_append_left (List.getElem?_eq_some_iff.1 hj).1, hj])) (by simp; omega) hz ty
  rw [h, hlen]
  have e : splice (u :: List.replicate (G - 1) (.slice none 0 0)) 1 zs = u :: (zs ++ List.replicate (G - (c + 1)) (.slice none 0 0)) := by
   unfold splice
   simp [hlen]
   rw [show 1 + c = c + 1 by omega, List.drop_succ_cons, List.drop_replicate, show G - 1 - c = G - (c + 1) by omega]
  rw [e]
 obtain ⟨ROW, hROW⟩ : ∃ ROW : Array Value, ROW = (List.replicate G (.slice none 0 0) : List Value).toArray := ⟨_, rfl⟩
 rw [← hROW] at hrz
 have hnz : ¬ (c : Int) = 0 := by omega
 have hnz2 : ¬ c = 0 := by omega
 have hi1 : (c : Int) < (c : Int) + 1 := by omega
 have hi2 : (0 : Int) ≤ (c : Int) + 1 := by omega
 have hi4 : (1 : Int) ≤ (c : Int) + 1 := by omega
 have hi5 : ¬ G = 0 := by omega
 have hi6 : ¬ G = 1 := by omega
 have hw2 : IntKind.i64.wrap 1 = 1 := by decide
 have hi7 : (1 : Int) ≤ ((c + 1 : Nat) : Int) := by omega
 have mixed : Tryz.prog.follows .mixedOrders = true := by kernel_rfl
 have hw1 : IntKind.i64.wrap ((c : Int) + 1) = (c : Int) + 1 := by rw [IntKind.wrap_i64]; omega
 have HP := Lib.hid (And.intro hGn (And.intro hG63 (And.intro hlen hlt)))
 have HA := Lib.hid hcA; have HB := Lib.hid hcB; have HR := Lib.hid hrA; have HRW := Lib.hid hROW
 clear hold hG hrA hold2 hcA hcB hROW hown hrow hle hlt hsp hz hv
 go_enter Tryz.func133, Tryz.ntmps133
 have hca1 := HA.out (w.drew.alloc (.cells ROW 33)) (by rw [HRW.out]) 3
 have hca2 := HA.out ((w.alloc (.cells ROW 33)).drew) (by rw [HRW.out]; rfl) 3
 go_wp2_with (first
  | (at_builtin; refine Lib.wpList_append_run _ rfl _ _ _ _ rfl _ _ rfl rfl _ _ (hrz _) ?_))
 have hcb1 := HB.out (((w.alloc (.cells ROW 33)).drew.setRow w.heap.size (u :: List.replicate (G - 1) (.slice none 0 0)).toArray).drew) (w.drew.alloc (.cells ROW 33)) (by rw [HRW.out]) rfl 3
 go_region_law_o (refine step_copy_runI rfl _ _ 22 22 rfl (.slice (some ⟨w.heap.size, 1, none⟩) c (G - 1)) (.slice (some ⟨g, 0, none⟩) c c) (by simp [Act.eval, Act.put]) (by simp [Act.eval, Act.put]) hcb1 ?_)
 go_wp2
 go_ret
 obtain ⟨hGn, hG63, hlen, hlt⟩ := HP.out
 have hr := HR.out (w.drew.alloc (.cells ROW 33)) (by rw [HRW.out])
 refine ⟨_, G, rfl, ⟨by simp [hlen], hGn, hG63, List.replicate (G - (c + 1)) (.slice none 0 0), by simp; omega, ?_⟩, .inr ⟨Nat.le_refl _, ?_⟩⟩
 ·have hr2 : ((w.alloc (.cells ROW 33)).drew).heap[w.heap.size]? = some (.cells (List.replicate G (.slice none 0 0)).toArray 33 (0, 0)) := hr
  have hr3 := setRow_heap ((w.alloc (.cells ROW 33)).drew) w.heap.size _ (u :: List.replicate (G - 1) (.slice none 0 0)).toArray 33 _ hr2
  exact setRow_heap (((w.alloc (.cells ROW 33)).drew.setRow w.heap.size (u :: List.replicate (G - 1) (.slice none 0 0)).toArray).drew) w.heap.size _ _ 33 _ hr3
 ·refine grown_step (grown_trans (grown_step (grown_trans (World.grownBy_alloc w _ none) (grown_drew _ none)) (grown_setRow7 _ _ _) (Nat.le_refl _)) (grown_drew _ none)) (grown_setRow7 _ _ _) (Nat.le_refl _)
end Go.Proofs.YtaogepcaoogpgaaGreatDoor
