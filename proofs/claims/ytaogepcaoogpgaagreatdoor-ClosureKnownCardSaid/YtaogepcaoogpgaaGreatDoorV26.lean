/- U59 -/
import Derived.Test.YtaogepcaoogpgaaGreatDoorV24
import Derived.Test.YtaogepcaoogpgaaGreatDoorV21
import Derived.Test.YtaogepcaoogpgaaGreatDoorV19
import Derived.Maps.AppendAt
set_option linter.unusedVariables false
set_option linter.unusedSimpArgs false
namespace Go.Proofs.YtaogepcaoogpgaaGreatDoor
open Go.RowKit
open Go.Lib (decDigits nDigits)
theorem join_inj7 : ∀ (xs ys : List (List UInt8)), xs.length = ys.length → (∀ x ∈ xs, (32 : UInt8) ∉ x) → (∀ y ∈ ys, (32 : UInt8) ∉ y) → Lib.join xs [32] = Lib.join ys [32] → xs = ys
 | [], [], _, _, _, _ => rfl
 | [], _ :: _, h, _, _, _ => by simp at h
 | _ :: _, [], h, _, _, _ => by simp at h
 | [x], [y], _, _, _, h => by rw [Lib.join_one, Lib.join_one] at h; rw [h]
 | [x], _ :: _ :: _, h, _, _, _ => by simp at h
 | _ :: _ :: _, [y], h, _, _, _ => by simp at h
 | x :: x2 :: xr, y :: y2 :: yr, h, hx, hy, e => by
  have e1 : ∀ (a b : List UInt8) (r : List (List UInt8)), Lib.join (a :: b :: r) [32] = a ++ 32 :: Lib.join (b :: r) [32] := fun a b r => by
   rw [Lib.join_cons, Lib.join_cons]
   unfold Lib.joinTail
   simp
  rw [e1, e1] at e
  have hxn : (32 : UInt8) ∉ x := hx x (by simp)
  have hyn : (32 : UInt8) ∉ y := hy y (by simp)
  have hsplit : ∀ (a b p q : List UInt8), (32 : UInt8) ∉ a → (32 : UInt8) ∉ b → a ++ 32 :: p = b ++ 32 :: q → a = b ∧ p = q := by
   intro a
   induction a with
   | nil =>
    intro b p q ha hb h
    cases b with
    | nil => simp at h; exact ⟨rfl, h⟩
    | cons c r => simp at h; exact absurd (by rw [← h.1]; simp) hb
   | cons c r ih =>
    intro b p q ha hb h
    cases b with
    | nil => simp at h; exact absurd (by rw [h.1]; simp) ha
    | cons d s =>
     simp at h
     obtain ⟨h1, h2⟩ := ih s p q (fun hm => ha (List.mem_cons_of_mem _ hm)) (fun hm => hb (List.mem_cons_of_mem _ hm)) h.2
     exact ⟨by rw [h.1, h1], h2⟩
  obtain ⟨h1, h2⟩ := hsplit x y _ _ hxn hyn e
  rw [h1, join_inj7 (x2 :: xr) (y2 :: yr) (by simpa using h) (fun a ha => hx a (List.mem_cons_of_mem _ ha)) (fun a ha => hy a (List.mem_cons_of_mem _ ha)) h2]
theorem dec_no_blank (n : Nat) : (32 : UInt8) ∉ decDigits n := fun h => by
 have := List.all_eq_true.1 (dec_all n) 32 h
 revert this
 decide
theorem ext_no_blank (v : Ext) : (32 : UInt8) ∉ (extT v).data.toList := by
 rcases v with (_ | _) | x
 ·decide
 ·decide
 ·show (32 : UInt8) ∉ ratL x
  unfold ratL
  intro h
  rcases List.mem_append.1 h with h | h
  ·split at h
   ·revert h; decide
   ·cases h
  ·rcases List.mem_append.1 h with h | h
   ·exact dec_no_blank _ h
   ·split at h
    ·cases h
    ·rcases List.mem_cons.1 h with h | h
     ·revert h; decide
     ·exact dec_no_blank _ h
theorem ext_size7 {v : Ext} (h : Fits v) : (extT v).data.toList.length ≤ 810 := by
 rcases v with (_ | _) | x
 ·decide
 ·decide
 ·show (ratL x).length ≤ 810
  obtain ⟨h1, h2⟩ := h
  unfold ratL
  rw [List.length_append, List.length_append]
  have e1 : (if x.num < 0 then [45] else ([] : List UInt8)).length ≤ 1 := by split <;> simp
  have e2 : (if x.den = 1 then ([] : List UInt8) else 47 :: decDigits x.den).length ≤ 401 := by
   split
   ·simp
   ·rw [List.length_cons, Lib.decDigits_length]; omega
  rw [Lib.decDigits_length]
  omega
theorem join_len7 : ∀ (xs : List (List UInt8)), (∀ x ∈ xs, x.length ≤ 810) → (Lib.join xs [32]).length ≤ 811 * xs.length
 | [], _ => by simp [Lib.join_nil]
 | x :: r, h => by
  rw [Lib.join_cons, List.length_append]
  have h1 := h x (by simp)
  have h2 : (Lib.joinTail [32] r).length ≤ 811 * r.length := by
   have hr : ∀ y ∈ r, y.length ≤ 810 := fun y hy => h y (List.mem_cons_of_mem _ hy)
   clear h h1
   unfold Lib.joinTail
   induction r with
   | nil => simp
   | cons y s ih =>
    have := ih (fun z hz => hr z (List.mem_cons_of_mem _ hz))
    have := hr y (by simp)
    simp at *
    omega
  rw [List.length_cons]
  omega
section
variable {k : Int}
def rowT (m : Nat) (f : Nat → El k) : ByteArray := ⟨(Lib.join (((List.range m).map (fun j => tx (f j))).map (·.data.toList)) [32]).toArray⟩
theorem rowT_inj {m : Nat} {f g : Nat → El k} (hf : ∀ j, j < m → FitE (f j)) (hg : ∀ j, j < m → FitE (g j)) (h : rowT m f = rowT m g) : ∀ j, j < m → f j = g j := by
 unfold rowT at h
 have h1 := congrArg (fun b : ByteArray => b.data.toList) h
 have h2 := join_inj7 _ _ (by simp) (fun x hx => by
  obtain ⟨b, hb, rfl⟩ := List.mem_map.1 hx
  obtain ⟨j, _, rfl⟩ := List.mem_map.1 hb
  exact ext_no_blank _) (fun x hx => by
  obtain ⟨b, hb, rfl⟩ := List.mem_map.1 hx
  obtain ⟨j, _, rfl⟩ := List.mem_map.1 hb
  exact ext_no_blank _) h1
 intro j hj
 have h3 := congrArg (fun l : List (List UInt8) => l[j]?) h2
 simp [hj] at h3
 exact tx_inj (hf j hj) (hg j hj) (ByteArray.ext h3)
theorem rowT_size {m : Nat} {f : Nat → El k} (hf : ∀ j, j < m → FitE (f j)) : (Lib.join (((List.range m).map (fun j => tx (f j))).map (·.data.toList)) [32]).length ≤ 811 * m := by
 have := join_len7 (((List.range m).map (fun j => tx (f j))).map (·.data.toList)) (fun x hx => by
  obtain ⟨b, hb, rfl⟩ := List.mem_map.1 hx
  obtain ⟨j, hj, rfl⟩ := List.mem_map.1 hb
  exact ext_size7 (hf j (List.mem_range.1 hj)))
 simpa using this
theorem find_rep {m : Nat} {A : Nat → Nat → El k} {i : Nat} {n : Nat} (hA : ∀ i, i < n → ∀ j, j < m → FitE (A i j)) (hi : i < n) : ∀ {R : List Nat}, (∀ x ∈ R, x < n) → (R.map (fun x => rowT m (A x))).findIdx? (fun t => decide (t = rowT m (A i))) = R.findIdx? (fun x => eqR m A x i) := by
 intro R hR
 rw [List.findIdx?_map]
 induction R with
 | nil => rfl
 | cons x r ih =>
  have hx : (fun t => decide (t = rowT m (A i))) (rowT m (A x)) = eqR m A x i := by
   rw [Bool.eq_iff_iff]
   constructor
   ·intro h
    exact eqR_iff.2 (rowT_inj (hA x (hR x (by simp))) (hA i hi) (of_decide_eq_true h))
   ·intro h
    have := eqR_iff.1 h
    refine decide_eq_true ?_
    unfold rowT
    rw [show (List.range m).map (fun j => tx (A x j)) = (List.range m).map (fun j => tx (A i j)) from List.map_congr_left (fun j hj => by rw [this j (List.mem_range.1 hj)])]
  rw [List.findIdx?_cons, List.findIdx?_cons, ih (fun y hy => hR y (List.mem_cons_of_mem _ hy))]
  show (if (fun t => decide (t = rowT m (A i))) (rowT m (A x)) = true then _ else _) = _
  rw [hx]
theorem scan_step7 (eq : Nat → Nat → Bool) (i : Nat) : scan eq (i + 1) = match (scan eq i).1.findIdx? (fun j => eq j i) with
  | some k => ((scan eq i).1, (scan eq i).2 ++ [k])
  | none => ((scan eq i).1 ++ [i], (scan eq i).2 ++ [(scan eq i).1.length]) := rfl
theorem scan_found {m : Nat} {A : Nat → Nat → El k} {i n : Nat} (hA : ∀ i, i < n → ∀ j, j < m → FitE (A i j)) (hi : i < n) (h : rowT m (A i) ∈ (scan (eqR m A) i).1.map (fun x => rowT m (A x))) :
  (scan (eqR m A) (i + 1)).1 = (scan (eqR m A) i).1 ∧ (scan (eqR m A) (i + 1)).2 = (scan (eqR m A) i).2 ++ [num7 ((scan (eqR m A) i).1.map (fun x => rowT m (A x))) (rowT m (A i))] := by
 have hs := scan_is (eq := eqR m A) (fun i => eqR_iff.2 (fun _ _ => rfl)) i
 have hR : ∀ x ∈ (scan (eqR m A) i).1, x < n := fun x hx => by
  obtain ⟨j, hj, rfl⟩ := List.getElem_of_mem hx
  have := hs.rl j hj
  rw [List.getD_eq_getElem?_getD, List.getElem?_eq_getElem hj] at this
  simp at this; omega
 have hf := find_rep hA hi hR
 unfold num7
 rw [hf]
 have hne : (scan (eqR m A) i).1.findIdx? (fun x => eqR m A x i) ≠ none := by
  rw [← hf]
  intro hn
  have := List.findIdx?_eq_none_iff.1 hn _ h
  simp at this
 obtain ⟨q, hq⟩ := Option.ne_none_iff_exists'.1 hne
 rw [scan_step7, hq]
 exact ⟨rfl, rfl⟩
theorem scan_new {m : Nat} {A : Nat → Nat → El k} {i n : Nat} (hA : ∀ i, i < n → ∀ j, j < m → FitE (A i j)) (hi : i < n) (h : rowT m (A i) ∉ (scan (eqR m A) i).1.map (fun x => rowT m (A x))) :
  (scan (eqR m A) (i + 1)).1 = (scan (eqR m A) i).1 ++ [i] ∧ (scan (eqR m A) (i + 1)).2 = (scan (eqR m A) i).2 ++ [(scan (eqR m A) i).1.length] := by
 have hs := scan_is (eq := eqR m A) (fun i => eqR_iff.2 (fun _ _ => rfl)) i
 have hR : ∀ x ∈ (scan (eqR m A) i).1, x < n := fun x hx => by
  obtain ⟨j, hj, rfl⟩ := List.getElem_of_mem hx
  have := hs.rl j hj
  rw [List.getD_eq_getElem?_getD, List.getElem?_eq_getElem hj] at this
  simp at this; omega
 have hf := find_rep hA hi hR
 have hne : (scan (eqR m A) i).1.findIdx? (fun x => eqR m A x i) = none := by
  rw [← hf]
  exact List.findIdx?_eq_none_iff.2 (fun x hx => by simp; rintro rfl; exact h hx)
 rw [scan_step7, hne]
 exact ⟨rfl, rfl⟩
def RowG (w : World) (v : Value) (m : Nat) (f : Nat → El k) : Prop := ∃ g o c, v = .slice (some ⟨g, o, none⟩) m c ∧ m ≤ c ∧ c ≤ maxLen ∧ RowAt w g o m (txs f)
theorem RowG.grown {w w' : World} {v : Value} {m : Nat} {f : Nat → El k} (h : RowG w v m f) (hg : w.grownBy w' none) : RowG w' v m f := by
 obtain ⟨g, o, c, h1, h2, h3, h4⟩ := h
 exact ⟨g, o, c, h1, h2, h3, h4.grown hg⟩
theorem RowG.row {w : World} {v : Value} {m : Nat} {f : Nat → El k} (h : RowG w v m f) : RowR w v m (txs f) := by
 obtain ⟨g, o, c, rfl, h2, h3, h4⟩ := h
 exact h4.row h2 h3
structure DistInv (m n : Nat) (A : Nat → Nat → El k) (rs : Nat → Value) (w : World) (i : Nat) (rv cv : Value) (wr : World) : Prop where
 le : i ≤ n
 gr : w.grownBy wr none
 nums : Nums wr w.heap.size ((scan (eqR m A) i).1.map (fun x => rowT m (A x)))
 own1 : wr.ownsRow (w.heap.size + 1) 33 1 rv (scan (eqR m A) i).1.length ((scan (eqR m A) i).1.map rs)
 own2 : wr.ownsRow (w.heap.size + 1) 3 1 cv (scan (eqR m A) i).2.length ((scan (eqR m A) i).2.map (fun x => .int .i64 ((x : Nat) : Int)))
 dis : rv.ownBlock = none ∨ cv.ownBlock = none ∨ rv.ownBlock ≠ cv.ownBlock
theorem info_row1 : ∃ i0 : TypeInfo, Tryz.prog.info? 33 = some i0 ∧ i0.zero = some (.slice none 0 0) ∧ i0.size = 1 ∧ i0.bytes = 24 := info_parts info_row
theorem info_int7 : (Tryz.prog.info? 3).map (fun i => (i.zero, i.size, i.bytes)) = some (some (.int .i64 0), 1, 8) := by kernel_rfl
theorem own_rowR7 {w : World} {B n : Nat} {T : TypeId} {v : Value} {xs : List Value} (h : w.ownsRow B T 1 v n xs) (z : Value) : RowR w v n (fun j => xs.getD j z) := by
 obtain ⟨hl, ⟨rfl, rfl⟩ | ⟨g, c, cur, rfl, hb, hg, h1, h2, hs, ht⟩⟩ := h
 ·exact ⟨none, 0, rfl, Nat.le_refl _, by unfold maxLen; omega, fun j hj => absurd hj (by omega)⟩
 ·refine ⟨_, c, rfl, h1, h2, fun j hj => ⟨_, rfl, (Array.getElem?_eq_some_iff.1 hg).1, ?_⟩⟩
  rw [add_off, Nat.zero_add, cell_of_row w g j _ _ (0, 0) hg, ← Array.getElem?_toList]
  dsimp only
  rw [← ht, List.getD_eq_getElem?_getD, List.getElem?_take_of_lt (by omega), List.getElem?_eq_getElem (by simp; omega)]
  rfl
theorem below_grown7 {w w' : World} (h : Below w.heap.size w w') : w.grownBy w' none := ⟨h.os, h.tape, h.output, h.size, fun i hi _ => h.block i hi⟩
theorem DistInv.start (m n : Nat) (A : Nat → Nat → El k) (rs : Nat → Value) (w : World) : DistInv m n A rs w 0 (.slice none 0 0) (.slice none 0 0) (w.alloc (.map #[] 0)) :=
 ⟨Nat.zero_le _, World.grownBy_alloc _ _ none, Nums.made w, ⟨rfl, .inl ⟨rfl, rfl⟩⟩, ⟨rfl, .inl ⟨rfl, rfl⟩⟩, .inl rfl⟩
theorem DistInv.near {m n : Nat} {A : Nat → Nat → El k} {rs : Nat → Value} {w : World} {i : Nat} {rv cv : Value} {wr w' : World} (h : DistInv m n A rs w i rv cv wr) (hg : wr.grownBy w' none) : DistInv m n A rs w i rv cv w' :=
 ⟨h.le, grown_trans h.gr hg, h.nums.kept hg (by simp), h.own1.kept hg (by cases rv.ownBlock <;> simp), h.own2.kept hg (by cases cv.ownBlock <;> simp), h.dis⟩
theorem grown_own7 {w w1 w2 : World} {B n : Nat} {T : TypeId} {v : Value} {xs : List Value} (h : w1.ownsRow B T 1 v n xs) (hB : w.heap.size ≤ B) (h1 : w.grownBy w1 none) (h2 : w1.grownBy w2 v.ownBlock) : w.grownBy w2 none := by
 rcases h.2 with ⟨rfl, _⟩ | ⟨g, c, cur, rfl, hb, _⟩
 ·exact grown_trans h1 h2
 ·exact grown_step h1 h2 (by show w.heap.size ≤ g; omega)
theorem dis_swap7 {a b : Option Nat} (h : a = none ∨ b = none ∨ a ≠ b) : b = none ∨ b ≠ a := by
 rcases h with h | h | h
 ·subst h
  cases b <;> simp
 ·exact .inl h
 ·exact .inr (Ne.symm h)
theorem dis_new7 {W : World} {B : Nat} {T : TypeId} {n : Nat} {xs : List Value} {v x v' : Value} {H : Nat} (h : v.ownBlock = none ∨ x.ownBlock = none ∨ v.ownBlock ≠ x.ownBlock) (hx : W.ownsRow B T 1 x n xs) (hH : W.heap.size ≤ H)
  (hat : v'.ownBlock = v.ownBlock ∨ v'.ownBlock = some H) : v'.ownBlock = none ∨ x.ownBlock = none ∨ v'.ownBlock ≠ x.ownBlock := by
 rcases hat with e1 | e1
 ·rw [e1]; exact h
 ·rw [e1]
  refine .inr ?_
  cases hb : x.ownBlock with
  | none => exact .inl rfl
  | some g =>
   refine .inr ?_
   have := (hx.lt g hb).2
   simp
   omega
theorem DistInv.row {m n : Nat} {A : Nat → Nat → El k} {rs : Nat → Value} {w : World} {i : Nat} {rv cv : Value} {wr : World} (h : DistInv m n A rs w i rv cv wr) {w5 w6 : World} {o : Obj} {rv' : Value}
  (hst : Nums w5 w.heap.size ((scan (eqR m A) i).1.map (fun x => rowT m (A x)) ++ [rowT m (A i)])) (hg5 : wr.grownBy w5 (some w.heap.size))
  (hown : w6.ownsRow (w.heap.size + 1) 33 1 rv' ((scan (eqR m A) i).1.length + 1) ((scan (eqR m A) i).1.map rs ++ [rs i])) (hg6 : (w5.alloc o).grownBy w6 rv.ownBlock) (hat : rv'.ownBlock = rv.ownBlock ∨ rv'.ownBlock = some (w5.alloc o).heap.size) :
  w.grownBy w6 none ∧ Nums w6 w.heap.size ((scan (eqR m A) i).1.map (fun x => rowT m (A x)) ++ [rowT m (A i)]) ∧
   w6.ownsRow (w.heap.size + 1) 3 1 cv (scan (eqR m A) i).2.length ((scan (eqR m A) i).2.map (fun x => .int .i64 ((x : Nat) : Int))) ∧ (rv'.ownBlock = none ∨ cv.ownBlock = none ∨ rv'.ownBlock ≠ cv.ownBlock) := by
 have hne : ∀ {T : TypeId} {v : Value} {n : Nat} {xs : List Value}, wr.ownsRow (w.heap.size + 1) T 1 v n xs → v.ownBlock = none ∨ v.ownBlock ≠ some w.heap.size := fun {T v n xs} hv => by
  cases hb : v.ownBlock with
  | none => exact .inl rfl
  | some g => have := (hv.lt g hb).1; right; simp; omega
 have o1 := (h.own1.kept hg5 (hne h.own1)).alloc o
 have o2 := (h.own2.kept hg5 (hne h.own2)).alloc o
 have hgw : w.grownBy (w5.alloc o) none := grown_trans (grown_step h.gr hg5 (Nat.le_refl _)) (World.grownBy_alloc _ _ none)
 refine ⟨grown_own7 o1 (by omega) hgw hg6, (hst.kept (World.grownBy_alloc _ o none) (by simp)).kept hg6 ?_, o2.kept hg6 (dis_swap7 h.dis), dis_new7 h.dis o2 (Nat.le_refl _) hat⟩
 cases hb : rv.ownBlock with
 | none => simp
 | some g => have := (h.own1.lt g hb).1; simp; omega
set_option maxRecDepth 20000 in
set_option maxHeartbeats 4000000 in
theorem distinct_any (n m : Nat) (A : Nat → Nat → El k) (rs : Nat → Value) (av : Value) (w : World) (hn : n ≤ 10000) (hm : m ≤ 10000) (ha : RowR w av n rs) (hr : ∀ i, i < n → RowG w (rs i) m (A i)) (hA : ∀ i, i < n → ∀ j, j < m → FitE (A i j)) :
  Calls Tryz.prog 74 #[av] w fun e w' => ∃ rv cv, e = .returned (.tuple #[rv, cv]) ∧ DistInv m n A rs w n rv cv w' := by
 obtain ⟨Ad, c, rfl, ha1, ha2, ha3⟩ := ha
 obtain ⟨i0, hi, hz0, hz1, hz2⟩ := info_row1
 obtain ⟨i1, hj, hy0, hy1, hy2⟩ := info_parts info_int7
 have hjoin : ∀ i, i < n → ∀ w', w.grownBy w' none → Calls Tryz.prog 130 #[rs i, .string ⟨#[32]⟩] w' fun e w2 => e = .returned (.string (rowT m (A i))) ∧ w'.grownBy w2 none := fun i hi w' hg => by
  obtain ⟨g, o, c, e, h1, h2, h3⟩ := (hr i hi).grown hg
  rw [e]
  have h := Tryz.sh_Join g o c ((List.range m).map (fun j => tx (A i j))) ⟨#[32]⟩ w' (fun j x hx => by
   obtain ⟨hj1, rfl⟩ := List.getElem?_eq_some_iff.1 hx
   simp at hj1
   rw [h3.2 j hj1]
   simp [txs]) h3.1 (by simp; omega) (by simpa using h1) (by
   have := rowT_size (m := m) (hA i hi)
   show (Lib.join _ [32]).length ≤ _
   omega)
  rw [show ((List.range m).map (fun j => tx (A i j))).length = m by simp] at h
  exact h.mono (fun e w2 ⟨h1, h2⟩ => ⟨h1, below_grown7 h2⟩)
 have hmm : ∀ w : World, (Instr.makeMap 120 none).run Tryz.prog w = .ok (.map (some w.heap.size)) (w.alloc (.map #[] 0)) := fun w => run_makeMap _ w
 have HA := Lib.hid ha3; have HJ := Lib.hid hjoin; have HN := Lib.hid (And.intro hn hm); have HF := Lib.hid hA
 have hre : ∀ i, i < n → ∃ g o c, rs i = .slice (some ⟨g, o, none⟩) m c := fun i hi => by
  obtain ⟨g, o, c, e, _⟩ := hr i hi
  exact ⟨g, o, c, e⟩
 have HRE := Lib.hid hre
 clear ha1 ha2 ha3 hr hA hn hm hjoin hre
 go_enter Tryz.func74, Tryz.ntmps74
 go_wp2
 go_loopw [2, 3, 13] (fun rv cv iv wr => ∃ i : Nat, iv = .int .i64 (i : Int) ∧ DistInv m n A rs w i rv cv wr) (fun _ _ iv _ => n - (intOf iv).toNat)
 case atStart => exact ⟨0, rfl, DistInv.start m n A rs w⟩
 case round =>
  obtain ⟨i, rfl, hinv⟩ := hrel
  by_cases hin : i < n
  ·obtain ⟨ad, rfl, hb, hc⟩ := HA.out i hin
   have hc2 : wr.cell? (ad.add i) = some (rs i) := (cell_same (ad := ad.add i) (by rw [add_block7]; exact hinv.gr.block ad.block hb (by simp))).trans hc
   have t1 : decide (i < n) = true := by simpa using hin
   have t1' : decide ((i : Int) < (n : Int)) = true := by simpa using hin
   have hit : (i : Int) < (n : Int) := by omega
   have n1 : IntKind.i64.wrap ((i : Int) + 1) = (i : Int) + 1 := by have := HN.out; rw [IntKind.wrap_i64]; omega
   obtain ⟨g3, o3, c3, hrs3⟩ := HRE.out i hin
   have hcall := HJ.out i hin wr hinv.gr
   rw [hrs3] at hc2 hcall
   have HI := Lib.hid (And.intro hin hinv); have HCALL := Lib.hid hcall; have HRS := Lib.hid hrs3
   clear hin hinv hb hc hcall hrs3
   go_wp2_with fail
   refine HCALL.out.mono ?_
   rintro e w1 ⟨rfl, hg1⟩
   have hinv1 := HI.out.2.near hg1
   have hsz : (rowT m (A i)).size ≤ maxLen := by
    have h1 := rowT_size (m := m) (HF.out i HI.out.1)
    have h2 := HN.out
    show (rowT m (A i)).data.size ≤ maxLen
    unfold rowT maxLen
    simp only [List.size_toArray]
    omega
   have hlook := hinv1.nums.look_ok hsz
   have hs := scan_is (eq := eqR m A) (fun i => eqR_iff.2 (fun _ _ => rfl)) i
   by_cases hmem : rowT m (A i) ∈ (scan (eqR m A) i).1.map (fun x => rowT m (A x))
   ·obtain ⟨q1, q2⟩ := scan_found HF.out HI.out.1 hmem
    rw [decide_eq_true hmem] at hlook
    obtain ⟨z, hzz⟩ : ∃ z, z = num7 ((scan (eqR m A) i).1.map (fun x => rowT m (A x))) (rowT m (A i)) := ⟨_, rfl⟩
    rw [← hzz] at hlook q2
    have hown2 := hinv1.own2
    have H1 := Lib.hid (And.intro hinv1 (And.intro q1 q2)); have HS := Lib.hid hs
    clear hinv1 q1 q2 hg1 hmem hzz hs hsz
    go_wp2_with (at_builtin; refine wpList_append_own_at _ rfl _ _ 51 rfl (w.heap.size + 1) 3 i1 (.int .i64 0) 1 8 Tryz.underlying51 hj hy0 hy1 hy2 rfl (by decide) _ _ _ rfl (hown2.alloc _) ⟨w1.heap.size, 0, none⟩ 1 1 [.int .i64 ((z : Nat) : Int)] rfl rfl ?c1 ?c2 ?c3 ?c4 ?c5 ?_)
    case c1 =>
     intro j u hu
     obtain ⟨hj1, rfl⟩ := List.getElem?_eq_some_iff.1 hu
     obtain rfl : j = 0 := by simpa using hj1
     exact box_cell _ _ _ rfl
    case c2 => intro u hu; rw [List.mem_singleton.1 hu]; rfl
    case c3 => have := HS.out.len; have := HN.out; have := HI.out.1; unfold maxLen; omega
    case c4 => have := HS.out.len; have := HN.out; have := HI.out.1; omega
    case c5 => have := H1.out.1.gr.size; have := H1.out.1.nums.lt; simp; omega
    intro v' w5 hown' hgrow _ hat
    have H5 := Lib.hid (And.intro hown' (And.intro hgrow (And.intro hown2 hat)))
    clear hown' hgrow hown2 hat
    go_wp2
    obtain ⟨hinv1, q1, q2⟩ := H1.out
    obtain ⟨hown', hgrow, hown2, hat⟩ := H5.out
    have hgw : w.grownBy w5 none := grown_own7 (hown2.alloc _) (by omega) (grown_trans hinv1.gr (World.grownBy_alloc _ _ none)) hgrow
    refine ⟨⟨i + 1, by simp, HI.out.1, hgw, ?_, ?_, ?_, ?_⟩, by have := HI.out.1; simp [intOf]; omega⟩
    ·rw [q1]
     refine (hinv1.nums.kept (World.grownBy_alloc _ _ none) (by simp)).kept hgrow ?_
     cases hb : u3.ownBlock with
     | none => simp
     | some g => have := (hown2.lt g hb).1; simp; omega
    ·rw [q1]
     refine (hinv1.own1.alloc _).kept hgrow ?_
     rcases hinv1.dis with h | h | h
     ·exact .inl h
     ·rw [h]; cases u2.ownBlock <;> simp
     ·exact .inr h
    ·rw [q2, List.length_append, List.map_append]; exact hown'
    ·rcases dis_new7 (v := u3) (x := u2) (v' := v') (by rcases hinv1.dis with h | h | h; exact .inr (.inl h); exact .inl h; exact .inr (.inr (Ne.symm h))) (hinv1.own1.alloc (.cells #[.int .i64 ((z : Nat) : Int)] 3)) (by simp) hat with h | h | h
     ·exact .inr (.inl h)
     ·exact .inl h
     ·exact .inr (.inr (Ne.symm h))
   ·obtain ⟨q1, q2⟩ := scan_new HF.out HI.out.1 hmem
    rw [decide_eq_false hmem] at hlook
    obtain ⟨w2, hst, hm2, hg2⟩ := hinv1.nums.store hsz hmem (by rw [List.length_map]; have := hs.le; have := HI.out.1; have := HN.out; unfold maxLen; omega)
    rw [List.length_map] at hst
    have hown1 := hinv1.own1
    have hne1 : u2.ownBlock = none ∨ u2.ownBlock ≠ some w.heap.size := by
     cases hb : u2.ownBlock with
     | none => exact .inl rfl
     | some g => have := (hown1.lt g hb).1; right; simp; omega
    have hown1' := hown1.kept hg2 hne1
    obtain ⟨A0, c0, hrl⟩ : ∃ A0 c0, u2 = .slice A0 (scan (eqR m A) i).1.length c0 := by
     rcases hown1.2 with ⟨e, e2⟩ | ⟨g, c, cur, e, _⟩
     ·exact ⟨_, _, by rw [e, e2]⟩
     ·exact ⟨_, _, e⟩
    have hKn : (scan (eqR m A) i).1.length ≤ 10000 := by have := hs.le; have := HI.out.1; have := HN.out.1; omega
    have hCn : (scan (eqR m A) i).2.length ≤ 10000 := by have := hs.len; have := HI.out.1; have := HN.out.1; omega
    have hbase1 : w.heap.size + 1 ≤ w2.heap.size := by have := hm2.lt; omega
    have hrowF := fun (w6 : World) (rv' : Value) h1 h2 h3 => hinv1.row (w5 := w2) (w6 := w6) (o := .cells #[.slice (some ⟨g3, o3, none⟩) m c3] 33) (rv' := rv') hm2 hg2 h1 h2 h3
    rw [HRS.out] at hrowF
    have H1 := Lib.hid (And.intro q1 q2); have HS := Lib.hid hs; have HRF := Lib.hid hrowF; have HK := Lib.hid (And.intro hKn (And.intro hCn hbase1)); have HG12 := Lib.hid hg2
    obtain ⟨K, hKe⟩ : ∃ K, K = (scan (eqR m A) i).1.length := ⟨_, rfl⟩
    have HKE := Lib.hid hKe
    rw [← hKe] at hst hrl hown1'
    subst hrl
    clear hinv1 q1 q2 hg1 hmem hs hsz hm2 hg2 hown1 hne1 hrowF hKn hCn hbase1 hKe
    go_wp2_with (at_builtin; refine wpList_append_own_at _ rfl _ _ 22 rfl (w.heap.size + 1) 33 i0 (.slice none 0 0) 1 24 Tryz.underlying22 hi hz0 hz1 hz2 rfl (by decide) _ _ _ rfl (hown1'.alloc _) ⟨w2.heap.size, 0, none⟩ 1 1 [.slice (some ⟨g3, o3, none⟩) m c3] rfl rfl ?c1 ?c2 ?c3 ?c4 ?c5 ?_)
    case c1 =>
     intro j u hu
     obtain ⟨hj1, rfl⟩ := List.getElem?_eq_some_iff.1 hu
     obtain rfl : j = 0 := by simpa using hj1
     exact box_cell _ _ _ rfl
    case c2 => intro u hu; rw [List.mem_singleton.1 hu]; rfl
    case c3 => have := HK.out.1; have := HKE.out; unfold maxLen; omega
    case c4 => have := HK.out.1; have := HKE.out; omega
    case c5 => have := HK.out.2.2; simp; omega
    intro v' w5 hown' hgrow _ hat
    rw [HKE.out] at hown'
    obtain ⟨hgw, hnum, hown2, hdis⟩ := HRF.out w5 v' hown' hgrow (by simpa using hat)
    have hsz5 : w.heap.size + 1 ≤ w5.heap.size := by have := hnum.lt; omega
    have H5 := Lib.hid (And.intro hown' (And.intro hgw (And.intro hnum hdis))); have H52 := Lib.hid hown2; have HSZ := Lib.hid hsz5
    clear hown' hgrow hown2 hat hgw hnum hdis hsz5 hown1'
    go_wp2_with (at_builtin; refine wpList_append_own_at _ rfl _ _ 51 rfl (w.heap.size + 1) 3 i1 (.int .i64 0) 1 8 Tryz.underlying51 hj hy0 hy1 hy2 rfl (by decide) _ _ _ rfl (H52.out.alloc _) ⟨w5.heap.size, 0, none⟩ 1 1 [.int .i64 ((K : Nat) : Int)] rfl rfl ?d1 ?d2 ?d3 ?d4 ?d5 ?_)
    case d1 =>
     intro j u hu
     obtain ⟨hj1, rfl⟩ := List.getElem?_eq_some_iff.1 hu
     obtain rfl : j = 0 := by simpa using hj1
     exact box_cell _ _ _ rfl
    case d2 => intro u hu; rw [List.mem_singleton.1 hu]; rfl
    case d3 => have := HK.out.2.1; unfold maxLen; omega
    case d4 => have := HK.out.2.1; omega
    case d5 => have := HSZ.out; simp; omega
    intro v2 w6 hown6 hgrow6 _ hat6
    have H6 := Lib.hid (And.intro hown6 (And.intro hgrow6 hat6))
    clear hown6 hgrow6 hat6
    go_wp2
    obtain ⟨q1, q2⟩ := H1.out
    obtain ⟨hown1, hgw, hnum, hdis⟩ := H5.out
    obtain ⟨hown6, hgrow6, hat6⟩ := H6.out
    have hgw6 : w.grownBy w6 none := grown_own7 (H52.out.alloc _) (by omega) (grown_trans hgw (World.grownBy_alloc _ _ none)) hgrow6
    refine ⟨⟨i + 1, by simp, HI.out.1, hgw6, ?_, ?_, ?_, ?_⟩, by have := HI.out.1; simp [intOf]; omega⟩
    ·rw [q1, List.map_append]
     refine (hnum.kept (World.grownBy_alloc _ _ none) (by simp)).kept hgrow6 ?_
     cases hb : u3.ownBlock with
     | none => simp
     | some g => have := (H52.out.lt g hb).1; simp; omega
    ·rw [q1, List.length_append, List.map_append]
     show w6.ownsRow _ _ 1 v' _ (_ ++ [rs i])
     rw [HRS.out]
     refine (hown1.alloc _).kept hgrow6 ?_
     rcases hdis with h | h | h
     ·exact .inl h
     ·rw [h]; cases v'.ownBlock <;> simp
     ·exact .inr h
    ·rw [q2, List.length_append, List.map_append, ← HKE.out]; exact hown6
    ·rcases dis_new7 (v := u3) (x := v') (v' := v2) (by rcases hdis with h | h | h; exact .inr (.inl h); exact .inl h; exact .inr (.inr (Ne.symm h))) (hown1.alloc (.cells #[.int .i64 ((K : Nat) : Int)] 3)) (by simp) hat6 with h | h | h
     ·exact .inr (.inl h)
     ·exact .inl h
     ·exact .inr (.inr (Ne.symm h))
  ·have hle := hinv.le
   obtain rfl : i = n := by omega
   have t1 : decide (i < i) = false := by simp
   have t1' : decide ((i : Int) < (i : Int)) = false := by simp
   have HI := Lib.hid hinv
   clear hinv hin hle
   go_wp2
   exact bodyPost_ret (v := .tuple #[u2, u3]) (by simp [results, Tryz.results74, go_sem]) rfl ⟨_, _, rfl, HI.out⟩
end
end Go.Proofs.YtaogepcaoogpgaaGreatDoor
