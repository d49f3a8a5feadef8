/- The program's Merge, by contract. -/
import Derived.Test.YtegbgkljpdlpnaaTh
set_option linter.unusedVariables false
set_option linter.unusedSimpArgs false
namespace Go.Proofs.Ytegbgkljpdlpnaa
open Go.RowKit

/-- The names of a, then those of b that a does not have. -/
def newN (a b : List ByteArray) : List ByteArray := a ++ b.filter (fun x => !decide (x ∈ a))
theorem newN_nil (a : List ByteArray) : newN a [] = a := by unfold newN; simp
theorem newN_has {a b : List ByteArray} {x : ByteArray} (h : x ∈ a) : newN a (b ++ [x]) = newN a b := by unfold newN; simp [h]
theorem newN_new {a b : List ByteArray} {x : ByteArray} (h : x ∉ a) : newN a (b ++ [x]) = newN a b ++ [x] := by unfold newN; simp [h]
theorem newN_split (a b c : List ByteArray) : newN a (b ++ c) = newN a b ++ c.filter (fun x => !decide (x ∈ a)) := by unfold newN; simp
theorem newN_len (a b : List ByteArray) : (newN a b).length ≤ a.length + b.length := by
  unfold newN; rw [List.length_append]; have := List.length_filter_le (fun x => !decide (x ∈ a)) b; omega
theorem newN_ge (a b : List ByteArray) : a.length ≤ (newN a b).length := by unfold newN; rw [List.length_append]; omega
theorem pos_append {a m : List ByteArray} {x : ByteArray} (h : x ∈ a) : pos (a ++ m) x = pos a x := by
  rw [pos_mem h, pos_mem (by simp [h]), List.idxOf_append, if_pos h]
theorem pos_mid {a m : List ByteArray} {x : ByteArray} (h : x ∉ a) : pos (a ++ x :: m) x = a.length + 1 := by
  rw [pos_mem (by simp), List.idxOf_append, if_neg h, List.idxOf_cons_self, Nat.zero_add]
theorem to_has {a b : List ByteArray} {x : ByteArray} (h : x ∈ a) : pos (newN a b) x = pos a x := by unfold newN; exact pos_append h
theorem not_newN {a b : List ByteArray} {x : ByteArray} (h : x ∉ a) (hb : x ∉ b) : x ∉ newN a b := by unfold newN; simp [h, hb]
theorem to_new {a b c : List ByteArray} {x : ByteArray} (h : x ∉ a) (hb : x ∉ b) : pos (newN a (b ++ x :: c)) x = (newN a b).length + 1 := by
  rw [newN_split, List.filter_cons, if_pos (by simp [h])]
  exact pos_mid (not_newN h hb)
theorem take_drop_at {α : Type} {b : List α} {k : Nat} {x : α} (h : b[k]? = some x) : b.take k ++ x :: b.drop (k + 1) = b := by
  obtain ⟨hk, rfl⟩ := List.getElem?_eq_some_iff.1 h
  rw [← List.drop_eq_getElem_cons hk, List.take_append_drop]
theorem nodup_before {b : List ByteArray} (hn : b.Nodup) {k : Nat} {x : ByteArray} (h : b[k]? = some x) : x ∉ b.take k := by
  intro hm
  obtain ⟨j, hj⟩ := List.mem_iff_getElem?.1 hm
  have hjk : j < k := by
    have := (List.getElem?_eq_some_iff.1 hj).1
    rw [List.length_take] at this; omega
  rw [List.getElem?_take_of_lt hjk] at hj
  have := idx_nodup hn hj h
  omega
/-- The symbols that b's names have there. -/
def toT (a b : List ByteArray) : List Nat := b.map (pos (newN a b))
def toK (a b : List ByteArray) (k : Nat) : List Nat := (b.take k).map (pos (newN a b))
theorem toK_step {a b : List ByteArray} {k : Nat} {x : ByteArray} (h : b[k]? = some x) : toK a b (k + 1) = toK a b k ++ [pos (newN a b) x] := by unfold toK; rw [take_snoc h, List.map_append]; rfl
theorem toK_len {a b : List ByteArray} {k : Nat} (h : k ≤ b.length) : (toK a b k).length = k := by unfold toK; rw [List.length_map, List.length_take]; omega
theorem toK_end (a b : List ByteArray) {k : Nat} (h : b.length ≤ k) : toK a b k = toT a b := by unfold toK toT; rw [List.take_of_length_le h]
/-- What Merge answers. -/
def mergeL (a b : List ByteArray) : List ByteArray × List Nat × Nat :=
  if tableB a && tableB b then (if 500 < (newN a b).length then ([], [], 2) else (newN a b, toT a b, 0)) else ([], [], 1)
def MergePost (r : List ByteArray × List Nat × Nat) (w : World) (e : Ending) (w' : World) : Prop :=
  ∃ v x, e = .returned (.tuple #[v, x, .int .i64 (r.2.2 : Int)]) ∧ StrSl w' v r.1 ∧ IntSl w' x (ofNats r.2.1) ∧ Below w.heap.size w w'

/-- Two rows that grow side by side. -/
structure Rows2 (W : World) (B : Nat) (v x : Value) (ns : List ByteArray) (ts : List Nat) : Prop where
  own1 : W.ownsRow B 9 1 v ns.length (ns.map Value.string)
  own2 : W.ownsRow B 3 1 x ts.length (ts.map vNat)
  dis : v.ownBlock = none ∨ x.ownBlock = none ∨ v.ownBlock ≠ x.ownBlock
  size : B ≤ W.heap.size
theorem Rows2.next {W W' : World} {B : Nat} {v x : Value} {ns : List ByteArray} {ts : List Nat} (h : Rows2 W B v x ns ts) (hb : Below W.heap.size W W') : Rows2 W' B v x ns ts :=
  ⟨own_below hb h.own1, own_below hb h.own2, h.dis, Nat.le_trans h.size hb.size⟩
theorem dis_ne {v x : Value} (h : v.ownBlock = none ∨ x.ownBlock = none ∨ v.ownBlock ≠ x.ownBlock) : x.ownBlock = none ∨ x.ownBlock ≠ v.ownBlock := by
  rcases h with h | h | h
  · rw [h]
    cases x.ownBlock <;> simp
  · exact .inl h
  · exact .inr (Ne.symm h)
theorem dis_after {W : World} {B : Nat} {e : TypeId} {n : Nat} {xs : List Value} {v x v' : Value} (h : v.ownBlock = none ∨ x.ownBlock = none ∨ v.ownBlock ≠ x.ownBlock) (hx : W.ownsRow B e 1 x n xs)
    (hat : v'.ownBlock = v.ownBlock ∨ v'.ownBlock = some (W.heap.size + 1)) : v'.ownBlock = none ∨ x.ownBlock = none ∨ v'.ownBlock ≠ x.ownBlock := by
  rcases hat with e1 | e1
  · rw [e1]; exact h
  · rw [e1]
    refine .inr ?_
    cases hb : x.ownBlock with
    | none => exact .inl rfl
    | some g =>
      refine .inr ?_
      have := (hx.lt g hb).2
      simp
      omega
theorem Rows2.push1 {W W' : World} {B : Nat} {v x v' : Value} {ns : List ByteArray} {ts : List Nat} {o : Obj} {s : ByteArray} (h : Rows2 W B v x ns ts) (hg : (W.alloc o).grownBy W' v.ownBlock)
    (hown : W'.ownsRow B 9 1 v' (ns.length + 1) (ns.map Value.string ++ [.string s])) (hat : v'.ownBlock = v.ownBlock ∨ v'.ownBlock = some (W.heap.size + 1)) : Rows2 W' B v' x (ns ++ [s]) ts :=
  ⟨by rw [List.length_append, List.map_append]; exact hown, (h.own2.alloc o).kept hg (dis_ne h.dis), dis_after h.dis h.own2 hat, Nat.le_trans h.size (by have := hg.size; simp at this; omega)⟩
theorem Rows2.push2 {W W' : World} {B : Nat} {v x x' : Value} {ns : List ByteArray} {ts : List Nat} {o : Obj} {s : Nat} (h : Rows2 W B v x ns ts) (hg : (W.alloc o).grownBy W' x.ownBlock)
    (hown : W'.ownsRow B 3 1 x' (ts.length + 1) (ts.map vNat ++ [.int .i64 (s : Int)])) (hat : x'.ownBlock = x.ownBlock ∨ x'.ownBlock = some (W.heap.size + 1)) : Rows2 W' B v x' ns (ts ++ [s]) := by
  have hd : x.ownBlock = none ∨ v.ownBlock = none ∨ x.ownBlock ≠ v.ownBlock := by
    rcases h.dis with k | k | k
    · exact .inr (.inl k)
    · exact .inl k
    · exact .inr (.inr (Ne.symm k))
  have hd2 := dis_after hd h.own1 hat
  refine ⟨(h.own1.alloc o).kept hg (dis_ne hd), by rw [List.length_append, List.map_append]; exact hown, ?_, Nat.le_trans h.size (by have := hg.size; simp at this; omega)⟩
  rcases hd2 with k | k | k
  · exact .inr (.inl k)
  · exact .inl k
  · exact .inr (.inr (Ne.symm k))
end Go.Proofs.Ytegbgkljpdlpnaa
