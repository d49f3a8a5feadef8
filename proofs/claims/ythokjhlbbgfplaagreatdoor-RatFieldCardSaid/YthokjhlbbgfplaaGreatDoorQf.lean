/- product. -/
import Derived.Test.YthokjhlbbgfplaaGreatDoorQe
import Derived.Deep.RegionHeld3
set_option linter.unusedVariables false
set_option linter.unusedSimpArgs false
namespace Go.Proofs.YthokjhlbbgfplaaGreatDoor
open Go.RowKit
open Go.Lib (nDigits decDigits)

def Num (w : World) (g : Nat) (b : Bool) (A B : ByteArray) : Prop := w.heap[g]? = some (.cells #[.bool b, .string A, .string B] 42 (0, 0))
theorem Num.cells {w : World} {g : Nat} {b : Bool} {A B : ByteArray} (h : Num w g b A B) :
    w.cell? ⟨g, 0, none⟩ = some (.bool b) ∧ w.cell? ⟨g, 1, none⟩ = some (.string A) ∧ w.cell? ⟨g, 2, none⟩ = some (.string B) ∧ w.frozen? ⟨g, 0, none⟩ = false ∧ w.frozen? ⟨g, 1, none⟩ = false ∧ w.frozen? ⟨g, 2, none⟩ = false := trip h
theorem Num.grown {w w' : World} {g : Nat} {b : Bool} {A B : ByteArray} (h : Num w g b A B) (hg : w.grownBy w' none) : Num w' g b A B := (hg.block _ (lt_of_block h) (by simp)).trans h
theorem Num.drew {w : World} {g : Nat} {b : Bool} {A B : ByteArray} (h : Num w g b A B) : Num w.drew g b A B := h

theorem Num.other {W : World} {g g' i : Nat} {b : Bool} {A B : ByteArray} {v : Value} (h : Num W g b A B) (hne : g ≠ g') : Num (W.setCell ⟨g', i, none⟩ v) g b A B :=
  ((grown_setCell W ⟨g', i, none⟩ v).block g (lt_of_block h) (by simpa using hne)).trans h
theorem Num.set {W : World} {g : Nat} {b b' : Bool} {A B A' B' : ByteArray} (h : Num W g b A B) : Num (((W.setCell ⟨g, 0, none⟩ (.bool b')).setCell ⟨g, 1, none⟩ (.string A')).setCell ⟨g, 2, none⟩ (.string B')) g b' A' B' := by
  unfold Num at h ⊢
  have h1 := heap_setCell_same W g 0 _ _ (.bool b') h
  have h2 := heap_setCell_same _ g 1 _ _ (.string A') h1
  have h3 := heap_setCell_same _ g 2 _ _ (.string B') h2
  rw [h3]
  rfl

/-- Two numbers lie at g and g + 1, some third at g + 2; nothing older has turned since w. -/
structure Held (w W : World) (b1 b2 : Bool) (A B C D : ByteArray) : Prop where
  x : Num W w.heap.size b1 A B
  y : Num W (w.heap.size + 1) b2 C D
  z : ∃ b S T, Num W (w.heap.size + 1 + 1) b S T
  g : w.grownBy W none
theorem Held.next {w W W' : World} {b1 b2 : Bool} {A B C D : ByteArray} (h : Held w W b1 b2 A B C D) (hg : W.grownBy W' none) : Held w W' b1 b2 A B C D :=
  ⟨h.x.grown hg, h.y.grown hg, by obtain ⟨b, S, T, k⟩ := h.z; exact ⟨b, S, T, k.grown hg⟩, grown_trans h.g hg⟩
theorem Held.drew {w W : World} {b1 b2 : Bool} {A B C D : ByteArray} (h : Held w W b1 b2 A B C D) : Held w W.drew b1 b2 A B C D := h.next (grown_drew W none)
theorem Held.store {w W : World} {b1 b2 : Bool} {A B C D : ByteArray} (h : Held w W b1 b2 A B C D) (b : Bool) (S T : ByteArray) :
    Held w (((W.setCell ⟨w.heap.size + 1 + 1, 0, none⟩ (.bool b)).setCell ⟨w.heap.size + 1 + 1, 1, none⟩ (.string S)).setCell ⟨w.heap.size + 1 + 1, 2, none⟩ (.string T)) b1 b2 A B C D := by
  obtain ⟨b0, S0, T0, k⟩ := h.z
  exact ⟨((h.x.other (by omega)).other (by omega)).other (by omega), ((h.y.other (by omega)).other (by omega)).other (by omega), ⟨b, S, T, k.set⟩, grown3 h.g (by omega)⟩
/-- The cells, spelled as a walk wants them. -/
def Seen (w W : World) (b1 b2 : Bool) (A B C D : ByteArray) : Prop :=
  W.cell? ⟨w.heap.size, 0, none⟩ = some (.bool b1) ∧ W.cell? ⟨w.heap.size, 1, none⟩ = some (.string A) ∧ W.cell? ⟨w.heap.size, 2, none⟩ = some (.string B) ∧
  W.cell? ⟨w.heap.size + 1, 0, none⟩ = some (.bool b2) ∧ W.cell? ⟨w.heap.size + 1, 1, none⟩ = some (.string C) ∧ W.cell? ⟨w.heap.size + 1, 2, none⟩ = some (.string D)
theorem Held.seen {w W : World} {b1 b2 : Bool} {A B C D : ByteArray} (h : Held w W b1 b2 A B C D) : Seen w W b1 b2 A B C D := by
  obtain ⟨x0, x1, x2, _⟩ := h.x.cells
  obtain ⟨y0, y1, y2, _⟩ := h.y.cells
  exact ⟨x0, x1, x2, y0, y1, y2⟩
/-- Room for the third. -/
theorem Held.room {w W : World} {b1 b2 : Bool} {A B C D : ByteArray} (h : Held w W b1 b2 A B C D) : ∃ b S T,
    W.cell? ⟨w.heap.size + 1 + 1, 0, none⟩ = some (.bool b) ∧ W.cell? ⟨w.heap.size + 1 + 1, 1, none⟩ = some (.string S) ∧ W.cell? ⟨w.heap.size + 1 + 1, 2, none⟩ = some (.string T) ∧
    W.frozen? ⟨w.heap.size + 1 + 1, 0, none⟩ = false ∧ W.frozen? ⟨w.heap.size + 1 + 1, 1, none⟩ = false ∧ W.frozen? ⟨w.heap.size + 1 + 1, 2, none⟩ = false := by
  obtain ⟨b, S, T, k⟩ := h.z
  exact ⟨b, S, T, k.cells⟩

theorem block_at (w : World) (o : Obj) (g : Nat) (h : g = w.heap.size) : (w.alloc o).heap[g]? = some o := by subst h; exact new_block w o
theorem block_old (w : World) (o : Obj) (g : Nat) (h : g < w.heap.size) : (w.alloc o).heap[g]? = w.heap[g]? := (World.grownBy_alloc w o none).block g h (by simp)
theorem held_start (w : World) (b1 b2 : Bool) (A B C D : ByteArray) :
    Held w (((w.alloc (.cells #[.bool b1, .string A, .string B] 42)).alloc (.cells #[.bool b2, .string C, .string D] 42)).alloc (.cells #[.bool false, .string ⟨#[]⟩, .string ⟨#[]⟩] 42)) b1 b2 A B C D := by
  refine ⟨?_, ?_, ⟨false, ⟨#[]⟩, ⟨#[]⟩, ?_⟩, ?_⟩
  · unfold Num
    rw [block_old _ _ _ (by simp; omega), block_old _ _ _ (by simp), block_at _ _ _ rfl]
  · unfold Num
    rw [block_old _ _ _ (by simp), block_at _ _ _ (by simp)]
  · unfold Num
    rw [block_at _ _ _ (by simp)]
  · exact grown_trans (World.grownBy_alloc _ _ none) (grown_trans (World.grownBy_alloc _ _ none) (World.grownBy_alloc _ _ none))

/-- The product of two texts, as times returns it. -/
def mulS (A B : ByteArray) : ByteArray := decS (nv A * nv B)
def TimesOk (A C : ByteArray) : Prop := ∀ w, Calls Tryz.prog 70 #[.string A, .string C] w (ValPost (.string (mulS A C)) w)
theorem times_call (A C : ByteArray) (h : TimesOk A C) (w : World) : Calls Tryz.prog 70 #[.string A, .string C] w (ValPost (.string (mulS A C)) w) := h w
theorem held_next (w : World) (b1 b2 : Bool) (A B C D : ByteArray) {W W' : World} (hg : W.grownBy W' none)
    (h : (W.cell? ⟨w.heap.size, 0, none⟩ = some (.bool b1) ∧ W.cell? ⟨w.heap.size, 1, none⟩ = some (.string A) ∧ W.cell? ⟨w.heap.size, 2, none⟩ = some (.string B) ∧
      W.cell? ⟨w.heap.size + 1, 0, none⟩ = some (.bool b2) ∧ W.cell? ⟨w.heap.size + 1, 1, none⟩ = some (.string C) ∧ W.cell? ⟨w.heap.size + 1, 2, none⟩ = some (.string D)) ∧ Hid (Held w W b1 b2 A B C D)) :
    (W'.cell? ⟨w.heap.size, 0, none⟩ = some (.bool b1) ∧ W'.cell? ⟨w.heap.size, 1, none⟩ = some (.string A) ∧ W'.cell? ⟨w.heap.size, 2, none⟩ = some (.string B) ∧
      W'.cell? ⟨w.heap.size + 1, 0, none⟩ = some (.bool b2) ∧ W'.cell? ⟨w.heap.size + 1, 1, none⟩ = some (.string C) ∧ W'.cell? ⟨w.heap.size + 1, 2, none⟩ = some (.string D)) ∧ Hid (Held w W' b1 b2 A B C D) :=
  have k := h.2.out.next hg
  ⟨k.seen, Lib.hid k⟩
theorem held_room (w : World) (b1 b2 : Bool) (A B C D : ByteArray) {W : World}
    (h : (W.cell? ⟨w.heap.size, 0, none⟩ = some (.bool b1) ∧ W.cell? ⟨w.heap.size, 1, none⟩ = some (.string A) ∧ W.cell? ⟨w.heap.size, 2, none⟩ = some (.string B) ∧
      W.cell? ⟨w.heap.size + 1, 0, none⟩ = some (.bool b2) ∧ W.cell? ⟨w.heap.size + 1, 1, none⟩ = some (.string C) ∧ W.cell? ⟨w.heap.size + 1, 2, none⟩ = some (.string D)) ∧ Hid (Held w W b1 b2 A B C D)) : ∃ b S T,
    W.cell? ⟨w.heap.size + 1 + 1, 0, none⟩ = some (.bool b) ∧ W.cell? ⟨w.heap.size + 1 + 1, 1, none⟩ = some (.string S) ∧ W.cell? ⟨w.heap.size + 1 + 1, 2, none⟩ = some (.string T) ∧
    W.frozen? ⟨w.heap.size + 1 + 1, 0, none⟩ = false ∧ W.frozen? ⟨w.heap.size + 1 + 1, 1, none⟩ = false ∧ W.frozen? ⟨w.heap.size + 1 + 1, 2, none⟩ = false := h.2.out.room
theorem held_store (w : World) (b1 b2 : Bool) (A B C D : ByteArray) {W : World} (b : Bool) (S T : ByteArray)
    (h : (W.cell? ⟨w.heap.size, 0, none⟩ = some (.bool b1) ∧ W.cell? ⟨w.heap.size, 1, none⟩ = some (.string A) ∧ W.cell? ⟨w.heap.size, 2, none⟩ = some (.string B) ∧
      W.cell? ⟨w.heap.size + 1, 0, none⟩ = some (.bool b2) ∧ W.cell? ⟨w.heap.size + 1, 1, none⟩ = some (.string C) ∧ W.cell? ⟨w.heap.size + 1, 2, none⟩ = some (.string D)) ∧ Hid (Held w W b1 b2 A B C D)) :
    ((((W.setCell ⟨w.heap.size + 1 + 1, 0, none⟩ (.bool b)).setCell ⟨w.heap.size + 1 + 1, 1, none⟩ (.string S)).setCell ⟨w.heap.size + 1 + 1, 2, none⟩ (.string T)).cell? ⟨w.heap.size, 0, none⟩ = some (.bool b1) ∧ (((W.setCell ⟨w.heap.size + 1 + 1, 0, none⟩ (.bool b)).setCell ⟨w.heap.size + 1 + 1, 1, none⟩ (.string S)).setCell ⟨w.heap.size + 1 + 1, 2, none⟩ (.string T)).cell? ⟨w.heap.size, 1, none⟩ = some (.string A) ∧ (((W.setCell ⟨w.heap.size + 1 + 1, 0, none⟩ (.bool b)).setCell ⟨w.heap.size + 1 + 1, 1, none⟩ (.string S)).setCell ⟨w.heap.size + 1 + 1, 2, none⟩ (.string T)).cell? ⟨w.heap.size, 2, none⟩ = some (.string B) ∧
      (((W.setCell ⟨w.heap.size + 1 + 1, 0, none⟩ (.bool b)).setCell ⟨w.heap.size + 1 + 1, 1, none⟩ (.string S)).setCell ⟨w.heap.size + 1 + 1, 2, none⟩ (.string T)).cell? ⟨w.heap.size + 1, 0, none⟩ = some (.bool b2) ∧ (((W.setCell ⟨w.heap.size + 1 + 1, 0, none⟩ (.bool b)).setCell ⟨w.heap.size + 1 + 1, 1, none⟩ (.string S)).setCell ⟨w.heap.size + 1 + 1, 2, none⟩ (.string T)).cell? ⟨w.heap.size + 1, 1, none⟩ = some (.string C) ∧ (((W.setCell ⟨w.heap.size + 1 + 1, 0, none⟩ (.bool b)).setCell ⟨w.heap.size + 1 + 1, 1, none⟩ (.string S)).setCell ⟨w.heap.size + 1 + 1, 2, none⟩ (.string T)).cell? ⟨w.heap.size + 1, 2, none⟩ = some (.string D)) ∧ Hid (Held w (((W.setCell ⟨w.heap.size + 1 + 1, 0, none⟩ (.bool b)).setCell ⟨w.heap.size + 1 + 1, 1, none⟩ (.string S)).setCell ⟨w.heap.size + 1 + 1, 2, none⟩ (.string T)) b1 b2 A B C D) :=
  have k := h.2.out.store b S T
  ⟨k.seen, Lib.hid k⟩

set_option maxRecDepth 100000 in
set_option maxHeartbeats 4000000 in
theorem product_walk (b1 b2 b : Bool) (A B C D S T : ByteArray) (w : World)
    (T1 : TimesOk A C) (T2 : TimesOk B D)
    (R : Hid (∀ w, Calls Tryz.prog 38 #[.bool (b1 != b2), .string (mulS A C), .string (mulS B D)] w (ValPost (.agg #[.bool b, .string S, .string T]) w))) :
    Calls Tryz.prog 52 #[.agg #[.bool b1, .string A, .string B], .agg #[.bool b2, .string C, .string D]] w (ValPost (.agg #[.bool b, .string S, .string T]) w) := by
  have h0 := held_start w b1 b2 A B C D
  obtain ⟨W0, hW0⟩ : ∃ W0, W0 = (((w.alloc (.cells #[.bool b1, .string A, .string B] 42)).alloc (.cells #[.bool b2, .string C, .string D] 42)).alloc (.cells #[.bool false, .string ⟨#[]⟩, .string ⟨#[]⟩] 42)) := ⟨_, rfl⟩
  rw [← hW0] at h0
  have H0 := Lib.hid h0; have HW0 := Lib.hid hW0
  clear h0 hW0
  go_enter Tryz.func52, Tryz.ntmps52
  go_wp2_with fail
  rw [← HW0.out]
  have hs := H0.out.drew.seen
  unfold Seen at hs
  have hh := Lib.hid H0.out.drew
  go_region_held3 (fun W' => (W'.cell? ⟨w.heap.size, 0, none⟩ = some (.bool b1) ∧ W'.cell? ⟨w.heap.size, 1, none⟩ = some (.string A) ∧ W'.cell? ⟨w.heap.size, 2, none⟩ = some (.string B) ∧
      W'.cell? ⟨w.heap.size + 1, 0, none⟩ = some (.bool b2) ∧ W'.cell? ⟨w.heap.size + 1, 1, none⟩ = some (.string C) ∧ W'.cell? ⟨w.heap.size + 1, 2, none⟩ = some (.string D)) ∧ Hid (Held w W' b1 b2 A B C D))
    (first
      | exact ⟨hs, hh⟩
      | assumption
      | exact s1
      | exact s3
      | exact held_store w b1 b2 A B C D _ _ _ s3
      | go_keep)
    (first
      | (go_at_call 70; refine (times_call _ _ ?_ _).mono ?_; assumption; rintro e w5 ⟨rfl, hg5⟩; have s1 := held_next w b1 b2 A B C D hg5 ‹_›)
      | (go_at_call 38; refine (R.out _).mono ?_; rintro e w7 ⟨rfl, hg7⟩; have s3 := held_next w b1 b2 A B C D hg7 ‹_›; obtain ⟨zb, zS, zT, z0, z1, z2, z3, z4, z5⟩ := held_room w b1 b2 A B C D s3))
  have hend := grown3 (a := .bool b) (b := .string S) (c := .string T) s3.2.out.g (show w.heap.size ≤ w.heap.size + 1 + 1 by omega)
  have HE := Lib.hid hend
  clear hend s3 s1 hs hh
  go_wp2
  exact bodyPost_ret (v := .agg #[.bool _, .string _, .string _]) (by simp [results, Tryz.results52, go_sem, z0, z1, z2, z3, z4, z5]) rfl ⟨rfl, HE.out⟩
end Go.Proofs.YthokjhlbbgfplaaGreatDoor
