/- Plain: sums, products, quotients and the order of rational numbers, by their parts. · product. · negated, sum, compare: two numbers by their parts. · compare: the order of two numbers. -/
import Derived.Test.YtkekljjjomnalaaGreatDoorQa
import Derived.Deep.RegionHeld3
set_option linter.unusedVariables false
set_option linter.unusedSimpArgs false
namespace Go.Proofs.YtkekljjjomnalaaGreatDoor
open Go.Lib

theorem nDigits_up (u : Nat) : u < 10 ^ nDigits u := by
  induction u using Nat.strongRecOn with
  | _ u ih =>
    by_cases h : u < 10
    · rw [nDigits_small h]; omega
    · rw [nDigits_big h, Nat.pow_succ]
      have := ih (u / 10) (by omega)
      omega
theorem nDigits_le (n k : Nat) (hk : 1 ≤ k) (h : n < 10 ^ k) : nDigits n ≤ k := by
  rcases Nat.lt_or_ge k (nDigits n) with h1 | h1
  · rcases nDigits_unique_le n k (by omega) with h2 | h2
    · omega
    · omega
  · exact h1
theorem nDigits_mul (m n : Nat) : nDigits (m * n) ≤ nDigits m + nDigits n := by
  apply nDigits_le _ _ (by have := nDigits_pos m; omega)
  rw [Nat.pow_add]
  exact Nat.mul_lt_mul'' (nDigits_up m) (nDigits_up n)
theorem nDigits_add (m n k : Nat) (hm : nDigits m ≤ k) (hn : nDigits n ≤ k) : nDigits (m + n) ≤ k + 1 := by
  apply nDigits_le _ _ (by omega)
  have h1 := nDigits_up m
  have h2 := nDigits_up n
  have h3 := Nat.pow_le_pow_right (show 0 < 10 by omega) hm
  have h4 := Nat.pow_le_pow_right (show 0 < 10 by omega) hn
  rw [Nat.pow_succ]
  omega

/-- Is a number below zero? -/
def sgn (x : Rat) : Bool := decide (x.num < 0)
theorem sgn_num (x : Rat) : x.num = sg (sgn x) x.num.natAbs := (sg_num x).symm
theorem sg_mulN (s : Bool) (n d : Nat) : sg s (n * d) = sg s n * (d : Int) := by
  unfold sg; split <;> simp [Int.neg_mul]
theorem sg_same (s : Bool) (p q : Nat) : sg s (p + q) = sg s p + sg s q := by
  unfold sg; split <;> omega
theorem sg_less (s t : Bool) (p q : Nat) (h : s ≠ t) (hl : p < q) : sg t (q - p) = sg s p + sg t q := by
  cases s <;> cases t <;> simp_all [sg] <;> omega
theorem sg_more (s t : Bool) (p q : Nat) (h : s ≠ t) (hl : ¬ p < q) : sg s (p - q) = sg s p + sg t q := by
  cases s <;> cases t <;> simp_all [sg] <;> omega
theorem sg_mul2 (s t : Bool) (m n : Nat) : sg (s != t) (m * n) = sg s m * sg t n := by
  cases s <;> cases t <;> simp [sg, Int.neg_mul, Int.mul_neg]

theorem add_parts (x y : Rat) (z : Int) (h : z = sg (sgn x) (x.num.natAbs * y.den) + sg (sgn y) (y.num.natAbs * x.den)) : mkRat z (x.den * y.den) = x + y := by
  rw [Rat.add_def', h, sg_mulN, sg_mulN, ← sgn_num, ← sgn_num]
theorem mul_parts (x y : Rat) : mkRat (sg (sgn x != sgn y) (x.num.natAbs * y.num.natAbs)) (x.den * y.den) = x * y := by
  rw [Rat.mul_def', sg_mul2, ← sgn_num, ← sgn_num]
theorem div_parts (x y : Rat) (h : y.num ≠ 0) : mkRat (sg (sgn x != sgn y) (x.num.natAbs * y.den)) (x.den * y.num.natAbs) = x / y := by
  rw [Rat.div_def, Rat.mul_def', Rat.num_inv, Rat.den_inv, if_neg h, sg_mul2, ← sgn_num]
  congr 2
  unfold sg sgn
  by_cases hn : y.num < 0
  · rw [if_pos (by simpa using hn), Int.sign_eq_neg_one_of_neg hn]; omega
  · rw [if_neg (by simpa using hn), Int.sign_eq_one_of_pos (by omega)]; omega
theorem neg_parts (x : Rat) : ratV (-x) = .agg #[.bool (!sgn x && !decide (x.num.natAbs = 0)), .string (decS x.num.natAbs), .string (decS x.den)] := by
  unfold ratV sgn
  rw [Rat.neg_num, Rat.neg_den, Int.natAbs_neg]
  congr 3
  congr 1
  rw [Bool.eq_iff_iff, decide_eq_true_eq]
  simp only [Bool.and_eq_true, Bool.not_eq_true', decide_eq_false_iff_not]
  omega
theorem neg_short {x : Rat} (h : Short x) : Short (-x) := by
  unfold Short at *
  rw [Rat.neg_num, Rat.neg_den, Int.natAbs_neg]
  exact h

/-! ### The order -/
def cmpQ (x y : Rat) : Int := if x < y then -1 else if y < x then 1 else 0
theorem cmp_sign1 (x y : Rat) (h1 : sgn x = true) (h2 : sgn y = false) : cmpQ x y = -1 := by
  unfold sgn at h1 h2
  have h1 : x.num < 0 := by simpa using h1
  have h2 : ¬ y.num < 0 := by simpa using h2
  unfold cmpQ
  rw [if_pos]
  rw [Rat.lt_iff]
  have := Int.mul_neg_of_neg_of_pos h1 (show (0 : Int) < y.den by have := y.den_pos; omega)
  have := Int.mul_nonneg (show 0 ≤ y.num by omega) (show (0 : Int) ≤ x.den by omega)
  omega
theorem cmp_sign2 (x y : Rat) (h1 : sgn x = false) (h2 : sgn y = true) : cmpQ x y = 1 := by
  unfold sgn at h1 h2
  have h1 : ¬ x.num < 0 := by simpa using h1
  have h2 : y.num < 0 := by simpa using h2
  unfold cmpQ
  have := Int.mul_neg_of_neg_of_pos h2 (show (0 : Int) < x.den by have := x.den_pos; omega)
  have := Int.mul_nonneg (show 0 ≤ x.num by omega) (show (0 : Int) ≤ y.den by omega)
  rw [if_neg (by rw [Rat.lt_iff]; omega), if_pos (by rw [Rat.lt_iff]; omega)]
theorem cmp_plus (x y : Rat) (h1 : sgn x = false) (h2 : sgn y = false) : cmpQ x y = cmpN (x.num.natAbs * y.den) (y.num.natAbs * x.den) := by
  have ex := sgn_num x
  have ey := sgn_num y
  rw [h1, sg, if_neg (by simp)] at ex
  rw [h2, sg, if_neg (by simp)] at ey
  unfold cmpQ cmpN
  simp only [Rat.lt_iff]
  have e1 : x.num * y.den = ((x.num.natAbs * y.den : Nat) : Int) := by rw [Int.natCast_mul, ← ex]
  have e2 : y.num * x.den = ((y.num.natAbs * x.den : Nat) : Int) := by rw [Int.natCast_mul, ← ey]
  simp only [e1, e2, Int.ofNat_lt]
theorem cmp_minus (x y : Rat) (h1 : sgn x = true) (h2 : sgn y = true) : cmpQ x y = cmpN (y.num.natAbs * x.den) (x.num.natAbs * y.den) := by
  have ex := sgn_num x
  have ey := sgn_num y
  rw [h1, sg, if_pos rfl] at ex
  rw [h2, sg, if_pos rfl] at ey
  unfold cmpQ cmpN
  simp only [Rat.lt_iff]
  have e1 : x.num * y.den = -((x.num.natAbs * y.den : Nat) : Int) := by rw [Int.natCast_mul, ← Int.neg_mul, ← ex]
  have e2 : y.num * x.den = -((y.num.natAbs * x.den : Nat) : Int) := by rw [Int.natCast_mul, ← Int.neg_mul, ← ey]
  simp only [e1, e2]
  generalize x.num.natAbs * y.den = p
  generalize y.num.natAbs * x.den = q
  split <;> split <;> (try split) <;> omega
theorem cmp_sub (x y : Rat) : cmpQ (x - y) 0 = cmpQ x y := by
  have h1 : x - y < 0 ↔ x < y := by rw [Rat.lt_iff_sub_pos x y, Rat.lt_iff_sub_pos (x - y) 0, Rat.sub_eq_add_neg 0, Rat.neg_sub, Rat.zero_add]
  have h2 : 0 < x - y ↔ y < x := (Rat.lt_iff_sub_pos y x).symm
  unfold cmpQ
  simp only [h1, h2]
theorem zero_rat : IsRat ⟨#[48]⟩ 0 := ⟨by decide +kernel, by decide +kernel⟩
theorem zero_iff {b : ByteArray} {y : Rat} (h : IsRat b y) : (b = ⟨#[48]⟩) ↔ y = 0 := by
  constructor
  · rintro rfl; exact IsRat.uniq h zero_rat
  · rintro rfl; rw [h.eq]; exact zero_rat.eq.symm
theorem rat_size {a : ByteArray} {x : Rat} (h : IsRat a x) : a.size ≤ 802 := by
  rw [h.eq]
  have h1 := h.short.1; have h2 := h.short.2
  show (ratL x).toArray.size ≤ _
  rw [List.size_toArray]
  unfold ratL
  rw [List.length_append, List.length_append]
  have := decDigits_length x.num.natAbs
  have := decDigits_length x.den
  split <;> split <;> simp <;> omega
theorem rat_len {a : ByteArray} {x : Rat} (h : IsRat a x) : a.size ≤ maxLen := by have := rat_size h; unfold maxLen; omega
end Go.Proofs.YtkekljjjomnalaaGreatDoor
set_option linter.unusedVariables false
set_option linter.unusedSimpArgs false
namespace Go.Proofs.YtkekljjjomnalaaGreatDoor
open Go.RowKit
open Go.Lib (nDigits decDigits)

def Num (w : World) (g : Nat) (b : Bool) (A B : ByteArray) : Prop := w.heap[g]? = some (.cells #[.bool b, .string A, .string B] 56 (0, 0))
theorem Num.cells {w : World} {g : Nat} {b : Bool} {A B : ByteArray} (h : Num w g b A B) :
    w.cell? ⟨g, 0, none⟩ = some (.bool b) ∧ w.cell? ⟨g, 1, none⟩ = some (.string A) ∧ w.cell? ⟨g, 2, none⟩ = some (.string B) ∧ w.frozen? ⟨g, 0, none⟩ = false ∧ w.frozen? ⟨g, 1, none⟩ = false ∧ w.frozen? ⟨g, 2, none⟩ = false := trip h
theorem Num.grown {w w' : World} {g : Nat} {b : Bool} {A B : ByteArray} (h : Num w g b A B) (hg : w.grownBy w' none) : Num w' g b A B := (hg.block _ (lt_of_block h) (by simp)).trans h
theorem Num.drew {w : World} {g : Nat} {b : Bool} {A B : ByteArray} (h : Num w g b A B) : Num w.drew g b A B := h

theorem Num.other {W : World} {g g' i : Nat} {b : Bool} {A B : ByteArray} {v : Value} (h : Num W g b A B) (hne : g ≠ g') : Num (W.setCell ⟨g', i, none⟩ v) g b A B :=
  ((grown_setCell W ⟨g', i, none⟩ v).block g (lt_of_block h) (by simpa using hne)).trans h
theorem Num.set {W : World} {g : Nat} {b b' : Bool} {A B A' B' : ByteArray} (h : Num W g b A B) : Num (((W.setCell ⟨g, 0, none⟩ (.bool b')).setCell ⟨g, 1, none⟩ (.string A')).setCell ⟨g, 2, none⟩ (.string B')) g b' A' B' := by
  unfold Num at h ⊢
  have h1 := heap_setCell_same W g 0 _ _ (.bool b') h
  have h2 := heap_setCell_same _ g 1 _ _ (.string A') h1
  have h3 := heap_setCell_same _ g 2 _ _ (.string B') h2
  rw [h3]
  rfl

/-- Two numbers lie at g and g + 1, some third at g + 2; nothing older has turned since w. -/
structure Held (w W : World) (b1 b2 : Bool) (A B C D : ByteArray) : Prop where
  x : Num W w.heap.size b1 A B
  y : Num W (w.heap.size + 1) b2 C D
  z : ∃ b S T, Num W (w.heap.size + 1 + 1) b S T
  g : w.grownBy W none
theorem Held.next {w W W' : World} {b1 b2 : Bool} {A B C D : ByteArray} (h : Held w W b1 b2 A B C D) (hg : W.grownBy W' none) : Held w W' b1 b2 A B C D :=
  ⟨h.x.grown hg, h.y.grown hg, by obtain ⟨b, S, T, k⟩ := h.z; exact ⟨b, S, T, k.grown hg⟩, grown_trans h.g hg⟩
theorem Held.drew {w W : World} {b1 b2 : Bool} {A B C D : ByteArray} (h : Held w W b1 b2 A B C D) : Held w W.drew b1 b2 A B C D := h.next (grown_drew W none)
theorem Held.store {w W : World} {b1 b2 : Bool} {A B C D : ByteArray} (h : Held w W b1 b2 A B C D) (b : Bool) (S T : ByteArray) :
    Held w (((W.setCell ⟨w.heap.size + 1 + 1, 0, none⟩ (.bool b)).setCell ⟨w.heap.size + 1 + 1, 1, none⟩ (.string S)).setCell ⟨w.heap.size + 1 + 1, 2, none⟩ (.string T)) b1 b2 A B C D := by
  obtain ⟨b0, S0, T0, k⟩ := h.z
  exact ⟨((h.x.other (by omega)).other (by omega)).other (by omega), ((h.y.other (by omega)).other (by omega)).other (by omega), ⟨b, S, T, k.set⟩, grown3 h.g (by omega)⟩
/-- The cells, spelled as a walk wants them. -/
def Seen (w W : World) (b1 b2 : Bool) (A B C D : ByteArray) : Prop :=
  W.cell? ⟨w.heap.size, 0, none⟩ = some (.bool b1) ∧ W.cell? ⟨w.heap.size, 1, none⟩ = some (.string A) ∧ W.cell? ⟨w.heap.size, 2, none⟩ = some (.string B) ∧
  W.cell? ⟨w.heap.size + 1, 0, none⟩ = some (.bool b2) ∧ W.cell? ⟨w.heap.size + 1, 1, none⟩ = some (.string C) ∧ W.cell? ⟨w.heap.size + 1, 2, none⟩ = some (.string D)
theorem Held.seen {w W : World} {b1 b2 : Bool} {A B C D : ByteArray} (h : Held w W b1 b2 A B C D) : Seen w W b1 b2 A B C D := by
  obtain ⟨x0, x1, x2, _⟩ := h.x.cells
  obtain ⟨y0, y1, y2, _⟩ := h.y.cells
  exact ⟨x0, x1, x2, y0, y1, y2⟩
/-- Room for the third. -/
theorem Held.room {w W : World} {b1 b2 : Bool} {A B C D : ByteArray} (h : Held w W b1 b2 A B C D) : ∃ b S T,
    W.cell? ⟨w.heap.size + 1 + 1, 0, none⟩ = some (.bool b) ∧ W.cell? ⟨w.heap.size + 1 + 1, 1, none⟩ = some (.string S) ∧ W.cell? ⟨w.heap.size + 1 + 1, 2, none⟩ = some (.string T) ∧
    W.frozen? ⟨w.heap.size + 1 + 1, 0, none⟩ = false ∧ W.frozen? ⟨w.heap.size + 1 + 1, 1, none⟩ = false ∧ W.frozen? ⟨w.heap.size + 1 + 1, 2, none⟩ = false := by
  obtain ⟨b, S, T, k⟩ := h.z
  exact ⟨b, S, T, k.cells⟩

theorem block_at (w : World) (o : Obj) (g : Nat) (h : g = w.heap.size) : (w.alloc o).heap[g]? = some o := by subst h; exact new_block w o
theorem block_old (w : World) (o : Obj) (g : Nat) (h : g < w.heap.size) : (w.alloc o).heap[g]? = w.heap[g]? := (World.grownBy_alloc w o none).block g h (by simp)
theorem held_start (w : World) (b1 b2 : Bool) (A B C D : ByteArray) :
    Held w (((w.alloc (.cells #[.bool b1, .string A, .string B] 56)).alloc (.cells #[.bool b2, .string C, .string D] 56)).alloc (.cells #[.bool false, .string ⟨#[]⟩, .string ⟨#[]⟩] 56)) b1 b2 A B C D := by
  refine ⟨?_, ?_, ⟨false, ⟨#[]⟩, ⟨#[]⟩, ?_⟩, ?_⟩
  · unfold Num
    rw [block_old _ _ _ (by simp; omega), block_old _ _ _ (by simp), block_at _ _ _ rfl]
  · unfold Num
    rw [block_old _ _ _ (by simp), block_at _ _ _ (by simp)]
  · unfold Num
    rw [block_at _ _ _ (by simp)]
  · exact grown_trans (World.grownBy_alloc _ _ none) (grown_trans (World.grownBy_alloc _ _ none) (World.grownBy_alloc _ _ none))

/-- The product of two texts, as times returns it. -/
def mulS (A B : ByteArray) : ByteArray := decS (nv A * nv B)
def TimesOk (A C : ByteArray) : Prop := ∀ w, Calls Tryz.prog 97 #[.string A, .string C] w (ValPost (.string (mulS A C)) w)
theorem times_call (A C : ByteArray) (h : TimesOk A C) (w : World) : Calls Tryz.prog 97 #[.string A, .string C] w (ValPost (.string (mulS A C)) w) := h w
theorem held_next (w : World) (b1 b2 : Bool) (A B C D : ByteArray) {W W' : World} (hg : W.grownBy W' none)
    (h : (W.cell? ⟨w.heap.size, 0, none⟩ = some (.bool b1) ∧ W.cell? ⟨w.heap.size, 1, none⟩ = some (.string A) ∧ W.cell? ⟨w.heap.size, 2, none⟩ = some (.string B) ∧
      W.cell? ⟨w.heap.size + 1, 0, none⟩ = some (.bool b2) ∧ W.cell? ⟨w.heap.size + 1, 1, none⟩ = some (.string C) ∧ W.cell? ⟨w.heap.size + 1, 2, none⟩ = some (.string D)) ∧ Hid (Held w W b1 b2 A B C D)) :
    (W'.cell? ⟨w.heap.size, 0, none⟩ = some (.bool b1) ∧ W'.cell? ⟨w.heap.size, 1, none⟩ = some (.string A) ∧ W'.cell? ⟨w.heap.size, 2, none⟩ = some (.string B) ∧
      W'.cell? ⟨w.heap.size + 1, 0, none⟩ = some (.bool b2) ∧ W'.cell? ⟨w.heap.size + 1, 1, none⟩ = some (.string C) ∧ W'.cell? ⟨w.heap.size + 1, 2, none⟩ = some (.string D)) ∧ Hid (Held w W' b1 b2 A B C D) :=
  have k := h.2.out.next hg
  ⟨k.seen, Lib.hid k⟩
theorem held_room (w : World) (b1 b2 : Bool) (A B C D : ByteArray) {W : World}
    (h : (W.cell? ⟨w.heap.size, 0, none⟩ = some (.bool b1) ∧ W.cell? ⟨w.heap.size, 1, none⟩ = some (.string A) ∧ W.cell? ⟨w.heap.size, 2, none⟩ = some (.string B) ∧
      W.cell? ⟨w.heap.size + 1, 0, none⟩ = some (.bool b2) ∧ W.cell? ⟨w.heap.size + 1, 1, none⟩ = some (.string C) ∧ W.cell? ⟨w.heap.size + 1, 2, none⟩ = some (.string D)) ∧ Hid (Held w W b1 b2 A B C D)) : ∃ b S T,
    W.cell? ⟨w.heap.size + 1 + 1, 0, none⟩ = some (.bool b) ∧ W.cell? ⟨w.heap.size + 1 + 1, 1, none⟩ = some (.string S) ∧ W.cell? ⟨w.heap.size + 1 + 1, 2, none⟩ = some (.string T) ∧
    W.frozen? ⟨w.heap.size + 1 + 1, 0, none⟩ = false ∧ W.frozen? ⟨w.heap.size + 1 + 1, 1, none⟩ = false ∧ W.frozen? ⟨w.heap.size + 1 + 1, 2, none⟩ = false := h.2.out.room
theorem held_store (w : World) (b1 b2 : Bool) (A B C D : ByteArray) {W : World} (b : Bool) (S T : ByteArray)
    (h : (W.cell? ⟨w.heap.size, 0, none⟩ = some (.bool b1) ∧ W.cell? ⟨w.heap.size, 1, none⟩ = some (.string A) ∧ W.cell? ⟨w.heap.size, 2, none⟩ = some (.string B) ∧
      W.cell? ⟨w.heap.size + 1, 0, none⟩ = some (.bool b2) ∧ W.cell? ⟨w.heap.size + 1, 1, none⟩ = some (.string C) ∧ W.cell? ⟨w.heap.size + 1, 2, none⟩ = some (.string D)) ∧ Hid (Held w W b1 b2 A B C D)) :
    ((((W.setCell ⟨w.heap.size + 1 + 1, 0, none⟩ (.bool b)).setCell ⟨w.heap.size + 1 + 1, 1, none⟩ (.string S)).setCell ⟨w.heap.size + 1 + 1, 2, none⟩ (.string T)).cell? ⟨w.heap.size, 0, none⟩ = some (.bool b1) ∧ (((W.setCell ⟨w.heap.size + 1 + 1, 0, none⟩ (.bool b)).setCell ⟨w.heap.size + 1 + 1, 1, none⟩ (.string S)).setCell ⟨w.heap.size + 1 + 1, 2, none⟩ (.string T)).cell? ⟨w.heap.size, 1, none⟩ = some (.string A) ∧ (((W.setCell ⟨w.heap.size + 1 + 1, 0, none⟩ (.bool b)).setCell ⟨w.heap.size + 1 + 1, 1, none⟩ (.string S)).setCell ⟨w.heap.size + 1 + 1, 2, none⟩ (.string T)).cell? ⟨w.heap.size, 2, none⟩ = some (.string B) ∧
      (((W.setCell ⟨w.heap.size + 1 + 1, 0, none⟩ (.bool b)).setCell ⟨w.heap.size + 1 + 1, 1, none⟩ (.string S)).setCell ⟨w.heap.size + 1 + 1, 2, none⟩ (.string T)).cell? ⟨w.heap.size + 1, 0, none⟩ = some (.bool b2) ∧ (((W.setCell ⟨w.heap.size + 1 + 1, 0, none⟩ (.bool b)).setCell ⟨w.heap.size + 1 + 1, 1, none⟩ (.string S)).setCell ⟨w.heap.size + 1 + 1, 2, none⟩ (.string T)).cell? ⟨w.heap.size + 1, 1, none⟩ = some (.string C) ∧ (((W.setCell ⟨w.heap.size + 1 + 1, 0, none⟩ (.bool b)).setCell ⟨w.heap.size + 1 + 1, 1, none⟩ (.string S)).setCell ⟨w.heap.size + 1 + 1, 2, none⟩ (.string T)).cell? ⟨w.heap.size + 1, 2, none⟩ = some (.string D)) ∧ Hid (Held w (((W.setCell ⟨w.heap.size + 1 + 1, 0, none⟩ (.bool b)).setCell ⟨w.heap.size + 1 + 1, 1, none⟩ (.string S)).setCell ⟨w.heap.size + 1 + 1, 2, none⟩ (.string T)) b1 b2 A B C D) :=
  have k := h.2.out.store b S T
  ⟨k.seen, Lib.hid k⟩

set_option maxRecDepth 100000 in
set_option maxHeartbeats 4000000 in
theorem product_walk (b1 b2 b : Bool) (A B C D S T : ByteArray) (w : World)
    (T1 : TimesOk A C) (T2 : TimesOk B D)
    (R : Hid (∀ w, Calls Tryz.prog 96 #[.bool (b1 != b2), .string (mulS A C), .string (mulS B D)] w (ValPost (.agg #[.bool b, .string S, .string T]) w))) :
    Calls Tryz.prog 75 #[.agg #[.bool b1, .string A, .string B], .agg #[.bool b2, .string C, .string D]] w (ValPost (.agg #[.bool b, .string S, .string T]) w) := by
  have h0 := held_start w b1 b2 A B C D
  obtain ⟨W0, hW0⟩ : ∃ W0, W0 = (((w.alloc (.cells #[.bool b1, .string A, .string B] 56)).alloc (.cells #[.bool b2, .string C, .string D] 56)).alloc (.cells #[.bool false, .string ⟨#[]⟩, .string ⟨#[]⟩] 56)) := ⟨_, rfl⟩
  rw [← hW0] at h0
  have H0 := Lib.hid h0; have HW0 := Lib.hid hW0
  clear h0 hW0
  go_enter Tryz.func75, Tryz.ntmps75
  go_wp2_with fail
  rw [← HW0.out]
  have hs := H0.out.drew.seen
  unfold Seen at hs
  have hh := Lib.hid H0.out.drew
  go_region_held3 (fun W' => (W'.cell? ⟨w.heap.size, 0, none⟩ = some (.bool b1) ∧ W'.cell? ⟨w.heap.size, 1, none⟩ = some (.string A) ∧ W'.cell? ⟨w.heap.size, 2, none⟩ = some (.string B) ∧
      W'.cell? ⟨w.heap.size + 1, 0, none⟩ = some (.bool b2) ∧ W'.cell? ⟨w.heap.size + 1, 1, none⟩ = some (.string C) ∧ W'.cell? ⟨w.heap.size + 1, 2, none⟩ = some (.string D)) ∧ Hid (Held w W' b1 b2 A B C D))
    (first
      | exact ⟨hs, hh⟩
      | assumption
      | exact s1
      | exact s3
      | exact held_store w b1 b2 A B C D _ _ _ s3
      | go_keep)
    (first
      | (go_at_call 97; refine (times_call _ _ ?_ _).mono ?_; assumption; rintro e w5 ⟨rfl, hg5⟩; have s1 := held_next w b1 b2 A B C D hg5 ‹_›)
      | (go_at_call 96; refine (R.out _).mono ?_; rintro e w7 ⟨rfl, hg7⟩; have s3 := held_next w b1 b2 A B C D hg7 ‹_›; obtain ⟨zb, zS, zT, z0, z1, z2, z3, z4, z5⟩ := held_room w b1 b2 A B C D s3))
  have hend := grown3 (a := .bool b) (b := .string S) (c := .string T) s3.2.out.g (show w.heap.size ≤ w.heap.size + 1 + 1 by omega)
  have HE := Lib.hid hend
  clear hend s3 s1 hs hh
  go_wp2
  exact bodyPost_ret (v := .agg #[.bool _, .string _, .string _]) (by simp [results, Tryz.results75, go_sem, z0, z1, z2, z3, z4, z5]) rfl ⟨rfl, HE.out⟩
end Go.Proofs.YtkekljjjomnalaaGreatDoor
set_option linter.unusedVariables false
set_option linter.unusedSimpArgs false
namespace Go.Proofs.YtkekljjjomnalaaGreatDoor
open Go.RowKit
open Go.Lib (nDigits decDigits)

set_option maxRecDepth 100000 in
set_option maxHeartbeats 1000000 in
theorem negated_walk (s b c : Bool) (A B : ByteArray) (w : World) (f0 : (A.toList != [48]) = c) (hb : (!s && c) = b) :
    Calls Tryz.prog 90 #[.agg #[.bool s, .string A, .string B]] w (ValPost (.agg #[.bool b, .string A, .string B]) w) := by
  have f00 := ne_facts f0
  subst hb
  cases s <;> cases c <;> simp only [Bool.not_true, Bool.not_false] at f00
  all_goals
    go_enter Tryz.func90, Tryz.ntmps90
    go_wp2
    exact bodyPost_ret (v := .agg #[.bool _, .string A, .string B]) (by simp [results, Tryz.results90, go_sem]) rfl ⟨rfl, grown_trans (World.grownBy_alloc _ _ _) (World.grownBy_alloc _ _ _)⟩
theorem negated_any (x : Rat) (w : World) : Calls Tryz.prog 90 #[ratV x] w (ValPost (ratV (-x)) w) := by
  rw [neg_parts]
  exact negated_walk _ _ _ _ _ w (zero_str' _).2 rfl

set_option maxRecDepth 100000 in
set_option maxHeartbeats 4000000 in
theorem sum_same0 (b1 b2 b : Bool) (A B C D N S T : ByteArray) (w : World) (he : (b1 == b2) = true)
    (T1 : TimesOk A D) (T2 : TimesOk C B) (T3 : TimesOk B D)
    (N1 : Hid (∀ w, Calls Tryz.prog 107 #[.string (mulS A D), .string (mulS C B)] w (ValPost (.tuple #[.string N, .int .i64 0]) w)))
    (R : Hid (∀ w, Calls Tryz.prog 96 #[.bool b1, .string N, .string (mulS B D)] w (ValPost (.agg #[.bool b, .string S, .string T]) w))) :
    Calls Tryz.prog 88 #[.agg #[.bool b1, .string A, .string B], .agg #[.bool b2, .string C, .string D]] w (ValPost (.agg #[.bool b, .string S, .string T]) w) := by
  have h0 := held_start w b1 b2 A B C D
  obtain ⟨W0, hW0⟩ : ∃ W0, W0 = (((w.alloc (.cells #[.bool b1, .string A, .string B] 56)).alloc (.cells #[.bool b2, .string C, .string D] 56)).alloc (.cells #[.bool false, .string ⟨#[]⟩, .string ⟨#[]⟩] 56)) := ⟨_, rfl⟩
  rw [← hW0] at h0
  have H0 := Lib.hid h0; have HW0 := Lib.hid hW0
  clear h0 hW0
  go_enter Tryz.func88, Tryz.ntmps88
  go_wp2_with fail
  rw [← HW0.out]
  have hs := H0.out.drew.seen
  unfold Seen at hs
  have hh := Lib.hid H0.out.drew
  clear HW0
  go_region_held3 (fun W' => (W'.cell? ⟨w.heap.size, 0, none⟩ = some (.bool b1) ∧ W'.cell? ⟨w.heap.size, 1, none⟩ = some (.string A) ∧ W'.cell? ⟨w.heap.size, 2, none⟩ = some (.string B) ∧
      W'.cell? ⟨w.heap.size + 1, 0, none⟩ = some (.bool b2) ∧ W'.cell? ⟨w.heap.size + 1, 1, none⟩ = some (.string C) ∧ W'.cell? ⟨w.heap.size + 1, 2, none⟩ = some (.string D)) ∧ Hid (Held w W' b1 b2 A B C D))
    (first
      | exact ⟨hs, hh⟩
      | assumption
      | exact s1
      | go_keep)
    (first
      | (go_at_call 97; refine (times_call _ _ ?_ _).mono ?_; assumption; rintro e w5 ⟨rfl, hg5⟩; have s1 := held_next w b1 b2 A B C D hg5 ‹_›))
  clear hs hh H0
  obtain ⟨⟨x0, x1, x2, y0, y1, y2⟩, hh⟩ := s1
  go_wp2_with fail
  refine (T3 _).mono ?_
  rintro e v6 ⟨rfl, hg⟩
  have s6 := held_next w b1 b2 A B C D hg ⟨⟨x0, x1, x2, y0, y1, y2⟩, hh⟩
  clear x0 x1 x2 y0 y1 y2 hh hg
  obtain ⟨⟨x0, x1, x2, y0, y1, y2⟩, hh⟩ := s6
  go_wp2_with fail
  refine (N1.out _).mono ?_
  rintro e v7 ⟨rfl, hg⟩
  have s7 := held_next w b1 b2 A B C D hg ⟨⟨x0, x1, x2, y0, y1, y2⟩, hh⟩
  clear x0 x1 x2 y0 y1 y2 hh hg
  obtain ⟨⟨x0, x1, x2, y0, y1, y2⟩, hh⟩ := s7
  go_wp2_with fail
  refine (R.out _).mono ?_
  rintro e v8 ⟨rfl, hg⟩
  have s8 := held_next w b1 b2 A B C D hg ⟨⟨x0, x1, x2, y0, y1, y2⟩, hh⟩
  clear x0 x1 x2 y0 y1 y2 hh hg
  obtain ⟨zb, zS, zT, z0, z1, z2, z3, z4, z5⟩ := held_room w b1 b2 A B C D s8
  have hend := grown3 (a := .bool b) (b := .string S) (c := .string T) s8.2.out.g (show w.heap.size ≤ w.heap.size + 1 + 1 by omega)
  have HE := Lib.hid hend
  clear hend s8
  go_wp2
  exact bodyPost_ret (v := .agg #[.bool _, .string _, .string _]) (by simp [results, Tryz.results88, go_sem, z0, z1, z2, z3, z4, z5]) rfl ⟨rfl, HE.out⟩
theorem sum_same (b1 : Bool) (b : Bool) (A B C D N S T : ByteArray) (w : World)
    (T1 : TimesOk A D) (T2 : TimesOk C B) (T3 : TimesOk B D)
    (N1 : Hid (∀ w, Calls Tryz.prog 107 #[.string (mulS A D), .string (mulS C B)] w (ValPost (.tuple #[.string N, .int .i64 0]) w)))
    (R : Hid (∀ w, Calls Tryz.prog 96 #[.bool b1, .string N, .string (mulS B D)] w (ValPost (.agg #[.bool b, .string S, .string T]) w))) :
    Calls Tryz.prog 88 #[.agg #[.bool b1, .string A, .string B], .agg #[.bool b1, .string C, .string D]] w (ValPost (.agg #[.bool b, .string S, .string T]) w) :=
  sum_same0 b1 b1 b A B C D N S T w (by simp) T1 T2 T3 N1 R
set_option maxRecDepth 100000 in
set_option maxHeartbeats 4000000 in
theorem sum_less (b1 b2 b : Bool) (A B C D N S T : ByteArray) (c : Int) (w : World) (hne : b1 ≠ b2) (hc : c < 0)
    (T1 : TimesOk A D) (T2 : TimesOk C B) (T3 : TimesOk B D)
    (CM : Hid (∀ w, Calls Tryz.prog 108 #[.string (mulS A D), .string (mulS C B)] w fun e w' => e = .returned (.int .i64 c) ∧ w.grownBy w' none))
    (SU : Hid (∀ w, Calls Tryz.prog 109 #[.string (mulS C B), .string (mulS A D)] w (ValPost (.tuple #[.string N, .int .i64 0]) w)))
    (R : Hid (∀ w, Calls Tryz.prog 96 #[.bool b2, .string N, .string (mulS B D)] w (ValPost (.agg #[.bool b, .string S, .string T]) w))) :
    Calls Tryz.prog 88 #[.agg #[.bool b1, .string A, .string B], .agg #[.bool b2, .string C, .string D]] w (ValPost (.agg #[.bool b, .string S, .string T]) w) := by
  have he : (b1 == b2) = false := by simpa using hne
  have h0 := held_start w b1 b2 A B C D
  obtain ⟨W0, hW0⟩ : ∃ W0, W0 = (((w.alloc (.cells #[.bool b1, .string A, .string B] 56)).alloc (.cells #[.bool b2, .string C, .string D] 56)).alloc (.cells #[.bool false, .string ⟨#[]⟩, .string ⟨#[]⟩] 56)) := ⟨_, rfl⟩
  rw [← hW0] at h0
  have H0 := Lib.hid h0; have HW0 := Lib.hid hW0
  clear h0 hW0
  go_enter Tryz.func88, Tryz.ntmps88
  go_wp2_with fail
  rw [← HW0.out]
  have hs := H0.out.drew.seen
  unfold Seen at hs
  have hh := Lib.hid H0.out.drew
  clear HW0
  go_region_held3 (fun W' => (W'.cell? ⟨w.heap.size, 0, none⟩ = some (.bool b1) ∧ W'.cell? ⟨w.heap.size, 1, none⟩ = some (.string A) ∧ W'.cell? ⟨w.heap.size, 2, none⟩ = some (.string B) ∧
      W'.cell? ⟨w.heap.size + 1, 0, none⟩ = some (.bool b2) ∧ W'.cell? ⟨w.heap.size + 1, 1, none⟩ = some (.string C) ∧ W'.cell? ⟨w.heap.size + 1, 2, none⟩ = some (.string D)) ∧ Hid (Held w W' b1 b2 A B C D))
    (first
      | exact ⟨hs, hh⟩
      | assumption
      | exact s1
      | go_keep)
    (first
      | (go_at_call 97; refine (times_call _ _ ?_ _).mono ?_; assumption; rintro e w5 ⟨rfl, hg5⟩; have s1 := held_next w b1 b2 A B C D hg5 ‹_›))
  clear hs hh H0
  obtain ⟨⟨x0, x1, x2, y0, y1, y2⟩, hh⟩ := s1
  go_wp2_with fail
  refine (T3 _).mono ?_
  rintro e v6 ⟨rfl, hg⟩
  have s6 := held_next w b1 b2 A B C D hg ⟨⟨x0, x1, x2, y0, y1, y2⟩, hh⟩
  clear x0 x1 x2 y0 y1 y2 hh hg
  obtain ⟨⟨x0, x1, x2, y0, y1, y2⟩, hh⟩ := s6
  go_wp2_with fail
  refine (CM.out _).mono ?_
  rintro e v7 ⟨rfl, hg⟩
  have s7 := held_next w b1 b2 A B C D hg ⟨⟨x0, x1, x2, y0, y1, y2⟩, hh⟩
  clear x0 x1 x2 y0 y1 y2 hh hg
  obtain ⟨⟨x0, x1, x2, y0, y1, y2⟩, hh⟩ := s7
  go_wp2_with fail
  refine (SU.out _).mono ?_
  rintro e v8 ⟨rfl, hg⟩
  have s8 := held_next w b1 b2 A B C D hg ⟨⟨x0, x1, x2, y0, y1, y2⟩, hh⟩
  clear x0 x1 x2 y0 y1 y2 hh hg
  obtain ⟨⟨x0, x1, x2, y0, y1, y2⟩, hh⟩ := s8
  go_wp2_with fail
  refine (R.out _).mono ?_
  rintro e v9 ⟨rfl, hg⟩
  have s9 := held_next w b1 b2 A B C D hg ⟨⟨x0, x1, x2, y0, y1, y2⟩, hh⟩
  clear x0 x1 x2 y0 y1 y2 hh hg
  obtain ⟨zb, zS, zT, z0, z1, z2, z3, z4, z5⟩ := held_room w b1 b2 A B C D s9
  have hend := grown3 (a := .bool b) (b := .string S) (c := .string T) s9.2.out.g (show w.heap.size ≤ w.heap.size + 1 + 1 by omega)
  have HE := Lib.hid hend
  clear hend s9
  go_wp2
  exact bodyPost_ret (v := .agg #[.bool _, .string _, .string _]) (by simp [results, Tryz.results88, go_sem, z0, z1, z2, z3, z4, z5]) rfl ⟨rfl, HE.out⟩
set_option maxRecDepth 100000 in
set_option maxHeartbeats 4000000 in
theorem sum_more (b1 b2 b : Bool) (A B C D N S T : ByteArray) (c : Int) (w : World) (hne : b1 ≠ b2) (hc : ¬ c < 0)
    (T1 : TimesOk A D) (T2 : TimesOk C B) (T3 : TimesOk B D)
    (CM : Hid (∀ w, Calls Tryz.prog 108 #[.string (mulS A D), .string (mulS C B)] w fun e w' => e = .returned (.int .i64 c) ∧ w.grownBy w' none))
    (SU : Hid (∀ w, Calls Tryz.prog 109 #[.string (mulS A D), .string (mulS C B)] w (ValPost (.tuple #[.string N, .int .i64 0]) w)))
    (R : Hid (∀ w, Calls Tryz.prog 96 #[.bool b1, .string N, .string (mulS B D)] w (ValPost (.agg #[.bool b, .string S, .string T]) w))) :
    Calls Tryz.prog 88 #[.agg #[.bool b1, .string A, .string B], .agg #[.bool b2, .string C, .string D]] w (ValPost (.agg #[.bool b, .string S, .string T]) w) := by
  have he : (b1 == b2) = false := by simpa using hne
  have h0 := held_start w b1 b2 A B C D
  obtain ⟨W0, hW0⟩ : ∃ W0, W0 = (((w.alloc (.cells #[.bool b1, .string A, .string B] 56)).alloc (.cells #[.bool b2, .string C, .string D] 56)).alloc (.cells #[.bool false, .string ⟨#[]⟩, .string ⟨#[]⟩] 56)) := ⟨_, rfl⟩
  rw [← hW0] at h0
  have H0 := Lib.hid h0; have HW0 := Lib.hid hW0
  clear h0 hW0
  go_enter Tryz.func88, Tryz.ntmps88
  go_wp2_with fail
  rw [← HW0.out]
  have hs := H0.out.drew.seen
  unfold Seen at hs
  have hh := Lib.hid H0.out.drew
  clear HW0
  go_region_held3 (fun W' => (W'.cell? ⟨w.heap.size, 0, none⟩ = some (.bool b1) ∧ W'.cell? ⟨w.heap.size, 1, none⟩ = some (.string A) ∧ W'.cell? ⟨w.heap.size, 2, none⟩ = some (.string B) ∧
      W'.cell? ⟨w.heap.size + 1, 0, none⟩ = some (.bool b2) ∧ W'.cell? ⟨w.heap.size + 1, 1, none⟩ = some (.string C) ∧ W'.cell? ⟨w.heap.size + 1, 2, none⟩ = some (.string D)) ∧ Hid (Held w W' b1 b2 A B C D))
    (first
      | exact ⟨hs, hh⟩
      | assumption
      | exact s1
      | go_keep)
    (first
      | (go_at_call 97; refine (times_call _ _ ?_ _).mono ?_; assumption; rintro e w5 ⟨rfl, hg5⟩; have s1 := held_next w b1 b2 A B C D hg5 ‹_›))
  clear hs hh H0
  obtain ⟨⟨x0, x1, x2, y0, y1, y2⟩, hh⟩ := s1
  go_wp2_with fail
  refine (T3 _).mono ?_
  rintro e v6 ⟨rfl, hg⟩
  have s6 := held_next w b1 b2 A B C D hg ⟨⟨x0, x1, x2, y0, y1, y2⟩, hh⟩
  clear x0 x1 x2 y0 y1 y2 hh hg
  obtain ⟨⟨x0, x1, x2, y0, y1, y2⟩, hh⟩ := s6
  go_wp2_with fail
  refine (CM.out _).mono ?_
  rintro e v7 ⟨rfl, hg⟩
  have s7 := held_next w b1 b2 A B C D hg ⟨⟨x0, x1, x2, y0, y1, y2⟩, hh⟩
  clear x0 x1 x2 y0 y1 y2 hh hg
  obtain ⟨⟨x0, x1, x2, y0, y1, y2⟩, hh⟩ := s7
  go_wp2_with fail
  refine (SU.out _).mono ?_
  rintro e v8 ⟨rfl, hg⟩
  have s8 := held_next w b1 b2 A B C D hg ⟨⟨x0, x1, x2, y0, y1, y2⟩, hh⟩
  clear x0 x1 x2 y0 y1 y2 hh hg
  obtain ⟨⟨x0, x1, x2, y0, y1, y2⟩, hh⟩ := s8
  go_wp2_with fail
  refine (R.out _).mono ?_
  rintro e v9 ⟨rfl, hg⟩
  have s9 := held_next w b1 b2 A B C D hg ⟨⟨x0, x1, x2, y0, y1, y2⟩, hh⟩
  clear x0 x1 x2 y0 y1 y2 hh hg
  obtain ⟨zb, zS, zT, z0, z1, z2, z3, z4, z5⟩ := held_room w b1 b2 A B C D s9
  have hend := grown3 (a := .bool b) (b := .string S) (c := .string T) s9.2.out.g (show w.heap.size ≤ w.heap.size + 1 + 1 by omega)
  have HE := Lib.hid hend
  clear hend s9
  go_wp2
  exact bodyPost_ret (v := .agg #[.bool _, .string _, .string _]) (by simp [results, Tryz.results88, go_sem, z0, z1, z2, z3, z4, z5]) rfl ⟨rfl, HE.out⟩
end Go.Proofs.YtkekljjjomnalaaGreatDoor
set_option linter.unusedVariables false
set_option linter.unusedSimpArgs false
namespace Go.Proofs.YtkekljjjomnalaaGreatDoor
open Go.RowKit
open Go.Lib (nDigits decDigits)

/-- Two numbers lie at g and g + 1. -/
structure Pair (w W : World) (b1 b2 : Bool) (A B C D : ByteArray) : Prop where
  x : Num W w.heap.size b1 A B
  y : Num W (w.heap.size + 1) b2 C D
  g : w.grownBy W none
def Two (w W : World) (b1 b2 : Bool) (A B C D : ByteArray) : Prop :=
  (W.cell? ⟨w.heap.size, 0, none⟩ = some (.bool b1) ∧ W.cell? ⟨w.heap.size, 1, none⟩ = some (.string A) ∧ W.cell? ⟨w.heap.size, 2, none⟩ = some (.string B) ∧
    W.cell? ⟨w.heap.size + 1, 0, none⟩ = some (.bool b2) ∧ W.cell? ⟨w.heap.size + 1, 1, none⟩ = some (.string C) ∧ W.cell? ⟨w.heap.size + 1, 2, none⟩ = some (.string D)) ∧ Hid (Pair w W b1 b2 A B C D)
theorem Pair.next {w W W' : World} {b1 b2 : Bool} {A B C D : ByteArray} (h : Pair w W b1 b2 A B C D) (hg : W.grownBy W' none) : Pair w W' b1 b2 A B C D :=
  ⟨h.x.grown hg, h.y.grown hg, grown_trans h.g hg⟩
theorem Pair.drew {w W : World} {b1 b2 : Bool} {A B C D : ByteArray} (h : Pair w W b1 b2 A B C D) : Pair w W.drew b1 b2 A B C D := h.next (grown_drew W none)
theorem Pair.two {w W : World} {b1 b2 : Bool} {A B C D : ByteArray} (h : Pair w W b1 b2 A B C D) : Two w W b1 b2 A B C D := by
  obtain ⟨x0, x1, x2, _⟩ := h.x.cells
  obtain ⟨y0, y1, y2, _⟩ := h.y.cells
  exact ⟨⟨x0, x1, x2, y0, y1, y2⟩, Lib.hid h⟩
theorem pair_next (w : World) (b1 b2 : Bool) (A B C D : ByteArray) {W W' : World} (hg : W.grownBy W' none)
    (h : (W.cell? ⟨w.heap.size, 0, none⟩ = some (.bool b1) ∧ W.cell? ⟨w.heap.size, 1, none⟩ = some (.string A) ∧ W.cell? ⟨w.heap.size, 2, none⟩ = some (.string B) ∧
      W.cell? ⟨w.heap.size + 1, 0, none⟩ = some (.bool b2) ∧ W.cell? ⟨w.heap.size + 1, 1, none⟩ = some (.string C) ∧ W.cell? ⟨w.heap.size + 1, 2, none⟩ = some (.string D)) ∧ Hid (Pair w W b1 b2 A B C D)) :
    (W'.cell? ⟨w.heap.size, 0, none⟩ = some (.bool b1) ∧ W'.cell? ⟨w.heap.size, 1, none⟩ = some (.string A) ∧ W'.cell? ⟨w.heap.size, 2, none⟩ = some (.string B) ∧
      W'.cell? ⟨w.heap.size + 1, 0, none⟩ = some (.bool b2) ∧ W'.cell? ⟨w.heap.size + 1, 1, none⟩ = some (.string C) ∧ W'.cell? ⟨w.heap.size + 1, 2, none⟩ = some (.string D)) ∧ Hid (Pair w W' b1 b2 A B C D) :=
  (h.2.out.next hg).two
theorem pair_start (w : World) (b1 b2 : Bool) (A B C D : ByteArray) :
    Pair w ((w.alloc (.cells #[.bool b1, .string A, .string B] 56)).alloc (.cells #[.bool b2, .string C, .string D] 56)) b1 b2 A B C D := by
  refine ⟨?_, ?_, ?_⟩
  · unfold Num
    rw [block_old _ _ _ (by simp), block_at _ _ _ rfl]
  · unfold Num
    rw [block_at _ _ _ (by simp)]
  · exact grown_trans (World.grownBy_alloc _ _ none) (World.grownBy_alloc _ _ none)
theorem Pair.swap {w W : World} {b1 b2 : Bool} {A B C D : ByteArray} (h : Pair w W b1 b2 A B C D) :
    Pair w ((((((W.setCell ⟨w.heap.size, 0, none⟩ (.bool b2)).setCell ⟨w.heap.size, 1, none⟩ (.string C)).setCell ⟨w.heap.size, 2, none⟩ (.string D)).setCell ⟨w.heap.size + 1, 0, none⟩ (.bool b1)).setCell ⟨w.heap.size + 1, 1, none⟩ (.string A)).setCell ⟨w.heap.size + 1, 2, none⟩ (.string B)) b2 b1 C D A B := by
  have hx : Num (((W.setCell ⟨w.heap.size, 0, none⟩ (.bool b2)).setCell ⟨w.heap.size, 1, none⟩ (.string C)).setCell ⟨w.heap.size, 2, none⟩ (.string D)) w.heap.size b2 C D := h.x.set
  have hy : Num (((W.setCell ⟨w.heap.size, 0, none⟩ (.bool b2)).setCell ⟨w.heap.size, 1, none⟩ (.string C)).setCell ⟨w.heap.size, 2, none⟩ (.string D)) (w.heap.size + 1) b2 C D := ((h.y.other (by omega)).other (by omega)).other (by omega)
  refine ⟨((hx.other (by omega)).other (by omega)).other (by omega), hy.set, ?_⟩
  exact grown3 (grown3 h.g (Nat.le_refl _)) (Nat.le_succ _)

set_option maxRecDepth 100000 in
set_option maxHeartbeats 1000000 in
theorem compare_part (b1 b2 : Bool) (A B C D : ByteArray) (w : World) (hne : b1 ≠ b2) :
    Calls Tryz.prog 92 #[.agg #[.bool b1, .string A, .string B], .agg #[.bool b2, .string C, .string D]] w (ValPost (.int .i64 (if b1 then -1 else 1)) w) := by
  cases b1 <;> cases b2 <;> simp only [ne_eq, not_true, Bool.false_eq_true, Bool.true_eq_false, not_false_eq_true] at hne
  all_goals
    go_enter Tryz.func92, Tryz.ntmps92
    go_wp2
    go_ret
    exact ⟨rfl, grown_trans (World.grownBy_alloc _ _ _) (World.grownBy_alloc _ _ _)⟩

set_option maxRecDepth 100000 in
set_option maxHeartbeats 4000000 in
theorem compare_plus (A B C D : ByteArray) (c : Int) (w : World)
    (T1 : TimesOk A D) (T2 : TimesOk C B)
    (CM : Hid (∀ w, Calls Tryz.prog 108 #[.string (mulS A D), .string (mulS C B)] w fun e w' => e = .returned (.int .i64 c) ∧ w.grownBy w' none)) :
    Calls Tryz.prog 92 #[.agg #[.bool false, .string A, .string B], .agg #[.bool false, .string C, .string D]] w (ValPost (.int .i64 c) w) := by
  have h0 := pair_start w false false A B C D
  have H0 := Lib.hid h0
  obtain ⟨hs, hh⟩ := h0.drew.two
  obtain ⟨⟨x0, x1, x2, y0, y1, y2⟩, hh0⟩ := h0.two
  clear h0 hh0
  go_enter Tryz.func92, Tryz.ntmps92
  go_wp2_with fail
  clear x0 x1 x2 y0 y1 y2
  go_region_held3 (fun W' => (W'.cell? ⟨w.heap.size, 0, none⟩ = some (.bool false) ∧ W'.cell? ⟨w.heap.size, 1, none⟩ = some (.string A) ∧ W'.cell? ⟨w.heap.size, 2, none⟩ = some (.string B) ∧
      W'.cell? ⟨w.heap.size + 1, 0, none⟩ = some (.bool false) ∧ W'.cell? ⟨w.heap.size + 1, 1, none⟩ = some (.string C) ∧ W'.cell? ⟨w.heap.size + 1, 2, none⟩ = some (.string D)) ∧ Hid (Pair w W' false false A B C D))
    (first
      | exact ⟨hs, hh⟩
      | assumption
      | exact s1
      | go_keep)
    (first
      | (go_at_call 97; refine (times_call _ _ ?_ _).mono ?_; assumption; rintro e w5 ⟨rfl, hg5⟩; have s1 := pair_next w false false A B C D hg5 ‹_›)
      | (go_at_call 108; refine (CM.out _).mono ?_; rintro e w5 ⟨rfl, hg5⟩; have s1 := pair_next w false false A B C D hg5 ‹_›))
  have HE := Lib.hid s1.2.out.g
  clear s1 hs hh H0
  go_wp2
  go_ret
  exact ⟨rfl, HE.out⟩

set_option maxRecDepth 100000 in
set_option maxHeartbeats 4000000 in
theorem compare_minus (A B C D : ByteArray) (c : Int) (w : World)
    (T1 : TimesOk C B) (T2 : TimesOk A D)
    (CM : Hid (∀ w, Calls Tryz.prog 108 #[.string (mulS C B), .string (mulS A D)] w fun e w' => e = .returned (.int .i64 c) ∧ w.grownBy w' none)) :
    Calls Tryz.prog 92 #[.agg #[.bool true, .string A, .string B], .agg #[.bool true, .string C, .string D]] w (ValPost (.int .i64 c) w) := by
  have h0 := pair_start w true true C D A B
  obtain ⟨hs, hh⟩ := h0.drew.two
  clear h0
  go_enter Tryz.func92, Tryz.ntmps92
  go_wp2_with fail
  go_region_held3 (fun W' => (W'.cell? ⟨w.heap.size, 0, none⟩ = some (.bool true) ∧ W'.cell? ⟨w.heap.size, 1, none⟩ = some (.string C) ∧ W'.cell? ⟨w.heap.size, 2, none⟩ = some (.string D) ∧
      W'.cell? ⟨w.heap.size + 1, 0, none⟩ = some (.bool true) ∧ W'.cell? ⟨w.heap.size + 1, 1, none⟩ = some (.string A) ∧ W'.cell? ⟨w.heap.size + 1, 2, none⟩ = some (.string B)) ∧ Hid (Pair w W' true true C D A B))
    (first
      | exact ⟨hs, hh⟩
      | assumption
      | exact s1
      | go_keep)
    (first
      | (go_at_call 97; refine (times_call _ _ ?_ _).mono ?_; assumption; rintro e w5 ⟨rfl, hg5⟩; have s1 := pair_next w true true C D A B hg5 ‹_›)
      | (go_at_call 108; refine (CM.out _).mono ?_; rintro e w5 ⟨rfl, hg5⟩; have s1 := pair_next w true true C D A B hg5 ‹_›))
  have HE := Lib.hid s1.2.out.g
  clear s1 hs hh
  go_wp2
  go_ret
  exact ⟨rfl, HE.out⟩
theorem cmp_dec (m n : Nat) (hm : nDigits m ≤ 1000) (hn : nDigits n ≤ 1000) : cmpV (decS m) (decS n) = cmpN m n := by
  unfold cmpV
  rw [num_short m hm, num_short n hn, nv_dec, nv_dec]
  rfl
theorem sub_dec (m n : Nat) (hm : nDigits m ≤ 1000) (hn : nDigits n ≤ 1000) (h : n ≤ m) : subV (decS m) (decS n) = .tuple #[.string (decS (m - n)), .int .i64 0] := by
  unfold subV
  rw [num_short m hm, num_short n hn, nv_dec, nv_dec]
  simp only [Bool.and_self, if_true]
  rw [if_neg (by omega)]
end Go.Proofs.YtkekljjjomnalaaGreatDoor
