/- operate: an operation with two numbers, given as a function. -/
import Derived.Test.YthokjhlbbgfplaaGreatDoorQe
import Derived.Test.YthokjhlbbgfplaaGreatDoorQf
import Derived.Test.YthokjhlbbgfplaaGreatDoorPn
set_option linter.unusedVariables false
set_option linter.unusedSimpArgs false
namespace Go.Proofs.YthokjhlbbgfplaaGreatDoor
open Go.RowKit
open Go.Lib (nDigits decDigits)

/-- A function that lies in a cell of its own. -/
def Fun (w : World) (g F : Nat) : Prop := w.heap[g]? = some (.cells #[.func (.func F) #[] #[]] 59 (0, 0))
theorem Fun.grown {w w' : World} {g F : Nat} (h : Fun w g F) (hg : w.grownBy w' none) : Fun w' g F := (hg.block _ (lt_of_block h) (by simp)).trans h

set_option maxRecDepth 100000 in
set_option maxHeartbeats 1000000 in
theorem op1_ret (F g0 g1 g2 : Nat) (b1 b2 : Bool) (A B C D S : ByteArray) (N : Value) (w : World) (hE : Enters F) (h0 : Fun w g0 F) (h1 : Num w g1 b1 A B) (h2 : Num w g2 b2 C D)
    (M : Hid (∀ w, Calls Tryz.prog F #[.agg #[.bool b1, .string A, .string B], .agg #[.bool b2, .string C, .string D]] w (ValPost N w)))
    (X : Hid (∀ w, Calls Tryz.prog 39 #[N] w (ValPost (.string S) w))) :
    Calls Tryz.prog 75 #[.pointer (some ⟨g0, 0, none⟩), .pointer (some ⟨g1, 0, none⟩), .pointer (some ⟨g2, 0, none⟩)] w (ValPost (.string S) w) := by
  have c0 := cell_of_one h0
  obtain ⟨x0, x1, x2, _⟩ := h1.cells
  obtain ⟨y0, y1, y2, _⟩ := h2.cells
  have HE := Lib.hid hE
  clear h0 h1 h2 hE
  go_enter Tryz.func75, Tryz.ntmps75
  go_wp2_with fail
  rw [HE.out]
  refine (M.out _).mono ?_
  rintro e w1 ⟨rfl, hg⟩
  have G1 := Lib.hid hg
  clear hg
  go_wp2_with fail
  refine (X.out _).mono ?_
  rintro e w2 ⟨rfl, hg⟩
  have G2 := Lib.hid (grown_trans G1.out hg)
  clear hg
  go_wp2
  go_ret
  exact ⟨rfl, G2.out⟩
set_option maxRecDepth 100000 in
set_option maxHeartbeats 1000000 in
theorem op1_long (F g0 g1 g2 : Nat) (b1 b2 : Bool) (A B C D : ByteArray) (N : Value) (w : World) (hE : Enters F) (h0 : Fun w g0 F) (h1 : Num w g1 b1 A B) (h2 : Num w g2 b2 C D)
    (M : Hid (∀ w, Calls Tryz.prog F #[.agg #[.bool b1, .string A, .string B], .agg #[.bool b2, .string C, .string D]] w (ValPost N w)))
    (X : Hid (∀ w, Calls Tryz.prog 39 #[N] w (DiePost 2 w))) :
    Calls Tryz.prog 75 #[.pointer (some ⟨g0, 0, none⟩), .pointer (some ⟨g1, 0, none⟩), .pointer (some ⟨g2, 0, none⟩)] w (DiePost 2 w) := by
  have c0 := cell_of_one h0
  obtain ⟨x0, x1, x2, _⟩ := h1.cells
  obtain ⟨y0, y1, y2, _⟩ := h2.cells
  have HE := Lib.hid hE
  clear h0 h1 h2 hE
  go_enter Tryz.func75, Tryz.ntmps75
  go_wp2_with fail
  rw [HE.out]
  refine (M.out _).mono ?_
  rintro e w1 ⟨rfl, hg⟩
  have G1 := Lib.hid hg
  clear hg
  go_wp2_with fail
  refine (X.out _).mono ?_
  rintro e w2 ⟨rfl, hg⟩
  exact ⟨rfl, rfl, grown_trans G1.out hg⟩
set_option maxRecDepth 100000 in
set_option maxHeartbeats 1000000 in
theorem op1_die (F g0 g1 g2 : Nat) (b1 b2 : Bool) (A B C D : ByteArray) (E : Int) (w : World) (hE : Enters F) (h0 : Fun w g0 F) (h1 : Num w g1 b1 A B) (h2 : Num w g2 b2 C D)
    (M : Hid (∀ w, Calls Tryz.prog F #[.agg #[.bool b1, .string A, .string B], .agg #[.bool b2, .string C, .string D]] w (DiePost E w))) :
    Calls Tryz.prog 75 #[.pointer (some ⟨g0, 0, none⟩), .pointer (some ⟨g1, 0, none⟩), .pointer (some ⟨g2, 0, none⟩)] w (DiePost E w) := by
  have c0 := cell_of_one h0
  obtain ⟨x0, x1, x2, _⟩ := h1.cells
  obtain ⟨y0, y1, y2, _⟩ := h2.cells
  have HE := Lib.hid hE
  clear h0 h1 h2 hE
  go_enter Tryz.func75, Tryz.ntmps75
  go_wp2_with fail
  rw [HE.out]
  refine (M.out _).mono ?_
  rintro e w1 ⟨rfl, hg⟩
  exact ⟨rfl, rfl, hg⟩

theorem enters_op1 : Enters 75 := enters_of Tryz.func75 (by kernel_rfl) rfl
/-- What finish makes of the computation, wherever its parts lie. -/
def FinOk (F : Nat) (b1 b2 : Bool) (A B C D S : ByteArray) (E : Int) : Prop := ∀ (g0 g1 g2 : Nat) (w : World), Fun w g0 F → Num w g1 b1 A B → Num w g2 b2 C D →
    Calls Tryz.prog 37 #[.func (.func 75) #[] #[.pointer (some ⟨g0, 0, none⟩), .pointer (some ⟨g1, 0, none⟩), .pointer (some ⟨g2, 0, none⟩)]] w (ValPost (.tuple #[.string S, .int .i64 E]) w)

set_option maxRecDepth 100000 in
set_option maxHeartbeats 2000000 in
theorem operate_ok (F : Nat) (a b : ByteArray) (b1 b2 : Bool) (A B C D S : ByteArray) (E : Int) (w : World)
    (R1 : Hid (∀ w, Calls Tryz.prog 32 #[.string a] w (ValPost (.tuple #[.agg #[.bool b1, .string A, .string B], .bool true]) w)))
    (R2 : Hid (∀ w, Calls Tryz.prog 32 #[.string b] w (ValPost (.tuple #[.agg #[.bool b2, .string C, .string D], .bool true]) w)))
    (K : Hid (FinOk F b1 b2 A B C D S E)) :
    Calls Tryz.prog 49 #[.string a, .string b, .func (.func F) #[] #[]] w (ValPost (.tuple #[.string S, .int .i64 E]) w) := by
  have hmf : ∀ (fn : Fn) (first cap : Array Value) (w : World), (Instr.makeFunc fn first cap).run Tryz.prog w = .ok (.func fn first cap) w := fun _ _ _ _ => rfl
  go_enter Tryz.func49, Tryz.ntmps49
  go_wp2_with fail
  refine (R1.out _).mono ?_
  rintro e w1 ⟨rfl, hg⟩
  have hb := alloc_old hg
  have F1 := Lib.hid (show Fun w1 w.heap.size F from hb)
  have G1 := Lib.hid (grown_trans (World.grownBy_alloc _ _ none) hg)
  clear hg hb
  go_wp2_with fail
  refine (R2.out _).mono ?_
  rintro e w2 ⟨rfl, hg⟩
  have hb := alloc_old hg
  have N1 := Lib.hid (show Num w2 w1.heap.size b1 A B from hb)
  have hgg := grown_trans (World.grownBy_alloc _ _ none) hg
  have F2 := Lib.hid (F1.out.grown hgg)
  have G2 := Lib.hid (grown_trans G1.out hgg)
  clear hg hb hgg F1 G1
  go_wp2_with fail
  refine (K.out _ _ _ _ (F2.out.grown (World.grownBy_alloc _ _ none)) (N1.out.grown (World.grownBy_alloc _ _ none)) (new_block _ _)).mono ?_
  rintro e w3 ⟨rfl, hg⟩
  have G3 := Lib.hid (grown_trans G2.out (grown_trans (World.grownBy_alloc _ _ none) hg))
  clear hg
  go_wp2
  go_ret2
  exact ⟨rfl, G3.out⟩

set_option maxRecDepth 100000 in
set_option maxHeartbeats 2000000 in
theorem operate_no (F : Nat) (a b : ByteArray) (b1 b2 k1 k2 : Bool) (A B C D : ByteArray) (w : World) (hk : (k1 && k2) = false)
    (R1 : Hid (∀ w, Calls Tryz.prog 32 #[.string a] w (ValPost (.tuple #[.agg #[.bool b1, .string A, .string B], .bool k1]) w)))
    (R2 : Hid (∀ w, Calls Tryz.prog 32 #[.string b] w (ValPost (.tuple #[.agg #[.bool b2, .string C, .string D], .bool k2]) w))) :
    Calls Tryz.prog 49 #[.string a, .string b, .func (.func F) #[] #[]] w (ValPost (.tuple #[.string ⟨#[]⟩, .int .i64 1]) w) := by
  cases k1 <;> cases k2 <;> simp only [Bool.and_self, Bool.and_true, Bool.true_and, Bool.true_eq_false] at hk
  all_goals
    go_enter Tryz.func49, Tryz.ntmps49
    go_wp2_with fail
    refine (R1.out _).mono ?_
    rintro e w1 ⟨rfl, hg⟩
    have G1 := Lib.hid (grown_trans (World.grownBy_alloc _ _ none) hg)
    clear hg
    go_wp2_with fail
    refine (R2.out _).mono ?_
    rintro e w2 ⟨rfl, hg⟩
    have G2 := Lib.hid (grown_trans G1.out (grown_trans (World.grownBy_alloc _ _ none) hg))
    clear hg
    go_wp2
    go_ret2
    exact ⟨rfl, grown_trans G2.out (World.grownBy_alloc _ _ none)⟩

/-! ### By what an operation makes of two numbers -/
def Makes (F : Nat) (x y r : Rat) : Prop := ∀ w, Calls Tryz.prog F #[ratV x, ratV y] w (ValPost (ratV r) w)
def Dies (F : Nat) (x y : Rat) (E : Int) : Prop := ∀ w, Calls Tryz.prog F #[ratV x, ratV y] w (DiePost E w)
theorem operate_makes {F : Nat} {a b : ByteArray} {x y r : Rat} (hE : Enters F) (ha : IsRat a x) (hb : IsRat b y) (M : Makes F x y r) (w : World) :
    Calls Tryz.prog 49 #[.string a, .string b, .func (.func F) #[] #[]] w (ValPost (finV r) w) := by
  have r1 := fun w => read_yes ha w (rat_len ha)
  have r2 := fun w => read_yes hb w (rat_len hb)
  by_cases h : Short r
  · rw [finV_ok h]
    refine operate_ok F a b _ _ _ _ _ _ _ _ w (Lib.hid r1) (Lib.hid r2) (Lib.hid fun g0 g1 g2 w f n1 n2 => ?_)
    have k := World.grownBy_alloc w (.cells #[.int .i64 0] 27) none
    exact finish_ret _ enters_op1 #[] _ _ w (op1_ret F g0 g1 g2 _ _ _ _ _ _ _ _ _ hE (f.grown k) (n1.grown k) (n2.grown k) (Lib.hid M) (Lib.hid fun w => text_ok r w h))
  · rw [finV_long h]
    refine operate_ok F a b _ _ _ _ _ _ _ _ w (Lib.hid r1) (Lib.hid r2) (Lib.hid fun g0 g1 g2 w f n1 n2 => ?_)
    have k := World.grownBy_alloc w (.cells #[.int .i64 0] 27) none
    exact finish_die _ enters_op1 #[] _ _ w (op1_long F g0 g1 g2 _ _ _ _ _ _ _ _ hE (f.grown k) (n1.grown k) (n2.grown k) (Lib.hid M) (Lib.hid fun w => text_die r w h))
theorem operate_dies {F : Nat} {a b : ByteArray} {x y : Rat} {E : Int} (hE : Enters F) (ha : IsRat a x) (hb : IsRat b y) (M : Dies F x y E) (w : World) :
    Calls Tryz.prog 49 #[.string a, .string b, .func (.func F) #[] #[]] w (ValPost (.tuple #[.string ⟨#[]⟩, .int .i64 E]) w) := by
  have r1 := fun w => read_yes ha w (rat_len ha)
  have r2 := fun w => read_yes hb w (rat_len hb)
  refine operate_ok F a b _ _ _ _ _ _ _ _ w (Lib.hid r1) (Lib.hid r2) (Lib.hid fun g0 g1 g2 w f n1 n2 => ?_)
  have k := World.grownBy_alloc w (.cells #[.int .i64 0] 27) none
  exact finish_die _ enters_op1 #[] _ _ w (op1_die F g0 g1 g2 _ _ _ _ _ _ _ _ hE (f.grown k) (n1.grown k) (n2.grown k) (Lib.hid M))
def notRat (a : ByteArray) : Prop := ∀ x, ¬ IsRat a x
theorem rat_or (a : ByteArray) : (∃ x, IsRat a x) ∨ notRat a := by
  by_cases h : ∃ x, IsRat a x
  · exact .inl h
  · exact .inr fun x k => h ⟨x, k⟩
theorem read_cases (a : ByteArray) (ha : a.size ≤ maxLen) : ∃ b A B k, (∀ w, Calls Tryz.prog 32 #[.string a] w (ValPost (.tuple #[.agg #[.bool b, .string A, .string B], .bool k]) w)) ∧ (notRat a → k = false) := by
  rcases rat_or a with ⟨x, h⟩ | h
  · exact ⟨_, _, _, true, fun w => read_yes h w ha, fun n => absurd h (n x)⟩
  · exact ⟨_, _, _, false, fun w => read_no h w ha, fun _ => rfl⟩
theorem operate_not {F : Nat} {a b : ByteArray} (ha : a.size ≤ maxLen) (hb : b.size ≤ maxLen) (h : notRat a ∨ notRat b) (w : World) :
    Calls Tryz.prog 49 #[.string a, .string b, .func (.func F) #[] #[]] w (ValPost (.tuple #[.string ⟨#[]⟩, .int .i64 1]) w) := by
  obtain ⟨b1, A, B, k1, r1, n1⟩ := read_cases a ha
  obtain ⟨b2, C, D, k2, r2, n2⟩ := read_cases b hb
  refine operate_no F a b _ _ k1 k2 _ _ _ _ w ?_ (Lib.hid r1) (Lib.hid r2)
  rcases h with h | h
  · rw [n1 h]; rfl
  · rw [n2 h, Bool.and_false]
end Go.Proofs.YthokjhlbbgfplaaGreatDoor
