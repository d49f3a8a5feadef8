/- Make. -/
import Derived.Test.YthokjhlbbgfplaaGreatDoorQc
set_option linter.unusedVariables false
set_option linter.unusedSimpArgs false
namespace Go.Proofs.YthokjhlbbgfplaaGreatDoor
open Go.RowKit
open Go.Lib (nDigits decDigits)

theorem ValPost.grow {v : Value} {a b : World} {e : Ending} {w' : World} (hg : a.grownBy b none) (h : ValPost v b e w') : ValPost v a e w' := ⟨h.1, grown_trans hg h.2⟩
theorem finV_form (x : Rat) : ∃ S E, finV x = .tuple #[.string S, .int .i64 E] := by
  rcases finV_cases x with ⟨S, h, _⟩ | ⟨h, _⟩
  · exact ⟨_, _, h⟩
  · exact ⟨_, _, h⟩

set_option maxRecDepth 100000 in
set_option maxHeartbeats 1000000 in
theorem make_bad1 (neg : Bool) (num den : ByteArray) (w : World) (V : Hid (ValOk num false)) :
    Calls Tryz.prog 14 #[.bool neg, .string num, .string den] w (ValPost (.tuple #[.string ⟨#[]⟩, .int .i64 1]) w) := by
  go_enter Tryz.func14, Tryz.ntmps14
  go_wp2_with fail
  refine (V.out _).mono ?_
  rintro e w' ⟨rfl, rfl⟩
  go_wp2
  go_ret2
  exact ⟨rfl, grown_refl _ _⟩
set_option maxRecDepth 100000 in
set_option maxHeartbeats 1000000 in
theorem make_bad2 (neg : Bool) (num den : ByteArray) (w : World) (V : Hid (ValOk num true)) (U : Hid (ValOk den false)) :
    Calls Tryz.prog 14 #[.bool neg, .string num, .string den] w (ValPost (.tuple #[.string ⟨#[]⟩, .int .i64 1]) w) := by
  go_enter Tryz.func14, Tryz.ntmps14
  go_wp2_with fail
  refine (V.out _).mono ?_
  rintro e w' ⟨rfl, rfl⟩
  go_wp2_with fail
  refine (U.out _).mono ?_
  rintro e w' ⟨rfl, rfl⟩
  go_wp2
  go_ret2
  exact ⟨rfl, grown_refl _ _⟩
set_option maxRecDepth 100000 in
set_option maxHeartbeats 1000000 in
theorem make_bad3 (neg : Bool) (num den : ByteArray) (w : World) (V : Hid (ValOk num true)) (U : Hid (ValOk den true)) (f : (den.toList == [48]) = true) :
    Calls Tryz.prog 14 #[.bool neg, .string num, .string den] w (ValPost (.tuple #[.string ⟨#[]⟩, .int .i64 1]) w) := by
  go_enter Tryz.func14, Tryz.ntmps14
  go_wp2_with fail
  refine (V.out _).mono ?_
  rintro e w' ⟨rfl, rfl⟩
  go_wp2_with fail
  refine (U.out _).mono ?_
  rintro e w' ⟨rfl, rfl⟩
  go_wp2
  go_ret2
  exact ⟨rfl, grown_refl _ _⟩
set_option maxRecDepth 100000 in
set_option maxHeartbeats 1000000 in
theorem make_ok (neg : Bool) (num den S : ByteArray) (N : Value) (E : Int) (w : World) (V : Hid (ValOk num true)) (U : Hid (ValOk den true)) (f : (den.toList == [48]) = false)
    (R : Hid (∀ w, Calls Tryz.prog 38 #[.bool neg, .string num, .string den] w (ValPost N w)))
    (F : Hid (∀ w, Calls Tryz.prog 37 #[.func (.func 39) #[N] #[]] w (ValPost (.tuple #[.string S, .int .i64 E]) w))) :
    Calls Tryz.prog 14 #[.bool neg, .string num, .string den] w (ValPost (.tuple #[.string S, .int .i64 E]) w) := by
  have hmf : ∀ (fn : Fn) (first cap : Array Value) (w : World), (Instr.makeFunc fn first cap).run Tryz.prog w = .ok (.func fn first cap) w := fun _ _ _ _ => rfl
  go_enter Tryz.func14, Tryz.ntmps14
  go_wp2_with fail
  refine (V.out _).mono ?_
  rintro e w' ⟨rfl, rfl⟩
  go_wp2_with fail
  refine (U.out _).mono ?_
  rintro e w' ⟨rfl, rfl⟩
  go_wp2_with fail
  refine (R.out _).mono ?_
  rintro e w1 ⟨rfl, hg⟩
  have G1 := Lib.hid hg
  clear hg
  go_wp2_with fail
  refine (F.out _).mono ?_
  rintro e w2 ⟨rfl, hg⟩
  have G2 := Lib.hid (grown_trans G1.out hg)
  clear hg
  go_wp2
  go_ret2
  exact ⟨rfl, G2.out⟩

theorem make_any (neg : Bool) (num den : ByteArray) (w : World) (hn : num.size ≤ maxLen) (hd : den.size ≤ maxLen) :
    Calls Tryz.prog 14 #[.bool neg, .string num, .string den] w (ValPost (makeV neg num den) w) := by
  have va := valOk num hn
  have vb := valOk den hd
  unfold makeV
  cases ha : numB num
  · rw [ha] at va
    exact make_bad1 neg num den w (Lib.hid va)
  cases hb : numB den
  · rw [ha] at va
    rw [hb] at vb
    exact make_bad2 neg num den w (Lib.hid va) (Lib.hid vb)
  rw [ha] at va
  rw [hb] at vb
  have hz := (str_facts den hb).1
  by_cases h0 : nv den = 0
  · rw [h0] at hz ⊢
    exact make_bad3 neg num den w (Lib.hid va) (Lib.hid vb) (by simpa using hz)
  · simp only [h0, Bool.and_self, Bool.true_and, decide_false, Bool.not_false, if_true]
    have hr := fun w => reduce_any neg (nv num) (nv den) w h0 (num_is num ha).2 (num_is den hb).2
    rw [← (num_is num ha).1, ← (num_is den hb).1] at hr
    have hf := fun w => finish_text (mkRat (sg neg (nv num)) (nv den)) w
    obtain ⟨S, E, hE⟩ := finV_form (mkRat (sg neg (nv num)) (nv den))
    rw [hE] at hf ⊢
    exact make_ok neg num den S _ E w (Lib.hid va) (Lib.hid vb) (by rw [hz]; simpa using h0) (Lib.hid hr) (Lib.hid hf)
end Go.Proofs.YthokjhlbbgfplaaGreatDoor
