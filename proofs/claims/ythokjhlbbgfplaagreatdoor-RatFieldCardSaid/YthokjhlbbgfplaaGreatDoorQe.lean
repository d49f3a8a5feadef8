/- read: a text taken apart. -/
import Derived.Test.YthokjhlbbgfplaaGreatDoorQd
set_option linter.unusedVariables false
set_option linter.unusedSimpArgs false
namespace Go.Proofs.YthokjhlbbgfplaaGreatDoor
open Go.RowKit
open Go.Lib (nDigits decDigits)

def zeroR : Value := .agg #[.bool false, .string ⟨#[]⟩, .string ⟨#[]⟩]

/-- What the calls of read return, K: is there a stroke? D: the denominator. -/
structure ReadOk (a R M T D c : ByteArray) (N K : Bool) (E : Int) : Prop where
  cp : ∀ w, Calls Tryz.prog 56 #[.string a, .string ⟨#[45]⟩] w fun e w' => e = .returned (.tuple #[.string R, .bool N]) ∧ w = w'
  cut : ∀ w, Calls Tryz.prog 57 #[.string R, .string ⟨#[47]⟩] w (ValPost (.tuple #[.string M, .string T, .bool K]) w)
  made : ∀ w, Calls Tryz.prog 14 #[.bool N, .string M, .string D] w (ValPost (.tuple #[.string c, .int .i64 E]) w)

set_option maxRecDepth 100000 in
set_option maxHeartbeats 2000000 in
theorem read_err (a R M T D c : ByteArray) (N K : Bool) (E : Int) (w : World) (h : Hid (ReadOk a R M T D c N K E)) (hd : (if K then T else ⟨#[49]⟩) = D) (f1 : (E == 0) = false) (f2 : (E != 0) = true) :
    Calls Tryz.prog 32 #[.string a] w (ValPost (.tuple #[zeroR, .bool false]) w) := by
  subst hd
  unfold zeroR
  cases K
  all_goals
    go_enter Tryz.func32, Tryz.ntmps32
    go_wp2_with fail
    refine (h.out.cp _).mono ?_
    rintro e w' ⟨rfl, rfl⟩
    go_wp2_with fail
    refine (h.out.cut _).mono ?_
    rintro e w1 ⟨rfl, hg⟩
    have G1 := Lib.hid hg
    clear hg
    go_wp2_with fail
    refine (h.out.made _).mono ?_
    rintro e w2 ⟨rfl, hg⟩
    have G2 := Lib.hid (grown_trans G1.out hg)
    clear hg
    have hb := alloc_old G2.out
    have hc := trip hb
    have HG := Lib.hid (grown_trans (World.grownBy_alloc _ _ none) G2.out)
    clear hb G1 G2
    go_wp2
    exact bodyPost_ret (v := .tuple #[.agg #[.bool false, .string ⟨#[]⟩, .string ⟨#[]⟩], .bool false]) (by simp [results, Tryz.results32, go_sem, hc]) rfl ⟨rfl, grown3 HG.out (Nat.le_refl _)⟩
set_option maxRecDepth 100000 in
set_option maxHeartbeats 2000000 in
theorem read_other (a R M T D c : ByteArray) (N K : Bool) (w : World) (h : Hid (ReadOk a R M T D c N K 0)) (hd : (if K then T else ⟨#[49]⟩) = D) (f1 : (c.toList == a.toList) = false) (f2 : (c.toList != a.toList) = true) :
    Calls Tryz.prog 32 #[.string a] w (ValPost (.tuple #[zeroR, .bool false]) w) := by
  subst hd
  unfold zeroR
  cases K
  all_goals
    go_enter Tryz.func32, Tryz.ntmps32
    go_wp2_with fail
    refine (h.out.cp _).mono ?_
    rintro e w' ⟨rfl, rfl⟩
    go_wp2_with fail
    refine (h.out.cut _).mono ?_
    rintro e w1 ⟨rfl, hg⟩
    have G1 := Lib.hid hg
    clear hg
    go_wp2_with fail
    refine (h.out.made _).mono ?_
    rintro e w2 ⟨rfl, hg⟩
    have G2 := Lib.hid (grown_trans G1.out hg)
    clear hg
    have hb := alloc_old G2.out
    have hc := trip hb
    have HG := Lib.hid (grown_trans (World.grownBy_alloc _ _ none) G2.out)
    clear hb G1 G2
    go_wp2
    exact bodyPost_ret (v := .tuple #[.agg #[.bool false, .string ⟨#[]⟩, .string ⟨#[]⟩], .bool false]) (by simp [results, Tryz.results32, go_sem, hc]) rfl ⟨rfl, grown3 HG.out (Nat.le_refl _)⟩
set_option maxRecDepth 100000 in
set_option maxHeartbeats 2000000 in
theorem read_same (a R M T D c : ByteArray) (N K : Bool) (w : World) (h : Hid (ReadOk a R M T D c N K 0)) (hd : (if K then T else ⟨#[49]⟩) = D) (f1 : (c.toList == a.toList) = true) :
    Calls Tryz.prog 32 #[.string a] w (ValPost (.tuple #[.agg #[.bool N, .string M, .string D], .bool true]) w) := by
  subst hd
  cases K
  all_goals
    go_enter Tryz.func32, Tryz.ntmps32
    go_wp2_with fail
    refine (h.out.cp _).mono ?_
    rintro e w' ⟨rfl, rfl⟩
    go_wp2_with fail
    refine (h.out.cut _).mono ?_
    rintro e w1 ⟨rfl, hg⟩
    have G1 := Lib.hid hg
    clear hg
    go_wp2_with fail
    refine (h.out.made _).mono ?_
    rintro e w2 ⟨rfl, hg⟩
    have G2 := Lib.hid (grown_trans G1.out hg)
    clear hg
    have hb := alloc_old G2.out
    have hc := trip hb
    have HG := Lib.hid (grown_trans (World.grownBy_alloc _ _ none) G2.out)
    clear hb G1 G2
    go_wp2
    exact bodyPost_ret (v := .tuple #[.agg #[.bool _, .string _, .string _], .bool true]) (by simp [results, Tryz.results32, go_sem, hc]) rfl ⟨rfl, grown3 HG.out (Nat.le_refl _)⟩

theorem read_make (neg : Bool) (num den : ByteArray) : ∃ c E, makeV neg num den = .tuple #[.string c, .int .i64 E] := by
  rcases makeV_cases neg num den with ⟨S, x, h, _⟩ | ⟨E, h, _⟩
  · exact ⟨_, _, h⟩
  · exact ⟨_, _, h⟩
theorem rest_size (a : ByteArray) : (restA a).length ≤ a.size := by
  unfold restA Lib.trimPrefix
  rw [Lib.size_eq]
  split
  · rw [List.length_drop]; omega
  · exact Nat.le_refl _
theorem cut_size (s : List UInt8) : (Lib.cut s [47]).1.length ≤ s.length ∧ (Lib.cut s [47]).2.1.length ≤ s.length := by
  unfold Lib.cut
  split
  · simp only [List.length_take, List.length_drop]; omega
  · simp
theorem list_size (l : List UInt8) : (⟨l.toArray⟩ : ByteArray).size = l.length := List.size_toArray
theorem readOk (a : ByteArray) (ha : a.size ≤ maxLen) (c : ByteArray) (E : Int) (h : makeV (negA a) (numA a) (denA a) = .tuple #[.string c, .int .i64 E]) :
    ReadOk a ⟨(restA a).toArray⟩ (numA a) (tailA a) (denA a) c (negA a) (strokeA a) E := by
  have hr := rest_size a
  have hc := cut_size (restA a)
  have h1 : (numA a).size ≤ maxLen := by unfold numA; rw [list_size]; omega
  have h2 : (denA a).size ≤ maxLen := by
    unfold denA
    split
    · unfold tailA; rw [list_size]; omega
    · decide
  refine ⟨fun w => ?_, fun w => ?_, fun w => ?_⟩
  · exact (Tryz.strings_CutPrefix a ⟨#[45]⟩ w).mono fun e w' ⟨h, k⟩ => ⟨h, k.symm⟩
  · have := cut_any ⟨(restA a).toArray⟩ w (by rw [list_size]; omega)
    exact this
  · rw [← h]; exact make_any _ _ _ w h1 h2

theorem bytes_ne {a c : ByteArray} : (c.toList == a.toList) = decide (c = a) := by
  rw [Bool.eq_iff_iff, decide_eq_true_eq, beq_iff_eq, Lib.toList_data, Lib.toList_data]
  constructor
  · intro h; exact ByteArray.ext (Array.ext' h)
  · rintro rfl; rfl

theorem read_yes {a : ByteArray} {x : Rat} (h : IsRat a x) (w : World) (ha : a.size ≤ maxLen) :
    Calls Tryz.prog 32 #[.string a] w (ValPost (.tuple #[ratV x, .bool true]) w) := by
  obtain ⟨h1, h2, h3, _⟩ := apart a x h.eq
  have := read_same a _ _ _ _ a _ _ w (Lib.hid (readOk a ha a 0 (makeV_rat h))) rfl (by simp)
  unfold ratV
  rw [h1, h2, h3] at this
  exact this
theorem read_no {a : ByteArray} (h : ∀ x, ¬ IsRat a x) (w : World) (ha : a.size ≤ maxLen) :
    Calls Tryz.prog 32 #[.string a] w (ValPost (.tuple #[zeroR, .bool false]) w) := by
  rcases makeV_cases (negA a) (numA a) (denA a) with ⟨S, x, hm, hS⟩ | ⟨E, hm, hE⟩
  · have hne : S ≠ a := fun e => h x (e ▸ hS)
    have f : (S.toList == a.toList) = false := by rw [bytes_ne]; simpa using hne
    exact read_other a _ _ _ _ S _ _ w (Lib.hid (readOk a ha S 0 hm)) rfl f (by rw [bne, f]; rfl)
  · have f : (E == 0) = false := by rcases hE with rfl | rfl <;> decide
    exact read_err a _ _ _ _ _ _ _ E w (Lib.hid (readOk a ha _ E hm)) rfl f (by rw [bne, f]; rfl)
end Go.Proofs.YthokjhlbbgfplaaGreatDoor
