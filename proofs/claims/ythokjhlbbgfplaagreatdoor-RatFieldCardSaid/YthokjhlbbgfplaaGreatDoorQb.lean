/- The helpers of rat: Cut at a stroke, times, text, reduce. -/
import Derived.Test.YthokjhlbbgfplaaGreatDoorQa
import Derived.Test.YthokjhlbbgfplaaGreatDoorPm
import Derived.Lib.CutLaws
import Derived.Shelf.Strings.Search2
set_option linter.unusedVariables false
set_option linter.unusedSimpArgs false
namespace Go.Proofs.YthokjhlbbgfplaaGreatDoor
open Go.RowKit
open Go.Lib (nDigits)

def cutV (s : ByteArray) : Value := .tuple #[.string ⟨(Lib.cut s.data.toList [47]).1.toArray⟩, .string ⟨(Lib.cut s.data.toList [47]).2.1.toArray⟩, .bool (Lib.cut s.data.toList [47]).2.2]
set_option maxRecDepth 100000 in
theorem slcut_any (s : ByteArray) (w : World) (hs : s.size ≤ maxLen) :
    Calls Tryz.prog 79 #[.string s, .string ⟨#[47]⟩] w (ValPost (cutV s) w) := by
  unfold maxLen at hs
  rcases Lib.indexB_cases s ⟨#[47]⟩ with hix | ⟨i, hix, hroom⟩
  · obtain ⟨e1, e2, e3⟩ := Lib.cutB_miss s ⟨#[47]⟩ hix
    have HV := Lib.hid (show cutV s = .tuple #[.string s, .string ⟨#[]⟩, .bool false] by unfold cutV; rw [show ([47] : List UInt8) = (⟨#[47]⟩ : ByteArray).data.toList from rfl, e1, e2, e3]; rfl)
    have hi : Lib.indexByte s.data.toList 47 = -1 := by rw [← Lib.index_one]; exact hix
    have hc := fun w => Tryz.stringslite_Index_one s 47 w
    rw [hi] at hc
    have HC := Lib.hid hc
    clear hix hi hc e1 e2 e3
    go_enter Tryz.func79, Tryz.ntmps79
    go_wp2_with fail
    refine (HC.out _).mono ?_
    rintro e w' ⟨rfl, rfl⟩
    go_wp2
    go_ret3
    exact ⟨by rw [HV.out]; rfl, grown_refl _ _⟩
  · obtain ⟨e1, e2, e3⟩ := Lib.cutB_hit s ⟨#[47]⟩ i hix
    have HV := Lib.hid (show cutV s = .tuple #[.string (s.extract 0 i), .string (s.extract (i + 1) s.size), .bool true] by unfold cutV; rw [show ([47] : List UInt8) = (⟨#[47]⟩ : ByteArray).data.toList from rfl, e1, e2, e3]; rfl)
    have hi : Lib.indexByte s.data.toList 47 = i := by rw [← Lib.index_one]; exact hix
    have hc := fun w => Tryz.stringslite_Index_one s 47 w
    rw [hi] at hc
    have HC := Lib.hid hc
    have hroom' : i + 1 ≤ s.size := hroom
    clear hix hi hc e1 e2 e3 hroom
    have c1 : (0 : Int) ≤ ↑i := by omega
    have c2 : (↑i : Int) ≤ ↑s.size := by omega
    have c3 : (0 : Int) ≤ ↑i + 1 := by omega
    have c4 : (↑i + 1 : Int) ≤ ↑s.size := by omega
    go_enter Tryz.func79, Tryz.ntmps79
    go_wp2_with fail
    refine (HC.out _).mono ?_
    rintro e w' ⟨rfl, rfl⟩
    go_wp2
    go_quiet (fail)
    go_wp2
    go_ret3
    exact ⟨by rw [HV.out]; rfl, grown_drewN _ _ _⟩

theorem cut_any (s : ByteArray) (w : World) (hs : s.size ≤ maxLen) :
    Calls Tryz.prog 57 #[.string s, .string ⟨#[47]⟩] w (ValPost (cutV s) w) := by
  have hc := fun w => slcut_any s w hs
  unfold cutV at hc ⊢
  obtain ⟨A, hA⟩ : ∃ A : ByteArray, (⟨(Lib.cut s.data.toList [47]).1.toArray⟩ : ByteArray) = A := ⟨_, rfl⟩
  obtain ⟨B, hB⟩ : ∃ B : ByteArray, (⟨(Lib.cut s.data.toList [47]).2.1.toArray⟩ : ByteArray) = B := ⟨_, rfl⟩
  obtain ⟨C, hC⟩ : ∃ C : Bool, (Lib.cut s.data.toList [47]).2.2 = C := ⟨_, rfl⟩
  rw [hA, hB, hC] at hc ⊢
  have HC := Lib.hid hc
  clear hc hA hB hC
  go_enter Tryz.func57, Tryz.ntmps57
  go_wp2_with fail
  refine (HC.out _).mono ?_
  rintro e w' ⟨rfl, hg⟩
  have HG := Lib.hid hg
  clear hg
  go_wp2
  go_ret3
  exact ⟨rfl, HG.out⟩

/-- A string against 1. -/
theorem one_str (n : Nat) : ((decS n).toList == [49]) = decide (n = 1) ∧ ((decS n).toList != [49]) = !decide (n = 1) := by
  have e : ((decS n).toList == [49]) = decide (n = 1) := by
    rw [Bool.eq_iff_iff, decide_eq_true_eq, beq_iff_eq, Lib.toList_data]
    constructor
    · intro h
      apply dec_inj
      rw [dec_one]
      unfold decS at h ⊢
      simp at h
      rw [h]
    · rintro rfl
      rw [dec_one]
  exact ⟨e, by rw [bne, e]⟩
theorem zero_str' (n : Nat) : ((decS n).toList == [48]) = decide (n = 0) ∧ ((decS n).toList != [48]) = !decide (n = 0) := by
  have e : ((decS n).toList == [48]) = decide (n = 0) := by
    rw [Bool.eq_iff_iff, decide_eq_true_eq, beq_iff_eq, Lib.toList_data]
    constructor
    · intro h
      apply dec_inj
      rw [dec_zero]
      unfold decS at h ⊢
      simp at h
      rw [h]
    · rintro rfl
      rw [dec_zero]
  exact ⟨e, by rw [bne, e]⟩

theorem mulV_dec (m n : Nat) (hm : nDigits m ≤ 1000) (hn : nDigits n ≤ 1000) (h : nDigits (m * n) ≤ 1000) : mulV (decS m) (decS n) = .tuple #[.string (decS (m * n)), .int .i64 0] :=
  mulV_lit _ _ _ (num_short m hm) (num_short n hn) (num_short _ h) (by rw [nv_dec, nv_dec, nv_dec])
theorem big_len (n : Nat) (h : nDigits n ≤ 1000) : (decS n).size ≤ maxLen := maxLen_ok (num_short n h)

theorem times_any (m n : Nat) (w : World) (hm : nDigits m ≤ 1000) (hn : nDigits n ≤ 1000) (h : nDigits (m * n) ≤ 1000) :
    Calls Tryz.prog 70 #[.string (decS m), .string (decS n)] w (ValPost (.string (decS (m * n))) w) := by
  have f1 := (one_str m).1
  have f2 := (one_str n).1
  by_cases h1 : m = 1
  · subst h1
    simp only [decide_true] at f1
    rw [Nat.one_mul]
    clear f2 h
    generalize decS 1 = A at *
    generalize decS n = B at *
    go_enter Tryz.func70, Tryz.ntmps70
    go_wp2
    go_ret
    exact ⟨rfl, grown_refl _ _⟩
  · simp only [h1, decide_false] at f1
    by_cases h2 : n = 1
    · subst h2
      simp only [decide_true] at f2
      rw [Nat.mul_one]
      clear h h1
      generalize decS 1 = B at *
      generalize decS m = A at *
      go_enter Tryz.func70, Tryz.ntmps70
      go_wp2
      go_ret
      exact ⟨rfl, grown_refl _ _⟩
    · simp only [h2, decide_false] at f2
      have hc := fun w => mul_any (decS m) (decS n) w (big_len m hm) (big_len n hn)
      rw [mulV_dec m n hm hn h] at hc
      generalize decS m = A at *
      generalize decS n = B at *
      generalize decS (m * n) = C at *
      have HC := Lib.hid hc
      clear hc h1 h2 h
      go_enter Tryz.func70, Tryz.ntmps70
      go_wp2_with fail
      refine (HC.out _).mono ?_
      rintro e w' ⟨rfl, hg⟩
      have HG := Lib.hid hg
      clear hg
      go_wp2
      go_ret
      exact ⟨rfl, HG.out⟩

theorem gcdV_dec (m n : Nat) (hm : nDigits m ≤ 1000) (hn : nDigits n ≤ 1000) : gcdV (decS m) (decS n) = .tuple #[.string (decS (Nat.gcd m n)), .int .i64 0] := by
  unfold gcdV
  rw [num_short m hm, num_short n hn, nv_dec, nv_dec]
  rfl
theorem divV_dec (m n : Nat) (hm : nDigits m ≤ 1000) (hn : nDigits n ≤ 1000) (h0 : n ≠ 0) : divV (decS m) (decS n) = .tuple #[.string (decS (m / n)), .string (decS (m % n)), .int .i64 0] := by
  unfold divV
  rw [num_short m hm, num_short n hn, nv_dec, nv_dec]
  simp only [Bool.and_self, if_true]
  rw [if_neg h0]

/-- The cells of a number that lies in a block of its own. -/
theorem trip {w : World} {g : Nat} {a b c : Value} (h : w.heap[g]? = some (.cells #[a, b, c] 42 (0, 0))) :
    w.cell? ⟨g, 0, none⟩ = some a ∧ w.cell? ⟨g, 1, none⟩ = some b ∧ w.cell? ⟨g, 2, none⟩ = some c ∧ w.frozen? ⟨g, 0, none⟩ = false ∧ w.frozen? ⟨g, 1, none⟩ = false ∧ w.frozen? ⟨g, 2, none⟩ = false :=
  ⟨by rw [cell_of_row w g 0 _ _ (0, 0) h]; rfl, by rw [cell_of_row w g 1 _ _ (0, 0) h]; rfl, by rw [cell_of_row w g 2 _ _ (0, 0) h]; rfl, frozen_of_row w g 0 _ _ h, frozen_of_row w g 1 _ _ h, frozen_of_row w g 2 _ _ h⟩
theorem grown3 {w w1 : World} {g : Nat} {a b c : Value} (h : w.grownBy w1 none) (hg : w.heap.size ≤ g) : w.grownBy (((w1.setCell ⟨g, 0, none⟩ a).setCell ⟨g, 1, none⟩ b).setCell ⟨g, 2, none⟩ c) none :=
  grown_step (grown_step (grown_step h (grown_setCell w1 ⟨g, 0, none⟩ a) hg) (grown_setCell _ ⟨g, 1, none⟩ b) hg) (grown_setCell _ ⟨g, 2, none⟩ c) hg
/-- What the walk of reduce asks of its sign: decided ahead. -/
theorem ne_facts {A : ByteArray} {c : Bool} (f : (A.toList != [48]) = c) : (A.toList == [48]) = !c := by
  rw [← f, bne, Bool.not_not]

set_option maxRecDepth 100000 in
set_option maxHeartbeats 1000000 in
theorem reduce_same1 (neg b c : Bool) (A B : ByteArray) (w : World) (f0 : (A.toList != [48]) = c) (hb : (neg && c) = b) (f1 : (B.toList == [49]) = true) :
    Calls Tryz.prog 38 #[.bool neg, .string A, .string B] w (ValPost (.agg #[.bool b, .string A, .string B]) w) := by
  have f00 := ne_facts f0
  subst hb
  cases neg <;> cases c <;> simp only [Bool.not_true, Bool.not_false] at f00
  all_goals
    go_enter Tryz.func38, Tryz.ntmps38
    go_wp2
    exact bodyPost_ret (v := .agg #[.bool _, .string A, .string B]) (by simp [results, Tryz.results38, go_sem]) rfl ⟨rfl, World.grownBy_alloc _ _ _⟩

set_option maxRecDepth 100000 in
set_option maxHeartbeats 2000000 in
theorem reduce_same2 (neg b c : Bool) (A B G : ByteArray) (w : World) (f0 : (A.toList != [48]) = c) (hb : (neg && c) = b) (f1 : (B.toList == [49]) = false) (f2 : (G.toList == [49]) = true)
    (C : Hid (∀ w, Calls Tryz.prog 59 #[.string A, .string B] w (ValPost (.tuple #[.string G, .int .i64 0]) w))) :
    Calls Tryz.prog 38 #[.bool neg, .string A, .string B] w (ValPost (.agg #[.bool b, .string A, .string B]) w) := by
  have f00 := ne_facts f0
  subst hb
  cases neg <;> cases c <;> simp only [Bool.not_true, Bool.not_false] at f00
  all_goals
    go_enter Tryz.func38, Tryz.ntmps38
    go_wp2_with fail
    refine (C.out _).mono ?_
    rintro e w1 ⟨rfl, hg⟩
    have hb := alloc_old hg
    have hc := trip hb
    have G1 := Lib.hid (grown_trans (World.grownBy_alloc _ _ none) hg); have HB := Lib.hid hb
    clear hg hb
    go_wp2
    exact bodyPost_ret (v := .agg #[.bool _, .string A, .string B]) (by simp [results, Tryz.results38, go_sem, hc]) rfl ⟨rfl, grown3 G1.out (Nat.le_refl _)⟩
set_option maxRecDepth 100000 in
set_option maxHeartbeats 2000000 in
theorem reduce_div (neg b c : Bool) (A B G Q1 R1 Q2 R2 : ByteArray) (w : World) (f0 : (A.toList != [48]) = c) (hb : (neg && c) = b) (f1 : (B.toList == [49]) = false) (f2 : (G.toList == [49]) = false)
    (C : Hid (∀ w, Calls Tryz.prog 59 #[.string A, .string B] w (ValPost (.tuple #[.string G, .int .i64 0]) w)))
    (D1 : Hid (∀ w, Calls Tryz.prog 60 #[.string A, .string G] w (ValPost (.tuple #[.string Q1, .string R1, .int .i64 0]) w)))
    (D2 : Hid (∀ w, Calls Tryz.prog 60 #[.string B, .string G] w (ValPost (.tuple #[.string Q2, .string R2, .int .i64 0]) w))) :
    Calls Tryz.prog 38 #[.bool neg, .string A, .string B] w (ValPost (.agg #[.bool b, .string Q1, .string Q2]) w) := by
  have f00 := ne_facts f0
  subst hb
  cases neg <;> cases c <;> simp only [Bool.not_true, Bool.not_false] at f00
  all_goals
    go_enter Tryz.func38, Tryz.ntmps38
    go_wp2_with fail
    refine (C.out _).mono ?_
    rintro e w1 ⟨rfl, hg⟩
    have hb := alloc_old hg
    have G1 := Lib.hid (grown_trans (World.grownBy_alloc _ _ none) hg); have HB := Lib.hid hb
    clear hg hb
    go_wp2_with fail
    refine (D1.out _).mono ?_
    rintro e w2 ⟨rfl, hg⟩
    have G2 := Lib.hid hg
    clear hg
    go_wp2_with fail
    refine (D2.out _).mono ?_
    rintro e w3 ⟨rfl, hg⟩
    have G3 := Lib.hid (grown_trans G2.out hg)
    clear hg
    have hlt := lt_of_block HB.out
    have hc := trip ((G3.out.block _ hlt (by simp)).trans HB.out)
    clear hlt
    go_wp2
    exact bodyPost_ret (v := .agg #[.bool _, .string Q1, .string Q2]) (by simp [results, Tryz.results38, go_sem, hc]) rfl ⟨rfl, grown3 (grown_trans G1.out G3.out) (Nat.le_refl _)⟩

theorem reduce_any (neg : Bool) (n d : Nat) (w : World) (hd : d ≠ 0) (hn : nDigits n ≤ 1000) (hdd : nDigits d ≤ 1000) :
    Calls Tryz.prog 38 #[.bool neg, .string (decS n), .string (decS d)] w (ValPost (ratV (mkRat (sg neg n) d)) w) := by
  have f0 := (zero_str' n).2
  have f1 := (one_str d).1
  have hg0 : Nat.gcd n d ≠ 0 := by have := Nat.gcd_pos_of_pos_right n (Nat.pos_of_ne_zero hd); omega
  have hgl : Nat.gcd n d ≤ d := Nat.le_of_dvd (Nat.pos_of_ne_zero hd) (Nat.gcd_dvd_right n d)
  have hgd : nDigits (Nat.gcd n d) ≤ 1000 := Nat.le_trans (nDigits_mono hgl) hdd
  rw [ratV_mk neg n d hd]
  by_cases h1 : d = 1
  · subst h1
    rw [Nat.gcd_one_right, Nat.div_one, Nat.div_one]
    exact reduce_same1 neg _ _ _ _ w f0 rfl (by simpa using f1)
  · have hc := fun w => gcd_any (decS n) (decS d) w (big_len n hn) (big_len d hdd)
    rw [gcdV_dec n d hn hdd] at hc
    have f2 := (one_str (Nat.gcd n d)).1
    have f1' : ((decS d).toList == [49]) = false := by rw [f1]; simpa using h1
    by_cases h2 : Nat.gcd n d = 1
    · rw [h2] at f2 hc ⊢
      rw [Nat.div_one, Nat.div_one]
      exact reduce_same2 neg _ _ _ _ _ w f0 rfl f1' (by simpa using f2) (Lib.hid hc)
    · have hd1 := fun w => div_any (decS n) (decS (Nat.gcd n d)) w (big_len n hn) (big_len _ hgd)
      have hd2 := fun w => div_any (decS d) (decS (Nat.gcd n d)) w (big_len d hdd) (big_len _ hgd)
      rw [divV_dec n _ hn hgd hg0] at hd1
      rw [divV_dec d _ hdd hgd hg0] at hd2
      exact reduce_div neg _ _ _ _ _ _ _ _ _ w f0 rfl f1' (by rw [f2]; simpa using h2) (Lib.hid hc) (Lib.hid hd1) (Lib.hid hd2)
end Go.Proofs.YthokjhlbbgfplaaGreatDoor
