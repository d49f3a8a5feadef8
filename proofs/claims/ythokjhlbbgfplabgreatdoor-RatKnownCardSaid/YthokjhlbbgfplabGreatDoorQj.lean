/- areDigits, natural, numeral: a numeral taken apart. · Valid, Parts, Cmp, Neg, Parse. · numeral, Parse, by contract. -/
import Derived.Test.YthokjhlbbgfplabGreatDoorQa
import Derived.Test.YthokjhlbbgfplabGreatDoorPm
import Derived.Lib.TrimByte
import Derived.BigQuiet
import Derived.Test.YthokjhlbbgfplabGreatDoorQh
set_option linter.unusedVariables false
set_option linter.unusedSimpArgs false
namespace Go.Proofs.YthokjhlbbgfplabGreatDoor
open Go.RowKit
open Go.Lib (nDigits decDigits)

theorem digL_no (s : ByteArray) (k : Nat) (hk : k < s.size) (h : isDg s[k] = false) : digL s.data.toList = false := by
  rw [← Bool.not_eq_true]; intro hd
  have hm : s[k] ∈ s.data.toList := by
    rw [List.mem_iff_getElem]
    exact ⟨k, by simpa using hk, rfl⟩
  have := List.all_eq_true.1 (digL_all hd).1 _ hm
  rw [h] at this; cases this
theorem digL_yes (s : ByteArray) (h0 : 1 ≤ s.size) (h : ∀ k (hk : k < s.size), isDg s[k] = true) : digL s.data.toList = true := by
  refine digL_of (all_dg s h) ?_
  intro e
  have := Lib.size_eq s
  rw [e, List.length_nil] at this
  omega
theorem digL_size0 (s : ByteArray) (h0 : s.size = 0) : digL s.data.toList = false := by
  have := Lib.size_eq s
  rw [h0] at this
  rw [List.eq_nil_of_length_eq_zero this.symm]
  rfl
theorem ne_empty (s : ByteArray) (h : 1 ≤ s.size) : (!s.toList.isEmpty) = true := by rw [empty_false s h]; rfl

set_option maxHeartbeats 1000000 in
theorem areDigits_any (s : ByteArray) (w : World) (hs : s.size ≤ maxLen) :
    Calls Tryz.prog 28 #[.string s] w fun e w' => e = .returned (.bool (digL s.data.toList)) ∧ w = w' := by
  unfold maxLen at hs
  go_enter Tryz.func28, Tryz.ntmps28
  go_wp2
  go_loop [6] (fun i => ∃ k : Nat, i = .int .i64 k ∧ k ≤ s.size ∧ ∀ j (hj : j < s.size), j < k → isDg s[j] = true) (fun i => s.size - (intOf i).toNat)
  case atStart => exact ⟨0, rfl, by omega, fun j hj h => by omega⟩
  case round =>
    obtain ⟨k, rfl, hk, hall⟩ := hrel
    have HALL := Lib.hid hall
    clear hall
    by_cases hlt : k < s.size
    · by_cases hd : (48 : Int) ≤ (s[k].toNat : Int)
      · by_cases hd2 : (s[k].toNat : Int) ≤ 57
        · have HN := Lib.hid (isDg_of s[k] hd hd2)
          go_wp2
          go_round
          case rel => exact ⟨k + 1, by go_num, by omega, fun j hj h => by
            by_cases e : j = k
            · subst e; exact HN.out
            · exact HALL.out j hj (by omega)⟩
          case measure => simp [intOf]; omega
        · have HN := Lib.hid (digL_no s k hlt (isDg_no s[k] (.inr (by omega))))
          go_wp2
          go_ret
          exact ⟨by rw [HN.out]; rfl, rfl⟩
      · have HN := Lib.hid (digL_no s k hlt (isDg_no s[k] (.inl (by omega))))
        go_wp2
        go_ret
        exact ⟨by rw [HN.out]; rfl, rfl⟩
    · by_cases h0 : s.size = 0
      · have HN := Lib.hid (digL_size0 s h0)
        have e0 : s.toList.isEmpty = true := by
          rw [Lib.toList_data, List.isEmpty_iff_length_eq_zero, ← Lib.size_eq]; exact h0
        go_wp2
        go_ret
        exact ⟨by rw [HN.out]; rfl, rfl⟩
      · have hne := empty_false s (by omega)
        have HN := Lib.hid (digL_yes s (by omega) (fun j hj => HALL.out j hj (by omega)))
        go_wp2
        go_ret
        exact ⟨by rw [HN.out]; rfl, rfl⟩

/-- Digits without the zeros in front, as natural returns them. -/
def natB (s : ByteArray) : ByteArray := if Lib.trimLeftB s.data.toList 48 = [] then ⟨#[48]⟩ else ⟨(Lib.trimLeftB s.data.toList 48).toArray⟩
theorem natB_dec (s : ByteArray) (h : s.data.toList.all isDg = true) : natB s = decS (dval s.data.toList) := by
  unfold natB decS Lib.trimLeftB
  rw [dec_natural _ h]
  split
  · rfl
  · rfl
theorem list_empty (l : List UInt8) : (⟨l.toArray⟩ : ByteArray).toList.isEmpty = decide (l = []) := by
  rw [Lib.toList_data]
  cases l <;> simp
theorem natural_any (s : ByteArray) (w : World) :
    Calls Tryz.prog 27 #[.string s] w fun e w' => e = .returned (.string (natB s)) ∧ w = w' := by
  have ht := fun w => Tryz.strings_TrimLeft_one s 48 (by decide) w
  have he := list_empty (Lib.trimLeftB s.data.toList 48)
  have HN := Lib.hid (show natB s = if decide (Lib.trimLeftB s.data.toList 48 = []) then ⟨#[48]⟩ else ⟨(Lib.trimLeftB s.data.toList 48).toArray⟩ by unfold natB; simp)
  generalize Lib.trimLeftB s.data.toList 48 = L at *
  generalize decide (L = []) = d at *
  generalize (⟨L.toArray⟩ : ByteArray) = B at *
  have HT := Lib.hid ht
  clear ht
  cases d
  all_goals
    go_enter Tryz.func27, Tryz.ntmps27
    go_wp2_with fail
    refine (HT.out _).mono ?_
    rintro e w' ⟨rfl, rfl⟩
    go_wp2
    go_ret
    exact ⟨by rw [HN.out]; rfl, rfl⟩

/-- What numeral's calls return: R without the sign, N: is there one? z: the place of the first stroke or point. -/
structure NumCalls (a R : ByteArray) (N : Bool) (z : Int) : Prop where
  cp : ∀ w, Calls Tryz.prog 25 #[.string a, .string ⟨#[45]⟩] w fun e w' => e = .returned (.tuple #[.string R, .bool N]) ∧ w = w'
  ix : ∀ w, Calls Tryz.prog 26 #[.string R, .string ⟨#[47, 46]⟩] w (ValPost (.int .i64 z) w)
def DigOk (s : ByteArray) (b : Bool) : Prop := ∀ w, Calls Tryz.prog 28 #[.string s] w fun e w' => e = .returned (.bool b) ∧ w = w'
def NatOk (s S : ByteArray) : Prop := ∀ w, Calls Tryz.prog 27 #[.string s] w fun e w' => e = .returned (.string S) ∧ w = w'

set_option maxRecDepth 100000 in
set_option maxHeartbeats 1000000 in
theorem numeral_whole (a R S : ByteArray) (N b : Bool) (w : World) (h : Hid (NumCalls a R N (-1))) (D : Hid (DigOk R b)) (M : Hid (NatOk R S)) :
    Calls Tryz.prog 12 #[.string a] w (ValPost (.tuple #[.bool N, .string S, .string ⟨#[49]⟩, .bool b]) w) := by
  go_enter Tryz.func12, Tryz.ntmps12
  go_wp2_with fail
  refine (h.out.cp _).mono ?_
  rintro e w' ⟨rfl, rfl⟩
  go_wp2_with fail
  refine (h.out.ix _).mono ?_
  rintro e w1 ⟨rfl, hg⟩
  have G1 := Lib.hid hg
  clear hg
  go_wp2_with fail
  refine (M.out _).mono ?_
  rintro e w' ⟨rfl, rfl⟩
  go_wp2_with fail
  refine (D.out _).mono ?_
  rintro e w' ⟨rfl, rfl⟩
  go_wp2
  exact bodyPost_ret (v := .tuple #[.bool _, .string _, .string _, .bool _]) (by simp [results, Tryz.results12, go_sem]) rfl ⟨rfl, G1.out⟩
set_option maxRecDepth 100000 in
set_option maxHeartbeats 1000000 in
theorem numeral_point_true (a R H T S Z : ByteArray) (N b2 : Bool) (i : Nat) (w : World) (h : Hid (NumCalls a R N i)) (hi : i < R.size) (hR : R.size ≤ 1200)
    (hc : ((R[i]'hi).toNat : Int) = 46) (eH : R.extract 0 i = H) (eT : R.extract (i + 1) R.size = T) (hT : T.size ≤ 1200) (hH : H.size ≤ 1200)
    (D1 : Hid (DigOk H true)) (D2 : Hid (DigOk T b2)) (M : Hid (NatOk (H ++ T) S)) (hZ : Z.size ≤ 1200)
    (Q : Hid (∀ w, Calls Tryz.prog 29 #[.string ⟨#[48]⟩, .int .i64 T.size] w (ValPost (.string Z) w))) :
    Calls Tryz.prog 12 #[.string a] w (ValPost (.tuple #[.bool N, .string S, .string (⟨#[49]⟩ ++ Z), .bool b2]) w) := by
  have c1 : (0 : Int) ≤ (i : Int) := by omega
  have c2 : (i : Int) ≤ (R.size : Int) := by omega
  have c3 : (0 : Int) ≤ (i : Int) + 1 := by omega
  have c4 : (i : Int) + 1 ≤ (R.size : Int) := by omega
  have c5 : ¬ (i : Int) < 0 := by omega
  have c6 : (i : Int) < (R.size : Int) := by omega
  cases b2
  all_goals
    go_enter Tryz.func12, Tryz.ntmps12
    go_wp2_with fail
    refine (h.out.cp _).mono ?_
    rintro e w' ⟨rfl, rfl⟩
    go_wp2_with fail
    refine (h.out.ix _).mono ?_
    rintro e w1 ⟨rfl, hg⟩
    have G1 := Lib.hid hg
    clear hg
    go_wp2_with fail
    go_quiet (fail)
    go_wp2_with fail
    refine (D1.out _).mono ?_
    rintro e w' ⟨rfl, rfl⟩
    go_wp2_with fail
    refine (D2.out _).mono ?_
    rintro e w' ⟨rfl, rfl⟩
    go_wp2_with fail
    refine (M.out _).mono ?_
    rintro e w' ⟨rfl, rfl⟩
    go_wp2_with fail
    refine (Q.out _).mono ?_
    rintro e w2 ⟨rfl, hg⟩
    have G2 := Lib.hid (grown_trans G1.out (grown_trans (grown_drewN _ _ _) hg))
    clear hg
    go_wp2
    exact bodyPost_ret (v := .tuple #[.bool _, .string _, .string _, .bool _]) (by simp [results, Tryz.results12, go_sem]) rfl ⟨rfl, G2.out⟩
set_option maxRecDepth 100000 in
set_option maxHeartbeats 1000000 in
theorem numeral_stroke_true_true (a R H T S Z : ByteArray) (N b2 : Bool) (i : Nat) (w : World) (h : Hid (NumCalls a R N i)) (hi : i < R.size) (hR : R.size ≤ 1200)
    (hc : ¬ ((R[i]'hi).toNat : Int) = 46) (eH : R.extract 0 i = H) (eT : R.extract (i + 1) R.size = T) (hT : T.size ≤ 1200) (hH : H.size ≤ 1200)
    (D1 : Hid (DigOk H true)) (D2 : Hid (DigOk T b2)) (M : Hid (NatOk H S)) (M2 : Hid (NatOk T Z)) (f1 : (Z.toList == [48]) = true) (f2 : (Z.toList != [48]) = false) :
    Calls Tryz.prog 12 #[.string a] w (ValPost (.tuple #[.bool N, .string S, .string Z, .bool false]) w) := by
  have c1 : (0 : Int) ≤ (i : Int) := by omega
  have c2 : (i : Int) ≤ (R.size : Int) := by omega
  have c3 : (0 : Int) ≤ (i : Int) + 1 := by omega
  have c4 : (i : Int) + 1 ≤ (R.size : Int) := by omega
  have c5 : ¬ (i : Int) < 0 := by omega
  have c6 : (i : Int) < (R.size : Int) := by omega
  cases b2
  all_goals
    go_enter Tryz.func12, Tryz.ntmps12
    go_wp2_with fail
    refine (h.out.cp _).mono ?_
    rintro e w' ⟨rfl, rfl⟩
    go_wp2_with fail
    refine (h.out.ix _).mono ?_
    rintro e w1 ⟨rfl, hg⟩
    have G1 := Lib.hid hg
    clear hg
    go_wp2_with fail
    go_quiet (fail)
    go_wp2_with fail
    refine (D1.out _).mono ?_
    rintro e w' ⟨rfl, rfl⟩
    go_wp2_with fail
    refine (D2.out _).mono ?_
    rintro e w' ⟨rfl, rfl⟩
    go_wp2_with fail
    refine (M2.out _).mono ?_
    rintro e w' ⟨rfl, rfl⟩
    go_wp2_with fail
    refine (M.out _).mono ?_
    rintro e w' ⟨rfl, rfl⟩
    go_wp2
    exact bodyPost_ret (v := .tuple #[.bool _, .string _, .string _, .bool _]) (by simp [results, Tryz.results12, go_sem]) rfl ⟨rfl, grown_trans G1.out (grown_drewN _ _ _)⟩
set_option maxRecDepth 100000 in
set_option maxHeartbeats 1000000 in
theorem numeral_stroke_true_false (a R H T S Z : ByteArray) (N b2 : Bool) (i : Nat) (w : World) (h : Hid (NumCalls a R N i)) (hi : i < R.size) (hR : R.size ≤ 1200)
    (hc : ¬ ((R[i]'hi).toNat : Int) = 46) (eH : R.extract 0 i = H) (eT : R.extract (i + 1) R.size = T) (hT : T.size ≤ 1200) (hH : H.size ≤ 1200)
    (D1 : Hid (DigOk H true)) (D2 : Hid (DigOk T b2)) (M : Hid (NatOk H S)) (M2 : Hid (NatOk T Z)) (f1 : (Z.toList == [48]) = false) (f2 : (Z.toList != [48]) = true) :
    Calls Tryz.prog 12 #[.string a] w (ValPost (.tuple #[.bool N, .string S, .string Z, .bool b2]) w) := by
  have c1 : (0 : Int) ≤ (i : Int) := by omega
  have c2 : (i : Int) ≤ (R.size : Int) := by omega
  have c3 : (0 : Int) ≤ (i : Int) + 1 := by omega
  have c4 : (i : Int) + 1 ≤ (R.size : Int) := by omega
  have c5 : ¬ (i : Int) < 0 := by omega
  have c6 : (i : Int) < (R.size : Int) := by omega
  cases b2
  all_goals
    go_enter Tryz.func12, Tryz.ntmps12
    go_wp2_with fail
    refine (h.out.cp _).mono ?_
    rintro e w' ⟨rfl, rfl⟩
    go_wp2_with fail
    refine (h.out.ix _).mono ?_
    rintro e w1 ⟨rfl, hg⟩
    have G1 := Lib.hid hg
    clear hg
    go_wp2_with fail
    go_quiet (fail)
    go_wp2_with fail
    refine (D1.out _).mono ?_
    rintro e w' ⟨rfl, rfl⟩
    go_wp2_with fail
    refine (D2.out _).mono ?_
    rintro e w' ⟨rfl, rfl⟩
    go_wp2_with fail
    refine (M2.out _).mono ?_
    rintro e w' ⟨rfl, rfl⟩
    go_wp2_with fail
    refine (M.out _).mono ?_
    rintro e w' ⟨rfl, rfl⟩
    go_wp2
    exact bodyPost_ret (v := .tuple #[.bool _, .string _, .string _, .bool _]) (by simp [results, Tryz.results12, go_sem]) rfl ⟨rfl, grown_trans G1.out (grown_drewN _ _ _)⟩
set_option maxRecDepth 100000 in
set_option maxHeartbeats 1000000 in
theorem numeral_point_false (a R H T S Z : ByteArray) (N b2 : Bool) (i : Nat) (w : World) (h : Hid (NumCalls a R N i)) (hi : i < R.size) (hR : R.size ≤ 1200)
    (hc : ((R[i]'hi).toNat : Int) = 46) (eH : R.extract 0 i = H) (eT : R.extract (i + 1) R.size = T) (hT : T.size ≤ 1200) (hH : H.size ≤ 1200)
    (D1 : Hid (DigOk H false)) (D2 : Hid (DigOk T b2)) (M : Hid (NatOk (H ++ T) S)) (hZ : Z.size ≤ 1200)
    (Q : Hid (∀ w, Calls Tryz.prog 29 #[.string ⟨#[48]⟩, .int .i64 T.size] w (ValPost (.string Z) w))) :
    Calls Tryz.prog 12 #[.string a] w (ValPost (.tuple #[.bool N, .string S, .string (⟨#[49]⟩ ++ Z), .bool false]) w) := by
  have c1 : (0 : Int) ≤ (i : Int) := by omega
  have c2 : (i : Int) ≤ (R.size : Int) := by omega
  have c3 : (0 : Int) ≤ (i : Int) + 1 := by omega
  have c4 : (i : Int) + 1 ≤ (R.size : Int) := by omega
  have c5 : ¬ (i : Int) < 0 := by omega
  have c6 : (i : Int) < (R.size : Int) := by omega
  cases b2
  all_goals
    go_enter Tryz.func12, Tryz.ntmps12
    go_wp2_with fail
    refine (h.out.cp _).mono ?_
    rintro e w' ⟨rfl, rfl⟩
    go_wp2_with fail
    refine (h.out.ix _).mono ?_
    rintro e w1 ⟨rfl, hg⟩
    have G1 := Lib.hid hg
    clear hg
    go_wp2_with fail
    go_quiet (fail)
    go_wp2_with fail
    refine (D1.out _).mono ?_
    rintro e w' ⟨rfl, rfl⟩
    go_wp2_with fail
    refine (M.out _).mono ?_
    rintro e w' ⟨rfl, rfl⟩
    go_wp2_with fail
    refine (Q.out _).mono ?_
    rintro e w2 ⟨rfl, hg⟩
    have G2 := Lib.hid (grown_trans G1.out (grown_trans (grown_drewN _ _ _) hg))
    clear hg
    go_wp2
    exact bodyPost_ret (v := .tuple #[.bool _, .string _, .string _, .bool _]) (by simp [results, Tryz.results12, go_sem]) rfl ⟨rfl, G2.out⟩
set_option maxRecDepth 100000 in
set_option maxHeartbeats 1000000 in
theorem numeral_stroke_false_true (a R H T S Z : ByteArray) (N b2 : Bool) (i : Nat) (w : World) (h : Hid (NumCalls a R N i)) (hi : i < R.size) (hR : R.size ≤ 1200)
    (hc : ¬ ((R[i]'hi).toNat : Int) = 46) (eH : R.extract 0 i = H) (eT : R.extract (i + 1) R.size = T) (hT : T.size ≤ 1200) (hH : H.size ≤ 1200)
    (D1 : Hid (DigOk H false)) (D2 : Hid (DigOk T b2)) (M : Hid (NatOk H S)) (M2 : Hid (NatOk T Z)) (f1 : (Z.toList == [48]) = true) (f2 : (Z.toList != [48]) = false) :
    Calls Tryz.prog 12 #[.string a] w (ValPost (.tuple #[.bool N, .string S, .string Z, .bool false]) w) := by
  have c1 : (0 : Int) ≤ (i : Int) := by omega
  have c2 : (i : Int) ≤ (R.size : Int) := by omega
  have c3 : (0 : Int) ≤ (i : Int) + 1 := by omega
  have c4 : (i : Int) + 1 ≤ (R.size : Int) := by omega
  have c5 : ¬ (i : Int) < 0 := by omega
  have c6 : (i : Int) < (R.size : Int) := by omega
  cases b2
  all_goals
    go_enter Tryz.func12, Tryz.ntmps12
    go_wp2_with fail
    refine (h.out.cp _).mono ?_
    rintro e w' ⟨rfl, rfl⟩
    go_wp2_with fail
    refine (h.out.ix _).mono ?_
    rintro e w1 ⟨rfl, hg⟩
    have G1 := Lib.hid hg
    clear hg
    go_wp2_with fail
    go_quiet (fail)
    go_wp2_with fail
    refine (D1.out _).mono ?_
    rintro e w' ⟨rfl, rfl⟩
    go_wp2_with fail
    refine (M2.out _).mono ?_
    rintro e w' ⟨rfl, rfl⟩
    go_wp2_with fail
    refine (M.out _).mono ?_
    rintro e w' ⟨rfl, rfl⟩
    go_wp2
    exact bodyPost_ret (v := .tuple #[.bool _, .string _, .string _, .bool _]) (by simp [results, Tryz.results12, go_sem]) rfl ⟨rfl, grown_trans G1.out (grown_drewN _ _ _)⟩
set_option maxRecDepth 100000 in
set_option maxHeartbeats 1000000 in
theorem numeral_stroke_false_false (a R H T S Z : ByteArray) (N b2 : Bool) (i : Nat) (w : World) (h : Hid (NumCalls a R N i)) (hi : i < R.size) (hR : R.size ≤ 1200)
    (hc : ¬ ((R[i]'hi).toNat : Int) = 46) (eH : R.extract 0 i = H) (eT : R.extract (i + 1) R.size = T) (hT : T.size ≤ 1200) (hH : H.size ≤ 1200)
    (D1 : Hid (DigOk H false)) (D2 : Hid (DigOk T b2)) (M : Hid (NatOk H S)) (M2 : Hid (NatOk T Z)) (f1 : (Z.toList == [48]) = false) (f2 : (Z.toList != [48]) = true) :
    Calls Tryz.prog 12 #[.string a] w (ValPost (.tuple #[.bool N, .string S, .string Z, .bool false]) w) := by
  have c1 : (0 : Int) ≤ (i : Int) := by omega
  have c2 : (i : Int) ≤ (R.size : Int) := by omega
  have c3 : (0 : Int) ≤ (i : Int) + 1 := by omega
  have c4 : (i : Int) + 1 ≤ (R.size : Int) := by omega
  have c5 : ¬ (i : Int) < 0 := by omega
  have c6 : (i : Int) < (R.size : Int) := by omega
  cases b2
  all_goals
    go_enter Tryz.func12, Tryz.ntmps12
    go_wp2_with fail
    refine (h.out.cp _).mono ?_
    rintro e w' ⟨rfl, rfl⟩
    go_wp2_with fail
    refine (h.out.ix _).mono ?_
    rintro e w1 ⟨rfl, hg⟩
    have G1 := Lib.hid hg
    clear hg
    go_wp2_with fail
    go_quiet (fail)
    go_wp2_with fail
    refine (D1.out _).mono ?_
    rintro e w' ⟨rfl, rfl⟩
    go_wp2_with fail
    refine (M2.out _).mono ?_
    rintro e w' ⟨rfl, rfl⟩
    go_wp2_with fail
    refine (M.out _).mono ?_
    rintro e w' ⟨rfl, rfl⟩
    go_wp2
    exact bodyPost_ret (v := .tuple #[.bool _, .string _, .string _, .bool _]) (by simp [results, Tryz.results12, go_sem]) rfl ⟨rfl, grown_trans G1.out (grown_drewN _ _ _)⟩
end Go.Proofs.YthokjhlbbgfplabGreatDoor
set_option linter.unusedVariables false
set_option linter.unusedSimpArgs false
namespace Go.Proofs.YthokjhlbbgfplabGreatDoor
open Go.RowKit
open Go.Lib (nDigits decDigits)

def ReadsTo (a : ByteArray) (b : Bool) (A B : ByteArray) (k : Bool) : Prop := ∀ w, Calls Tryz.prog 13 #[.string a] w (ValPost (.tuple #[.agg #[.bool b, .string A, .string B], .bool k]) w)

set_option maxRecDepth 100000 in
set_option maxHeartbeats 1000000 in
theorem valid_walk (a : ByteArray) (b : Bool) (A B : ByteArray) (k : Bool) (w : World) (R : Hid (ReadsTo a b A B k)) :
    Calls Tryz.prog 6 #[.string a] w (ValPost (.bool k) w) := by
  go_enter Tryz.func6, Tryz.ntmps6
  go_wp2_with fail
  refine (R.out _).mono ?_
  rintro e w1 ⟨rfl, hg⟩
  have G1 := Lib.hid hg
  clear hg
  go_wp2
  go_ret
  exact ⟨rfl, G1.out⟩
set_option maxRecDepth 100000 in
set_option maxHeartbeats 1000000 in
theorem parts_walk (a : ByteArray) (b : Bool) (A B : ByteArray) (k : Bool) (w : World) (R : Hid (ReadsTo a b A B k)) :
    Calls Tryz.prog 23 #[.string a] w (ValPost (.tuple #[.bool b, .string A, .string B, .bool k]) w) := by
  go_enter Tryz.func23, Tryz.ntmps23
  go_wp2_with fail
  refine (R.out _).mono ?_
  rintro e w1 ⟨rfl, hg⟩
  have G1 := Lib.hid hg
  clear hg
  go_wp2_with fail
  go_quiet (fail)
  go_wp2
  exact bodyPost_ret (v := .tuple #[.bool _, .string _, .string _, .bool _]) (by simp [results, Tryz.results23, go_sem]) rfl ⟨rfl, grown_trans G1.out (grown_trans (World.grownBy_alloc _ _ none) (grown_drewN _ _ _))⟩
set_option maxRecDepth 100000 in
set_option maxHeartbeats 1000000 in
theorem cmp_no (a b : ByteArray) (b1 b2 k1 k2 : Bool) (A B C D : ByteArray) (w : World) (hk : (k1 && k2) = false) (R1 : Hid (ReadsTo a b1 A B k1)) (R2 : Hid (ReadsTo b b2 C D k2)) :
    Calls Tryz.prog 24 #[.string a, .string b] w (ValPost (.int .i64 0) w) := by
  cases k1 <;> cases k2 <;> simp only [Bool.and_self, Bool.and_true, Bool.true_and, Bool.true_eq_false] at hk
  all_goals
    go_enter Tryz.func24, Tryz.ntmps24
    go_wp2_with fail
    refine (R1.out _).mono ?_
    rintro e w1 ⟨rfl, hg⟩
    have G1 := Lib.hid hg
    clear hg
    go_wp2_with fail
    refine (R2.out _).mono ?_
    rintro e w2 ⟨rfl, hg⟩
    have G2 := Lib.hid (grown_trans G1.out (grown_trans (World.grownBy_alloc _ _ none) hg))
    clear hg
    go_wp2
    go_ret
    exact ⟨rfl, grown_trans G2.out (World.grownBy_alloc _ _ none)⟩
set_option maxRecDepth 100000 in
set_option maxHeartbeats 1000000 in
theorem cmp_yes (a b : ByteArray) (b1 b2 : Bool) (A B C D : ByteArray) (c : Int) (w : World) (R1 : Hid (ReadsTo a b1 A B true)) (R2 : Hid (ReadsTo b b2 C D true))
    (CP : Hid (∀ w, Calls Tryz.prog 37 #[.agg #[.bool b1, .string A, .string B], .agg #[.bool b2, .string C, .string D]] w (ValPost (.int .i64 c) w))) :
    Calls Tryz.prog 24 #[.string a, .string b] w (ValPost (.int .i64 c) w) := by
  go_enter Tryz.func24, Tryz.ntmps24
  go_wp2_with fail
  refine (R1.out _).mono ?_
  rintro e w1 ⟨rfl, hg⟩
  have G1 := Lib.hid hg
  clear hg
  go_wp2_with fail
  refine (R2.out _).mono ?_
  rintro e w2 ⟨rfl, hg⟩
  have hb := alloc_old hg
  have N1 := (show Num w2 w1.heap.size b1 A B from hb).grown (World.grownBy_alloc w2 (.cells #[.bool b2, .string C, .string D] 35) none)
  obtain ⟨x0, x1, x2, _⟩ := N1.cells
  have G2 := Lib.hid (grown_trans G1.out (grown_trans (World.grownBy_alloc _ _ none) hg))
  clear hg hb N1
  go_wp2_with fail
  refine (CP.out _).mono ?_
  rintro e w3 ⟨rfl, hg⟩
  have G3 := Lib.hid (grown_trans G2.out (grown_trans (World.grownBy_alloc _ _ none) hg))
  clear hg x0 x1 x2
  go_wp2
  go_ret
  exact ⟨rfl, G3.out⟩
set_option maxRecDepth 100000 in
set_option maxHeartbeats 1000000 in
theorem neg_no (a : ByteArray) (b : Bool) (A B : ByteArray) (w : World) (R : Hid (ReadsTo a b A B false)) :
    Calls Tryz.prog 9 #[.string a] w (ValPost (errV 1) w) := by
  unfold errV
  go_enter Tryz.func9, Tryz.ntmps9
  go_wp2_with fail
  refine (R.out _).mono ?_
  rintro e w1 ⟨rfl, hg⟩
  have G1 := Lib.hid hg
  clear hg
  go_wp2
  go_ret2
  exact ⟨rfl, grown_trans G1.out (World.grownBy_alloc _ _ none)⟩
set_option maxRecDepth 100000 in
set_option maxHeartbeats 1000000 in
theorem neg_yes (a : ByteArray) (b : Bool) (A B S : ByteArray) (E : Int) (N : Value) (w : World) (R : Hid (ReadsTo a b A B true))
    (NG : Hid (∀ w, Calls Tryz.prog 18 #[.agg #[.bool b, .string A, .string B]] w (ValPost N w)))
    (F : Hid (∀ w, Calls Tryz.prog 17 #[.func (.func 19) #[N] #[]] w (ValPost (.tuple #[.string S, .int .i64 E]) w))) :
    Calls Tryz.prog 9 #[.string a] w (ValPost (.tuple #[.string S, .int .i64 E]) w) := by
  have hmf : ∀ (fn : Fn) (first cap : Array Value) (w : World), (Instr.makeFunc fn first cap).run Tryz.prog w = .ok (.func fn first cap) w := fun _ _ _ _ => rfl
  go_enter Tryz.func9, Tryz.ntmps9
  go_wp2_with fail
  refine (R.out _).mono ?_
  rintro e w1 ⟨rfl, hg⟩
  have G1 := Lib.hid hg
  clear hg
  go_wp2_with fail
  refine (NG.out _).mono ?_
  rintro e w2 ⟨rfl, hg⟩
  have G2 := Lib.hid (grown_trans G1.out (grown_trans (World.grownBy_alloc _ _ none) hg))
  clear hg
  go_wp2_with fail
  refine (F.out _).mono ?_
  rintro e w3 ⟨rfl, hg⟩
  have G3 := Lib.hid (grown_trans G2.out hg)
  clear hg
  go_wp2
  go_ret2
  exact ⟨rfl, G3.out⟩

theorem reads_yes {a : ByteArray} {x : Rat} (h : IsRat a x) : ReadsTo a (sgn x) (decS x.num.natAbs) (decS x.den) true := fun w => read_yes h w (rat_len h)
theorem reads_no {a : ByteArray} (h : notRat a) (ha : a.size ≤ maxLen) : ReadsTo a false ⟨#[]⟩ ⟨#[]⟩ false := fun w => read_no h w ha
theorem ratvalid_yes {a : ByteArray} {x : Rat} (h : IsRat a x) (w : World) : Calls Tryz.prog 6 #[.string a] w (ValPost (.bool true) w) := valid_walk a _ _ _ _ w (Lib.hid (reads_yes h))
theorem ratvalid_no {a : ByteArray} (h : notRat a) (ha : a.size ≤ maxLen) (w : World) : Calls Tryz.prog 6 #[.string a] w (ValPost (.bool false) w) := valid_walk a _ _ _ _ w (Lib.hid (reads_no h ha))
def partsV (x : Rat) : Value := .tuple #[.bool (sgn x), .string (decS x.num.natAbs), .string (decS x.den), .bool true]
def noParts : Value := .tuple #[.bool false, .string ⟨#[]⟩, .string ⟨#[]⟩, .bool false]
theorem parts_yes {a : ByteArray} {x : Rat} (h : IsRat a x) (w : World) : Calls Tryz.prog 23 #[.string a] w (ValPost (partsV x) w) := parts_walk a _ _ _ _ w (Lib.hid (reads_yes h))
theorem parts_no {a : ByteArray} (h : notRat a) (ha : a.size ≤ maxLen) (w : World) : Calls Tryz.prog 23 #[.string a] w (ValPost noParts w) := parts_walk a _ _ _ _ w (Lib.hid (reads_no h ha))
theorem cmpCall (m n : Nat) (hm : nDigits m ≤ 1000) (hn : nDigits n ≤ 1000) : ∀ w, Calls Tryz.prog 57 #[.string (decS m), .string (decS n)] w fun e w' => e = .returned (.int .i64 (cmpN m n)) ∧ w.grownBy w' none := fun w => by
  have := cmp_any (decS m) (decS n) w (big_len m hm) (big_len n hn)
  rw [cmp_dec m n hm hn] at this
  exact this
theorem compare_any (x y : Rat) (hx : Short x) (hy : Short y) (w : World) : Calls Tryz.prog 37 #[ratV x, ratV y] w (ValPost (.int .i64 (cmpQ x y)) w) := by
  have d1 := dig_mul hx.1 hy.2
  have d2 := dig_mul hy.1 hx.2
  have t1 := timesOk _ _ hx.1 hy.2
  have t2 := timesOk _ _ hy.1 hx.2
  unfold ratV
  rw [show decide (x.num < 0) = sgn x from rfl, show decide (y.num < 0) = sgn y from rfl]
  cases h1 : sgn x <;> cases h2 : sgn y
  · rw [cmp_plus x y h1 h2]
    have cm := cmpCall (x.num.natAbs * y.den) (y.num.natAbs * x.den) (by omega) (by omega)
    rw [← mulS_dec x.num.natAbs y.den, ← mulS_dec y.num.natAbs x.den] at cm
    exact compare_plus _ _ _ _ _ w t1 t2 (Lib.hid cm)
  · rw [cmp_sign2 x y h1 h2]; exact compare_part false true _ _ _ _ w (by decide)
  · rw [cmp_sign1 x y h1 h2]; exact compare_part true false _ _ _ _ w (by decide)
  · rw [cmp_minus x y h1 h2]
    have cm := cmpCall (y.num.natAbs * x.den) (x.num.natAbs * y.den) (by omega) (by omega)
    rw [← mulS_dec x.num.natAbs y.den, ← mulS_dec y.num.natAbs x.den] at cm
    exact compare_minus _ _ _ _ _ w t2 t1 (Lib.hid cm)
theorem ratcmp_yes {a b : ByteArray} {x y : Rat} (ha : IsRat a x) (hb : IsRat b y) (w : World) : Calls Tryz.prog 24 #[.string a, .string b] w (ValPost (.int .i64 (cmpQ x y)) w) :=
  cmp_yes a b _ _ _ _ _ _ _ w (Lib.hid (reads_yes ha)) (Lib.hid (reads_yes hb)) (Lib.hid fun w => compare_any x y ha.short hb.short w)
theorem ratcmp_no {a b : ByteArray} (ha : a.size ≤ maxLen) (hb : b.size ≤ maxLen) (h : notRat a ∨ notRat b) (w : World) : Calls Tryz.prog 24 #[.string a, .string b] w (ValPost (.int .i64 0) w) := by
  obtain ⟨b1, A, B, k1, r1, n1⟩ := read_cases a ha
  obtain ⟨b2, C, D, k2, r2, n2⟩ := read_cases b hb
  refine cmp_no a b _ _ k1 k2 _ _ _ _ w ?_ (Lib.hid r1) (Lib.hid r2)
  rcases h with h | h
  · rw [n1 h]; rfl
  · rw [n2 h, Bool.and_false]
theorem ratneg_yes {a : ByteArray} {x : Rat} (h : IsRat a x) (w : World) : Calls Tryz.prog 9 #[.string a] w (ValPost (.tuple #[.string (ratS (-x)), .int .i64 0]) w) := by
  have F := fun w => finish_text (-x) w
  rw [finV_ok (neg_short h.short)] at F
  exact neg_yes a _ _ _ _ _ _ w (Lib.hid (reads_yes h)) (Lib.hid fun w => negated_any x w) (Lib.hid F)
theorem ratneg_no {a : ByteArray} (h : notRat a) (ha : a.size ≤ maxLen) (w : World) : Calls Tryz.prog 9 #[.string a] w (ValPost (errV 1) w) := neg_no a _ _ _ w (Lib.hid (reads_no h ha))

/-! ### Parse -/
/-- What numeral returns, for whatever place IndexAny finds. -/
def IxOk (R : ByteArray) : Prop := ∀ w, Calls Tryz.prog 26 #[.string R, .string ⟨#[47, 46]⟩] w (ValPost (.int .i64 (Lib.indexAny R.data.toList [47, 46])) w)
theorem indexAny_at (s chars : List UInt8) : (Lib.indexAny s chars = -1 ∧ ∀ x ∈ s, chars.contains x = false) ∨ (∃ (i : Nat) (c : UInt8), Lib.indexAny s chars = i ∧ s[i]? = some c ∧ chars.contains c = true) := by
  induction s with
  | nil => exact .inl ⟨rfl, by simp⟩
  | cons b l ih =>
    by_cases h : chars.contains b = true
    · exact .inr ⟨0, b, by rw [Lib.indexAny, if_pos h]; rfl, rfl, h⟩
    · rcases ih with ⟨h1, h2⟩ | ⟨i, c, h1, h2, h3⟩
      · refine .inl ⟨by rw [Lib.indexAny, if_neg h, h1]; rfl, ?_⟩
        intro x hx
        rcases List.mem_cons.1 hx with rfl | hx
        · simpa using h
        · exact h2 x hx
      · refine .inr ⟨i + 1, c, ?_, by simpa using h2, h3⟩
        rw [Lib.indexAny, if_neg h, h1, if_neg (fun e => by have := beq_iff_eq.1 e; omega)]
        push_cast
        rfl
def NumeralPost (a : ByteArray) (w : World) (e : Ending) (w' : World) : Prop := (∃ S Z k, e = .returned (.tuple #[.bool (negA a), .string S, .string Z, .bool k]) ∧
    match numeralP (restA a) with
    | none => k = false
    | some (n, d) => k = true ∧ S = decS n ∧ Z = decS d) ∧ w.grownBy w' none
theorem numCalls (a : ByteArray) (z : Int) (hix : IxOk ⟨(restA a).toArray⟩) (hz : Lib.indexAny (restA a) [47, 46] = z) : NumCalls a ⟨(restA a).toArray⟩ (negA a) z :=
  ⟨fun w => (Tryz.strings_CutPrefix a ⟨#[45]⟩ w).mono fun e w' ⟨h, k⟩ => ⟨h, k.symm⟩, fun w => by have := hix w; rw [show (⟨(restA a).toArray⟩ : ByteArray).data.toList = restA a by simp, hz] at this; exact this⟩
theorem digOk (s : ByteArray) (hs : s.size ≤ maxLen) : DigOk s (digL s.data.toList) := fun w => areDigits_any s w hs
theorem natOk (s : ByteArray) : NatOk s (natB s) := fun w => natural_any s w
theorem repeat_zeros (k : Nat) : Lib.repeatL [48] k = List.replicate k 48 := by
  induction k with
  | zero => rfl
  | succ k ih => rw [Lib.repeatL, ih, List.replicate_succ]; rfl
theorem extract_take (l : List UInt8) (i : Nat) : (⟨l.toArray⟩ : ByteArray).extract 0 i = ⟨(l.take i).toArray⟩ := by
  apply ByteArray.ext
  rw [ByteArray.data_extract]
  simp [List.extract_eq_take_drop]
theorem extract_drop (l : List UInt8) (i : Nat) : (⟨l.toArray⟩ : ByteArray).extract i (⟨l.toArray⟩ : ByteArray).size = ⟨(l.drop i).toArray⟩ := by
  apply ByteArray.ext
  rw [ByteArray.data_extract]
  simp [List.extract_eq_take_drop, ByteArray.size]
  rw [List.take_of_length_le (by simp)]
theorem append_list (a b : List UInt8) : (⟨a.toArray⟩ : ByteArray) ++ ⟨b.toArray⟩ = ⟨(a ++ b).toArray⟩ := by
  apply ByteArray.ext
  rw [ByteArray.data_append]
  simp
end Go.Proofs.YthokjhlbbgfplabGreatDoor
set_option linter.unusedVariables false
set_option linter.unusedSimpArgs false
namespace Go.Proofs.YthokjhlbbgfplabGreatDoor
open Go.RowKit
open Go.Lib (nDigits decDigits)

theorem list_back (l : List UInt8) : (⟨l.toArray⟩ : ByteArray).data.toList = l := by simp
theorem numeral_any (a : ByteArray) (w : World) (ha : a.size ≤ 1200) (hix : IxOk ⟨(restA a).toArray⟩) : Calls Tryz.prog 12 #[.string a] w (NumeralPost a w) := by
  have hr := rest_size a
  have hRs : (⟨(restA a).toArray⟩ : ByteArray).size ≤ 1200 := by rw [list_size]; omega
  rcases indexAny_at (restA a) [47, 46] with ⟨h1, h2⟩ | ⟨i, c, h1, h2, h3⟩
  · have D := digOk ⟨(restA a).toArray⟩ (by unfold maxLen; omega)
    have M := natOk ⟨(restA a).toArray⟩
    rw [list_back] at D
    refine (numeral_whole a _ _ _ _ w (Lib.hid (numCalls a _ hix h1)) (Lib.hid D) (Lib.hid M)).mono ?_
    rintro e w' ⟨rfl, hg⟩
    refine ⟨⟨_, _, _, rfl, ?_⟩, hg⟩
    rw [numeral_none _ (fun x hx => by have := h2 x hx; simp at this; exact this)]
    by_cases hd : digL (restA a) = true
    · rw [if_pos hd]
      refine ⟨hd, ?_, dec_one.symm⟩
      rw [natB_dec _ (by rw [list_back]; exact (digL_all hd).1), list_back]
    · rw [if_neg hd]
      simpa using hd
  · obtain ⟨hil, hie⟩ := List.getElem?_eq_some_iff.1 h2
    have hiR : i < (⟨(restA a).toArray⟩ : ByteArray).size := by rw [list_size]; exact hil
    have hcR : (⟨(restA a).toArray⟩ : ByteArray)[i]'hiR = c := hie
    have eH := extract_take (restA a) i
    have eT := extract_drop (restA a) (i + 1)
    have hH : (⟨((restA a).take i).toArray⟩ : ByteArray).size ≤ 1200 := by rw [list_size, List.length_take]; omega
    have hT : (⟨((restA a).drop (i + 1)).toArray⟩ : ByteArray).size ≤ 1200 := by rw [list_size, List.length_drop]; omega
    have D1 := digOk ⟨((restA a).take i).toArray⟩ (by unfold maxLen; omega)
    have D2 := digOk ⟨((restA a).drop (i + 1)).toArray⟩ (by unfold maxLen; omega)
    rw [list_back] at D1 D2
    have hcc : c = 47 ∨ c = 46 := by simpa using h3
    have HP := numeral_at (restA a) i c h2 hcc
    have NC := numCalls a i hix h1
    by_cases h46 : c = 46
    · have hc : (((⟨(restA a).toArray⟩ : ByteArray)[i]'hiR).toNat : Int) = 46 := by rw [hcR, h46]; rfl
      have M := natOk (⟨((restA a).take i).toArray⟩ ++ ⟨((restA a).drop (i + 1)).toArray⟩)
      have Q : ∀ w, Calls Tryz.prog 29 #[.string ⟨#[48]⟩, .int .i64 (⟨((restA a).drop (i + 1)).toArray⟩ : ByteArray).size] w (ValPost (.string ⟨(List.replicate ((restA a).drop (i + 1)).length 48).toArray⟩) w) := fun w => by
        refine (Tryz.strings_Repeat ⟨#[48]⟩ _ w (by omega) (by rw [show (⟨#[48]⟩ : ByteArray).size = 1 from rfl]; omega)).mono ?_
        rintro e w' ⟨rfl, hb⟩
        rw [show (⟨#[48]⟩ : ByteArray).data.toList = [48] from rfl, repeat_zeros, list_size]
        exact ⟨rfl, grown_below hb⟩
      have hZ : (⟨(List.replicate ((restA a).drop (i + 1)).length (48 : UInt8)).toArray⟩ : ByteArray).size ≤ 1200 := by rw [list_size, List.length_replicate]; rw [list_size] at hT; exact hT
      rw [if_pos h46] at HP
      have fin : digL ((restA a).take i) = true → digL ((restA a).drop (i + 1)) = true →
          natB (⟨((restA a).take i).toArray⟩ ++ ⟨((restA a).drop (i + 1)).toArray⟩) = decS (dval ((restA a).take i ++ (restA a).drop (i + 1))) := fun k1 k2 => by
        rw [append_list, natB_dec _ (by rw [list_back, List.all_append, (digL_all k1).1, (digL_all k2).1]; rfl), list_back]
      have fz : (⟨#[49]⟩ : ByteArray) ++ ⟨(List.replicate ((restA a).drop (i + 1)).length (48 : UInt8)).toArray⟩ = decS (10 ^ ((restA a).drop (i + 1)).length) := by
        unfold decS
        rw [dec_pow]
        exact append_list [49] _
      cases k1 : digL ((restA a).take i)
      · rw [k1] at D1
        refine (numeral_point_false a _ _ _ _ _ _ _ i w (Lib.hid NC) hiR hRs hc eH eT hT hH (Lib.hid D1) (Lib.hid D2) (Lib.hid M) hZ (Lib.hid Q)).mono ?_
        rintro e w' ⟨rfl, hg⟩
        refine ⟨⟨_, _, _, rfl, ?_⟩, hg⟩
        rw [HP, k1]
        simp
      · rw [k1] at D1
        refine (numeral_point_true a _ _ _ _ _ _ _ i w (Lib.hid NC) hiR hRs hc eH eT hT hH (Lib.hid D1) (Lib.hid D2) (Lib.hid M) hZ (Lib.hid Q)).mono ?_
        rintro e w' ⟨rfl, hg⟩
        refine ⟨⟨_, _, _, rfl, ?_⟩, hg⟩
        rw [HP, k1]
        cases k2 : digL ((restA a).drop (i + 1))
        · simp
        · exact ⟨rfl, fin k1 k2, fz⟩
    · have hc : ¬ (((⟨(restA a).toArray⟩ : ByteArray)[i]'hiR).toNat : Int) = 46 := by
        rw [hcR]
        intro e
        exact h46 (UInt8.toNat_inj.1 (by have : (46 : UInt8).toNat = 46 := rfl; omega))
      have M := natOk ⟨((restA a).take i).toArray⟩
      have M2 := natOk ⟨((restA a).drop (i + 1)).toArray⟩
      rw [if_neg h46] at HP
      have f1 : ∀ b : Bool, (((natB ⟨((restA a).drop (i + 1)).toArray⟩).toList == [48]) = b) → (((natB ⟨((restA a).drop (i + 1)).toArray⟩).toList != [48]) = !b) := fun b h => by rw [bne, h]
      have fn : digL ((restA a).take i) = true → natB ⟨((restA a).take i).toArray⟩ = decS (dval ((restA a).take i)) := fun k => by
        rw [natB_dec _ (by rw [list_back]; exact (digL_all k).1), list_back]
      have fd : digL ((restA a).drop (i + 1)) = true → natB ⟨((restA a).drop (i + 1)).toArray⟩ = decS (dval ((restA a).drop (i + 1))) := fun k => by
        rw [natB_dec _ (by rw [list_back]; exact (digL_all k).1), list_back]
      have fz : digL ((restA a).drop (i + 1)) = true → ((natB ⟨((restA a).drop (i + 1)).toArray⟩).toList == [48]) = decide (dval ((restA a).drop (i + 1)) = 0) := fun k => by rw [fd k, (zero_str' _).1]
      cases k1 : digL ((restA a).take i)
      · rw [k1] at D1
        cases kz : ((natB ⟨((restA a).drop (i + 1)).toArray⟩).toList == [48])
        · refine (numeral_stroke_false_false a _ _ _ _ _ _ _ i w (Lib.hid NC) hiR hRs hc eH eT hT hH (Lib.hid D1) (Lib.hid D2) (Lib.hid M) (Lib.hid M2) kz (f1 _ kz)).mono ?_
          rintro e w' ⟨rfl, hg⟩
          refine ⟨⟨_, _, _, rfl, ?_⟩, hg⟩
          rw [HP, k1]
          simp
        · refine (numeral_stroke_false_true a _ _ _ _ _ _ _ i w (Lib.hid NC) hiR hRs hc eH eT hT hH (Lib.hid D1) (Lib.hid D2) (Lib.hid M) (Lib.hid M2) kz (f1 _ kz)).mono ?_
          rintro e w' ⟨rfl, hg⟩
          refine ⟨⟨_, _, _, rfl, ?_⟩, hg⟩
          rw [HP, k1]
          simp
      · rw [k1] at D1
        cases kz : ((natB ⟨((restA a).drop (i + 1)).toArray⟩).toList == [48])
        · refine (numeral_stroke_true_false a _ _ _ _ _ _ _ i w (Lib.hid NC) hiR hRs hc eH eT hT hH (Lib.hid D1) (Lib.hid D2) (Lib.hid M) (Lib.hid M2) kz (f1 _ kz)).mono ?_
          rintro e w' ⟨rfl, hg⟩
          refine ⟨⟨_, _, _, rfl, ?_⟩, hg⟩
          rw [HP, k1]
          cases k2 : digL ((restA a).drop (i + 1))
          · simp
          · have := (fz k2).symm.trans kz
            simp only [decide_eq_false_iff_not] at this
            simp only [Bool.and_self, if_true, if_neg this]
            exact ⟨trivial, fn k1, fd k2⟩
        · refine (numeral_stroke_true_true a _ _ _ _ _ _ _ i w (Lib.hid NC) hiR hRs hc eH eT hT hH (Lib.hid D1) (Lib.hid D2) (Lib.hid M) (Lib.hid M2) kz (f1 _ kz)).mono ?_
          rintro e w' ⟨rfl, hg⟩
          refine ⟨⟨_, _, _, rfl, ?_⟩, hg⟩
          rw [HP, k1]
          cases k2 : digL ((restA a).drop (i + 1))
          · simp
          · have := (fz k2).symm.trans kz
            simp only [decide_eq_true_eq] at this
            simp only [Bool.and_self, if_true, if_pos this]

def NumeralIs (a : ByteArray) (N : Bool) (S Z : ByteArray) (k : Bool) (w : World) (e : Ending) (w' : World) : Prop := e = .returned (.tuple #[.bool N, .string S, .string Z, .bool k]) ∧ w.grownBy w' none
set_option maxRecDepth 100000 in
set_option maxHeartbeats 1000000 in
theorem parse_bad (a : ByteArray) (w : World) (NU : Hid (∀ w, Calls Tryz.prog 12 #[.string a] w fun e w' => (∃ N S Z, e = .returned (.tuple #[.bool N, .string S, .string Z, .bool false])) ∧ w.grownBy w' none)) :
    Calls Tryz.prog 4 #[.string a] w (ValPost (errV 3) w) := by
  unfold errV
  go_enter Tryz.func4, Tryz.ntmps4
  go_wp2_with fail
  refine (NU.out _).mono ?_
  rintro e w1 ⟨⟨N, S, Z, rfl⟩, hg⟩
  have G1 := Lib.hid hg
  clear hg
  go_wp2
  go_ret2
  exact ⟨rfl, G1.out⟩
set_option maxRecDepth 100000 in
set_option maxHeartbeats 1000000 in
theorem parse_long (a : ByteArray) (N : Bool) (S Z : ByteArray) (w : World) (h : (900 : Int) < (a.size : Int)) (NU : Hid (∀ w, Calls Tryz.prog 12 #[.string a] w (ValPost (.tuple #[.bool N, .string S, .string Z, .bool true]) w))) :
    Calls Tryz.prog 4 #[.string a] w (ValPost (errV 2) w) := by
  unfold errV
  go_enter Tryz.func4, Tryz.ntmps4
  go_wp2_with fail
  refine (NU.out _).mono ?_
  rintro e w1 ⟨rfl, hg⟩
  have G1 := Lib.hid hg
  clear hg
  go_wp2
  go_ret2
  exact ⟨rfl, G1.out⟩
set_option maxRecDepth 100000 in
set_option maxHeartbeats 1000000 in
theorem parse_made (a : ByteArray) (N : Bool) (S Z c : ByteArray) (E : Int) (w : World) (h : ¬ (900 : Int) < (a.size : Int)) (NU : Hid (∀ w, Calls Tryz.prog 12 #[.string a] w (ValPost (.tuple #[.bool N, .string S, .string Z, .bool true]) w)))
    (MK : Hid (∀ w, Calls Tryz.prog 10 #[.bool N, .string S, .string Z] w (ValPost (.tuple #[.string c, .int .i64 E]) w))) :
    Calls Tryz.prog 4 #[.string a] w (ValPost (.tuple #[.string c, .int .i64 E]) w) := by
  go_enter Tryz.func4, Tryz.ntmps4
  go_wp2_with fail
  refine (NU.out _).mono ?_
  rintro e w1 ⟨rfl, hg⟩
  have G1 := Lib.hid hg
  clear hg
  go_wp2_with fail
  refine (MK.out _).mono ?_
  rintro e w2 ⟨rfl, hg⟩
  have G2 := Lib.hid (grown_trans G1.out hg)
  clear hg
  go_wp2
  go_ret2
  exact ⟨rfl, G2.out⟩
theorem parse_any (a : ByteArray) (w : World) (ha : a.size ≤ 1200) (hix : IxOk ⟨(restA a).toArray⟩) : Calls Tryz.prog 4 #[.string a] w (ValPost (parseV a) w) := by
  have NU := fun w => numeral_any a w ha hix
  unfold parseV
  unfold NumeralPost at NU
  cases hp : numeralP (restA a) with
  | none =>
    rw [hp] at NU
    refine parse_bad a w (Lib.hid fun w => (NU w).mono ?_)
    rintro e w' ⟨⟨S, Z, k, rfl, rfl⟩, hg⟩
    exact ⟨⟨_, _, _, rfl⟩, hg⟩
  | some nd =>
    obtain ⟨n, d⟩ := nd
    rw [hp] at NU
    have NU' : ∀ w, Calls Tryz.prog 12 #[.string a] w (ValPost (.tuple #[.bool (negA a), .string (decS n), .string (decS d), .bool true]) w) := fun w => (NU w).mono (by
      rintro e w' ⟨⟨S, Z, k, rfl, rfl, rfl, rfl⟩, hg⟩
      exact ⟨rfl, hg⟩)
    by_cases hl : 900 < a.size
    · simp only [if_pos hl]
      exact parse_long a _ _ _ w (by omega) (Lib.hid NU')
    · simp only [if_neg hl]
      obtain ⟨s1, s2⟩ := numeral_small hp
      have hr := rest_size a
      have hd := numeral_den hp
      have MK := fun w => make_any (negA a) (decS n) (decS d) w (big_len _ (by omega)) (big_len _ (by omega))
      have em : makeV (negA a) (decS n) (decS d) = finV (mkRat (sg (negA a) n) d) := by
        unfold makeV
        rw [num_short n (by omega), num_short d (by omega), nv_dec, nv_dec]
        simp only [Bool.and_self, Bool.true_and, hd, decide_false, Bool.not_false, if_true]
      rw [em] at MK
      obtain ⟨S, E, e⟩ := finV_form (mkRat (sg (negA a) n) d)
      rw [e] at MK ⊢
      exact parse_made a _ _ _ _ _ w (by omega) (Lib.hid NU') (Lib.hid MK)
end Go.Proofs.YthokjhlbbgfplabGreatDoor
