/- areDigits, natural, numeral: a numeral taken apart. -/
import Derived.Test.YthokjhlbbgfplaaGreatDoorQe
import Derived.Test.YthokjhlbbgfplaaGreatDoorPp
import Derived.Lib.TrimByte
import Derived.BigQuiet
set_option linter.unusedVariables false
set_option linter.unusedSimpArgs false
namespace Go.Proofs.YthokjhlbbgfplaaGreatDoor
open Go.RowKit
open Go.Lib (nDigits decDigits)

theorem digL_no (s : ByteArray) (k : Nat) (hk : k < s.size) (h : isDg s[k] = false) : digL s.data.toList = false := by
  rw [← Bool.not_eq_true]; intro hd
  have hm : s[k] ∈ s.data.toList := by
    rw [List.mem_iff_getElem]
    exact ⟨k, by simpa using hk, rfl⟩
  have := List.all_eq_true.1 (digL_all hd).1 _ hm
  rw [h] at this; cases this
theorem digL_yes (s : ByteArray) (h0 : 1 ≤ s.size) (h : ∀ k (hk : k < s.size), isDg s[k] = true) : digL s.data.toList = true := by
  refine digL_of (all_dg s h) ?_
  intro e
  have := Lib.size_eq s
  rw [e, List.length_nil] at this
  omega
theorem digL_size0 (s : ByteArray) (h0 : s.size = 0) : digL s.data.toList = false := by
  have := Lib.size_eq s
  rw [h0] at this
  rw [List.eq_nil_of_length_eq_zero this.symm]
  rfl
theorem ne_empty (s : ByteArray) (h : 1 ≤ s.size) : (!s.toList.isEmpty) = true := by rw [empty_false s h]; rfl

set_option maxHeartbeats 1000000 in
theorem areDigits_any (s : ByteArray) (w : World) (hs : s.size ≤ maxLen) :
    Calls Tryz.prog 67 #[.string s] w fun e w' => e = .returned (.bool (digL s.data.toList)) ∧ w = w' := by
  unfold maxLen at hs
  go_enter Tryz.func67, Tryz.ntmps67
  go_wp2
  go_loop [6] (fun i => ∃ k : Nat, i = .int .i64 k ∧ k ≤ s.size ∧ ∀ j (hj : j < s.size), j < k → isDg s[j] = true) (fun i => s.size - (intOf i).toNat)
  case atStart => exact ⟨0, rfl, by omega, fun j hj h => by omega⟩
  case round =>
    obtain ⟨k, rfl, hk, hall⟩ := hrel
    have HALL := Lib.hid hall
    clear hall
    by_cases hlt : k < s.size
    · by_cases hd : (48 : Int) ≤ (s[k].toNat : Int)
      · by_cases hd2 : (s[k].toNat : Int) ≤ 57
        · have HN := Lib.hid (isDg_of s[k] hd hd2)
          go_wp2
          go_round
          case rel => exact ⟨k + 1, by go_num, by omega, fun j hj h => by
            by_cases e : j = k
            · subst e; exact HN.out
            · exact HALL.out j hj (by omega)⟩
          case measure => simp [intOf]; omega
        · have HN := Lib.hid (digL_no s k hlt (isDg_no s[k] (.inr (by omega))))
          go_wp2
          go_ret
          exact ⟨by rw [HN.out]; rfl, rfl⟩
      · have HN := Lib.hid (digL_no s k hlt (isDg_no s[k] (.inl (by omega))))
        go_wp2
        go_ret
        exact ⟨by rw [HN.out]; rfl, rfl⟩
    · by_cases h0 : s.size = 0
      · have HN := Lib.hid (digL_size0 s h0)
        have e0 : s.toList.isEmpty = true := by
          rw [Lib.toList_data, List.isEmpty_iff_length_eq_zero, ← Lib.size_eq]; exact h0
        go_wp2
        go_ret
        exact ⟨by rw [HN.out]; rfl, rfl⟩
      · have hne := empty_false s (by omega)
        have HN := Lib.hid (digL_yes s (by omega) (fun j hj => HALL.out j hj (by omega)))
        go_wp2
        go_ret
        exact ⟨by rw [HN.out]; rfl, rfl⟩

/-- Digits without the zeros in front, as natural returns them. -/
def natB (s : ByteArray) : ByteArray := if Lib.trimLeftB s.data.toList 48 = [] then ⟨#[48]⟩ else ⟨(Lib.trimLeftB s.data.toList 48).toArray⟩
theorem natB_dec (s : ByteArray) (h : s.data.toList.all isDg = true) : natB s = decS (dval s.data.toList) := by
  unfold natB decS Lib.trimLeftB
  rw [dec_natural _ h]
  split
  · rfl
  · rfl
theorem list_empty (l : List UInt8) : (⟨l.toArray⟩ : ByteArray).toList.isEmpty = decide (l = []) := by
  rw [Lib.toList_data]
  cases l <;> simp
theorem natural_any (s : ByteArray) (w : World) :
    Calls Tryz.prog 66 #[.string s] w fun e w' => e = .returned (.string (natB s)) ∧ w = w' := by
  have ht := fun w => Tryz.strings_TrimLeft_one s 48 (by decide) w
  have he := list_empty (Lib.trimLeftB s.data.toList 48)
  have HN := Lib.hid (show natB s = if decide (Lib.trimLeftB s.data.toList 48 = []) then ⟨#[48]⟩ else ⟨(Lib.trimLeftB s.data.toList 48).toArray⟩ by unfold natB; simp)
  generalize Lib.trimLeftB s.data.toList 48 = L at *
  generalize decide (L = []) = d at *
  generalize (⟨L.toArray⟩ : ByteArray) = B at *
  have HT := Lib.hid ht
  clear ht
  cases d
  all_goals
    go_enter Tryz.func66, Tryz.ntmps66
    go_wp2_with fail
    refine (HT.out _).mono ?_
    rintro e w' ⟨rfl, rfl⟩
    go_wp2
    go_ret
    exact ⟨by rw [HN.out]; rfl, rfl⟩

/-- What numeral's calls return: R without the sign, N: is there one? z: the place of the first stroke or point. -/
structure NumCalls (a R : ByteArray) (N : Bool) (z : Int) : Prop where
  cp : ∀ w, Calls Tryz.prog 56 #[.string a, .string ⟨#[45]⟩] w fun e w' => e = .returned (.tuple #[.string R, .bool N]) ∧ w = w'
  ix : ∀ w, Calls Tryz.prog 65 #[.string R, .string ⟨#[47, 46]⟩] w (ValPost (.int .i64 z) w)
def DigOk (s : ByteArray) (b : Bool) : Prop := ∀ w, Calls Tryz.prog 67 #[.string s] w fun e w' => e = .returned (.bool b) ∧ w = w'
def NatOk (s S : ByteArray) : Prop := ∀ w, Calls Tryz.prog 66 #[.string s] w fun e w' => e = .returned (.string S) ∧ w = w'

set_option maxRecDepth 100000 in
set_option maxHeartbeats 1000000 in
theorem numeral_whole (a R S : ByteArray) (N b : Bool) (w : World) (h : Hid (NumCalls a R N (-1))) (D : Hid (DigOk R b)) (M : Hid (NatOk R S)) :
    Calls Tryz.prog 42 #[.string a] w (ValPost (.tuple #[.bool N, .string S, .string ⟨#[49]⟩, .bool b]) w) := by
  go_enter Tryz.func42, Tryz.ntmps42
  go_wp2_with fail
  refine (h.out.cp _).mono ?_
  rintro e w' ⟨rfl, rfl⟩
  go_wp2_with fail
  refine (h.out.ix _).mono ?_
  rintro e w1 ⟨rfl, hg⟩
  have G1 := Lib.hid hg
  clear hg
  go_wp2_with fail
  refine (M.out _).mono ?_
  rintro e w' ⟨rfl, rfl⟩
  go_wp2_with fail
  refine (D.out _).mono ?_
  rintro e w' ⟨rfl, rfl⟩
  go_wp2
  exact bodyPost_ret (v := .tuple #[.bool _, .string _, .string _, .bool _]) (by simp [results, Tryz.results42, go_sem]) rfl ⟨rfl, G1.out⟩
set_option maxRecDepth 100000 in
set_option maxHeartbeats 1000000 in
theorem numeral_point_true (a R H T S Z : ByteArray) (N b2 : Bool) (i : Nat) (w : World) (h : Hid (NumCalls a R N i)) (hi : i < R.size) (hR : R.size ≤ 1200)
    (hc : ((R[i]'hi).toNat : Int) = 46) (eH : R.extract 0 i = H) (eT : R.extract (i + 1) R.size = T) (hT : T.size ≤ 1200) (hH : H.size ≤ 1200)
    (D1 : Hid (DigOk H true)) (D2 : Hid (DigOk T b2)) (M : Hid (NatOk (H ++ T) S)) (hZ : Z.size ≤ 1200)
    (Q : Hid (∀ w, Calls Tryz.prog 68 #[.string ⟨#[48]⟩, .int .i64 T.size] w (ValPost (.string Z) w))) :
    Calls Tryz.prog 42 #[.string a] w (ValPost (.tuple #[.bool N, .string S, .string (⟨#[49]⟩ ++ Z), .bool b2]) w) := by
  have c1 : (0 : Int) ≤ (i : Int) := by omega
  have c2 : (i : Int) ≤ (R.size : Int) := by omega
  have c3 : (0 : Int) ≤ (i : Int) + 1 := by omega
  have c4 : (i : Int) + 1 ≤ (R.size : Int) := by omega
  have c5 : ¬ (i : Int) < 0 := by omega
  have c6 : (i : Int) < (R.size : Int) := by omega
  cases b2
  all_goals
    go_enter Tryz.func42, Tryz.ntmps42
    go_wp2_with fail
    refine (h.out.cp _).mono ?_
    rintro e w' ⟨rfl, rfl⟩
    go_wp2_with fail
    refine (h.out.ix _).mono ?_
    rintro e w1 ⟨rfl, hg⟩
    have G1 := Lib.hid hg
    clear hg
    go_wp2_with fail
    go_quiet (fail)
    go_wp2_with fail
    refine (D1.out _).mono ?_
    rintro e w' ⟨rfl, rfl⟩
    go_wp2_with fail
    refine (D2.out _).mono ?_
    rintro e w' ⟨rfl, rfl⟩
    go_wp2_with fail
    refine (M.out _).mono ?_
    rintro e w' ⟨rfl, rfl⟩
    go_wp2_with fail
    refine (Q.out _).mono ?_
    rintro e w2 ⟨rfl, hg⟩
    have G2 := Lib.hid (grown_trans G1.out (grown_trans (grown_drewN _ _ _) hg))
    clear hg
    go_wp2
    exact bodyPost_ret (v := .tuple #[.bool _, .string _, .string _, .bool _]) (by simp [results, Tryz.results42, go_sem]) rfl ⟨rfl, G2.out⟩
set_option maxRecDepth 100000 in
set_option maxHeartbeats 1000000 in
theorem numeral_stroke_true_true (a R H T S Z : ByteArray) (N b2 : Bool) (i : Nat) (w : World) (h : Hid (NumCalls a R N i)) (hi : i < R.size) (hR : R.size ≤ 1200)
    (hc : ¬ ((R[i]'hi).toNat : Int) = 46) (eH : R.extract 0 i = H) (eT : R.extract (i + 1) R.size = T) (hT : T.size ≤ 1200) (hH : H.size ≤ 1200)
    (D1 : Hid (DigOk H true)) (D2 : Hid (DigOk T b2)) (M : Hid (NatOk H S)) (M2 : Hid (NatOk T Z)) (f1 : (Z.toList == [48]) = true) (f2 : (Z.toList != [48]) = false) :
    Calls Tryz.prog 42 #[.string a] w (ValPost (.tuple #[.bool N, .string S, .string Z, .bool false]) w) := by
  have c1 : (0 : Int) ≤ (i : Int) := by omega
  have c2 : (i : Int) ≤ (R.size : Int) := by omega
  have c3 : (0 : Int) ≤ (i : Int) + 1 := by omega
  have c4 : (i : Int) + 1 ≤ (R.size : Int) := by omega
  have c5 : ¬ (i : Int) < 0 := by omega
  have c6 : (i : Int) < (R.size : Int) := by omega
  cases b2
  all_goals
    go_enter Tryz.func42, Tryz.ntmps42
    go_wp2_with fail
    refine (h.out.cp _).mono ?_
    rintro e w' ⟨rfl, rfl⟩
    go_wp2_with fail
    refine (h.out.ix _).mono ?_
    rintro e w1 ⟨rfl, hg⟩
    have G1 := Lib.hid hg
    clear hg
    go_wp2_with fail
    go_quiet (fail)
    go_wp2_with fail
    refine (D1.out _).mono ?_
    rintro e w' ⟨rfl, rfl⟩
    go_wp2_with fail
    refine (D2.out _).mono ?_
    rintro e w' ⟨rfl, rfl⟩
    go_wp2_with fail
    refine (M2.out _).mono ?_
    rintro e w' ⟨rfl, rfl⟩
    go_wp2_with fail
    refine (M.out _).mono ?_
    rintro e w' ⟨rfl, rfl⟩
    go_wp2
    exact bodyPost_ret (v := .tuple #[.bool _, .string _, .string _, .bool _]) (by simp [results, Tryz.results42, go_sem]) rfl ⟨rfl, grown_trans G1.out (grown_drewN _ _ _)⟩
set_option maxRecDepth 100000 in
set_option maxHeartbeats 1000000 in
theorem numeral_stroke_true_false (a R H T S Z : ByteArray) (N b2 : Bool) (i : Nat) (w : World) (h : Hid (NumCalls a R N i)) (hi : i < R.size) (hR : R.size ≤ 1200)
    (hc : ¬ ((R[i]'hi).toNat : Int) = 46) (eH : R.extract 0 i = H) (eT : R.extract (i + 1) R.size = T) (hT : T.size ≤ 1200) (hH : H.size ≤ 1200)
    (D1 : Hid (DigOk H true)) (D2 : Hid (DigOk T b2)) (M : Hid (NatOk H S)) (M2 : Hid (NatOk T Z)) (f1 : (Z.toList == [48]) = false) (f2 : (Z.toList != [48]) = true) :
    Calls Tryz.prog 42 #[.string a] w (ValPost (.tuple #[.bool N, .string S, .string Z, .bool b2]) w) := by
  have c1 : (0 : Int) ≤ (i : Int) := by omega
  have c2 : (i : Int) ≤ (R.size : Int) := by omega
  have c3 : (0 : Int) ≤ (i : Int) + 1 := by omega
  have c4 : (i : Int) + 1 ≤ (R.size : Int) := by omega
  have c5 : ¬ (i : Int) < 0 := by omega
  have c6 : (i : Int) < (R.size : Int) := by omega
  cases b2
  all_goals
    go_enter Tryz.func42, Tryz.ntmps42
    go_wp2_with fail
    refine (h.out.cp _).mono ?_
    rintro e w' ⟨rfl, rfl⟩
    go_wp2_with fail
    refine (h.out.ix _).mono ?_
    rintro e w1 ⟨rfl, hg⟩
    have G1 := Lib.hid hg
    clear hg
    go_wp2_with fail
    go_quiet (fail)
    go_wp2_with fail
    refine (D1.out _).mono ?_
    rintro e w' ⟨rfl, rfl⟩
    go_wp2_with fail
    refine (D2.out _).mono ?_
    rintro e w' ⟨rfl, rfl⟩
    go_wp2_with fail
    refine (M2.out _).mono ?_
    rintro e w' ⟨rfl, rfl⟩
    go_wp2_with fail
    refine (M.out _).mono ?_
    rintro e w' ⟨rfl, rfl⟩
    go_wp2
    exact bodyPost_ret (v := .tuple #[.bool _, .string _, .string _, .bool _]) (by simp [results, Tryz.results42, go_sem]) rfl ⟨rfl, grown_trans G1.out (grown_drewN _ _ _)⟩
set_option maxRecDepth 100000 in
set_option maxHeartbeats 1000000 in
theorem numeral_point_false (a R H T S Z : ByteArray) (N b2 : Bool) (i : Nat) (w : World) (h : Hid (NumCalls a R N i)) (hi : i < R.size) (hR : R.size ≤ 1200)
    (hc : ((R[i]'hi).toNat : Int) = 46) (eH : R.extract 0 i = H) (eT : R.extract (i + 1) R.size = T) (hT : T.size ≤ 1200) (hH : H.size ≤ 1200)
    (D1 : Hid (DigOk H false)) (D2 : Hid (DigOk T b2)) (M : Hid (NatOk (H ++ T) S)) (hZ : Z.size ≤ 1200)
    (Q : Hid (∀ w, Calls Tryz.prog 68 #[.string ⟨#[48]⟩, .int .i64 T.size] w (ValPost (.string Z) w))) :
    Calls Tryz.prog 42 #[.string a] w (ValPost (.tuple #[.bool N, .string S, .string (⟨#[49]⟩ ++ Z), .bool false]) w) := by
  have c1 : (0 : Int) ≤ (i : Int) := by omega
  have c2 : (i : Int) ≤ (R.size : Int) := by omega
  have c3 : (0 : Int) ≤ (i : Int) + 1 := by omega
  have c4 : (i : Int) + 1 ≤ (R.size : Int) := by omega
  have c5 : ¬ (i : Int) < 0 := by omega
  have c6 : (i : Int) < (R.size : Int) := by omega
  cases b2
  all_goals
    go_enter Tryz.func42, Tryz.ntmps42
    go_wp2_with fail
    refine (h.out.cp _).mono ?_
    rintro e w' ⟨rfl, rfl⟩
    go_wp2_with fail
    refine (h.out.ix _).mono ?_
    rintro e w1 ⟨rfl, hg⟩
    have G1 := Lib.hid hg
    clear hg
    go_wp2_with fail
    go_quiet (fail)
    go_wp2_with fail
    refine (D1.out _).mono ?_
    rintro e w' ⟨rfl, rfl⟩
    go_wp2_with fail
    refine (M.out _).mono ?_
    rintro e w' ⟨rfl, rfl⟩
    go_wp2_with fail
    refine (Q.out _).mono ?_
    rintro e w2 ⟨rfl, hg⟩
    have G2 := Lib.hid (grown_trans G1.out (grown_trans (grown_drewN _ _ _) hg))
    clear hg
    go_wp2
    exact bodyPost_ret (v := .tuple #[.bool _, .string _, .string _, .bool _]) (by simp [results, Tryz.results42, go_sem]) rfl ⟨rfl, G2.out⟩
set_option maxRecDepth 100000 in
set_option maxHeartbeats 1000000 in
theorem numeral_stroke_false_true (a R H T S Z : ByteArray) (N b2 : Bool) (i : Nat) (w : World) (h : Hid (NumCalls a R N i)) (hi : i < R.size) (hR : R.size ≤ 1200)
    (hc : ¬ ((R[i]'hi).toNat : Int) = 46) (eH : R.extract 0 i = H) (eT : R.extract (i + 1) R.size = T) (hT : T.size ≤ 1200) (hH : H.size ≤ 1200)
    (D1 : Hid (DigOk H false)) (D2 : Hid (DigOk T b2)) (M : Hid (NatOk H S)) (M2 : Hid (NatOk T Z)) (f1 : (Z.toList == [48]) = true) (f2 : (Z.toList != [48]) = false) :
    Calls Tryz.prog 42 #[.string a] w (ValPost (.tuple #[.bool N, .string S, .string Z, .bool false]) w) := by
  have c1 : (0 : Int) ≤ (i : Int) := by omega
  have c2 : (i : Int) ≤ (R.size : Int) := by omega
  have c3 : (0 : Int) ≤ (i : Int) + 1 := by omega
  have c4 : (i : Int) + 1 ≤ (R.size : Int) := by omega
  have c5 : ¬ (i : Int) < 0 := by omega
  have c6 : (i : Int) < (R.size : Int) := by omega
  cases b2
  all_goals
    go_enter Tryz.func42, Tryz.ntmps42
    go_wp2_with fail
    refine (h.out.cp _).mono ?_
    rintro e w' ⟨rfl, rfl⟩
    go_wp2_with fail
    refine (h.out.ix _).mono ?_
    rintro e w1 ⟨rfl, hg⟩
    have G1 := Lib.hid hg
    clear hg
    go_wp2_with fail
    go_quiet (fail)
    go_wp2_with fail
    refine (D1.out _).mono ?_
    rintro e w' ⟨rfl, rfl⟩
    go_wp2_with fail
    refine (M2.out _).mono ?_
    rintro e w' ⟨rfl, rfl⟩
    go_wp2_with fail
    refine (M.out _).mono ?_
    rintro e w' ⟨rfl, rfl⟩
    go_wp2
    exact bodyPost_ret (v := .tuple #[.bool _, .string _, .string _, .bool _]) (by simp [results, Tryz.results42, go_sem]) rfl ⟨rfl, grown_trans G1.out (grown_drewN _ _ _)⟩
set_option maxRecDepth 100000 in
set_option maxHeartbeats 1000000 in
theorem numeral_stroke_false_false (a R H T S Z : ByteArray) (N b2 : Bool) (i : Nat) (w : World) (h : Hid (NumCalls a R N i)) (hi : i < R.size) (hR : R.size ≤ 1200)
    (hc : ¬ ((R[i]'hi).toNat : Int) = 46) (eH : R.extract 0 i = H) (eT : R.extract (i + 1) R.size = T) (hT : T.size ≤ 1200) (hH : H.size ≤ 1200)
    (D1 : Hid (DigOk H false)) (D2 : Hid (DigOk T b2)) (M : Hid (NatOk H S)) (M2 : Hid (NatOk T Z)) (f1 : (Z.toList == [48]) = false) (f2 : (Z.toList != [48]) = true) :
    Calls Tryz.prog 42 #[.string a] w (ValPost (.tuple #[.bool N, .string S, .string Z, .bool false]) w) := by
  have c1 : (0 : Int) ≤ (i : Int) := by omega
  have c2 : (i : Int) ≤ (R.size : Int) := by omega
  have c3 : (0 : Int) ≤ (i : Int) + 1 := by omega
  have c4 : (i : Int) + 1 ≤ (R.size : Int) := by omega
  have c5 : ¬ (i : Int) < 0 := by omega
  have c6 : (i : Int) < (R.size : Int) := by omega
  cases b2
  all_goals
    go_enter Tryz.func42, Tryz.ntmps42
    go_wp2_with fail
    refine (h.out.cp _).mono ?_
    rintro e w' ⟨rfl, rfl⟩
    go_wp2_with fail
    refine (h.out.ix _).mono ?_
    rintro e w1 ⟨rfl, hg⟩
    have G1 := Lib.hid hg
    clear hg
    go_wp2_with fail
    go_quiet (fail)
    go_wp2_with fail
    refine (D1.out _).mono ?_
    rintro e w' ⟨rfl, rfl⟩
    go_wp2_with fail
    refine (M2.out _).mono ?_
    rintro e w' ⟨rfl, rfl⟩
    go_wp2_with fail
    refine (M.out _).mono ?_
    rintro e w' ⟨rfl, rfl⟩
    go_wp2
    exact bodyPost_ret (v := .tuple #[.bool _, .string _, .string _, .bool _]) (by simp [results, Tryz.results42, go_sem]) rfl ⟨rfl, grown_trans G1.out (grown_drewN _ _ _)⟩
end Go.Proofs.YthokjhlbbgfplaaGreatDoor
