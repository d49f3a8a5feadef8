/- The reference's Valid, compare, Cmp. -/
import Derived.Test.YtlkjfhidicgjiaaDoorWq
set_option linter.unusedVariables false
set_option linter.unusedSimpArgs false
namespace Go.Proofs.YtlkjfhidicgjiaaDoor
open Go.RowKit
open Go.Lib (nDigits decDigits)

set_option maxHeartbeats 1000000 in
theorem rvalid_any (s : ByteArray) (w : World) (hs : s.size ≤ maxLen) :
    Calls Tryd.prog 13 #[.string s] w fun e w' => e = .returned (.bool (numB s)) ∧ w = w' := by
  unfold maxLen at hs
  by_cases h0 : (s.size : Int) < 1
  · rw [num_size_no s (by omega)]
    go_enter Tryd.func13, Tryd.ntmps13
    go_wp2
    go_ret
    exact ⟨rfl, rfl⟩
  by_cases h1 : (1000 : Int) < (s.size : Int)
  · rw [num_size_no s (by omega)]
    go_enter Tryd.func13, Tryd.ntmps13
    go_wp2
    go_ret
    exact ⟨rfl, rfl⟩
  have hsz : 0 < s.size := by omega
  by_cases hz : ((s[0].toNat : Int) == 48) = true ∧ (1 : Int) < (s.size : Int)
  · obtain ⟨hz1, hz2⟩ := hz
    have HN := Lib.hid (num_zero_no s (by omega) (by have := of_decide_eq_true hz1; omega))
    go_enter Tryd.func13, Tryd.ntmps13
    go_wp2
    go_ret
    exact ⟨by rw [HN.out]; rfl, rfl⟩
  have hzz : s.size = 1 ∨ s[0].toNat ≠ 48 := by
    by_cases e : s.size = 1
    · exact .inl e
    · exact .inr fun e2 => hz ⟨by simp [e2], by omega⟩
  have HZ := Lib.hid hzz
  have key : Calls Tryd.prog 13 #[.string s] w fun e w' => e = .returned (.bool (numB s)) ∧ w = w' := by
    by_cases hz1 : ((s[0].toNat : Int) == 48) = true
    · have hz2 : ¬ (1 : Int) < (s.size : Int) := fun h => hz ⟨hz1, h⟩
      clear hz hzz
      go_enter Tryd.func13, Tryd.ntmps13
      go_wp2
      go_loop [3] (fun i => ∃ k : Nat, i = .int .i64 k ∧ k ≤ s.size ∧ ∀ j (hj : j < s.size), j < k → isDg s[j] = true) (fun i => s.size - (intOf i).toNat)
      case atStart => exact ⟨0, rfl, by omega, fun j hj h => by omega⟩
      case round =>
        obtain ⟨k, rfl, hk, hall⟩ := hrel
        have HALL := Lib.hid hall
        clear hall
        by_cases hlt : k < s.size
        · by_cases hd : (s[k].toNat : Int) < 48
          · have HN := Lib.hid (num_dig_no s k hlt (isDg_no s[k] (.inl hd)))
            go_wp2
            go_ret
            exact ⟨by rw [HN.out]; rfl, rfl⟩
          · by_cases hd2 : (57 : Int) < (s[k].toNat : Int)
            · have HN := Lib.hid (num_dig_no s k hlt (isDg_no s[k] (.inr hd2)))
              go_wp2
              go_ret
              exact ⟨by rw [HN.out]; rfl, rfl⟩
            · have HN := Lib.hid (isDg_of s[k] (by omega) (by omega))
              go_wp2
              go_round
              case rel => exact ⟨k + 1, by go_num, by omega, fun j hj h => by
                by_cases e : j = k
                · subst e; exact HN.out
                · exact HALL.out j hj (by omega)⟩
              case measure => simp [intOf]; omega
        · have HN := Lib.hid (num_yes s (by omega) (by omega) (fun j hj => HALL.out j hj (by omega)) HZ.out)
          go_wp2
          go_ret
          exact ⟨by rw [HN.out]; rfl, rfl⟩
    · have hz3 : ((s[0].toNat : Int) == 48) = false := by simpa using hz1
      clear hz hzz hz1
      go_enter Tryd.func13, Tryd.ntmps13
      go_wp2
      go_loop [3] (fun i => ∃ k : Nat, i = .int .i64 k ∧ k ≤ s.size ∧ ∀ j (hj : j < s.size), j < k → isDg s[j] = true) (fun i => s.size - (intOf i).toNat)
      case atStart => exact ⟨0, rfl, by omega, fun j hj h => by omega⟩
      case round =>
        obtain ⟨k, rfl, hk, hall⟩ := hrel
        have HALL := Lib.hid hall
        clear hall
        by_cases hlt : k < s.size
        · by_cases hd : (s[k].toNat : Int) < 48
          · have HN := Lib.hid (num_dig_no s k hlt (isDg_no s[k] (.inl hd)))
            go_wp2
            go_ret
            exact ⟨by rw [HN.out]; rfl, rfl⟩
          · by_cases hd2 : (57 : Int) < (s[k].toNat : Int)
            · have HN := Lib.hid (num_dig_no s k hlt (isDg_no s[k] (.inr hd2)))
              go_wp2
              go_ret
              exact ⟨by rw [HN.out]; rfl, rfl⟩
            · have HN := Lib.hid (isDg_of s[k] (by omega) (by omega))
              go_wp2
              go_round
              case rel => exact ⟨k + 1, by go_num, by omega, fun j hj h => by
                by_cases e : j = k
                · subst e; exact HN.out
                · exact HALL.out j hj (by omega)⟩
              case measure => simp [intOf]; omega
        · have HN := Lib.hid (num_yes s (by omega) (by omega) (fun j hj => HALL.out j hj (by omega)) HZ.out)
          go_wp2
          go_ret
          exact ⟨by rw [HN.out]; rfl, rfl⟩
  exact key

theorem cb_self (l : List UInt8) : Lib.compareBytes l l = 0 := by
  induction l with
  | nil => rfl
  | cons a l ih =>
    unfold Lib.compareBytes
    rw [if_neg (UInt8.lt_irrefl a), if_neg (UInt8.lt_irrefl a), ih]
theorem cb_cut (p s t : List UInt8) (x y : UInt8) (h : x < y) : Lib.compareBytes (p ++ x :: s) (p ++ y :: t) = -1 ∧ Lib.compareBytes (p ++ y :: t) (p ++ x :: s) = 1 := by
  induction p with
  | nil =>
    have h' : ¬ y < x := fun h2 => UInt8.lt_irrefl x (UInt8.lt_trans h h2)
    simp [Lib.compareBytes, h, h']
  | cons a p ih =>
    rw [List.cons_append, List.cons_append]
    unfold Lib.compareBytes
    rw [if_neg (UInt8.lt_irrefl a), if_neg (UInt8.lt_irrefl a), if_neg (UInt8.lt_irrefl a), if_neg (UInt8.lt_irrefl a)]
    exact ih
theorem list_cut (l : List UInt8) (k : Nat) (h : k < l.length) : l = l.take k ++ l[k] :: l.drop (k + 1) := by
  rw [← List.drop_eq_getElem_cons h, List.take_append_drop]
/-- Where two numbers of one length part. -/
theorem num_part (a b : ByteArray) (na : numB a = true) (nb : numB b = true) (hs : a.size = b.size) (k : Nat) (ha : k < a.size) (hb : k < b.size) (ht : a.data.toList.take k = b.data.toList.take k) (hlt : a[k].toNat < b[k].toNat) :
    cmpN (nv a) (nv b) = -1 ∧ cmpN (nv b) (nv a) = 1 := by
  have la : a.data.toList.length = a.size := by simp
  have lb : b.data.toList.length = b.size := by simp
  have ea := (num_is a na).1
  have eb := (num_is b nb).1
  have da : a.data.toList = decDigits (nv a) := by conv => lhs; rw [ea]; simp [decS]
  have db : b.data.toList = decDigits (nv b) := by conv => lhs; rw [eb]; simp [decS]
  have hd : nDigits (nv a) = nDigits (nv b) := by
    rw [← Lib.decDigits_length, ← Lib.decDigits_length, ← da, ← db]; omega
  have h1 := dec_cmp (nv a) (nv b) hd
  have h2 := dec_cmp (nv b) (nv a) hd.symm
  rw [← h1, ← h2, ← da, ← db, list_cut a.data.toList k (by omega), list_cut b.data.toList k (by omega), ht]
  exact cb_cut _ _ _ _ _ hlt
theorem num_same (a b : ByteArray) (hs : a.size = b.size) (ht : a.data.toList.take a.size = b.data.toList.take a.size) : a = b := by
  have la : a.data.toList.length = a.size := by simp
  have lb : b.data.toList.length = b.size := by simp
  rw [List.take_of_length_le (by omega), List.take_of_length_le (by omega)] at ht
  exact ByteArray.ext (Array.toList_inj.1 ht)
theorem take_more (a b : ByteArray) (k : Nat) (ha : k < a.size) (hb : k < b.size) (ht : a.data.toList.take k = b.data.toList.take k) (he : a[k] = b[k]) : a.data.toList.take (k + 1) = b.data.toList.take (k + 1) := by
  rw [List.take_succ_eq_append_getElem (by simpa using ha), List.take_succ_eq_append_getElem (by simpa using hb), ht]
  congr 1
  congr 1
theorem size_digits (a : ByteArray) (na : numB a = true) : a.size = nDigits (nv a) := by
  have ea := (num_is a na).1
  have : a.size = a.data.toList.length := by simp
  rw [this, ← Lib.decDigits_length]
  congr 1
  conv => lhs; rw [ea]; simp [decS]
def CmpPost (v : Int) (w : World) (e : Ending) (w' : World) : Prop := e = .returned (.int .i64 v) ∧ w.grownBy w' none

set_option maxHeartbeats 1000000 in
theorem rcompare_any (a b : ByteArray) (w : World) (na : numB a = true) (nb : numB b = true) :
    Calls Tryd.prog 35 #[.string a, .string b] w (CmpPost (cmpN (nv a) (nv b)) w) := by
  have za := maxLen_ok na
  have zb := maxLen_ok nb
  unfold maxLen at za zb
  have sa := size_digits a na
  have sb := size_digits b nb
  by_cases h1 : (a.size : Int) < (b.size : Int)
  · have HV := Lib.hid (show cmpN (nv a) (nv b) = -1 by unfold cmpN; rw [if_pos (nDigits_lt (by omega))])
    have h2 : ((a.size : Int) != (b.size : Int)) = true := by simp; omega
    clear sa sb
    go_enter Tryd.func35, Tryd.ntmps35
    go_wp2
    go_ret
    exact ⟨by rw [HV.out]; rfl, grown_refl _ _⟩
  by_cases h2 : (b.size : Int) < (a.size : Int)
  · have HV := Lib.hid (show cmpN (nv a) (nv b) = 1 by
      have := nDigits_lt (m := nv b) (n := nv a) (by omega)
      unfold cmpN; rw [if_neg (by omega), if_pos this])
    have h3 : ((a.size : Int) != (b.size : Int)) = true := by simp; omega
    clear sa sb
    go_enter Tryd.func35, Tryd.ntmps35
    go_wp2
    go_ret
    exact ⟨by rw [HV.out]; rfl, grown_refl _ _⟩
  have hs : a.size = b.size := by omega
  have h3 : ((a.size : Int) != (b.size : Int)) = false := by simp; omega
  have HS := Lib.hid hs
  have NA := Lib.hid na; have NB := Lib.hid nb
  clear sa sb hs na nb h1 h2
  go_enter Tryd.func35, Tryd.ntmps35
  go_wp2
  go_loopw [5] (fun i wr => ∃ k : Nat, i = .int .i64 k ∧ k ≤ a.size ∧ a.data.toList.take k = b.data.toList.take k ∧ w.grownBy wr none) (fun i _ => a.size - (intOf i).toNat)
  case atStart => exact ⟨0, rfl, by omega, rfl, grown_refl _ _⟩
  case round =>
    obtain ⟨k, rfl, hk, ht, hg⟩ := hrel
    have HT := Lib.hid ht; have HG := Lib.hid hg
    clear ht hg
    by_cases hlt : k < a.size
    · have hlb : k < b.size := by have := HS.out; omega
      have z0 : (0 : Int) ≤ (k : Int) := by omega
      have z1 : (k : Int) < (a.size : Int) := by omega
      have z2 : (k : Int) < (b.size : Int) := by omega
      by_cases c1 : (a[k].toNat : Int) < (b[k].toNat : Int)
      · have HV := Lib.hid (num_part a b NA.out NB.out HS.out k hlt hlb HT.out (by omega)).1
        have c2 : ((a[k].toNat : Int) != (b[k].toNat : Int)) = true := by simp; omega
        go_wp2
        go_quiet (fail)
        go_wp2
        go_quiet (fail)
        go_wp2
        go_ret
        exact ⟨by rw [HV.out]; rfl, grown_trans HG.out (grown_trans (grown_drewN _ _ _) (grown_drewN _ _ _))⟩
      · by_cases c3 : (b[k].toNat : Int) < (a[k].toNat : Int)
        · have HV := Lib.hid (num_part b a NB.out NA.out HS.out.symm k hlb hlt HT.out.symm (by omega)).2
          have c2 : ((a[k].toNat : Int) != (b[k].toNat : Int)) = true := by simp; omega
          go_wp2
          go_quiet (fail)
          go_wp2
          go_quiet (fail)
          go_wp2
          go_ret
          exact ⟨by rw [HV.out]; rfl, grown_trans HG.out (grown_trans (grown_drewN _ _ _) (grown_drewN _ _ _))⟩
        · have he : a[k] = b[k] := UInt8.toNat_inj.1 (by omega)
          have HM := Lib.hid (take_more a b k hlt hlb HT.out he)
          have c2 : ((a[k].toNat : Int) != (b[k].toNat : Int)) = false := by simp; omega
          clear he
          go_wp2
          go_quiet (fail)
          go_wp2
          go_roundw
          case rel => exact ⟨k + 1, by go_num, by omega, HM.out, grown_trans HG.out (grown_drewN _ _ _)⟩
          case measure => simp [intOf]; omega
    · have HV := Lib.hid (show cmpN (nv a) (nv b) = 0 by
        have e := num_same a b HS.out (by rw [show a.size = k by omega]; exact HT.out)
        rw [e]; unfold cmpN; rw [if_neg (by omega), if_neg (by omega)])
      go_wp2
      go_ret
      exact ⟨by rw [HV.out]; rfl, HG.out⟩

theorem rcmp_any (a b : ByteArray) (w : World) (ha : a.size ≤ maxLen) (hb : b.size ≤ maxLen) :
    Calls Tryd.prog 17 #[.string a, .string b] w (CmpPost (cmpV a b) w) := by
  have va := Lib.hid (fun w => rvalid_any a w ha)
  have vb := Lib.hid (fun w => rvalid_any b w hb)
  cases na : numB a
  · have HV := Lib.hid (show cmpV a b = 0 by unfold cmpV; rw [na]; rfl)
    rw [na] at va
    clear ha hb
    go_enter Tryd.func17, Tryd.ntmps17
    go_wp2_with fail
    refine (va.out _).mono ?_
    rintro e w' ⟨rfl, rfl⟩
    go_wp2
    go_ret
    exact ⟨by rw [HV.out]; rfl, grown_refl _ _⟩
  cases nb : numB b
  · have HV := Lib.hid (show cmpV a b = 0 by unfold cmpV; rw [na, nb]; rfl)
    rw [na] at va
    rw [nb] at vb
    clear ha hb
    go_enter Tryd.func17, Tryd.ntmps17
    go_wp2_with fail
    refine (va.out _).mono ?_
    rintro e w' ⟨rfl, rfl⟩
    go_wp2_with fail
    refine (vb.out _).mono ?_
    rintro e w' ⟨rfl, rfl⟩
    go_wp2
    go_ret
    exact ⟨by rw [HV.out]; rfl, grown_refl _ _⟩
  have HV := Lib.hid (show cmpV a b = cmpN (nv a) (nv b) by unfold cmpV; rw [na, nb]; rfl)
  have c := Lib.hid (fun w => rcompare_any a b w na nb)
  rw [na] at va
  rw [nb] at vb
  clear ha hb
  go_enter Tryd.func17, Tryd.ntmps17
  go_wp2_with fail
  refine (va.out _).mono ?_
  rintro e w' ⟨rfl, rfl⟩
  go_wp2_with fail
  refine (vb.out _).mono ?_
  rintro e w' ⟨rfl, rfl⟩
  go_wp2_with fail
  refine (c.out _).mono ?_
  rintro e w1 ⟨rfl, hg⟩
  have G := Lib.hid hg
  clear hg
  go_wp2
  go_ret
  exact ⟨by rw [HV.out]; rfl, G.out⟩
end Go.Proofs.YtlkjfhidicgjiaaDoor
