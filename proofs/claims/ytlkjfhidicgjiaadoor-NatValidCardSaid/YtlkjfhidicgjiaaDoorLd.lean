/- The walk of NatDivisors. -/
import Derived.Test.YtlkjfhidicgjiaaDoorLb
set_option linter.unusedVariables false
set_option linter.unusedSimpArgs false
namespace Go.Proofs.YtlkjfhidicgjiaaDoor
open Go.RowKit
open Go.Lib (nDigits)

def ValOk (s : ByteArray) (b : Bool) : Prop := ∀ w, Calls Tryd.prog 12 #[.string s] w fun e w' => e = .returned (.bool b) ∧ w = w'
theorem valOk (s : ByteArray) (hs : s.size ≤ maxLen) : ValOk s (numB s) := fun w => valid_any s w hs
theorem gcd_num (a b : ByteArray) (na : numB a = true) (nb : numB b = true) : numB (decS (Nat.gcd (nv a) (nv b))) = true := by
  rcases Nat.eq_zero_or_pos (nv a) with h | h
  · rw [h, Nat.gcd_zero_left]; exact num_le b nb (Nat.le_refl _)
  · exact num_le a na (Nat.le_of_dvd h (Nat.gcd_dvd_left _ _))
theorem dec_zero : decS 0 = ⟨#[48]⟩ := by decide +kernel
theorem dec_one : decS 1 = ⟨#[49]⟩ := by decide +kernel
theorem one_num : numB ⟨#[49]⟩ = true := by decide +kernel

set_option maxRecDepth 100000 in
set_option maxHeartbeats 4000000 in
theorem divisors_bad_a (a b : ByteArray) (w : World) (X : Hid ExOk) (VA : Hid (ValOk a false)) :
    Calls Tryd.prog 10 #[.string a, .string b] w (LawPost w) := by
  go_enter Tryd.func10, Tryd.ntmps10
  go_wp2_with fail
  refine (VA.out _).mono ?_
  rintro e w' ⟨rfl, rfl⟩
  go_wp2_with fail
  refine (X.out _).mono ?_
  rintro e w1 ⟨rfl, hg⟩
  have G1 := Lib.hid hg
  clear hg
  go_wp2
  go_ret
  exact ⟨rfl, G1.out⟩

set_option maxRecDepth 100000 in
set_option maxHeartbeats 4000000 in
theorem divisors_bad_b (a b : ByteArray) (w : World) (X : Hid ExOk) (VA : Hid (ValOk a true)) (VB : Hid (ValOk b false)) :
    Calls Tryd.prog 10 #[.string a, .string b] w (LawPost w) := by
  go_enter Tryd.func10, Tryd.ntmps10
  go_wp2_with fail
  refine (VA.out _).mono ?_
  rintro e w' ⟨rfl, rfl⟩
  go_wp2_with fail
  refine (VB.out _).mono ?_
  rintro e w' ⟨rfl, rfl⟩
  go_wp2_with fail
  refine (X.out _).mono ?_
  rintro e w1 ⟨rfl, hg⟩
  have G1 := Lib.hid hg
  clear hg
  go_wp2
  go_ret
  exact ⟨rfl, G1.out⟩

set_option maxRecDepth 100000 in
set_option maxHeartbeats 4000000 in
theorem divisors_long_a (a b : ByteArray) (w : World) (X : Hid ExOk) (VA : Hid (ValOk a true)) (VB : Hid (ValOk b true)) (h : (60 : Int) < (a.size : Int)) (ha : (a.size : Int) ≤ 9223372036854775807) :
    Calls Tryd.prog 10 #[.string a, .string b] w (LawPost w) := by
  go_enter Tryd.func10, Tryd.ntmps10
  go_wp2_with fail
  refine (VA.out _).mono ?_
  rintro e w' ⟨rfl, rfl⟩
  go_wp2_with fail
  refine (VB.out _).mono ?_
  rintro e w' ⟨rfl, rfl⟩
  go_wp2_with fail
  refine (X.out _).mono ?_
  rintro e w1 ⟨rfl, hg⟩
  have G1 := Lib.hid hg
  clear hg
  go_wp2
  go_ret
  exact ⟨rfl, G1.out⟩

set_option maxRecDepth 100000 in
set_option maxHeartbeats 4000000 in
theorem divisors_long_b (a b : ByteArray) (w : World) (X : Hid ExOk) (VA : Hid (ValOk a true)) (VB : Hid (ValOk b true)) (h : ¬ (60 : Int) < (a.size : Int)) (h2 : (60 : Int) < (b.size : Int)) (hb : (b.size : Int) ≤ 9223372036854775807) :
    Calls Tryd.prog 10 #[.string a, .string b] w (LawPost w) := by
  go_enter Tryd.func10, Tryd.ntmps10
  go_wp2_with fail
  refine (VA.out _).mono ?_
  rintro e w' ⟨rfl, rfl⟩
  go_wp2_with fail
  refine (VB.out _).mono ?_
  rintro e w' ⟨rfl, rfl⟩
  go_wp2_with fail
  refine (X.out _).mono ?_
  rintro e w1 ⟨rfl, hg⟩
  have G1 := Lib.hid hg
  clear hg
  go_wp2
  go_ret
  exact ⟨rfl, G1.out⟩

set_option maxRecDepth 100000 in
set_option maxHeartbeats 4000000 in
theorem divisors_zero (a b : ByteArray) (w : World) (X : Hid ExOk) (VA : Hid (ValOk a true)) (VB : Hid (ValOk b true)) (h : ¬ (60 : Int) < (a.size : Int)) (h2 : ¬ (60 : Int) < (b.size : Int)) (na : numB a = true) (nb : numB b = true) (h0 : nv a = 0) (h1 : nv b = 0) :
    Calls Tryd.prog 10 #[.string a, .string b] w (LawPost w) := by
  have hza := maxLen_ok na
  have hzb := maxLen_ok nb
  have c1 := fun w => gcd_any a b w hza hzb
  rw [gcdV_lit a b a na nb na (by rw [h0, h1]; rfl)] at c1
  have c2 := fun w => gcd_any b a w hzb hza
  rw [gcdV_lit b a a nb na na (by rw [h0, h1]; rfl)] at c2
  have f1 := (str_facts a na).1
  rw [h0] at f1
  have f2 : (a.toList == [48]) = true := by simpa using f1
  have f3 := (str_facts b nb).1
  rw [h1] at f3
  have f4 : (b.toList == [48]) = true := by simpa using f3
  have C1 := Lib.hid c1; have C2 := Lib.hid c2
  clear c1 c2 f1 f3 h0 h1 hza hzb na nb
  go_enter Tryd.func10, Tryd.ntmps10
  go_wp2_with fail
  refine (VA.out _).mono ?_
  rintro e w' ⟨rfl, rfl⟩
  go_wp2_with fail
  refine (VB.out _).mono ?_
  rintro e w' ⟨rfl, rfl⟩
  go_wp2_with fail
  refine (C1.out _).mono ?_
  rintro e w1 ⟨rfl, hg⟩
  have G1 := Lib.hid hg
  clear hg
  go_wp2_with fail
  refine (C2.out _).mono ?_
  rintro e w2 ⟨rfl, hg⟩
  have G2 := Lib.hid (grown_trans G1.out (grown_none hg (r := none)))
  clear hg G1
  go_wp2_with fail
  refine (X.out _).mono ?_
  rintro e w3 ⟨rfl, hg⟩
  have G3 := Lib.hid (grown_trans G2.out (grown_none hg (r := none)))
  clear hg G2
  go_wp2
  go_ret
  exact ⟨rfl, G3.out⟩

set_option maxRecDepth 100000 in
set_option maxHeartbeats 4000000 in
theorem divisors_b_zero (a b : ByteArray) (w : World) (X : Hid ExOk) (VA : Hid (ValOk a true)) (VB : Hid (ValOk b true)) (h : ¬ (60 : Int) < (a.size : Int)) (h2 : ¬ (60 : Int) < (b.size : Int)) (na : numB a = true) (nb : numB b = true) (h0 : nv a ≠ 0) (h1 : nv b = 0) :
    Calls Tryd.prog 10 #[.string a, .string b] w (LawPost w) := by
  have hza := maxLen_ok na
  have hzb := maxLen_ok nb
  have c1 := fun w => gcd_any a b w hza hzb
  rw [gcdV_lit a b a na nb na (by rw [h1, Nat.gcd_zero_right])] at c1
  have c2 := fun w => gcd_any b a w hzb hza
  rw [gcdV_lit b a a nb na na (by rw [h1, Nat.gcd_zero_left])] at c2
  have f2 : (a.toList == [48]) = false := by rw [(str_facts a na).1]; simp [h0]
  have f4 : (b.toList == [48]) = true := by rw [(str_facts b nb).1]; simp [h1]
  obtain ⟨O, hO⟩ : ∃ O : ByteArray, (⟨#[49]⟩ : ByteArray) = O := ⟨_, rfl⟩
  obtain ⟨Z, hZ⟩ : ∃ Z : ByteArray, (⟨#[48]⟩ : ByteArray) = Z := ⟨_, rfl⟩
  have nO := one_num
  have nZ := zero_num
  have vZ := zero_val
  have vO : nv ⟨#[49]⟩ = 1 := by decide +kernel
  rw [hO] at nO vO
  rw [hZ] at nZ vZ
  have f5 : (Z.toList != [48]) = false := by rw [← hZ, Lib.toList_data]; rfl
  have f6 : (O.toList != [49]) = false := by rw [← hO, Lib.toList_data]; rfl
  have f7 : (O.toList == [49]) = true := by rw [← hO, Lib.toList_data]; rfl
  have f8 : (Z.toList == [48]) = true := by rw [← hZ, Lib.toList_data]; rfl
  have c3 := fun w => div_any a a w hza hza
  rw [divV_lit a a O Z na na nO nZ h0 (by rw [vO, Nat.div_self (by omega)]) (by rw [vZ, Nat.mod_self])] at c3
  have c4 := fun w => div_any b a w hzb hza
  rw [divV_lit b a Z Z nb na nZ nZ h0 (by rw [vZ, h1, Nat.zero_div]) (by rw [vZ, h1, Nat.zero_mod])] at c4
  have c5 := fun w => gcd_any O Z w (maxLen_ok nO) (maxLen_ok nZ)
  rw [gcdV_lit O Z O nO nZ nO (by rw [vO, vZ]; rfl)] at c5
  have C1 := Lib.hid c1; have C2 := Lib.hid c2; have C3 := Lib.hid c3; have C4 := Lib.hid c4; have C5 := Lib.hid c5
  clear c1 c2 c3 c4 c5 hO hZ nO nZ vO vZ h0 h1 hza hzb na nb
  go_enter Tryd.func10, Tryd.ntmps10
  go_wp2_with fail
  refine (VA.out _).mono ?_
  rintro e w' ⟨rfl, rfl⟩
  go_wp2_with fail
  refine (VB.out _).mono ?_
  rintro e w' ⟨rfl, rfl⟩
  go_wp2_with fail
  refine (C1.out _).mono ?_
  rintro e w1 ⟨rfl, hg⟩
  have G1 := Lib.hid hg
  clear hg
  go_wp2_with fail
  refine (C2.out _).mono ?_
  rintro e w2 ⟨rfl, hg⟩
  have G2 := Lib.hid (grown_trans G1.out (grown_none hg (r := none)))
  clear hg G1
  go_wp2_with fail
  refine (C3.out _).mono ?_
  rintro e w3 ⟨rfl, hg⟩
  have G3 := Lib.hid (grown_trans G2.out (grown_none hg (r := none)))
  clear hg G2
  go_wp2_with fail
  refine (C4.out _).mono ?_
  rintro e w4 ⟨rfl, hg⟩
  have G4 := Lib.hid (grown_trans G3.out (grown_none hg (r := none)))
  clear hg G3
  go_wp2_with fail
  refine (C5.out _).mono ?_
  rintro e w5 ⟨rfl, hg⟩
  have G5 := Lib.hid (grown_trans G4.out (grown_none hg (r := none)))
  clear hg G4
  go_wp2_with fail
  refine (X.out _).mono ?_
  rintro e w6 ⟨rfl, hg⟩
  have G6 := Lib.hid (grown_trans G5.out (grown_none hg (r := none)))
  clear hg G5
  go_wp2
  go_ret
  exact ⟨rfl, G6.out⟩

set_option maxRecDepth 100000 in
set_option maxHeartbeats 4000000 in
theorem divisors_full (a b : ByteArray) (w : World) (X : Hid ExOk) (VA : Hid (ValOk a true)) (VB : Hid (ValOk b true)) (h : ¬ (60 : Int) < (a.size : Int)) (h2 : ¬ (60 : Int) < (b.size : Int)) (na : numB a = true) (nb : numB b = true) (h1 : nv b ≠ 0) :
    Calls Tryd.prog 10 #[.string a, .string b] w (LawPost w) := by
  have hza := maxLen_ok na
  have hzb := maxLen_ok nb
  obtain ⟨G, hG⟩ : ∃ G : ByteArray, decS (Nat.gcd (nv a) (nv b)) = G := ⟨_, rfl⟩
  have nG := gcd_num a b na nb
  have vG := nv_dec (Nat.gcd (nv a) (nv b))
  rw [hG] at nG vG
  have pG : nv G ≠ 0 := by rw [vG]; exact fun hh => h1 (Nat.gcd_eq_zero_iff.mp hh).2
  have hzg := maxLen_ok nG
  have c1 := fun w => gcd_any a b w hza hzb
  rw [gcdV_lit a b G na nb nG vG] at c1
  have c2 := fun w => gcd_any b a w hzb hza
  rw [gcdV_lit b a G nb na nG (by rw [vG, Nat.gcd_comm])] at c2
  have f2 : (G.toList == [48]) = false := by rw [(str_facts G nG).1]; simp [pG]
  have f4 : (b.toList == [48]) = false := by rw [(str_facts b nb).1]; simp [h1]
  obtain ⟨O, hO⟩ : ∃ O : ByteArray, (⟨#[49]⟩ : ByteArray) = O := ⟨_, rfl⟩
  obtain ⟨Z, hZ⟩ : ∃ Z : ByteArray, (⟨#[48]⟩ : ByteArray) = Z := ⟨_, rfl⟩
  have nO := one_num
  have nZ := zero_num
  have vZ := zero_val
  have vO : nv ⟨#[49]⟩ = 1 := by decide +kernel
  rw [hO] at nO vO
  rw [hZ] at nZ vZ
  have f5 : (Z.toList != [48]) = false := by rw [← hZ, Lib.toList_data]; rfl
  have f6 : (O.toList != [49]) = false := by rw [← hO, Lib.toList_data]; rfl
  have f7 : (O.toList == [49]) = true := by rw [← hO, Lib.toList_data]; rfl
  have f8 : (Z.toList == [48]) = true := by rw [← hZ, Lib.toList_data]; rfl
  have nA : numB (decS (nv a / nv G)) = true := num_le a na (Nat.div_le_self _ _)
  have nB : numB (decS (nv b / nv G)) = true := num_le b nb (Nat.div_le_self _ _)
  have c3 := fun w => div_any a G w hza hzg
  rw [divV_lit a G (decS (nv a / nv G)) Z na nG nA nZ pG (nv_dec _) (by rw [vZ, vG, Nat.mod_eq_zero_of_dvd (Nat.gcd_dvd_left _ _)])] at c3
  have c4 := fun w => div_any b G w hzb hzg
  rw [divV_lit b G (decS (nv b / nv G)) Z nb nG nB nZ pG (nv_dec _) (by rw [vZ, vG, Nat.mod_eq_zero_of_dvd (Nat.gcd_dvd_right _ _)])] at c4
  have c5 := fun w => gcd_any (decS (nv a / nv G)) (decS (nv b / nv G)) w (maxLen_ok nA) (maxLen_ok nB)
  rw [gcdV_lit _ _ O nA nB nO (by rw [vO, nv_dec, nv_dec, vG, Nat.gcd_div (Nat.gcd_dvd_left _ _) (Nat.gcd_dvd_right _ _), Nat.div_self (Nat.pos_of_ne_zero (by rw [← vG]; exact pG))])] at c5
  have nQ : numB (decS (nv a / nv b)) = true := num_le a na (Nat.div_le_self _ _)
  have nR : numB (decS (nv a % nv b)) = true := num_le a na (Nat.mod_le _ _)
  have c6 := fun w => div_any a b w hza hzb
  rw [divV_lit a b (decS (nv a / nv b)) (decS (nv a % nv b)) na nb nQ nR h1 (nv_dec _) (nv_dec _)] at c6
  have c7 := fun w => gcd_any b (decS (nv a % nv b)) w hzb (maxLen_ok nR)
  rw [gcdV_lit _ _ G nb nR nG (by rw [nv_dec, vG, Nat.gcd_comm (nv a), Nat.gcd_rec (nv b) (nv a), Nat.gcd_comm])] at c7
  generalize decS (nv a / nv G) = A at *
  generalize decS (nv b / nv G) = B at *
  generalize decS (nv a / nv b) = Q at *
  generalize decS (nv a % nv b) = R at *
  have C1 := Lib.hid c1; have C2 := Lib.hid c2; have C3 := Lib.hid c3; have C4 := Lib.hid c4; have C5 := Lib.hid c5; have C6 := Lib.hid c6; have C7 := Lib.hid c7
  clear c1 c2 c3 c4 c5 c6 c7 hO hZ nO nZ vO vZ nA nB nQ nR hG vG nG pG hzg h1 hza hzb na nb
  go_enter Tryd.func10, Tryd.ntmps10
  go_wp2_with fail
  refine (VA.out _).mono ?_
  rintro e w' ⟨rfl, rfl⟩
  go_wp2_with fail
  refine (VB.out _).mono ?_
  rintro e w' ⟨rfl, rfl⟩
  go_wp2_with fail
  refine (C1.out _).mono ?_
  rintro e w1 ⟨rfl, hg⟩
  have G1 := Lib.hid hg
  clear hg
  go_wp2_with fail
  refine (C2.out _).mono ?_
  rintro e w2 ⟨rfl, hg⟩
  have G2 := Lib.hid (grown_trans G1.out (grown_none hg (r := none)))
  clear hg G1
  go_wp2_with fail
  refine (C3.out _).mono ?_
  rintro e w3 ⟨rfl, hg⟩
  have G3 := Lib.hid (grown_trans G2.out (grown_none hg (r := none)))
  clear hg G2
  go_wp2_with fail
  refine (C4.out _).mono ?_
  rintro e w4 ⟨rfl, hg⟩
  have G4 := Lib.hid (grown_trans G3.out (grown_none hg (r := none)))
  clear hg G3
  go_wp2_with fail
  refine (C5.out _).mono ?_
  rintro e w5 ⟨rfl, hg⟩
  have G5 := Lib.hid (grown_trans G4.out (grown_none hg (r := none)))
  clear hg G4
  go_wp2_with fail
  refine (C6.out _).mono ?_
  rintro e w6 ⟨rfl, hg⟩
  have G6 := Lib.hid (grown_trans G5.out (grown_none hg (r := none)))
  clear hg G5
  go_wp2_with fail
  refine (C7.out _).mono ?_
  rintro e w7 ⟨rfl, hg⟩
  have G7 := Lib.hid (grown_trans G6.out (grown_none hg (r := none)))
  clear hg G6
  go_wp2_with fail
  refine (X.out _).mono ?_
  rintro e w8 ⟨rfl, hg⟩
  have G8 := Lib.hid (grown_trans G7.out (grown_none hg (r := none)))
  clear hg G7
  go_wp2
  go_ret
  exact ⟨rfl, G8.out⟩

theorem divisors_walk (a b : ByteArray) (w : World) (ha : a.size ≤ maxLen) (hb : b.size ≤ maxLen) :
    Calls Tryd.prog 10 #[.string a, .string b] w (LawPost w) := by
  have X := Lib.hid exOk
  have va := valOk a ha
  have vb := valOk b hb
  have ha' : (a.size : Int) ≤ 9223372036854775807 := by unfold maxLen at ha; omega
  have hb' : (b.size : Int) ≤ 9223372036854775807 := by unfold maxLen at hb; omega
  cases na : numB a
  · rw [na] at va; exact divisors_bad_a a b w X (Lib.hid va)
  cases nb : numB b
  · rw [na] at va; rw [nb] at vb; exact divisors_bad_b a b w X (Lib.hid va) (Lib.hid vb)
  rw [na] at va; rw [nb] at vb
  by_cases h : (60 : Int) < (a.size : Int)
  · exact divisors_long_a a b w X (Lib.hid va) (Lib.hid vb) h ha'
  by_cases h2 : (60 : Int) < (b.size : Int)
  · exact divisors_long_b a b w X (Lib.hid va) (Lib.hid vb) h h2 hb'
  by_cases h1 : nv b = 0
  · by_cases h0 : nv a = 0
    · exact divisors_zero a b w X (Lib.hid va) (Lib.hid vb) h h2 na nb h0 h1
    · exact divisors_b_zero a b w X (Lib.hid va) (Lib.hid vb) h h2 na nb h0 h1
  · exact divisors_full a b w X (Lib.hid va) (Lib.hid vb) h h2 na nb h1
end Go.Proofs.YtlkjfhidicgjiaaDoor
