/- The walk of NatBack. -/
import Derived.Test.YtlkjfhidicgjiaaDoorLl
set_option linter.unusedVariables false
set_option linter.unusedSimpArgs false
namespace Go.Proofs.YtlkjfhidicgjiaaDoor
open Go.RowKit
open Go.Lib (nDigits)

theorem sub_back (S a b : ByteArray) (na : numB a = true) (nb : numB b = true) (nS : numB S = true) (h : nv S = nv a + nv b) : subV S b = .tuple #[.string a, .int .i64 0] := by
  unfold subV
  rw [nS, nb, h]
  simp only [Bool.and_self, if_true]
  rw [if_neg (by omega), Nat.add_sub_cancel, ← (num_is a na).1]
theorem zero_num : numB ⟨#[48]⟩ = true := by decide +kernel
theorem zero_val : nv ⟨#[48]⟩ = 0 := by decide +kernel
theorem div_back (P a b : ByteArray) (na : numB a = true) (nb : numB b = true) (nP : numB P = true) (h : nv P = nv a * nv b) (h0 : nv b ≠ 0) : divV P b = .tuple #[.string a, .string ⟨#[48]⟩, .int .i64 0] :=
  divV_lit P b a ⟨#[48]⟩ nP nb na zero_num h0 (by rw [h, Nat.mul_div_cancel _ (by omega)]) (by rw [h, Nat.mul_mod_left, zero_val])
theorem num_le {m : Nat} (a : ByteArray) (ha : numB a = true) (h : m ≤ nv a) : numB (decS m) = true := by
  rw [num_dec]
  have := (num_is a ha).2
  have := nDigits_mono h
  simp
  omega
/-- A strings fact, in both of the walk's spellings. -/
theorem str_facts (b : ByteArray) (h : numB b = true) : (b.toList == [48]) = decide (nv b = 0) ∧ (b.toList != [48]) = !decide (nv b = 0) := by
  have := zero_str b h
  exact ⟨this, by rw [bne, this]⟩

structure BackOk (a b c : ByteArray) : Prop where
  va : ∀ w, Calls Tryd.prog 12 #[.string a] w fun e w' => e = .returned (.bool true) ∧ w = w'
  vb : ∀ w, Calls Tryd.prog 12 #[.string b] w fun e w' => e = .returned (.bool true) ∧ w = w'
  vc : ∀ w, Calls Tryd.prog 12 #[.string c] w fun e w' => e = .returned (.bool true) ∧ w = w'
theorem backOk (a b c : ByteArray) (na : numB a = true) (nb : numB b = true) (nc : numB c = true) : BackOk a b c :=
  ⟨fun w => by have := valid_any a w (maxLen_ok na); rw [na] at this; exact this, fun w => by have := valid_any b w (maxLen_ok nb); rw [nb] at this; exact this, fun w => by have := valid_any c w (maxLen_ok nc); rw [nc] at this; exact this⟩

set_option maxRecDepth 100000 in
set_option maxHeartbeats 4000000 in
theorem back_ok_zero_zero (a b c : ByteArray) (w : World) (X : Hid ExOk) (na : numB a = true) (nb : numB b = true) (nc : numB c = true) (S P : ByteArray) (hS : addV a b = .tuple #[.string S, .int .i64 0]) (nS : numB S = true) (vS : nv S = nv a + nv b) (hP : mulV a b = .tuple #[.string P, .int .i64 0]) (nP : numB P = true) (vP : nv P = nv a * nv b) (h0 : nv b = 0) (hc : nv c = 0) :
    Calls Tryd.prog 8 #[.string a, .string b, .string c] w (LawPost w) := by
  have V := Lib.hid (backOk a b c na nb nc)
  have hza := maxLen_ok na
  have hzb := maxLen_ok nb
  have hzc := maxLen_ok nc
  have c1 := fun w => add_any a b w hza hzb
  rw [hS] at c1
  have c2 := fun w => sub_any S b w (maxLen_ok nS) hzb
  rw [sub_back S a b na nb nS vS] at c2
  have c3 := fun w => cmp_any S b w (maxLen_ok nS) hzb
  obtain ⟨d, hd, hd0⟩ : ∃ d : Int, cmpV S b = d ∧ 0 ≤ d := ⟨_, rfl, by unfold cmpV; rw [nS, nb, vS]; have := cmpN_lt (nv a + nv b) (nv b); simp only [Bool.and_self, if_true]; omega⟩
  rw [hd] at c3
  have C2 := Lib.hid c2; have C3 := Lib.hid c3
  have C1 := Lib.hid c1
  have c4 := fun w => mul_any a b w hza hzb
  rw [hP] at c4
  have f1 := str_facts b nb
  rw [h0] at f1
  have f2 : (b.toList == [48]) = true := by simpa using f1.1
  have f3 : (b.toList != [48]) = false := by simpa using f1.2
  have C4 := Lib.hid c4
  have g1 := str_facts c nc
  rw [hc] at g1
  have g2 : (c.toList == [48]) = true := by simpa using g1.1
  clear hza hzb hzc c2 c3 hd hS nS vS c1 hP nP vP f1 h0 c4 g1 hc na nb nc
  go_enter Tryd.func8, Tryd.ntmps8
  go_wp2_with fail
  refine (V.out.va _).mono ?_
  rintro e w' ⟨rfl, rfl⟩
  go_wp2_with fail
  refine (V.out.vb _).mono ?_
  rintro e w' ⟨rfl, rfl⟩
  go_wp2_with fail
  refine (V.out.vc _).mono ?_
  rintro e w' ⟨rfl, rfl⟩
  go_wp2_with fail
  refine (C1.out _).mono ?_
  rintro e w1 ⟨rfl, hg⟩
  have G1 := Lib.hid hg
  clear hg
  go_wp2_with fail
  refine (C2.out _).mono ?_
  rintro e w2 ⟨rfl, hg⟩
  have G2 := Lib.hid (grown_trans G1.out (grown_none hg (r := none)))
  clear hg G1
  go_wp2_with fail
  refine (C3.out _).mono ?_
  rintro e w3 ⟨rfl, hg⟩
  have G3 := Lib.hid (grown_trans G2.out (grown_none hg (r := none)))
  clear hg G2
  go_wp2_with fail
  refine (C4.out _).mono ?_
  rintro e w4 ⟨rfl, hg⟩
  have G4 := Lib.hid (grown_trans G3.out (grown_none hg (r := none)))
  clear hg G3
  go_wp2_with fail
  refine (X.out _).mono ?_
  rintro e w5 ⟨rfl, hg⟩
  have G5 := Lib.hid (grown_trans G4.out (grown_none hg (r := none)))
  clear hg G4
  go_wp2
  go_ret
  exact ⟨rfl, G5.out⟩

set_option maxRecDepth 100000 in
set_option maxHeartbeats 4000000 in
theorem back_ok_zero_ok (a b c : ByteArray) (w : World) (X : Hid ExOk) (na : numB a = true) (nb : numB b = true) (nc : numB c = true) (S P : ByteArray) (hS : addV a b = .tuple #[.string S, .int .i64 0]) (nS : numB S = true) (vS : nv S = nv a + nv b) (hP : mulV a b = .tuple #[.string P, .int .i64 0]) (nP : numB P = true) (vP : nv P = nv a * nv b) (h0 : nv b = 0) (hc : nv c ≠ 0) :
    Calls Tryd.prog 8 #[.string a, .string b, .string c] w (LawPost w) := by
  have V := Lib.hid (backOk a b c na nb nc)
  have hza := maxLen_ok na
  have hzb := maxLen_ok nb
  have hzc := maxLen_ok nc
  have c1 := fun w => add_any a b w hza hzb
  rw [hS] at c1
  have c2 := fun w => sub_any S b w (maxLen_ok nS) hzb
  rw [sub_back S a b na nb nS vS] at c2
  have c3 := fun w => cmp_any S b w (maxLen_ok nS) hzb
  obtain ⟨d, hd, hd0⟩ : ∃ d : Int, cmpV S b = d ∧ 0 ≤ d := ⟨_, rfl, by unfold cmpV; rw [nS, nb, vS]; have := cmpN_lt (nv a + nv b) (nv b); simp only [Bool.and_self, if_true]; omega⟩
  rw [hd] at c3
  have C2 := Lib.hid c2; have C3 := Lib.hid c3
  have C1 := Lib.hid c1
  have c4 := fun w => mul_any a b w hza hzb
  rw [hP] at c4
  have f1 := str_facts b nb
  rw [h0] at f1
  have f2 : (b.toList == [48]) = true := by simpa using f1.1
  have f3 : (b.toList != [48]) = false := by simpa using f1.2
  have C4 := Lib.hid c4
  have g1 := str_facts c nc
  have g2 : (c.toList == [48]) = false := by rw [g1.1]; simp [hc]
  have nQ : numB (decS (nv a / nv c)) = true := num_le a na (Nat.div_le_self _ _)
  have nR : numB (decS (nv a % nv c)) = true := num_le a na (Nat.mod_le _ _)
  have nT : numB (decS (nv a / nv c * nv c)) = true := num_le a na (Nat.div_mul_le_self _ _)
  have c6 := fun w => div_any a c w hza hzc
  rw [divV_lit a c (decS (nv a / nv c)) (decS (nv a % nv c)) na nc nQ nR hc (nv_dec _) (nv_dec _)] at c6
  have c7 := fun w => mul_any (decS (nv a / nv c)) c w (maxLen_ok nQ) hzc
  rw [mulV_lit _ c (decS (nv a / nv c * nv c)) nQ nc nT (by rw [nv_dec, nv_dec])] at c7
  have c8 := fun w => add_any (decS (nv a / nv c * nv c)) (decS (nv a % nv c)) w (maxLen_ok nT) (maxLen_ok nR)
  rw [addV_lit _ _ a nT nR na (by rw [nv_dec, nv_dec, Nat.mul_comm, Nat.div_add_mod])] at c8
  have c9 := fun w => cmp_any (decS (nv a % nv c)) c w (maxLen_ok nR) hzc
  rw [show cmpV (decS (nv a % nv c)) c = -1 by unfold cmpV; rw [nR, nc, nv_dec]; have := Nat.mod_lt (nv a) (show nv c > 0 by omega); simp only [Bool.and_self, if_true]; unfold cmpN; rw [if_pos this]] at c9
  generalize decS (nv a / nv c) = Q at *
  generalize decS (nv a % nv c) = R at *
  generalize decS (nv a / nv c * nv c) = T at *
  have C6 := Lib.hid c6; have C7 := Lib.hid c7; have C8 := Lib.hid c8; have C9 := Lib.hid c9
  clear hza hzb hzc c2 c3 hd hS nS vS c1 hP nP vP f1 h0 c4 g1 hc c6 c7 c8 c9 nQ nR nT na nb nc
  go_enter Tryd.func8, Tryd.ntmps8
  go_wp2_with fail
  refine (V.out.va _).mono ?_
  rintro e w' ⟨rfl, rfl⟩
  go_wp2_with fail
  refine (V.out.vb _).mono ?_
  rintro e w' ⟨rfl, rfl⟩
  go_wp2_with fail
  refine (V.out.vc _).mono ?_
  rintro e w' ⟨rfl, rfl⟩
  go_wp2_with fail
  refine (C1.out _).mono ?_
  rintro e w1 ⟨rfl, hg⟩
  have G1 := Lib.hid hg
  clear hg
  go_wp2_with fail
  refine (C2.out _).mono ?_
  rintro e w2 ⟨rfl, hg⟩
  have G2 := Lib.hid (grown_trans G1.out (grown_none hg (r := none)))
  clear hg G1
  go_wp2_with fail
  refine (C3.out _).mono ?_
  rintro e w3 ⟨rfl, hg⟩
  have G3 := Lib.hid (grown_trans G2.out (grown_none hg (r := none)))
  clear hg G2
  go_wp2_with fail
  refine (C4.out _).mono ?_
  rintro e w4 ⟨rfl, hg⟩
  have G4 := Lib.hid (grown_trans G3.out (grown_none hg (r := none)))
  clear hg G3
  go_wp2_with fail
  refine (C6.out _).mono ?_
  rintro e w5 ⟨rfl, hg⟩
  have G5 := Lib.hid (grown_trans G4.out (grown_none hg (r := none)))
  clear hg G4
  go_wp2_with fail
  refine (C7.out _).mono ?_
  rintro e w6 ⟨rfl, hg⟩
  have G6 := Lib.hid (grown_trans G5.out (grown_none hg (r := none)))
  clear hg G5
  go_wp2_with fail
  refine (C8.out _).mono ?_
  rintro e w7 ⟨rfl, hg⟩
  have G7 := Lib.hid (grown_trans G6.out (grown_none hg (r := none)))
  clear hg G6
  go_wp2_with fail
  refine (C9.out _).mono ?_
  rintro e w8 ⟨rfl, hg⟩
  have G8 := Lib.hid (grown_trans G7.out (grown_none hg (r := none)))
  clear hg G7
  go_wp2_with fail
  refine (X.out _).mono ?_
  rintro e w9 ⟨rfl, hg⟩
  have G9 := Lib.hid (grown_trans G8.out (grown_none hg (r := none)))
  clear hg G8
  go_wp2
  go_ret
  exact ⟨rfl, G9.out⟩

set_option maxRecDepth 100000 in
set_option maxHeartbeats 4000000 in
theorem back_ok_ok_zero (a b c : ByteArray) (w : World) (X : Hid ExOk) (na : numB a = true) (nb : numB b = true) (nc : numB c = true) (S P : ByteArray) (hS : addV a b = .tuple #[.string S, .int .i64 0]) (nS : numB S = true) (vS : nv S = nv a + nv b) (hP : mulV a b = .tuple #[.string P, .int .i64 0]) (nP : numB P = true) (vP : nv P = nv a * nv b) (h0 : nv b ≠ 0) (hc : nv c = 0) :
    Calls Tryd.prog 8 #[.string a, .string b, .string c] w (LawPost w) := by
  have V := Lib.hid (backOk a b c na nb nc)
  have hza := maxLen_ok na
  have hzb := maxLen_ok nb
  have hzc := maxLen_ok nc
  have c1 := fun w => add_any a b w hza hzb
  rw [hS] at c1
  have c2 := fun w => sub_any S b w (maxLen_ok nS) hzb
  rw [sub_back S a b na nb nS vS] at c2
  have c3 := fun w => cmp_any S b w (maxLen_ok nS) hzb
  obtain ⟨d, hd, hd0⟩ : ∃ d : Int, cmpV S b = d ∧ 0 ≤ d := ⟨_, rfl, by unfold cmpV; rw [nS, nb, vS]; have := cmpN_lt (nv a + nv b) (nv b); simp only [Bool.and_self, if_true]; omega⟩
  rw [hd] at c3
  have C2 := Lib.hid c2; have C3 := Lib.hid c3
  have C1 := Lib.hid c1
  have c4 := fun w => mul_any a b w hza hzb
  rw [hP] at c4
  have f1 := str_facts b nb
  have f2 : (b.toList == [48]) = false := by rw [f1.1]; simp [h0]
  have f3 : (b.toList != [48]) = true := by rw [f1.2]; simp [h0]
  have c5 := fun w => div_any P b w (maxLen_ok nP) hzb
  rw [div_back P a b na nb nP vP h0] at c5
  obtain ⟨Z, hZ⟩ : ∃ Z : ByteArray, (⟨#[48]⟩ : ByteArray) = Z := ⟨_, rfl⟩
  have f4 : (Z.toList != [48]) = false := by rw [← hZ, Lib.toList_data]; rfl
  have f5 : (Z.toList == [48]) = true := by rw [← hZ, Lib.toList_data]; rfl
  rw [hZ] at c5
  have C5 := Lib.hid c5
  have C4 := Lib.hid c4
  have g1 := str_facts c nc
  rw [hc] at g1
  have g2 : (c.toList == [48]) = true := by simpa using g1.1
  clear hza hzb hzc c2 c3 hd hS nS vS c1 hP nP vP f1 h0 c5 hZ c4 g1 hc na nb nc
  go_enter Tryd.func8, Tryd.ntmps8
  go_wp2_with fail
  refine (V.out.va _).mono ?_
  rintro e w' ⟨rfl, rfl⟩
  go_wp2_with fail
  refine (V.out.vb _).mono ?_
  rintro e w' ⟨rfl, rfl⟩
  go_wp2_with fail
  refine (V.out.vc _).mono ?_
  rintro e w' ⟨rfl, rfl⟩
  go_wp2_with fail
  refine (C1.out _).mono ?_
  rintro e w1 ⟨rfl, hg⟩
  have G1 := Lib.hid hg
  clear hg
  go_wp2_with fail
  refine (C2.out _).mono ?_
  rintro e w2 ⟨rfl, hg⟩
  have G2 := Lib.hid (grown_trans G1.out (grown_none hg (r := none)))
  clear hg G1
  go_wp2_with fail
  refine (C3.out _).mono ?_
  rintro e w3 ⟨rfl, hg⟩
  have G3 := Lib.hid (grown_trans G2.out (grown_none hg (r := none)))
  clear hg G2
  go_wp2_with fail
  refine (C4.out _).mono ?_
  rintro e w4 ⟨rfl, hg⟩
  have G4 := Lib.hid (grown_trans G3.out (grown_none hg (r := none)))
  clear hg G3
  go_wp2_with fail
  refine (C5.out _).mono ?_
  rintro e w5 ⟨rfl, hg⟩
  have G5 := Lib.hid (grown_trans G4.out (grown_none hg (r := none)))
  clear hg G4
  go_wp2_with fail
  refine (X.out _).mono ?_
  rintro e w6 ⟨rfl, hg⟩
  have G6 := Lib.hid (grown_trans G5.out (grown_none hg (r := none)))
  clear hg G5
  go_wp2
  go_ret
  exact ⟨rfl, G6.out⟩

set_option maxRecDepth 100000 in
set_option maxHeartbeats 4000000 in
theorem back_ok_ok_ok (a b c : ByteArray) (w : World) (X : Hid ExOk) (na : numB a = true) (nb : numB b = true) (nc : numB c = true) (S P : ByteArray) (hS : addV a b = .tuple #[.string S, .int .i64 0]) (nS : numB S = true) (vS : nv S = nv a + nv b) (hP : mulV a b = .tuple #[.string P, .int .i64 0]) (nP : numB P = true) (vP : nv P = nv a * nv b) (h0 : nv b ≠ 0) (hc : nv c ≠ 0) :
    Calls Tryd.prog 8 #[.string a, .string b, .string c] w (LawPost w) := by
  have V := Lib.hid (backOk a b c na nb nc)
  have hza := maxLen_ok na
  have hzb := maxLen_ok nb
  have hzc := maxLen_ok nc
  have c1 := fun w => add_any a b w hza hzb
  rw [hS] at c1
  have c2 := fun w => sub_any S b w (maxLen_ok nS) hzb
  rw [sub_back S a b na nb nS vS] at c2
  have c3 := fun w => cmp_any S b w (maxLen_ok nS) hzb
  obtain ⟨d, hd, hd0⟩ : ∃ d : Int, cmpV S b = d ∧ 0 ≤ d := ⟨_, rfl, by unfold cmpV; rw [nS, nb, vS]; have := cmpN_lt (nv a + nv b) (nv b); simp only [Bool.and_self, if_true]; omega⟩
  rw [hd] at c3
  have C2 := Lib.hid c2; have C3 := Lib.hid c3
  have C1 := Lib.hid c1
  have c4 := fun w => mul_any a b w hza hzb
  rw [hP] at c4
  have f1 := str_facts b nb
  have f2 : (b.toList == [48]) = false := by rw [f1.1]; simp [h0]
  have f3 : (b.toList != [48]) = true := by rw [f1.2]; simp [h0]
  have c5 := fun w => div_any P b w (maxLen_ok nP) hzb
  rw [div_back P a b na nb nP vP h0] at c5
  obtain ⟨Z, hZ⟩ : ∃ Z : ByteArray, (⟨#[48]⟩ : ByteArray) = Z := ⟨_, rfl⟩
  have f4 : (Z.toList != [48]) = false := by rw [← hZ, Lib.toList_data]; rfl
  have f5 : (Z.toList == [48]) = true := by rw [← hZ, Lib.toList_data]; rfl
  rw [hZ] at c5
  have C5 := Lib.hid c5
  have C4 := Lib.hid c4
  have g1 := str_facts c nc
  have g2 : (c.toList == [48]) = false := by rw [g1.1]; simp [hc]
  have nQ : numB (decS (nv a / nv c)) = true := num_le a na (Nat.div_le_self _ _)
  have nR : numB (decS (nv a % nv c)) = true := num_le a na (Nat.mod_le _ _)
  have nT : numB (decS (nv a / nv c * nv c)) = true := num_le a na (Nat.div_mul_le_self _ _)
  have c6 := fun w => div_any a c w hza hzc
  rw [divV_lit a c (decS (nv a / nv c)) (decS (nv a % nv c)) na nc nQ nR hc (nv_dec _) (nv_dec _)] at c6
  have c7 := fun w => mul_any (decS (nv a / nv c)) c w (maxLen_ok nQ) hzc
  rw [mulV_lit _ c (decS (nv a / nv c * nv c)) nQ nc nT (by rw [nv_dec, nv_dec])] at c7
  have c8 := fun w => add_any (decS (nv a / nv c * nv c)) (decS (nv a % nv c)) w (maxLen_ok nT) (maxLen_ok nR)
  rw [addV_lit _ _ a nT nR na (by rw [nv_dec, nv_dec, Nat.mul_comm, Nat.div_add_mod])] at c8
  have c9 := fun w => cmp_any (decS (nv a % nv c)) c w (maxLen_ok nR) hzc
  rw [show cmpV (decS (nv a % nv c)) c = -1 by unfold cmpV; rw [nR, nc, nv_dec]; have := Nat.mod_lt (nv a) (show nv c > 0 by omega); simp only [Bool.and_self, if_true]; unfold cmpN; rw [if_pos this]] at c9
  generalize decS (nv a / nv c) = Q at *
  generalize decS (nv a % nv c) = R at *
  generalize decS (nv a / nv c * nv c) = T at *
  have C6 := Lib.hid c6; have C7 := Lib.hid c7; have C8 := Lib.hid c8; have C9 := Lib.hid c9
  clear hza hzb hzc c2 c3 hd hS nS vS c1 hP nP vP f1 h0 c5 hZ c4 g1 hc c6 c7 c8 c9 nQ nR nT na nb nc
  go_enter Tryd.func8, Tryd.ntmps8
  go_wp2_with fail
  refine (V.out.va _).mono ?_
  rintro e w' ⟨rfl, rfl⟩
  go_wp2_with fail
  refine (V.out.vb _).mono ?_
  rintro e w' ⟨rfl, rfl⟩
  go_wp2_with fail
  refine (V.out.vc _).mono ?_
  rintro e w' ⟨rfl, rfl⟩
  go_wp2_with fail
  refine (C1.out _).mono ?_
  rintro e w1 ⟨rfl, hg⟩
  have G1 := Lib.hid hg
  clear hg
  go_wp2_with fail
  refine (C2.out _).mono ?_
  rintro e w2 ⟨rfl, hg⟩
  have G2 := Lib.hid (grown_trans G1.out (grown_none hg (r := none)))
  clear hg G1
  go_wp2_with fail
  refine (C3.out _).mono ?_
  rintro e w3 ⟨rfl, hg⟩
  have G3 := Lib.hid (grown_trans G2.out (grown_none hg (r := none)))
  clear hg G2
  go_wp2_with fail
  refine (C4.out _).mono ?_
  rintro e w4 ⟨rfl, hg⟩
  have G4 := Lib.hid (grown_trans G3.out (grown_none hg (r := none)))
  clear hg G3
  go_wp2_with fail
  refine (C5.out _).mono ?_
  rintro e w5 ⟨rfl, hg⟩
  have G5 := Lib.hid (grown_trans G4.out (grown_none hg (r := none)))
  clear hg G4
  go_wp2_with fail
  refine (C6.out _).mono ?_
  rintro e w6 ⟨rfl, hg⟩
  have G6 := Lib.hid (grown_trans G5.out (grown_none hg (r := none)))
  clear hg G5
  go_wp2_with fail
  refine (C7.out _).mono ?_
  rintro e w7 ⟨rfl, hg⟩
  have G7 := Lib.hid (grown_trans G6.out (grown_none hg (r := none)))
  clear hg G6
  go_wp2_with fail
  refine (C8.out _).mono ?_
  rintro e w8 ⟨rfl, hg⟩
  have G8 := Lib.hid (grown_trans G7.out (grown_none hg (r := none)))
  clear hg G7
  go_wp2_with fail
  refine (C9.out _).mono ?_
  rintro e w9 ⟨rfl, hg⟩
  have G9 := Lib.hid (grown_trans G8.out (grown_none hg (r := none)))
  clear hg G8
  go_wp2_with fail
  refine (X.out _).mono ?_
  rintro e w10 ⟨rfl, hg⟩
  have G10 := Lib.hid (grown_trans G9.out (grown_none hg (r := none)))
  clear hg G9
  go_wp2
  go_ret
  exact ⟨rfl, G10.out⟩

set_option maxRecDepth 100000 in
set_option maxHeartbeats 4000000 in
theorem back_ok_err_zero (a b c : ByteArray) (w : World) (X : Hid ExOk) (na : numB a = true) (nb : numB b = true) (nc : numB c = true) (S P : ByteArray) (hS : addV a b = .tuple #[.string S, .int .i64 0]) (nS : numB S = true) (vS : nv S = nv a + nv b) (hP : mulV a b = .tuple #[.string ⟨#[]⟩, .int .i64 2]) (hc : nv c = 0) :
    Calls Tryd.prog 8 #[.string a, .string b, .string c] w (LawPost w) := by
  have V := Lib.hid (backOk a b c na nb nc)
  have hza := maxLen_ok na
  have hzb := maxLen_ok nb
  have hzc := maxLen_ok nc
  have c1 := fun w => add_any a b w hza hzb
  rw [hS] at c1
  have c2 := fun w => sub_any S b w (maxLen_ok nS) hzb
  rw [sub_back S a b na nb nS vS] at c2
  have c3 := fun w => cmp_any S b w (maxLen_ok nS) hzb
  obtain ⟨d, hd, hd0⟩ : ∃ d : Int, cmpV S b = d ∧ 0 ≤ d := ⟨_, rfl, by unfold cmpV; rw [nS, nb, vS]; have := cmpN_lt (nv a + nv b) (nv b); simp only [Bool.and_self, if_true]; omega⟩
  rw [hd] at c3
  have C2 := Lib.hid c2; have C3 := Lib.hid c3
  have C1 := Lib.hid c1
  have c4 := fun w => mul_any a b w hza hzb
  rw [hP] at c4
  have C4 := Lib.hid c4
  have g1 := str_facts c nc
  rw [hc] at g1
  have g2 : (c.toList == [48]) = true := by simpa using g1.1
  clear hza hzb hzc c2 c3 hd hS nS vS c1 hP c4 g1 hc na nb nc
  go_enter Tryd.func8, Tryd.ntmps8
  go_wp2_with fail
  refine (V.out.va _).mono ?_
  rintro e w' ⟨rfl, rfl⟩
  go_wp2_with fail
  refine (V.out.vb _).mono ?_
  rintro e w' ⟨rfl, rfl⟩
  go_wp2_with fail
  refine (V.out.vc _).mono ?_
  rintro e w' ⟨rfl, rfl⟩
  go_wp2_with fail
  refine (C1.out _).mono ?_
  rintro e w1 ⟨rfl, hg⟩
  have G1 := Lib.hid hg
  clear hg
  go_wp2_with fail
  refine (C2.out _).mono ?_
  rintro e w2 ⟨rfl, hg⟩
  have G2 := Lib.hid (grown_trans G1.out (grown_none hg (r := none)))
  clear hg G1
  go_wp2_with fail
  refine (C3.out _).mono ?_
  rintro e w3 ⟨rfl, hg⟩
  have G3 := Lib.hid (grown_trans G2.out (grown_none hg (r := none)))
  clear hg G2
  go_wp2_with fail
  refine (C4.out _).mono ?_
  rintro e w4 ⟨rfl, hg⟩
  have G4 := Lib.hid (grown_trans G3.out (grown_none hg (r := none)))
  clear hg G3
  go_wp2_with fail
  refine (X.out _).mono ?_
  rintro e w5 ⟨rfl, hg⟩
  have G5 := Lib.hid (grown_trans G4.out (grown_none hg (r := none)))
  clear hg G4
  go_wp2
  go_ret
  exact ⟨rfl, G5.out⟩

set_option maxRecDepth 100000 in
set_option maxHeartbeats 4000000 in
theorem back_ok_err_ok (a b c : ByteArray) (w : World) (X : Hid ExOk) (na : numB a = true) (nb : numB b = true) (nc : numB c = true) (S P : ByteArray) (hS : addV a b = .tuple #[.string S, .int .i64 0]) (nS : numB S = true) (vS : nv S = nv a + nv b) (hP : mulV a b = .tuple #[.string ⟨#[]⟩, .int .i64 2]) (hc : nv c ≠ 0) :
    Calls Tryd.prog 8 #[.string a, .string b, .string c] w (LawPost w) := by
  have V := Lib.hid (backOk a b c na nb nc)
  have hza := maxLen_ok na
  have hzb := maxLen_ok nb
  have hzc := maxLen_ok nc
  have c1 := fun w => add_any a b w hza hzb
  rw [hS] at c1
  have c2 := fun w => sub_any S b w (maxLen_ok nS) hzb
  rw [sub_back S a b na nb nS vS] at c2
  have c3 := fun w => cmp_any S b w (maxLen_ok nS) hzb
  obtain ⟨d, hd, hd0⟩ : ∃ d : Int, cmpV S b = d ∧ 0 ≤ d := ⟨_, rfl, by unfold cmpV; rw [nS, nb, vS]; have := cmpN_lt (nv a + nv b) (nv b); simp only [Bool.and_self, if_true]; omega⟩
  rw [hd] at c3
  have C2 := Lib.hid c2; have C3 := Lib.hid c3
  have C1 := Lib.hid c1
  have c4 := fun w => mul_any a b w hza hzb
  rw [hP] at c4
  have C4 := Lib.hid c4
  have g1 := str_facts c nc
  have g2 : (c.toList == [48]) = false := by rw [g1.1]; simp [hc]
  have nQ : numB (decS (nv a / nv c)) = true := num_le a na (Nat.div_le_self _ _)
  have nR : numB (decS (nv a % nv c)) = true := num_le a na (Nat.mod_le _ _)
  have nT : numB (decS (nv a / nv c * nv c)) = true := num_le a na (Nat.div_mul_le_self _ _)
  have c6 := fun w => div_any a c w hza hzc
  rw [divV_lit a c (decS (nv a / nv c)) (decS (nv a % nv c)) na nc nQ nR hc (nv_dec _) (nv_dec _)] at c6
  have c7 := fun w => mul_any (decS (nv a / nv c)) c w (maxLen_ok nQ) hzc
  rw [mulV_lit _ c (decS (nv a / nv c * nv c)) nQ nc nT (by rw [nv_dec, nv_dec])] at c7
  have c8 := fun w => add_any (decS (nv a / nv c * nv c)) (decS (nv a % nv c)) w (maxLen_ok nT) (maxLen_ok nR)
  rw [addV_lit _ _ a nT nR na (by rw [nv_dec, nv_dec, Nat.mul_comm, Nat.div_add_mod])] at c8
  have c9 := fun w => cmp_any (decS (nv a % nv c)) c w (maxLen_ok nR) hzc
  rw [show cmpV (decS (nv a % nv c)) c = -1 by unfold cmpV; rw [nR, nc, nv_dec]; have := Nat.mod_lt (nv a) (show nv c > 0 by omega); simp only [Bool.and_self, if_true]; unfold cmpN; rw [if_pos this]] at c9
  generalize decS (nv a / nv c) = Q at *
  generalize decS (nv a % nv c) = R at *
  generalize decS (nv a / nv c * nv c) = T at *
  have C6 := Lib.hid c6; have C7 := Lib.hid c7; have C8 := Lib.hid c8; have C9 := Lib.hid c9
  clear hza hzb hzc c2 c3 hd hS nS vS c1 hP c4 g1 hc c6 c7 c8 c9 nQ nR nT na nb nc
  go_enter Tryd.func8, Tryd.ntmps8
  go_wp2_with fail
  refine (V.out.va _).mono ?_
  rintro e w' ⟨rfl, rfl⟩
  go_wp2_with fail
  refine (V.out.vb _).mono ?_
  rintro e w' ⟨rfl, rfl⟩
  go_wp2_with fail
  refine (V.out.vc _).mono ?_
  rintro e w' ⟨rfl, rfl⟩
  go_wp2_with fail
  refine (C1.out _).mono ?_
  rintro e w1 ⟨rfl, hg⟩
  have G1 := Lib.hid hg
  clear hg
  go_wp2_with fail
  refine (C2.out _).mono ?_
  rintro e w2 ⟨rfl, hg⟩
  have G2 := Lib.hid (grown_trans G1.out (grown_none hg (r := none)))
  clear hg G1
  go_wp2_with fail
  refine (C3.out _).mono ?_
  rintro e w3 ⟨rfl, hg⟩
  have G3 := Lib.hid (grown_trans G2.out (grown_none hg (r := none)))
  clear hg G2
  go_wp2_with fail
  refine (C4.out _).mono ?_
  rintro e w4 ⟨rfl, hg⟩
  have G4 := Lib.hid (grown_trans G3.out (grown_none hg (r := none)))
  clear hg G3
  go_wp2_with fail
  refine (C6.out _).mono ?_
  rintro e w5 ⟨rfl, hg⟩
  have G5 := Lib.hid (grown_trans G4.out (grown_none hg (r := none)))
  clear hg G4
  go_wp2_with fail
  refine (C7.out _).mono ?_
  rintro e w6 ⟨rfl, hg⟩
  have G6 := Lib.hid (grown_trans G5.out (grown_none hg (r := none)))
  clear hg G5
  go_wp2_with fail
  refine (C8.out _).mono ?_
  rintro e w7 ⟨rfl, hg⟩
  have G7 := Lib.hid (grown_trans G6.out (grown_none hg (r := none)))
  clear hg G6
  go_wp2_with fail
  refine (C9.out _).mono ?_
  rintro e w8 ⟨rfl, hg⟩
  have G8 := Lib.hid (grown_trans G7.out (grown_none hg (r := none)))
  clear hg G7
  go_wp2_with fail
  refine (X.out _).mono ?_
  rintro e w9 ⟨rfl, hg⟩
  have G9 := Lib.hid (grown_trans G8.out (grown_none hg (r := none)))
  clear hg G8
  go_wp2
  go_ret
  exact ⟨rfl, G9.out⟩

set_option maxRecDepth 100000 in
set_option maxHeartbeats 4000000 in
theorem back_err_zero_zero (a b c : ByteArray) (w : World) (X : Hid ExOk) (na : numB a = true) (nb : numB b = true) (nc : numB c = true) (S P : ByteArray) (hS : addV a b = .tuple #[.string ⟨#[]⟩, .int .i64 2]) (hP : mulV a b = .tuple #[.string P, .int .i64 0]) (nP : numB P = true) (vP : nv P = nv a * nv b) (h0 : nv b = 0) (hc : nv c = 0) :
    Calls Tryd.prog 8 #[.string a, .string b, .string c] w (LawPost w) := by
  have V := Lib.hid (backOk a b c na nb nc)
  have hza := maxLen_ok na
  have hzb := maxLen_ok nb
  have hzc := maxLen_ok nc
  have c1 := fun w => add_any a b w hza hzb
  rw [hS] at c1
  have C1 := Lib.hid c1
  have c4 := fun w => mul_any a b w hza hzb
  rw [hP] at c4
  have f1 := str_facts b nb
  rw [h0] at f1
  have f2 : (b.toList == [48]) = true := by simpa using f1.1
  have f3 : (b.toList != [48]) = false := by simpa using f1.2
  have C4 := Lib.hid c4
  have g1 := str_facts c nc
  rw [hc] at g1
  have g2 : (c.toList == [48]) = true := by simpa using g1.1
  clear hza hzb hzc hS c1 hP nP vP f1 h0 c4 g1 hc na nb nc
  go_enter Tryd.func8, Tryd.ntmps8
  go_wp2_with fail
  refine (V.out.va _).mono ?_
  rintro e w' ⟨rfl, rfl⟩
  go_wp2_with fail
  refine (V.out.vb _).mono ?_
  rintro e w' ⟨rfl, rfl⟩
  go_wp2_with fail
  refine (V.out.vc _).mono ?_
  rintro e w' ⟨rfl, rfl⟩
  go_wp2_with fail
  refine (C1.out _).mono ?_
  rintro e w1 ⟨rfl, hg⟩
  have G1 := Lib.hid hg
  clear hg
  go_wp2_with fail
  refine (C4.out _).mono ?_
  rintro e w2 ⟨rfl, hg⟩
  have G2 := Lib.hid (grown_trans G1.out (grown_none hg (r := none)))
  clear hg G1
  go_wp2_with fail
  refine (X.out _).mono ?_
  rintro e w3 ⟨rfl, hg⟩
  have G3 := Lib.hid (grown_trans G2.out (grown_none hg (r := none)))
  clear hg G2
  go_wp2
  go_ret
  exact ⟨rfl, G3.out⟩

set_option maxRecDepth 100000 in
set_option maxHeartbeats 4000000 in
theorem back_err_zero_ok (a b c : ByteArray) (w : World) (X : Hid ExOk) (na : numB a = true) (nb : numB b = true) (nc : numB c = true) (S P : ByteArray) (hS : addV a b = .tuple #[.string ⟨#[]⟩, .int .i64 2]) (hP : mulV a b = .tuple #[.string P, .int .i64 0]) (nP : numB P = true) (vP : nv P = nv a * nv b) (h0 : nv b = 0) (hc : nv c ≠ 0) :
    Calls Tryd.prog 8 #[.string a, .string b, .string c] w (LawPost w) := by
  have V := Lib.hid (backOk a b c na nb nc)
  have hza := maxLen_ok na
  have hzb := maxLen_ok nb
  have hzc := maxLen_ok nc
  have c1 := fun w => add_any a b w hza hzb
  rw [hS] at c1
  have C1 := Lib.hid c1
  have c4 := fun w => mul_any a b w hza hzb
  rw [hP] at c4
  have f1 := str_facts b nb
  rw [h0] at f1
  have f2 : (b.toList == [48]) = true := by simpa using f1.1
  have f3 : (b.toList != [48]) = false := by simpa using f1.2
  have C4 := Lib.hid c4
  have g1 := str_facts c nc
  have g2 : (c.toList == [48]) = false := by rw [g1.1]; simp [hc]
  have nQ : numB (decS (nv a / nv c)) = true := num_le a na (Nat.div_le_self _ _)
  have nR : numB (decS (nv a % nv c)) = true := num_le a na (Nat.mod_le _ _)
  have nT : numB (decS (nv a / nv c * nv c)) = true := num_le a na (Nat.div_mul_le_self _ _)
  have c6 := fun w => div_any a c w hza hzc
  rw [divV_lit a c (decS (nv a / nv c)) (decS (nv a % nv c)) na nc nQ nR hc (nv_dec _) (nv_dec _)] at c6
  have c7 := fun w => mul_any (decS (nv a / nv c)) c w (maxLen_ok nQ) hzc
  rw [mulV_lit _ c (decS (nv a / nv c * nv c)) nQ nc nT (by rw [nv_dec, nv_dec])] at c7
  have c8 := fun w => add_any (decS (nv a / nv c * nv c)) (decS (nv a % nv c)) w (maxLen_ok nT) (maxLen_ok nR)
  rw [addV_lit _ _ a nT nR na (by rw [nv_dec, nv_dec, Nat.mul_comm, Nat.div_add_mod])] at c8
  have c9 := fun w => cmp_any (decS (nv a % nv c)) c w (maxLen_ok nR) hzc
  rw [show cmpV (decS (nv a % nv c)) c = -1 by unfold cmpV; rw [nR, nc, nv_dec]; have := Nat.mod_lt (nv a) (show nv c > 0 by omega); simp only [Bool.and_self, if_true]; unfold cmpN; rw [if_pos this]] at c9
  generalize decS (nv a / nv c) = Q at *
  generalize decS (nv a % nv c) = R at *
  generalize decS (nv a / nv c * nv c) = T at *
  have C6 := Lib.hid c6; have C7 := Lib.hid c7; have C8 := Lib.hid c8; have C9 := Lib.hid c9
  clear hza hzb hzc hS c1 hP nP vP f1 h0 c4 g1 hc c6 c7 c8 c9 nQ nR nT na nb nc
  go_enter Tryd.func8, Tryd.ntmps8
  go_wp2_with fail
  refine (V.out.va _).mono ?_
  rintro e w' ⟨rfl, rfl⟩
  go_wp2_with fail
  refine (V.out.vb _).mono ?_
  rintro e w' ⟨rfl, rfl⟩
  go_wp2_with fail
  refine (V.out.vc _).mono ?_
  rintro e w' ⟨rfl, rfl⟩
  go_wp2_with fail
  refine (C1.out _).mono ?_
  rintro e w1 ⟨rfl, hg⟩
  have G1 := Lib.hid hg
  clear hg
  go_wp2_with fail
  refine (C4.out _).mono ?_
  rintro e w2 ⟨rfl, hg⟩
  have G2 := Lib.hid (grown_trans G1.out (grown_none hg (r := none)))
  clear hg G1
  go_wp2_with fail
  refine (C6.out _).mono ?_
  rintro e w3 ⟨rfl, hg⟩
  have G3 := Lib.hid (grown_trans G2.out (grown_none hg (r := none)))
  clear hg G2
  go_wp2_with fail
  refine (C7.out _).mono ?_
  rintro e w4 ⟨rfl, hg⟩
  have G4 := Lib.hid (grown_trans G3.out (grown_none hg (r := none)))
  clear hg G3
  go_wp2_with fail
  refine (C8.out _).mono ?_
  rintro e w5 ⟨rfl, hg⟩
  have G5 := Lib.hid (grown_trans G4.out (grown_none hg (r := none)))
  clear hg G4
  go_wp2_with fail
  refine (C9.out _).mono ?_
  rintro e w6 ⟨rfl, hg⟩
  have G6 := Lib.hid (grown_trans G5.out (grown_none hg (r := none)))
  clear hg G5
  go_wp2_with fail
  refine (X.out _).mono ?_
  rintro e w7 ⟨rfl, hg⟩
  have G7 := Lib.hid (grown_trans G6.out (grown_none hg (r := none)))
  clear hg G6
  go_wp2
  go_ret
  exact ⟨rfl, G7.out⟩

set_option maxRecDepth 100000 in
set_option maxHeartbeats 4000000 in
theorem back_err_ok_zero (a b c : ByteArray) (w : World) (X : Hid ExOk) (na : numB a = true) (nb : numB b = true) (nc : numB c = true) (S P : ByteArray) (hS : addV a b = .tuple #[.string ⟨#[]⟩, .int .i64 2]) (hP : mulV a b = .tuple #[.string P, .int .i64 0]) (nP : numB P = true) (vP : nv P = nv a * nv b) (h0 : nv b ≠ 0) (hc : nv c = 0) :
    Calls Tryd.prog 8 #[.string a, .string b, .string c] w (LawPost w) := by
  have V := Lib.hid (backOk a b c na nb nc)
  have hza := maxLen_ok na
  have hzb := maxLen_ok nb
  have hzc := maxLen_ok nc
  have c1 := fun w => add_any a b w hza hzb
  rw [hS] at c1
  have C1 := Lib.hid c1
  have c4 := fun w => mul_any a b w hza hzb
  rw [hP] at c4
  have f1 := str_facts b nb
  have f2 : (b.toList == [48]) = false := by rw [f1.1]; simp [h0]
  have f3 : (b.toList != [48]) = true := by rw [f1.2]; simp [h0]
  have c5 := fun w => div_any P b w (maxLen_ok nP) hzb
  rw [div_back P a b na nb nP vP h0] at c5
  obtain ⟨Z, hZ⟩ : ∃ Z : ByteArray, (⟨#[48]⟩ : ByteArray) = Z := ⟨_, rfl⟩
  have f4 : (Z.toList != [48]) = false := by rw [← hZ, Lib.toList_data]; rfl
  have f5 : (Z.toList == [48]) = true := by rw [← hZ, Lib.toList_data]; rfl
  rw [hZ] at c5
  have C5 := Lib.hid c5
  have C4 := Lib.hid c4
  have g1 := str_facts c nc
  rw [hc] at g1
  have g2 : (c.toList == [48]) = true := by simpa using g1.1
  clear hza hzb hzc hS c1 hP nP vP f1 h0 c5 hZ c4 g1 hc na nb nc
  go_enter Tryd.func8, Tryd.ntmps8
  go_wp2_with fail
  refine (V.out.va _).mono ?_
  rintro e w' ⟨rfl, rfl⟩
  go_wp2_with fail
  refine (V.out.vb _).mono ?_
  rintro e w' ⟨rfl, rfl⟩
  go_wp2_with fail
  refine (V.out.vc _).mono ?_
  rintro e w' ⟨rfl, rfl⟩
  go_wp2_with fail
  refine (C1.out _).mono ?_
  rintro e w1 ⟨rfl, hg⟩
  have G1 := Lib.hid hg
  clear hg
  go_wp2_with fail
  refine (C4.out _).mono ?_
  rintro e w2 ⟨rfl, hg⟩
  have G2 := Lib.hid (grown_trans G1.out (grown_none hg (r := none)))
  clear hg G1
  go_wp2_with fail
  refine (C5.out _).mono ?_
  rintro e w3 ⟨rfl, hg⟩
  have G3 := Lib.hid (grown_trans G2.out (grown_none hg (r := none)))
  clear hg G2
  go_wp2_with fail
  refine (X.out _).mono ?_
  rintro e w4 ⟨rfl, hg⟩
  have G4 := Lib.hid (grown_trans G3.out (grown_none hg (r := none)))
  clear hg G3
  go_wp2
  go_ret
  exact ⟨rfl, G4.out⟩

set_option maxRecDepth 100000 in
set_option maxHeartbeats 4000000 in
theorem back_err_ok_ok (a b c : ByteArray) (w : World) (X : Hid ExOk) (na : numB a = true) (nb : numB b = true) (nc : numB c = true) (S P : ByteArray) (hS : addV a b = .tuple #[.string ⟨#[]⟩, .int .i64 2]) (hP : mulV a b = .tuple #[.string P, .int .i64 0]) (nP : numB P = true) (vP : nv P = nv a * nv b) (h0 : nv b ≠ 0) (hc : nv c ≠ 0) :
    Calls Tryd.prog 8 #[.string a, .string b, .string c] w (LawPost w) := by
  have V := Lib.hid (backOk a b c na nb nc)
  have hza := maxLen_ok na
  have hzb := maxLen_ok nb
  have hzc := maxLen_ok nc
  have c1 := fun w => add_any a b w hza hzb
  rw [hS] at c1
  have C1 := Lib.hid c1
  have c4 := fun w => mul_any a b w hza hzb
  rw [hP] at c4
  have f1 := str_facts b nb
  have f2 : (b.toList == [48]) = false := by rw [f1.1]; simp [h0]
  have f3 : (b.toList != [48]) = true := by rw [f1.2]; simp [h0]
  have c5 := fun w => div_any P b w (maxLen_ok nP) hzb
  rw [div_back P a b na nb nP vP h0] at c5
  obtain ⟨Z, hZ⟩ : ∃ Z : ByteArray, (⟨#[48]⟩ : ByteArray) = Z := ⟨_, rfl⟩
  have f4 : (Z.toList != [48]) = false := by rw [← hZ, Lib.toList_data]; rfl
  have f5 : (Z.toList == [48]) = true := by rw [← hZ, Lib.toList_data]; rfl
  rw [hZ] at c5
  have C5 := Lib.hid c5
  have C4 := Lib.hid c4
  have g1 := str_facts c nc
  have g2 : (c.toList == [48]) = false := by rw [g1.1]; simp [hc]
  have nQ : numB (decS (nv a / nv c)) = true := num_le a na (Nat.div_le_self _ _)
  have nR : numB (decS (nv a % nv c)) = true := num_le a na (Nat.mod_le _ _)
  have nT : numB (decS (nv a / nv c * nv c)) = true := num_le a na (Nat.div_mul_le_self _ _)
  have c6 := fun w => div_any a c w hza hzc
  rw [divV_lit a c (decS (nv a / nv c)) (decS (nv a % nv c)) na nc nQ nR hc (nv_dec _) (nv_dec _)] at c6
  have c7 := fun w => mul_any (decS (nv a / nv c)) c w (maxLen_ok nQ) hzc
  rw [mulV_lit _ c (decS (nv a / nv c * nv c)) nQ nc nT (by rw [nv_dec, nv_dec])] at c7
  have c8 := fun w => add_any (decS (nv a / nv c * nv c)) (decS (nv a % nv c)) w (maxLen_ok nT) (maxLen_ok nR)
  rw [addV_lit _ _ a nT nR na (by rw [nv_dec, nv_dec, Nat.mul_comm, Nat.div_add_mod])] at c8
  have c9 := fun w => cmp_any (decS (nv a % nv c)) c w (maxLen_ok nR) hzc
  rw [show cmpV (decS (nv a % nv c)) c = -1 by unfold cmpV; rw [nR, nc, nv_dec]; have := Nat.mod_lt (nv a) (show nv c > 0 by omega); simp only [Bool.and_self, if_true]; unfold cmpN; rw [if_pos this]] at c9
  generalize decS (nv a / nv c) = Q at *
  generalize decS (nv a % nv c) = R at *
  generalize decS (nv a / nv c * nv c) = T at *
  have C6 := Lib.hid c6; have C7 := Lib.hid c7; have C8 := Lib.hid c8; have C9 := Lib.hid c9
  clear hza hzb hzc hS c1 hP nP vP f1 h0 c5 hZ c4 g1 hc c6 c7 c8 c9 nQ nR nT na nb nc
  go_enter Tryd.func8, Tryd.ntmps8
  go_wp2_with fail
  refine (V.out.va _).mono ?_
  rintro e w' ⟨rfl, rfl⟩
  go_wp2_with fail
  refine (V.out.vb _).mono ?_
  rintro e w' ⟨rfl, rfl⟩
  go_wp2_with fail
  refine (V.out.vc _).mono ?_
  rintro e w' ⟨rfl, rfl⟩
  go_wp2_with fail
  refine (C1.out _).mono ?_
  rintro e w1 ⟨rfl, hg⟩
  have G1 := Lib.hid hg
  clear hg
  go_wp2_with fail
  refine (C4.out _).mono ?_
  rintro e w2 ⟨rfl, hg⟩
  have G2 := Lib.hid (grown_trans G1.out (grown_none hg (r := none)))
  clear hg G1
  go_wp2_with fail
  refine (C5.out _).mono ?_
  rintro e w3 ⟨rfl, hg⟩
  have G3 := Lib.hid (grown_trans G2.out (grown_none hg (r := none)))
  clear hg G2
  go_wp2_with fail
  refine (C6.out _).mono ?_
  rintro e w4 ⟨rfl, hg⟩
  have G4 := Lib.hid (grown_trans G3.out (grown_none hg (r := none)))
  clear hg G3
  go_wp2_with fail
  refine (C7.out _).mono ?_
  rintro e w5 ⟨rfl, hg⟩
  have G5 := Lib.hid (grown_trans G4.out (grown_none hg (r := none)))
  clear hg G4
  go_wp2_with fail
  refine (C8.out _).mono ?_
  rintro e w6 ⟨rfl, hg⟩
  have G6 := Lib.hid (grown_trans G5.out (grown_none hg (r := none)))
  clear hg G5
  go_wp2_with fail
  refine (C9.out _).mono ?_
  rintro e w7 ⟨rfl, hg⟩
  have G7 := Lib.hid (grown_trans G6.out (grown_none hg (r := none)))
  clear hg G6
  go_wp2_with fail
  refine (X.out _).mono ?_
  rintro e w8 ⟨rfl, hg⟩
  have G8 := Lib.hid (grown_trans G7.out (grown_none hg (r := none)))
  clear hg G7
  go_wp2
  go_ret
  exact ⟨rfl, G8.out⟩

set_option maxRecDepth 100000 in
set_option maxHeartbeats 4000000 in
theorem back_err_err_zero (a b c : ByteArray) (w : World) (X : Hid ExOk) (na : numB a = true) (nb : numB b = true) (nc : numB c = true) (S P : ByteArray) (hS : addV a b = .tuple #[.string ⟨#[]⟩, .int .i64 2]) (hP : mulV a b = .tuple #[.string ⟨#[]⟩, .int .i64 2]) (hc : nv c = 0) :
    Calls Tryd.prog 8 #[.string a, .string b, .string c] w (LawPost w) := by
  have V := Lib.hid (backOk a b c na nb nc)
  have hza := maxLen_ok na
  have hzb := maxLen_ok nb
  have hzc := maxLen_ok nc
  have c1 := fun w => add_any a b w hza hzb
  rw [hS] at c1
  have C1 := Lib.hid c1
  have c4 := fun w => mul_any a b w hza hzb
  rw [hP] at c4
  have C4 := Lib.hid c4
  have g1 := str_facts c nc
  rw [hc] at g1
  have g2 : (c.toList == [48]) = true := by simpa using g1.1
  clear hza hzb hzc hS c1 hP c4 g1 hc na nb nc
  go_enter Tryd.func8, Tryd.ntmps8
  go_wp2_with fail
  refine (V.out.va _).mono ?_
  rintro e w' ⟨rfl, rfl⟩
  go_wp2_with fail
  refine (V.out.vb _).mono ?_
  rintro e w' ⟨rfl, rfl⟩
  go_wp2_with fail
  refine (V.out.vc _).mono ?_
  rintro e w' ⟨rfl, rfl⟩
  go_wp2_with fail
  refine (C1.out _).mono ?_
  rintro e w1 ⟨rfl, hg⟩
  have G1 := Lib.hid hg
  clear hg
  go_wp2_with fail
  refine (C4.out _).mono ?_
  rintro e w2 ⟨rfl, hg⟩
  have G2 := Lib.hid (grown_trans G1.out (grown_none hg (r := none)))
  clear hg G1
  go_wp2_with fail
  refine (X.out _).mono ?_
  rintro e w3 ⟨rfl, hg⟩
  have G3 := Lib.hid (grown_trans G2.out (grown_none hg (r := none)))
  clear hg G2
  go_wp2
  go_ret
  exact ⟨rfl, G3.out⟩

set_option maxRecDepth 100000 in
set_option maxHeartbeats 4000000 in
theorem back_err_err_ok (a b c : ByteArray) (w : World) (X : Hid ExOk) (na : numB a = true) (nb : numB b = true) (nc : numB c = true) (S P : ByteArray) (hS : addV a b = .tuple #[.string ⟨#[]⟩, .int .i64 2]) (hP : mulV a b = .tuple #[.string ⟨#[]⟩, .int .i64 2]) (hc : nv c ≠ 0) :
    Calls Tryd.prog 8 #[.string a, .string b, .string c] w (LawPost w) := by
  have V := Lib.hid (backOk a b c na nb nc)
  have hza := maxLen_ok na
  have hzb := maxLen_ok nb
  have hzc := maxLen_ok nc
  have c1 := fun w => add_any a b w hza hzb
  rw [hS] at c1
  have C1 := Lib.hid c1
  have c4 := fun w => mul_any a b w hza hzb
  rw [hP] at c4
  have C4 := Lib.hid c4
  have g1 := str_facts c nc
  have g2 : (c.toList == [48]) = false := by rw [g1.1]; simp [hc]
  have nQ : numB (decS (nv a / nv c)) = true := num_le a na (Nat.div_le_self _ _)
  have nR : numB (decS (nv a % nv c)) = true := num_le a na (Nat.mod_le _ _)
  have nT : numB (decS (nv a / nv c * nv c)) = true := num_le a na (Nat.div_mul_le_self _ _)
  have c6 := fun w => div_any a c w hza hzc
  rw [divV_lit a c (decS (nv a / nv c)) (decS (nv a % nv c)) na nc nQ nR hc (nv_dec _) (nv_dec _)] at c6
  have c7 := fun w => mul_any (decS (nv a / nv c)) c w (maxLen_ok nQ) hzc
  rw [mulV_lit _ c (decS (nv a / nv c * nv c)) nQ nc nT (by rw [nv_dec, nv_dec])] at c7
  have c8 := fun w => add_any (decS (nv a / nv c * nv c)) (decS (nv a % nv c)) w (maxLen_ok nT) (maxLen_ok nR)
  rw [addV_lit _ _ a nT nR na (by rw [nv_dec, nv_dec, Nat.mul_comm, Nat.div_add_mod])] at c8
  have c9 := fun w => cmp_any (decS (nv a % nv c)) c w (maxLen_ok nR) hzc
  rw [show cmpV (decS (nv a % nv c)) c = -1 by unfold cmpV; rw [nR, nc, nv_dec]; have := Nat.mod_lt (nv a) (show nv c > 0 by omega); simp only [Bool.and_self, if_true]; unfold cmpN; rw [if_pos this]] at c9
  generalize decS (nv a / nv c) = Q at *
  generalize decS (nv a % nv c) = R at *
  generalize decS (nv a / nv c * nv c) = T at *
  have C6 := Lib.hid c6; have C7 := Lib.hid c7; have C8 := Lib.hid c8; have C9 := Lib.hid c9
  clear hza hzb hzc hS c1 hP c4 g1 hc c6 c7 c8 c9 nQ nR nT na nb nc
  go_enter Tryd.func8, Tryd.ntmps8
  go_wp2_with fail
  refine (V.out.va _).mono ?_
  rintro e w' ⟨rfl, rfl⟩
  go_wp2_with fail
  refine (V.out.vb _).mono ?_
  rintro e w' ⟨rfl, rfl⟩
  go_wp2_with fail
  refine (V.out.vc _).mono ?_
  rintro e w' ⟨rfl, rfl⟩
  go_wp2_with fail
  refine (C1.out _).mono ?_
  rintro e w1 ⟨rfl, hg⟩
  have G1 := Lib.hid hg
  clear hg
  go_wp2_with fail
  refine (C4.out _).mono ?_
  rintro e w2 ⟨rfl, hg⟩
  have G2 := Lib.hid (grown_trans G1.out (grown_none hg (r := none)))
  clear hg G1
  go_wp2_with fail
  refine (C6.out _).mono ?_
  rintro e w3 ⟨rfl, hg⟩
  have G3 := Lib.hid (grown_trans G2.out (grown_none hg (r := none)))
  clear hg G2
  go_wp2_with fail
  refine (C7.out _).mono ?_
  rintro e w4 ⟨rfl, hg⟩
  have G4 := Lib.hid (grown_trans G3.out (grown_none hg (r := none)))
  clear hg G3
  go_wp2_with fail
  refine (C8.out _).mono ?_
  rintro e w5 ⟨rfl, hg⟩
  have G5 := Lib.hid (grown_trans G4.out (grown_none hg (r := none)))
  clear hg G4
  go_wp2_with fail
  refine (C9.out _).mono ?_
  rintro e w6 ⟨rfl, hg⟩
  have G6 := Lib.hid (grown_trans G5.out (grown_none hg (r := none)))
  clear hg G5
  go_wp2_with fail
  refine (X.out _).mono ?_
  rintro e w7 ⟨rfl, hg⟩
  have G7 := Lib.hid (grown_trans G6.out (grown_none hg (r := none)))
  clear hg G6
  go_wp2
  go_ret
  exact ⟨rfl, G7.out⟩

set_option maxRecDepth 100000 in
set_option maxHeartbeats 1000000 in
theorem back_walk (a b c : ByteArray) (w : World) (ha : a.size ≤ maxLen) (hb : b.size ≤ maxLen) (hc : c.size ≤ maxLen) :
    Calls Tryd.prog 8 #[.string a, .string b, .string c] w (LawPost w) := by
  have hx := exOk
  have X := Lib.hid hx
  clear hx
  have va := fun w => valid_any a w ha
  have vb := fun w => valid_any b w hb
  have vc := fun w => valid_any c w hc
  cases na : numB a
  · simp only [na] at va
    clear vb vc na ha hb hc
    go_enter Tryd.func8, Tryd.ntmps8
    go_wp2_with fail
    refine (va _).mono ?_
    rintro e w' ⟨rfl, rfl⟩
    go_wp2_with fail
    refine (X.out _).mono ?_
    rintro e w1 ⟨rfl, hg⟩
    have G1 := Lib.hid hg
    clear hg
    go_wp2
    go_ret
    exact ⟨rfl, G1.out⟩
  cases nb : numB b
  · simp only [na] at va
    simp only [nb] at vb
    clear vc na nb ha hb hc
    go_enter Tryd.func8, Tryd.ntmps8
    go_wp2_with fail
    refine (va _).mono ?_
    rintro e w' ⟨rfl, rfl⟩
    go_wp2_with fail
    refine (vb _).mono ?_
    rintro e w' ⟨rfl, rfl⟩
    go_wp2_with fail
    refine (X.out _).mono ?_
    rintro e w1 ⟨rfl, hg⟩
    have G1 := Lib.hid hg
    clear hg
    go_wp2
    go_ret
    exact ⟨rfl, G1.out⟩
  cases nc : numB c
  · simp only [na] at va
    simp only [nb] at vb
    simp only [nc] at vc
    clear na nb nc ha hb hc
    go_enter Tryd.func8, Tryd.ntmps8
    go_wp2_with fail
    refine (va _).mono ?_
    rintro e w' ⟨rfl, rfl⟩
    go_wp2_with fail
    refine (vb _).mono ?_
    rintro e w' ⟨rfl, rfl⟩
    go_wp2_with fail
    refine (vc _).mono ?_
    rintro e w' ⟨rfl, rfl⟩
    go_wp2_with fail
    refine (X.out _).mono ?_
    rintro e w1 ⟨rfl, hg⟩
    have G1 := Lib.hid hg
    clear hg
    go_wp2
    go_ret
    exact ⟨rfl, G1.out⟩
  clear va vb vc
  have hA : addV a b = limV (nv a + nv b) := by unfold addV; rw [na, nb]; rfl
  have hM : mulV a b = limV (nv a * nv b) := by unfold mulV; rw [na, nb]; rfl
  rcases limV_cases (nv a + nv b) with ⟨S, s1, s2, s3, _⟩ | ⟨s1, _⟩ <;> rcases limV_cases (nv a * nv b) with ⟨P, p1, p2, p3, _⟩ | ⟨p1, _⟩
  · by_cases h0 : nv b = 0 <;> by_cases hc0 : nv c = 0
    · exact back_ok_zero_zero a b c w X na nb nc S P (hA.trans s1) s2 s3 (hM.trans p1) p2 p3 h0 hc0
    · exact back_ok_zero_ok a b c w X na nb nc S P (hA.trans s1) s2 s3 (hM.trans p1) p2 p3 h0 hc0
    · exact back_ok_ok_zero a b c w X na nb nc S P (hA.trans s1) s2 s3 (hM.trans p1) p2 p3 h0 hc0
    · exact back_ok_ok_ok a b c w X na nb nc S P (hA.trans s1) s2 s3 (hM.trans p1) p2 p3 h0 hc0
  · by_cases hc0 : nv c = 0
    · exact back_ok_err_zero a b c w X na nb nc S S (hA.trans s1) s2 s3 (hM.trans p1) hc0
    · exact back_ok_err_ok a b c w X na nb nc S S (hA.trans s1) s2 s3 (hM.trans p1) hc0
  · by_cases h0 : nv b = 0 <;> by_cases hc0 : nv c = 0
    · exact back_err_zero_zero a b c w X na nb nc P P (hA.trans s1) (hM.trans p1) p2 p3 h0 hc0
    · exact back_err_zero_ok a b c w X na nb nc P P (hA.trans s1) (hM.trans p1) p2 p3 h0 hc0
    · exact back_err_ok_zero a b c w X na nb nc P P (hA.trans s1) (hM.trans p1) p2 p3 h0 hc0
    · exact back_err_ok_ok a b c w X na nb nc P P (hA.trans s1) (hM.trans p1) p2 p3 h0 hc0
  · by_cases hc0 : nv c = 0
    · exact back_err_err_zero a b c w X na nb nc a a (hA.trans s1) (hM.trans p1) hc0
    · exact back_err_err_ok a b c w X na nb nc a a (hA.trans s1) (hM.trans p1) hc0
end Go.Proofs.YtlkjfhidicgjiaaDoor
