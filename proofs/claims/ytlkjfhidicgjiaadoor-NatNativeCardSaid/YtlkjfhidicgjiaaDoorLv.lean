/- The walk of NatNative. -/
import Derived.Test.YtlkjfhidicgjiaaDoorLd
import Derived.Test.YtlkjfhidicgjiaaDoorWp
set_option linter.unusedVariables false
set_option linter.unusedSimpArgs false
namespace Go.Proofs.YtlkjfhidicgjiaaDoor
open Go.RowKit
open Go.Lib (nDigits)

def PowTab (w : World) : Prop := Lib.TabIs Tryd.prog w "internal/strconv.uint64pow10" .u64 Lib.pow10Tab
theorem powTab_grown {w w' : World} (h : PowTab w) (hg : w.grownBy w' none) : PowTab w' := by
  unfold PowTab Lib.TabIs World.var? at *
  cases hgl : Tryd.prog.globalNamed "internal/strconv.uint64pow10" with
  | none => simp [hgl] at h
  | some g =>
    simp only [hgl, Option.bind_some] at h ⊢
    have hlt : g < w.heap.size := by
      rcases Nat.lt_or_ge g w.heap.size with hh | hh
      · exact hh
      · rw [Array.getElem?_eq_none hh] at h; simp at h
    rw [hg.block g hlt (by simp)]
    exact h
def SmOk (w : World) (u : Nat) (S : ByteArray) : Prop := ∀ w', w.grownBy w' none → Calls Tryd.prog 14 #[.int .u64 u] w' fun e w'' => e = .returned (.string S) ∧ w'.grownBy w'' none
theorem smOk (w : World) (u : Nat) (h : u < 18446744073709551616) (ht : PowTab w) : SmOk w u (decS u) := fun w' hg => small_any u h w' (powTab_grown ht hg)
theorem num_small (u : Nat) (h : u < 18446744073709551616) : numB (decS u) = true := by
  rw [num_dec]
  have h20 : nDigits u ≤ 20 := by
    rcases Nat.eq_zero_or_pos u with rfl | h1
    · rw [Lib.nDigits_small (by omega)]; omega
    · have := Lib.numDigits_eq u h1 h; split at this <;> omega
  exact decide_eq_true (by omega)
theorem nat_of_u32 {z : Int} (h : (Lit.int .u32 z).wf = true) : ∃ s : Nat, z = s ∧ s < 4294967296 := by
  simp [Lit.wf] at h
  have h1 : IntKind.u32.min = 0 := by decide
  have h2 : IntKind.u32.max = 4294967295 := by decide
  exact ⟨z.toNat, by omega, by omega⟩
theorem nat_of_u64 {z : Int} (h : (Lit.int .u64 z).wf = true) : ∃ s : Nat, z = s ∧ s < 18446744073709551616 := by
  simp [Lit.wf] at h
  have h1 : IntKind.u64.min = 0 := by decide
  have h2 : IntKind.u64.max = 18446744073709551615 := by decide
  exact ⟨z.toNat, by omega, by omega⟩

set_option maxRecDepth 100000 in
set_option maxHeartbeats 4000000 in
theorem native_less (m n : Nat) (w : World) (X : Hid ExOk) (hm : m < 4294967296) (hn : n < 4294967296) (htab : PowTab w) (hlt : m < n) :
    Calls Tryd.prog 7 #[.int .u32 m, .int .u32 n] w (LawPost w) := by
  have hmul : m * n < 18446744073709551616 := by
    have := Nat.mul_le_mul (Nat.le_of_lt_succ (show m < 4294967295 + 1 by omega)) (Nat.le_of_lt_succ (show n < 4294967295 + 1 by omega))
    omega
  have na := num_small m (by omega)
  have nb := num_small n (by omega)
  have nc := num_small (m + n) (by omega)
  have nd := num_small (m * n) hmul
  have s1 := smOk w m (by omega) htab
  have s2 := smOk w n (by omega) htab
  have s3 := smOk w (m + n) (by omega) htab
  have s4 := smOk w (m * n) hmul htab
  have c1 := fun w => add_any (decS m) (decS n) w (maxLen_ok na) (maxLen_ok nb)
  rw [addV_lit _ _ (decS (m + n)) na nb nc (by rw [nv_dec, nv_dec, nv_dec])] at c1
  have c2 := fun w => mul_any (decS m) (decS n) w (maxLen_ok na) (maxLen_ok nb)
  rw [mulV_lit _ _ (decS (m * n)) na nb nd (by rw [nv_dec, nv_dec, nv_dec])] at c2
  have c3 := fun w => sub_any (decS m) (decS n) w (maxLen_ok na) (maxLen_ok nb)
  have c5 := fun w => div_any (decS m) (decS n) w (maxLen_ok na) (maxLen_ok nb)
  have ne := num_small (m / n) (by have := Nat.div_le_self m n; omega)
  have nf := num_small (m % n) (by have := Nat.mod_le m n; omega)
  rw [divV_lit _ _ (decS (m / n)) (decS (m % n)) na nb ne nf (by rw [nv_dec]; omega) (by rw [nv_dec, nv_dec, nv_dec]) (by rw [nv_dec, nv_dec, nv_dec])] at c5
  have s6 := smOk w (m / n) (by have := Nat.div_le_self m n; omega) htab
  have s7 := smOk w (m % n) (by have := Nat.mod_le m n; omega) htab
  rw [subV_lt _ _ na nb (by rw [nv_dec, nv_dec]; exact hlt)] at c3
  have c4 := fun w => cmp_any (decS m) (decS n) w (maxLen_ok na) (maxLen_ok nb)
  rw [show cmpV (decS m) (decS n) = -1 by unfold cmpV; rw [na, nb, nv_dec, nv_dec]; simp only [Bool.and_self, if_true]; unfold cmpN; rw [if_pos hlt]] at c4
  obtain ⟨E, hE⟩ : ∃ E : ByteArray, (⟨#[]⟩ : ByteArray) = E := ⟨_, rfl⟩
  have f1 : (E.toList != []) = false := by rw [← hE, Lib.toList_data]; rfl
  have f2 : (E.toList == []) = true := by rw [← hE, Lib.toList_data]; rfl
  rw [hE] at c3
  have hm' : IntKind.u64.wrap (m : Int) = (m : Int) := wrap_cast _ _ rfl (by omega)
  have hn' : IntKind.u64.wrap (n : Int) = (n : Int) := wrap_cast _ _ rfl (by omega)
  have hs' : IntKind.u64.wrap ((m : Int) + n) = ((m + n : Nat) : Int) := wrap_cast _ _ (by omega) (by omega)
  have hp' : IntKind.u64.wrap ((m : Int) * n) = ((m * n : Nat) : Int) := wrap_cast _ _ (Int.natCast_mul m n).symm hmul
  have hq' : IntKind.u64.wrap ((m : Int) / n) = ((m / n : Nat) : Int) := wrap_cast _ _ (Int.natCast_ediv m n).symm (by have := Nat.div_le_self m n; omega)
  have hr' : IntKind.u64.wrap ((m : Int) % n) = ((m % n : Nat) : Int) := wrap_cast _ _ (Int.natCast_emod m n).symm (by have := Nat.mod_le m n; omega)
  have hr0 : (m : Int) % n = ((m % n : Nat) : Int) := (Int.natCast_emod m n).symm
  have hr1 : IntKind.u64.wrap ((m % n : Nat) : Int) = ((m % n : Nat) : Int) := wrap_cast _ _ rfl (by have := Nat.mod_le m n; omega)
  have hl : (m : Int) < (n : Int) := by omega
  have hz : ¬ ((n : Int) = 0) := by omega
  generalize decS m = A at *
  generalize decS n = B at *
  generalize decS (m + n) = C at *
  generalize decS (m * n) = D at *
  generalize decS (m / n) = Q at *
  generalize decS (m % n) = R at *
  generalize m / n = q at *
  generalize m % n = r at *
  have S1 := Lib.hid s1
  have S2 := Lib.hid s2
  have S3 := Lib.hid s3
  have S4 := Lib.hid s4
  have S6 := Lib.hid s6
  have S7 := Lib.hid s7
  have C1 := Lib.hid c1
  have C2 := Lib.hid c2
  have C3 := Lib.hid c3
  have C4 := Lib.hid c4
  have C5 := Lib.hid c5
  clear s1 s2 s3 s4 s6 s7 c1 c2 c3 c4 c5 htab na nb nc nd
  clear ne nf hE hmul hm hn hlt
  go_enter Tryd.func7, Tryd.ntmps7
  go_wp2_with fail
  refine (S1.out _ (grown_refl _ _)).mono ?_
  rintro e w1 ⟨rfl, hg⟩
  have G1 := Lib.hid hg
  clear hg
  go_wp2_with fail
  refine (S2.out _ G1.out).mono ?_
  rintro e w2 ⟨rfl, hg⟩
  have G2 := Lib.hid (grown_trans G1.out (grown_none hg (r := none)))
  clear hg G1
  go_wp2_with fail
  refine (C1.out _).mono ?_
  rintro e w3 ⟨rfl, hg⟩
  have G3 := Lib.hid (grown_trans G2.out (grown_none hg (r := none)))
  clear hg G2
  go_wp2_with fail
  refine (C2.out _).mono ?_
  rintro e w4 ⟨rfl, hg⟩
  have G4 := Lib.hid (grown_trans G3.out (grown_none hg (r := none)))
  clear hg G3
  go_wp2_with fail
  refine (S3.out _ G4.out).mono ?_
  rintro e w5 ⟨rfl, hg⟩
  have G5 := Lib.hid (grown_trans G4.out (grown_none hg (r := none)))
  clear hg G4
  go_wp2_with fail
  refine (S4.out _ G5.out).mono ?_
  rintro e w6 ⟨rfl, hg⟩
  have G6 := Lib.hid (grown_trans G5.out (grown_none hg (r := none)))
  clear hg G5
  go_wp2_with fail
  refine (C3.out _).mono ?_
  rintro e w7 ⟨rfl, hg⟩
  have G7 := Lib.hid (grown_trans G6.out (grown_none hg (r := none)))
  clear hg G6
  go_wp2_with fail
  refine (C4.out _).mono ?_
  rintro e w8 ⟨rfl, hg⟩
  have G8 := Lib.hid (grown_trans G7.out (grown_none hg (r := none)))
  clear hg G7
  go_wp2_with fail
  refine (C5.out _).mono ?_
  rintro e w9 ⟨rfl, hg⟩
  have G9 := Lib.hid (grown_trans G8.out (grown_none hg (r := none)))
  clear hg G8
  go_wp2_with fail
  refine (S6.out _ G9.out).mono ?_
  rintro e w10 ⟨rfl, hg⟩
  have G10 := Lib.hid (grown_trans G9.out (grown_none hg (r := none)))
  clear hg G9
  go_wp2_with fail
  refine (S7.out _ G10.out).mono ?_
  rintro e w11 ⟨rfl, hg⟩
  have G11 := Lib.hid (grown_trans G10.out (grown_none hg (r := none)))
  clear hg G10
  go_wp2_with fail
  refine (X.out _).mono ?_
  rintro e w12 ⟨rfl, hg⟩
  have G12 := Lib.hid (grown_trans G11.out (grown_none hg (r := none)))
  clear hg G11
  go_wp2
  go_ret
  exact ⟨rfl, G12.out⟩

set_option maxRecDepth 100000 in
set_option maxHeartbeats 4000000 in
theorem native_zero (m n : Nat) (w : World) (X : Hid ExOk) (hm : m < 4294967296) (hn : n < 4294967296) (htab : PowTab w) (hlt : ¬ m < n) (h0 : n = 0) :
    Calls Tryd.prog 7 #[.int .u32 m, .int .u32 n] w (LawPost w) := by
  have hmul : m * n < 18446744073709551616 := by
    have := Nat.mul_le_mul (Nat.le_of_lt_succ (show m < 4294967295 + 1 by omega)) (Nat.le_of_lt_succ (show n < 4294967295 + 1 by omega))
    omega
  have na := num_small m (by omega)
  have nb := num_small n (by omega)
  have nc := num_small (m + n) (by omega)
  have nd := num_small (m * n) hmul
  have s1 := smOk w m (by omega) htab
  have s2 := smOk w n (by omega) htab
  have s3 := smOk w (m + n) (by omega) htab
  have s4 := smOk w (m * n) hmul htab
  have c1 := fun w => add_any (decS m) (decS n) w (maxLen_ok na) (maxLen_ok nb)
  rw [addV_lit _ _ (decS (m + n)) na nb nc (by rw [nv_dec, nv_dec, nv_dec])] at c1
  have c2 := fun w => mul_any (decS m) (decS n) w (maxLen_ok na) (maxLen_ok nb)
  rw [mulV_lit _ _ (decS (m * n)) na nb nd (by rw [nv_dec, nv_dec, nv_dec])] at c2
  have c3 := fun w => sub_any (decS m) (decS n) w (maxLen_ok na) (maxLen_ok nb)
  have c5 := fun w => div_any (decS m) (decS n) w (maxLen_ok na) (maxLen_ok nb)
  rw [show divV (decS m) (decS n) = .tuple #[.string ⟨#[]⟩, .string ⟨#[]⟩, .int .i64 4] by unfold divV; rw [na, nb, nv_dec, nv_dec]; simp only [Bool.and_self, if_true]; rw [if_pos h0]] at c5
  obtain ⟨E, hE⟩ : ∃ E : ByteArray, (⟨#[]⟩ : ByteArray) = E := ⟨_, rfl⟩
  have f1 : (E.toList != []) = false := by rw [← hE, Lib.toList_data]; rfl
  have f2 : (E.toList == []) = true := by rw [← hE, Lib.toList_data]; rfl
  rw [hE] at c5
  have ng := num_small (m - n) (by omega)
  have s5 := smOk w (m - n) (by omega) htab
  rw [sub_back (decS m) (decS (m - n)) (decS n) ng nb na (by rw [nv_dec, nv_dec, nv_dec]; omega)] at c3
  have hb' : IntKind.u64.wrap ((m : Int) - n) = ((m - n : Nat) : Int) := wrap_cast _ _ (by omega) (by omega)
  have hm' : IntKind.u64.wrap (m : Int) = (m : Int) := wrap_cast _ _ rfl (by omega)
  have hn' : IntKind.u64.wrap (n : Int) = (n : Int) := wrap_cast _ _ rfl (by omega)
  have hs' : IntKind.u64.wrap ((m : Int) + n) = ((m + n : Nat) : Int) := wrap_cast _ _ (by omega) (by omega)
  have hp' : IntKind.u64.wrap ((m : Int) * n) = ((m * n : Nat) : Int) := wrap_cast _ _ (Int.natCast_mul m n).symm hmul
  have hl : ¬ (m : Int) < (n : Int) := by omega
  have hz : (n : Int) = 0 := by omega
  have hz1 : ((n : Int) == 0) = true := by simpa using hz
  generalize decS (m - n) = G at *
  generalize decS m = A at *
  generalize decS n = B at *
  generalize decS (m + n) = C at *
  generalize decS (m * n) = D at *
  have S1 := Lib.hid s1
  have S2 := Lib.hid s2
  have S3 := Lib.hid s3
  have S4 := Lib.hid s4
  have S5 := Lib.hid s5
  have C1 := Lib.hid c1
  have C2 := Lib.hid c2
  have C3 := Lib.hid c3
  have C5 := Lib.hid c5
  clear s1 s2 s3 s4 s5 c1 c2 c3 c5 htab na nb nc nd
  clear ng hE hmul hm hn hlt hz h0
  go_enter Tryd.func7, Tryd.ntmps7
  go_wp2_with fail
  refine (S1.out _ (grown_refl _ _)).mono ?_
  rintro e w1 ⟨rfl, hg⟩
  have G1 := Lib.hid hg
  clear hg
  go_wp2_with fail
  refine (S2.out _ G1.out).mono ?_
  rintro e w2 ⟨rfl, hg⟩
  have G2 := Lib.hid (grown_trans G1.out (grown_none hg (r := none)))
  clear hg G1
  go_wp2_with fail
  refine (C1.out _).mono ?_
  rintro e w3 ⟨rfl, hg⟩
  have G3 := Lib.hid (grown_trans G2.out (grown_none hg (r := none)))
  clear hg G2
  go_wp2_with fail
  refine (C2.out _).mono ?_
  rintro e w4 ⟨rfl, hg⟩
  have G4 := Lib.hid (grown_trans G3.out (grown_none hg (r := none)))
  clear hg G3
  go_wp2_with fail
  refine (S3.out _ G4.out).mono ?_
  rintro e w5 ⟨rfl, hg⟩
  have G5 := Lib.hid (grown_trans G4.out (grown_none hg (r := none)))
  clear hg G4
  go_wp2_with fail
  refine (S4.out _ G5.out).mono ?_
  rintro e w6 ⟨rfl, hg⟩
  have G6 := Lib.hid (grown_trans G5.out (grown_none hg (r := none)))
  clear hg G5
  go_wp2_with fail
  refine (C3.out _).mono ?_
  rintro e w7 ⟨rfl, hg⟩
  have G7 := Lib.hid (grown_trans G6.out (grown_none hg (r := none)))
  clear hg G6
  go_wp2_with fail
  refine (S5.out _ G7.out).mono ?_
  rintro e w8 ⟨rfl, hg⟩
  have G8 := Lib.hid (grown_trans G7.out (grown_none hg (r := none)))
  clear hg G7
  go_wp2_with fail
  refine (C5.out _).mono ?_
  rintro e w9 ⟨rfl, hg⟩
  have G9 := Lib.hid (grown_trans G8.out (grown_none hg (r := none)))
  clear hg G8
  go_wp2_with fail
  refine (X.out _).mono ?_
  rintro e w10 ⟨rfl, hg⟩
  have G10 := Lib.hid (grown_trans G9.out (grown_none hg (r := none)))
  clear hg G9
  go_wp2
  go_ret
  exact ⟨rfl, G10.out⟩

set_option maxRecDepth 100000 in
set_option maxHeartbeats 4000000 in
theorem native_full (m n : Nat) (w : World) (X : Hid ExOk) (hm : m < 4294967296) (hn : n < 4294967296) (htab : PowTab w) (hlt : ¬ m < n) (h0 : n ≠ 0) :
    Calls Tryd.prog 7 #[.int .u32 m, .int .u32 n] w (LawPost w) := by
  have hmul : m * n < 18446744073709551616 := by
    have := Nat.mul_le_mul (Nat.le_of_lt_succ (show m < 4294967295 + 1 by omega)) (Nat.le_of_lt_succ (show n < 4294967295 + 1 by omega))
    omega
  have na := num_small m (by omega)
  have nb := num_small n (by omega)
  have nc := num_small (m + n) (by omega)
  have nd := num_small (m * n) hmul
  have s1 := smOk w m (by omega) htab
  have s2 := smOk w n (by omega) htab
  have s3 := smOk w (m + n) (by omega) htab
  have s4 := smOk w (m * n) hmul htab
  have c1 := fun w => add_any (decS m) (decS n) w (maxLen_ok na) (maxLen_ok nb)
  rw [addV_lit _ _ (decS (m + n)) na nb nc (by rw [nv_dec, nv_dec, nv_dec])] at c1
  have c2 := fun w => mul_any (decS m) (decS n) w (maxLen_ok na) (maxLen_ok nb)
  rw [mulV_lit _ _ (decS (m * n)) na nb nd (by rw [nv_dec, nv_dec, nv_dec])] at c2
  have c3 := fun w => sub_any (decS m) (decS n) w (maxLen_ok na) (maxLen_ok nb)
  have c5 := fun w => div_any (decS m) (decS n) w (maxLen_ok na) (maxLen_ok nb)
  have ne := num_small (m / n) (by have := Nat.div_le_self m n; omega)
  have nf := num_small (m % n) (by have := Nat.mod_le m n; omega)
  rw [divV_lit _ _ (decS (m / n)) (decS (m % n)) na nb ne nf (by rw [nv_dec]; exact h0) (by rw [nv_dec, nv_dec, nv_dec]) (by rw [nv_dec, nv_dec, nv_dec])] at c5
  have s6 := smOk w (m / n) (by have := Nat.div_le_self m n; omega) htab
  have s7 := smOk w (m % n) (by have := Nat.mod_le m n; omega) htab
  have ng := num_small (m - n) (by omega)
  have s5 := smOk w (m - n) (by omega) htab
  rw [sub_back (decS m) (decS (m - n)) (decS n) ng nb na (by rw [nv_dec, nv_dec, nv_dec]; omega)] at c3
  have hb' : IntKind.u64.wrap ((m : Int) - n) = ((m - n : Nat) : Int) := wrap_cast _ _ (by omega) (by omega)
  have hm' : IntKind.u64.wrap (m : Int) = (m : Int) := wrap_cast _ _ rfl (by omega)
  have hn' : IntKind.u64.wrap (n : Int) = (n : Int) := wrap_cast _ _ rfl (by omega)
  have hs' : IntKind.u64.wrap ((m : Int) + n) = ((m + n : Nat) : Int) := wrap_cast _ _ (by omega) (by omega)
  have hp' : IntKind.u64.wrap ((m : Int) * n) = ((m * n : Nat) : Int) := wrap_cast _ _ (Int.natCast_mul m n).symm hmul
  have hq' : IntKind.u64.wrap ((m : Int) / n) = ((m / n : Nat) : Int) := wrap_cast _ _ (Int.natCast_ediv m n).symm (by have := Nat.div_le_self m n; omega)
  have hr' : IntKind.u64.wrap ((m : Int) % n) = ((m % n : Nat) : Int) := wrap_cast _ _ (Int.natCast_emod m n).symm (by have := Nat.mod_le m n; omega)
  have hr0 : (m : Int) % n = ((m % n : Nat) : Int) := (Int.natCast_emod m n).symm
  have hr1 : IntKind.u64.wrap ((m % n : Nat) : Int) = ((m % n : Nat) : Int) := wrap_cast _ _ rfl (by have := Nat.mod_le m n; omega)
  have hl : ¬ (m : Int) < (n : Int) := by omega
  have hz : ¬ ((n : Int) = 0) := by omega
  generalize decS (m - n) = G at *
  generalize decS m = A at *
  generalize decS n = B at *
  generalize decS (m + n) = C at *
  generalize decS (m * n) = D at *
  generalize decS (m / n) = Q at *
  generalize decS (m % n) = R at *
  generalize m / n = q at *
  generalize m % n = r at *
  have S1 := Lib.hid s1
  have S2 := Lib.hid s2
  have S3 := Lib.hid s3
  have S4 := Lib.hid s4
  have S5 := Lib.hid s5
  have S6 := Lib.hid s6
  have S7 := Lib.hid s7
  have C1 := Lib.hid c1
  have C2 := Lib.hid c2
  have C3 := Lib.hid c3
  have C5 := Lib.hid c5
  clear s1 s2 s3 s4 s5 s6 s7 c1 c2 c3 c5 htab na nb nc nd
  clear ng ne nf hmul hm hn hlt h0
  go_enter Tryd.func7, Tryd.ntmps7
  go_wp2_with fail
  refine (S1.out _ (grown_refl _ _)).mono ?_
  rintro e w1 ⟨rfl, hg⟩
  have G1 := Lib.hid hg
  clear hg
  go_wp2_with fail
  refine (S2.out _ G1.out).mono ?_
  rintro e w2 ⟨rfl, hg⟩
  have G2 := Lib.hid (grown_trans G1.out (grown_none hg (r := none)))
  clear hg G1
  go_wp2_with fail
  refine (C1.out _).mono ?_
  rintro e w3 ⟨rfl, hg⟩
  have G3 := Lib.hid (grown_trans G2.out (grown_none hg (r := none)))
  clear hg G2
  go_wp2_with fail
  refine (C2.out _).mono ?_
  rintro e w4 ⟨rfl, hg⟩
  have G4 := Lib.hid (grown_trans G3.out (grown_none hg (r := none)))
  clear hg G3
  go_wp2_with fail
  refine (S3.out _ G4.out).mono ?_
  rintro e w5 ⟨rfl, hg⟩
  have G5 := Lib.hid (grown_trans G4.out (grown_none hg (r := none)))
  clear hg G4
  go_wp2_with fail
  refine (S4.out _ G5.out).mono ?_
  rintro e w6 ⟨rfl, hg⟩
  have G6 := Lib.hid (grown_trans G5.out (grown_none hg (r := none)))
  clear hg G5
  go_wp2_with fail
  refine (C3.out _).mono ?_
  rintro e w7 ⟨rfl, hg⟩
  have G7 := Lib.hid (grown_trans G6.out (grown_none hg (r := none)))
  clear hg G6
  go_wp2_with fail
  refine (S5.out _ G7.out).mono ?_
  rintro e w8 ⟨rfl, hg⟩
  have G8 := Lib.hid (grown_trans G7.out (grown_none hg (r := none)))
  clear hg G7
  go_wp2_with fail
  refine (C5.out _).mono ?_
  rintro e w9 ⟨rfl, hg⟩
  have G9 := Lib.hid (grown_trans G8.out (grown_none hg (r := none)))
  clear hg G8
  go_wp2_with fail
  refine (S6.out _ G9.out).mono ?_
  rintro e w10 ⟨rfl, hg⟩
  have G10 := Lib.hid (grown_trans G9.out (grown_none hg (r := none)))
  clear hg G9
  go_wp2_with fail
  refine (S7.out _ G10.out).mono ?_
  rintro e w11 ⟨rfl, hg⟩
  have G11 := Lib.hid (grown_trans G10.out (grown_none hg (r := none)))
  clear hg G10
  go_wp2_with fail
  refine (X.out _).mono ?_
  rintro e w12 ⟨rfl, hg⟩
  have G12 := Lib.hid (grown_trans G11.out (grown_none hg (r := none)))
  clear hg G11
  go_wp2
  go_ret
  exact ⟨rfl, G12.out⟩

theorem native_walk (m n : Nat) (w : World) (hm : m < 4294967296) (hn : n < 4294967296) (htab : PowTab w) :
    Calls Tryd.prog 7 #[.int .u32 m, .int .u32 n] w (LawPost w) := by
  have X := Lib.hid exOk
  by_cases hlt : m < n
  · exact native_less m n w X hm hn htab hlt
  · by_cases h0 : n = 0
    · exact native_zero m n w X hm hn htab hlt h0
    · exact native_full m n w X hm hn htab hlt h0
end Go.Proofs.YtlkjfhidicgjiaaDoor
