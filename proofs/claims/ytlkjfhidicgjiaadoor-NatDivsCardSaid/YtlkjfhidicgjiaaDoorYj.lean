/- The reference's Div and Gcd at any strings. -/
import Derived.Test.YtlkjfhidicgjiaaDoorYi
set_option linter.unusedVariables false
set_option linter.unusedSimpArgs false
namespace Go.Proofs.YtlkjfhidicgjiaaDoor
open Go.RowKit
open Go.Lib (nDigits decDigits)

theorem rdiv_bad_a (a b : ByteArray) (w : World) (ha : a.size ≤ maxLen) (hb : b.size ≤ maxLen) (na : numB a = false) :
    Calls Tryd.prog 27 #[.string a, .string b] w (ValPost (divV a b) w) := by
  have HV := Lib.hid (show divV a b = .tuple #[.string ⟨#[]⟩, .string ⟨#[]⟩, .int .i64 1] by unfold divV; rw [na]; rfl)
  have va := rvalid_any a w ha
  have vb := rvalid_any b w hb
  rw [na] at va
  have VA := Lib.hid va; have VB := Lib.hid vb
  clear va vb ha hb na
  go_enter Tryd.func27, Tryd.ntmps27
  go_wp2_with fail
  refine VA.out.mono ?_
  rintro e w' ⟨rfl, rfl⟩
  go_wp2
  go_ret3
  rw [HV.out]
  exact ⟨rfl, grown_refl _ _⟩

theorem rdiv_bad_b (a b : ByteArray) (w : World) (ha : a.size ≤ maxLen) (hb : b.size ≤ maxLen) (na : numB a = true) (nb : numB b = false) :
    Calls Tryd.prog 27 #[.string a, .string b] w (ValPost (divV a b) w) := by
  have HV := Lib.hid (show divV a b = .tuple #[.string ⟨#[]⟩, .string ⟨#[]⟩, .int .i64 1] by unfold divV; rw [na, nb]; rfl)
  have va := rvalid_any a w ha
  have vb := rvalid_any b w hb
  rw [na] at va
  rw [nb] at vb
  have VA := Lib.hid va; have VB := Lib.hid vb
  clear va vb ha hb na nb
  go_enter Tryd.func27, Tryd.ntmps27
  go_wp2_with fail
  refine VA.out.mono ?_
  rintro e w' ⟨rfl, rfl⟩
  go_wp2_with fail
  refine VB.out.mono ?_
  rintro e w' ⟨rfl, rfl⟩
  go_wp2
  go_ret3
  rw [HV.out]
  exact ⟨rfl, grown_refl _ _⟩

theorem rdiv_zero (a b : ByteArray) (w : World) (na : numB a = true) (nb : numB b = true) (h0 : nv b = 0) :
    Calls Tryd.prog 27 #[.string a, .string b] w (ValPost (divV a b) w) := by
  have HV := Lib.hid (show divV a b = .tuple #[.string ⟨#[]⟩, .string ⟨#[]⟩, .int .i64 4] by unfold divV; rw [na, nb]; simp only [Bool.and_self, if_true]; rw [if_pos h0])
  have va := rvalid_any a w (maxLen_ok na)
  have vb := rvalid_any b w (maxLen_ok nb)
  rw [na] at va
  rw [nb] at vb
  have VA := Lib.hid va; have VB := Lib.hid vb
  have fb : (b.toList == [48]) = true := by rw [(str_facts b nb).1]; simp [h0]
  clear va vb na nb h0
  go_enter Tryd.func27, Tryd.ntmps27
  go_wp2_with fail
  refine VA.out.mono ?_
  rintro e w' ⟨rfl, rfl⟩
  go_wp2_with fail
  refine VB.out.mono ?_
  rintro e w' ⟨rfl, rfl⟩
  go_wp2
  go_ret3
  rw [HV.out]
  exact ⟨rfl, grown_refl _ _⟩

theorem rdiv_any (a b : ByteArray) (w : World) (ha : a.size ≤ maxLen) (hb : b.size ≤ maxLen) :
    Calls Tryd.prog 27 #[.string a, .string b] w (ValPost (divV a b) w) := by
  cases na : numB a
  · exact rdiv_bad_a a b w ha hb na
  cases nb : numB b
  · exact rdiv_bad_b a b w ha hb na nb
  by_cases h0 : nv b = 0
  · exact rdiv_zero a b w na nb h0
  · exact rdiv_num a b w na nb h0

theorem rgcd_bad_a (a b : ByteArray) (w : World) (ha : a.size ≤ maxLen) (hb : b.size ≤ maxLen) (na : numB a = false) :
    Calls Tryd.prog 29 #[.string a, .string b] w (ValPost (gcdV a b) w) := by
  have HV := Lib.hid (show gcdV a b = .tuple #[.string ⟨#[]⟩, .int .i64 1] by unfold gcdV; rw [na]; rfl)
  have va := rvalid_any a w ha
  have vb := rvalid_any b w hb
  rw [na] at va
  have VA := Lib.hid va; have VB := Lib.hid vb
  clear va vb ha hb na
  go_enter Tryd.func29, Tryd.ntmps29
  go_wp2_with fail
  refine VA.out.mono ?_
  rintro e w' ⟨rfl, rfl⟩
  go_wp2
  go_ret2
  rw [HV.out]
  exact ⟨rfl, grown_refl _ _⟩

theorem rgcd_bad_b (a b : ByteArray) (w : World) (ha : a.size ≤ maxLen) (hb : b.size ≤ maxLen) (na : numB a = true) (nb : numB b = false) :
    Calls Tryd.prog 29 #[.string a, .string b] w (ValPost (gcdV a b) w) := by
  have HV := Lib.hid (show gcdV a b = .tuple #[.string ⟨#[]⟩, .int .i64 1] by unfold gcdV; rw [na, nb]; rfl)
  have va := rvalid_any a w ha
  have vb := rvalid_any b w hb
  rw [na] at va
  rw [nb] at vb
  have VA := Lib.hid va; have VB := Lib.hid vb
  clear va vb ha hb na nb
  go_enter Tryd.func29, Tryd.ntmps29
  go_wp2_with fail
  refine VA.out.mono ?_
  rintro e w' ⟨rfl, rfl⟩
  go_wp2_with fail
  refine VB.out.mono ?_
  rintro e w' ⟨rfl, rfl⟩
  go_wp2
  go_ret2
  rw [HV.out]
  exact ⟨rfl, grown_refl _ _⟩

set_option maxRecDepth 100000 in
set_option maxHeartbeats 4000000 in
theorem rgcd_num (a b : ByteArray) (w : World) (na : numB a = true) (nb : numB b = true) :
    Calls Tryd.prog 29 #[.string a, .string b] w (ValPost (gcdV a b) w) := by
  have va := rvalid_any a w (maxLen_ok na)
  have vb := rvalid_any b w (maxLen_ok nb)
  rw [na] at va
  rw [nb] at vb
  have VA := Lib.hid va; have VB := Lib.hid vb
  have HV := Lib.hid (show gcdV a b = .tuple #[.string (decS (Nat.gcd (nv a) (nv b))), .int .i64 0] by unfold gcdV; rw [na, nb]; simp only [Bool.and_self, if_true])
  have NA := Lib.hid na; have NB := Lib.hid nb
  obtain ⟨G, hG⟩ : ∃ G, Nat.gcd (nv a) (nv b) = G := ⟨_, rfl⟩
  rw [hG] at HV
  have HG := Lib.hid hG
  clear va vb na nb hG
  go_enter Tryd.func29, Tryd.ntmps29
  go_wp2_with fail
  refine VA.out.mono ?_
  rintro e w' ⟨rfl, rfl⟩
  go_wp2_with fail
  refine VB.out.mono ?_
  rintro e w' ⟨rfl, rfl⟩
  go_wp2
  go_loopg [0, 1] (nv b) (fun n x y wr => ∃ S T : ByteArray, x = .string S ∧ y = .string T ∧ numB S = true ∧ numB T = true ∧ Nat.gcd (nv S) (nv T) = G ∧ w.grownBy wr none ∧ nv T = n)
  case atStart => exact ⟨a, b, rfl, rfl, NA.out, NB.out, HG.out, grown_refl _ _, rfl⟩
  case round =>
    obtain ⟨S, T, rfl, rfl, nS, nT, hg, hgr, hn⟩ := hrel
    have sf := str_facts T nT
    by_cases h0 : nv T = 0
    · have f1 : (T.toList == [48]) = true := by rw [sf.1]; simp [h0]
      have f2 : (T.toList != [48]) = false := by rw [sf.2]; simp [h0]
      have HS := Lib.hid (show S = decS G by rw [← hg, h0, Nat.gcd_zero_right]; exact (num_is S nS).1)
      have HGR := Lib.hid hgr
      clear sf nS nT hg hgr hn h0
      go_wp2
      go_ret2
      rw [HV.out, ← HS.out]
      exact ⟨rfl, HGR.out⟩
    · have f1 : (T.toList == [48]) = false := by rw [sf.1]; simp [h0]
      have f2 : (T.toList != [48]) = true := by rw [sf.2]; simp [h0]
      have nQ : numB (decS (nv S / nv T)) = true := num_le S nS (Nat.div_le_self _ _)
      have nR : numB (decS (nv S % nv T)) = true := num_le S nS (Nat.mod_le _ _)
      have hd := rdiv_any S T wr (maxLen_ok nS) (maxLen_ok nT)
      rw [divV_lit S T (decS (nv S / nv T)) (decS (nv S % nv T)) nS nT nQ nR h0 (nv_dec _) (nv_dec _)] at hd
      have vR := nv_dec (nv S % nv T)
      have hgg : Nat.gcd (nv T) (nv (decS (nv S % nv T))) = G := by rw [vR, ← hg, Nat.gcd_comm (nv S), Nat.gcd_rec (nv T) (nv S), Nat.gcd_comm]
      have hlt : nv (decS (nv S % nv T)) < nv T := by rw [vR]; exact Nat.mod_lt _ (by omega)
      generalize decS (nv S / nv T) = Q at *
      generalize decS (nv S % nv T) = R at *
      have HN := Lib.hid hn; have HD := Lib.hid hd; have HNT := Lib.hid nT; have HNR := Lib.hid nR; have HGG := Lib.hid hgg; have HLT := Lib.hid hlt; have HGR := Lib.hid hgr
      clear sf nS nT hg hgr hn h0 nQ nR hd vR hgg hlt
      go_wp2_with fail
      refine HD.out.mono ?_
      rintro e w1 ⟨rfl, hg1⟩
      have HG1 := Lib.hid (grown_trans HGR.out hg1)
      clear hg1
      go_wp2
      go_roundg (nv R)
      case measure => rw [← HN.out]; exact HLT.out
      case rel => exact ⟨T, R, rfl, rfl, HNT.out, HNR.out, HGG.out, HG1.out, rfl⟩

theorem rgcd_any (a b : ByteArray) (w : World) (ha : a.size ≤ maxLen) (hb : b.size ≤ maxLen) :
    Calls Tryd.prog 29 #[.string a, .string b] w (ValPost (gcdV a b) w) := by
  cases na : numB a
  · exact rgcd_bad_a a b w ha hb na
  cases nb : numB b
  · exact rgcd_bad_b a b w ha hb na nb
  exact rgcd_num a b w na nb
end Go.Proofs.YtlkjfhidicgjiaaDoor
