/- fraction. -/
import Derived.Test.YthokjhlbbgfplaaGreatDoorNb
set_option linter.unusedVariables false
set_option linter.unusedSimpArgs false
namespace Go.Proofs.YthokjhlbbgfplaaGreatDoor
open Go.RowKit
open Go.Lib (nDigits decDigits)

def DecOk (z : Int) (S : ByteArray) : Prop := ∀ w, Calls Tryz.prog 55 #[.int .i64 z] w (ValPost (.string S) w)
theorem tdiv_neg2 (m g : Nat) : (-(m : Int)).tdiv g = -((m / g : Nat) : Int) := by
  rw [Int.neg_tdiv, Int.tdiv_eq_ediv_of_nonneg (by omega), Int.natCast_ediv]
set_option maxRecDepth 100000 in
set_option maxHeartbeats 2000000 in
theorem fraction_plus_int (n d : Nat) (A B : ByteArray) (w : World) (hn : n < 9223372036854775807) (hd : d < 9223372036854775807) (h0 : 1 ≤ d) (hD : d / Nat.gcd n d = 1)
    (DA : Hid (DecOk ((n / Nat.gcd n d : Nat) : Int) A)) (hA : A.size ≤ 30) (hB : B.size ≤ 30) :
    Calls Tryz.prog 30 #[.int .i64 (n : Int), .int .i64 d] w (ValPost (.string (A)) w) := by
  have hn0 : ¬ (n : Int) < 0 := by omega
  have HD := Lib.hid hD
  clear hD
  go_enter Tryz.func30, Tryz.ntmps30
  go_wp2
  go_loopw [5, 6] (fun a b wr => ∃ (x y : Nat), a = .int .i64 x ∧ b = .int .i64 y ∧ Nat.gcd x y = Nat.gcd n d ∧ x < 9223372036854775807 ∧ y < 9223372036854775807 ∧ w.grownBy wr none) (fun _ b _ => (intOf b).toNat)
  case atStart => exact ⟨n, d, by first | rfl | simp, rfl, rfl, hn, hd, grown_refl _ _⟩
  case round =>
    obtain ⟨x, y, rfl, rfl, hg, hx, hy, hgr⟩ := hrel
    have HG := Lib.hid hg; have HGR := Lib.hid hgr
    clear hg hgr
    by_cases hy0 : y = 0
    · subst hy0
      have e := HG.out
      rw [Nat.gcd_zero_right] at e
      have hx1 : 1 ≤ x := by
        have := Nat.gcd_pos_of_pos_right n (show 0 < d by omega)
        omega
      have f1 : ((x : Int) == 0) = false := by simp; omega
      have f2 : ¬ (x : Int) = 0 := by omega
      have HD2 := Lib.hid HD.out
      clear HG HD
      rw [← e] at DA  HD2
      clear e
      have q1 : (n : Int) / x = ((n / x : Nat) : Int) := (Int.natCast_ediv n x).symm
      have q2 : (d : Int) / x = ((d / x : Nat) : Int) := (Int.natCast_ediv d x).symm
      have q3 := tdiv_neg2 n x
      have q4 : n / x ≤ n := Nat.div_le_self _ _
      have q5 : d / x ≤ d := Nat.div_le_self _ _
      have hd1 := HD2.out
      generalize n / x = n1 at *
      generalize d / x = d1 at *
      have z1 : ((d1 : Int) == 1) = true := by simp; omega
      clear HD2
      go_wp2_with fail
      go_quiet (fail)
      have HW := Lib.hid (grown_trans HGR.out (grown_drewN wr none nq))
      go_wp2_with fail
      refine (DA.out _).mono ?_
      rintro e w1 ⟨rfl, hg⟩
      have G1 := Lib.hid (grown_trans HW.out hg)
      clear hg
      go_wp2
      go_ret
      exact ⟨rfl, G1.out⟩
    · have f1 : ((y : Int) == 0) = false := by simp; omega
      have f2 : ¬ (y : Int) = 0 := by omega
      have f3 : ((y : Int) != 0) = true := by simp; omega
      have q1 : (x : Int) % y = ((x % y : Nat) : Int) := (Int.natCast_emod x y).symm
      have q2 : x % y < y := Nat.mod_lt _ (by omega)
      have q3 : Nat.gcd y (x % y) = Nat.gcd x y := by rw [Nat.gcd_comm y (x % y), ← Nat.gcd_rec, Nat.gcd_comm]
      go_wp2_with fail
      go_quiet (fail)
      go_wp2_with fail
      refine ⟨⟨y, x % y, rfl, by rw [q1], by rw [q3, HG.out], hy, by omega, grown_trans HGR.out (grown_drewN _ _ _)⟩, ?_⟩
      simp [intOf]
      omega
set_option maxRecDepth 100000 in
set_option maxHeartbeats 2000000 in
theorem fraction_plus_frac (n d : Nat) (A B : ByteArray) (w : World) (hn : n < 9223372036854775807) (hd : d < 9223372036854775807) (h0 : 1 ≤ d) (hD : d / Nat.gcd n d ≠ 1)
    (DA : Hid (DecOk ((n / Nat.gcd n d : Nat) : Int) A)) (DB : Hid (DecOk ((d / Nat.gcd n d : Nat) : Int) B)) (hA : A.size ≤ 30) (hB : B.size ≤ 30) :
    Calls Tryz.prog 30 #[.int .i64 (n : Int), .int .i64 d] w (ValPost (.string (A ++ ⟨#[47]⟩ ++ B)) w) := by
  have hn0 : ¬ (n : Int) < 0 := by omega
  have HD := Lib.hid hD
  clear hD
  go_enter Tryz.func30, Tryz.ntmps30
  go_wp2
  go_loopw [5, 6] (fun a b wr => ∃ (x y : Nat), a = .int .i64 x ∧ b = .int .i64 y ∧ Nat.gcd x y = Nat.gcd n d ∧ x < 9223372036854775807 ∧ y < 9223372036854775807 ∧ w.grownBy wr none) (fun _ b _ => (intOf b).toNat)
  case atStart => exact ⟨n, d, by first | rfl | simp, rfl, rfl, hn, hd, grown_refl _ _⟩
  case round =>
    obtain ⟨x, y, rfl, rfl, hg, hx, hy, hgr⟩ := hrel
    have HG := Lib.hid hg; have HGR := Lib.hid hgr
    clear hg hgr
    by_cases hy0 : y = 0
    · subst hy0
      have e := HG.out
      rw [Nat.gcd_zero_right] at e
      have hx1 : 1 ≤ x := by
        have := Nat.gcd_pos_of_pos_right n (show 0 < d by omega)
        omega
      have f1 : ((x : Int) == 0) = false := by simp; omega
      have f2 : ¬ (x : Int) = 0 := by omega
      have HD2 := Lib.hid HD.out
      clear HG HD
      rw [← e] at DA DB HD2
      clear e
      have q1 : (n : Int) / x = ((n / x : Nat) : Int) := (Int.natCast_ediv n x).symm
      have q2 : (d : Int) / x = ((d / x : Nat) : Int) := (Int.natCast_ediv d x).symm
      have q3 := tdiv_neg2 n x
      have q4 : n / x ≤ n := Nat.div_le_self _ _
      have q5 : d / x ≤ d := Nat.div_le_self _ _
      have hd1 := HD2.out
      generalize n / x = n1 at *
      generalize d / x = d1 at *
      have z1 : ((d1 : Int) == 1) = false := by simp; omega
      clear HD2
      go_wp2_with fail
      go_quiet (fail)
      have HW := Lib.hid (grown_trans HGR.out (grown_drewN wr none nq))
      go_wp2_with fail
      refine (DA.out _).mono ?_
      rintro e w1 ⟨rfl, hg⟩
      have G1 := Lib.hid (grown_trans HW.out hg)
      clear hg
      go_wp2_with fail
      refine (DB.out _).mono ?_
      rintro e w2 ⟨rfl, hg⟩
      have G2 := Lib.hid (grown_trans G1.out hg)
      clear hg
      go_wp2
      go_ret
      exact ⟨rfl, G2.out⟩
    · have f1 : ((y : Int) == 0) = false := by simp; omega
      have f2 : ¬ (y : Int) = 0 := by omega
      have f3 : ((y : Int) != 0) = true := by simp; omega
      have q1 : (x : Int) % y = ((x % y : Nat) : Int) := (Int.natCast_emod x y).symm
      have q2 : x % y < y := Nat.mod_lt _ (by omega)
      have q3 : Nat.gcd y (x % y) = Nat.gcd x y := by rw [Nat.gcd_comm y (x % y), ← Nat.gcd_rec, Nat.gcd_comm]
      go_wp2_with fail
      go_quiet (fail)
      go_wp2_with fail
      refine ⟨⟨y, x % y, rfl, by rw [q1], by rw [q3, HG.out], hy, by omega, grown_trans HGR.out (grown_drewN _ _ _)⟩, ?_⟩
      simp [intOf]
      omega
set_option maxRecDepth 100000 in
set_option maxHeartbeats 2000000 in
theorem fraction_minus_int (n d : Nat) (A B : ByteArray) (w : World) (hn : n < 9223372036854775807) (hd : d < 9223372036854775807) (h0 : 1 ≤ d) (hn1 : 1 ≤ n) (hD : d / Nat.gcd n d = 1)
    (DA : Hid (DecOk (-((n / Nat.gcd n d : Nat) : Int)) A)) (hA : A.size ≤ 30) (hB : B.size ≤ 30) :
    Calls Tryz.prog 30 #[.int .i64 (-(n : Int)), .int .i64 d] w (ValPost (.string (A)) w) := by
  have hn0 : -(n : Int) < 0 := by omega
  have HD := Lib.hid hD
  clear hD
  go_enter Tryz.func30, Tryz.ntmps30
  go_wp2
  go_loopw [5, 6] (fun a b wr => ∃ (x y : Nat), a = .int .i64 x ∧ b = .int .i64 y ∧ Nat.gcd x y = Nat.gcd n d ∧ x < 9223372036854775807 ∧ y < 9223372036854775807 ∧ w.grownBy wr none) (fun _ b _ => (intOf b).toNat)
  case atStart => exact ⟨n, d, by first | rfl | simp, rfl, rfl, hn, hd, grown_refl _ _⟩
  case round =>
    obtain ⟨x, y, rfl, rfl, hg, hx, hy, hgr⟩ := hrel
    have HG := Lib.hid hg; have HGR := Lib.hid hgr
    clear hg hgr
    by_cases hy0 : y = 0
    · subst hy0
      have e := HG.out
      rw [Nat.gcd_zero_right] at e
      have hx1 : 1 ≤ x := by
        have := Nat.gcd_pos_of_pos_right n (show 0 < d by omega)
        omega
      have f1 : ((x : Int) == 0) = false := by simp; omega
      have f2 : ¬ (x : Int) = 0 := by omega
      have HD2 := Lib.hid HD.out
      clear HG HD
      rw [← e] at DA  HD2
      clear e
      have q1 : (n : Int) / x = ((n / x : Nat) : Int) := (Int.natCast_ediv n x).symm
      have q2 : (d : Int) / x = ((d / x : Nat) : Int) := (Int.natCast_ediv d x).symm
      have q3 := tdiv_neg2 n x
      have q4 : n / x ≤ n := Nat.div_le_self _ _
      have q5 : d / x ≤ d := Nat.div_le_self _ _
      have hd1 := HD2.out
      generalize n / x = n1 at *
      generalize d / x = d1 at *
      have z1 : ((d1 : Int) == 1) = true := by simp; omega
      clear HD2
      go_wp2_with fail
      go_quiet (fail)
      have HW := Lib.hid (grown_trans HGR.out (grown_drewN wr none nq))
      go_wp2_with fail
      refine (DA.out _).mono ?_
      rintro e w1 ⟨rfl, hg⟩
      have G1 := Lib.hid (grown_trans HW.out hg)
      clear hg
      go_wp2
      go_ret
      exact ⟨rfl, G1.out⟩
    · have f1 : ((y : Int) == 0) = false := by simp; omega
      have f2 : ¬ (y : Int) = 0 := by omega
      have f3 : ((y : Int) != 0) = true := by simp; omega
      have q1 : (x : Int) % y = ((x % y : Nat) : Int) := (Int.natCast_emod x y).symm
      have q2 : x % y < y := Nat.mod_lt _ (by omega)
      have q3 : Nat.gcd y (x % y) = Nat.gcd x y := by rw [Nat.gcd_comm y (x % y), ← Nat.gcd_rec, Nat.gcd_comm]
      go_wp2_with fail
      go_quiet (fail)
      go_wp2_with fail
      refine ⟨⟨y, x % y, rfl, by rw [q1], by rw [q3, HG.out], hy, by omega, grown_trans HGR.out (grown_drewN _ _ _)⟩, ?_⟩
      simp [intOf]
      omega
set_option maxRecDepth 100000 in
set_option maxHeartbeats 2000000 in
theorem fraction_minus_frac (n d : Nat) (A B : ByteArray) (w : World) (hn : n < 9223372036854775807) (hd : d < 9223372036854775807) (h0 : 1 ≤ d) (hn1 : 1 ≤ n) (hD : d / Nat.gcd n d ≠ 1)
    (DA : Hid (DecOk (-((n / Nat.gcd n d : Nat) : Int)) A)) (DB : Hid (DecOk ((d / Nat.gcd n d : Nat) : Int) B)) (hA : A.size ≤ 30) (hB : B.size ≤ 30) :
    Calls Tryz.prog 30 #[.int .i64 (-(n : Int)), .int .i64 d] w (ValPost (.string (A ++ ⟨#[47]⟩ ++ B)) w) := by
  have hn0 : -(n : Int) < 0 := by omega
  have HD := Lib.hid hD
  clear hD
  go_enter Tryz.func30, Tryz.ntmps30
  go_wp2
  go_loopw [5, 6] (fun a b wr => ∃ (x y : Nat), a = .int .i64 x ∧ b = .int .i64 y ∧ Nat.gcd x y = Nat.gcd n d ∧ x < 9223372036854775807 ∧ y < 9223372036854775807 ∧ w.grownBy wr none) (fun _ b _ => (intOf b).toNat)
  case atStart => exact ⟨n, d, by first | rfl | simp, rfl, rfl, hn, hd, grown_refl _ _⟩
  case round =>
    obtain ⟨x, y, rfl, rfl, hg, hx, hy, hgr⟩ := hrel
    have HG := Lib.hid hg; have HGR := Lib.hid hgr
    clear hg hgr
    by_cases hy0 : y = 0
    · subst hy0
      have e := HG.out
      rw [Nat.gcd_zero_right] at e
      have hx1 : 1 ≤ x := by
        have := Nat.gcd_pos_of_pos_right n (show 0 < d by omega)
        omega
      have f1 : ((x : Int) == 0) = false := by simp; omega
      have f2 : ¬ (x : Int) = 0 := by omega
      have HD2 := Lib.hid HD.out
      clear HG HD
      rw [← e] at DA DB HD2
      clear e
      have q1 : (n : Int) / x = ((n / x : Nat) : Int) := (Int.natCast_ediv n x).symm
      have q2 : (d : Int) / x = ((d / x : Nat) : Int) := (Int.natCast_ediv d x).symm
      have q3 := tdiv_neg2 n x
      have q4 : n / x ≤ n := Nat.div_le_self _ _
      have q5 : d / x ≤ d := Nat.div_le_self _ _
      have hd1 := HD2.out
      generalize n / x = n1 at *
      generalize d / x = d1 at *
      have z1 : ((d1 : Int) == 1) = false := by simp; omega
      clear HD2
      go_wp2_with fail
      go_quiet (fail)
      have HW := Lib.hid (grown_trans HGR.out (grown_drewN wr none nq))
      go_wp2_with fail
      refine (DA.out _).mono ?_
      rintro e w1 ⟨rfl, hg⟩
      have G1 := Lib.hid (grown_trans HW.out hg)
      clear hg
      go_wp2_with fail
      refine (DB.out _).mono ?_
      rintro e w2 ⟨rfl, hg⟩
      have G2 := Lib.hid (grown_trans G1.out hg)
      clear hg
      go_wp2
      go_ret
      exact ⟨rfl, G2.out⟩
    · have f1 : ((y : Int) == 0) = false := by simp; omega
      have f2 : ¬ (y : Int) = 0 := by omega
      have f3 : ((y : Int) != 0) = true := by simp; omega
      have q1 : (x : Int) % y = ((x % y : Nat) : Int) := (Int.natCast_emod x y).symm
      have q2 : x % y < y := Nat.mod_lt _ (by omega)
      have q3 : Nat.gcd y (x % y) = Nat.gcd x y := by rw [Nat.gcd_comm y (x % y), ← Nat.gcd_rec, Nat.gcd_comm]
      go_wp2_with fail
      go_quiet (fail)
      go_wp2_with fail
      refine ⟨⟨y, x % y, rfl, by rw [q1], by rw [q3, HG.out], hy, by omega, grown_trans HGR.out (grown_drewN _ _ _)⟩, ?_⟩
      simp [intOf]
      omega
end Go.Proofs.YthokjhlbbgfplaaGreatDoor
