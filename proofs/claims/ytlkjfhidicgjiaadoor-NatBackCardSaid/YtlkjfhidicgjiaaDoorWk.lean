/- math/bits.Div64 at every input that it is called with; guess. -/
import Derived.Test.YtlkjfhidicgjiaaDoorWj
import Derived.Test.YtlkjfhidicgjiaaDoorWb
import Derived.Test.YtlkjfhidicgjiaaDoorPd
set_option linter.unusedVariables false
set_option linter.unusedSimpArgs false
namespace Go.Proofs.YtlkjfhidicgjiaaDoor
open Go.RowKit

set_option maxRecDepth 100000 in
set_option maxHeartbeats 1000000 in
theorem div64_full (hi lo y : Nat) (h2 : hi < y) (hy : y < 18446744073709551616) (hlo : lo < 18446744073709551616) :
    ∃ r, ∀ w, Calls Tryd.prog 72 #[.int .u64 hi, .int .u64 lo, .int .u64 y] w fun e w' => e = .returned (.tuple #[.int .u64 ((18446744073709551616 * hi + lo) / y : Nat), .int .u64 r]) ∧ ∃ n, w' = w.drewN n := by
  by_cases h1 : 1 ≤ hi
  · have hb := Lib.bitLenAux_bounds 64 y hy (by omega)
    change 1 ≤ Lib.bitLen y ∧ 2 ^ (Lib.bitLen y - 1) ≤ y ∧ y < 2 ^ Lib.bitLen y at hb
    obtain ⟨b1, b2, b3⟩ := hb
    have b4 := Lib.bitLen_le y 64 (Nat.le_refl _) hy
    have hlz : ∀ w, Calls Tryd.prog 83 #[.int .u64 y] w fun e w' => e = .returned (.int .i64 ((64 - Lib.bitLen y : Nat) : Int)) ∧ w = w' := by
      intro w
      refine (Tryd.bits_LeadingZeros64 (y : Int) w (by omega) (by omega)).mono ?_
      rintro e w' ⟨rfl, rfl⟩
      refine ⟨?_, rfl⟩
      rw [Int.toNat_natCast, Int.natCast_sub b4]; rfl
    have p1 : y * 2 ^ (64 - Lib.bitLen y) < 18446744073709551616 := by
      have : y * 2 ^ (64 - Lib.bitLen y) < 2 ^ Lib.bitLen y * 2 ^ (64 - Lib.bitLen y) := Nat.mul_lt_mul_of_pos_right b3 (Nat.two_pow_pos _)
      rw [← Nat.pow_add, show Lib.bitLen y + (64 - Lib.bitLen y) = 64 by omega] at this
      exact this
    have p2 : 9223372036854775808 ≤ y * 2 ^ (64 - Lib.bitLen y) := by
      have : 2 ^ (Lib.bitLen y - 1) * 2 ^ (64 - Lib.bitLen y) ≤ y * 2 ^ (64 - Lib.bitLen y) := Nat.mul_le_mul_right _ b2
      rw [← Nat.pow_add, show Lib.bitLen y - 1 + (64 - Lib.bitLen y) = 63 by omega] at this
      exact this
    obtain ⟨r, hr⟩ := div64_any hi lo y (64 - Lib.bitLen y) h1 h2 hlo (by omega) p1 p2 hlz
    refine ⟨r, fun w => (hr w).mono ?_⟩
    rintro e w' ⟨rfl, rfl⟩
    exact ⟨rfl, 0, rfl⟩
  · obtain rfl : hi = 0 := by omega
    rw [Nat.mul_zero, Nat.zero_add]
    have f2 : ((y : Int) == 0) = false := by simp; omega
    have hy1 : (1 : Int) ≤ (y : Int) := by omega
    have f3 : (y : Int) ≠ 0 := by omega
    have ea : (lo : Int) / (y : Int) = ((lo / y : Nat) : Int) := by push_cast; rfl
    have hq : lo / y ≤ lo := Nat.div_le_self _ _
    refine ⟨(lo : Int) % (y : Int), fun w => ?_⟩
    generalize lo / y = q at *
    go_enter Tryd.func72, Tryd.ntmps72
    go_wp2
    go_quiet (fail)
    go_wp2
    go_ret2
    exact ⟨rfl, _, rfl⟩

theorem bAt_lt (xs : List Nat) (i : Int) (hx : ∀ x ∈ xs, x < 1000000000) : bAt xs i < 1000000000 := by
  unfold bAt
  split
  · decide
  · exact getD_mem_lt _ (by decide) xs hx _
theorem quietTwice {f : FuncId} {args : Array Value} {w : World} {a n : Nat} {v : Value}
    (h : Calls Tryd.prog f args (w.drewN (a + n)) fun e w' => e = .returned v ∧ ∃ k, w' = (w.drewN (a + n)).drewN k) :
    Calls Tryd.prog f args (w.drewN (a + n)) fun e w' => e = .returned v ∧ ∃ m, w' = w.drewN (a + m) := by
  refine h.mono ?_
  rintro e w' ⟨rfl, k, rfl⟩
  exact ⟨rfl, n + k, by rw [World.drewN_drewN, Nat.add_assoc]⟩
theorem bAt_eq (xs : List Nat) (i : Int) : blkAt xs i = bAt xs i := rfl
theorem wrap_u (n : Nat) (e : Int) (h : e = (n : Int)) (hn : n < 18446744073709551616) : IntKind.u64.wrap e = (n : Int) := wrap_cast n e h hn

set_option maxRecDepth 100000 in
set_option maxHeartbeats 2000000 in
theorem guess_any (w : World) (g off capx gy offy capy m lx ly : Nat) (xs ys : List Nat) (hlx : lx = m + 2) (hly : ly = m + 1) (hxl : xs.length = m + 2) (hyl : ys.length = m + 1)
    (hx : ∀ x ∈ xs, x < 1000000000) (hy : ∀ y ∈ ys, y < 1000000000) (hyt : topOk ys) (hlt : vl 1000000000 xs < 1000000000 * vl 1000000000 ys) (hm : m ≤ 100000)
    (hcx : ∀ k, k < xs.length → w.cell? ⟨g, off + k, none⟩ = some (.int .u64 (xs.getD k 0 : Nat))) (hcy : ∀ k, k < ys.length → w.cell? ⟨gy, offy + k, none⟩ = some (.int .u64 (ys.getD k 0 : Nat))) :
    Calls Tryd.prog 56 #[.slice (some ⟨g, off, none⟩) lx capx, .slice (some ⟨gy, offy, none⟩) ly capy] w fun e w' =>
      e = .returned (.int .u64 (((1000000000 * (1000000000 * xs.getD (m + 1) 0 + xs.getD m 0) + bAt xs ((m : Int) - 1)) / (1000000000 * ys.getD m 0 + bAt ys ((m : Int) - 1)) : Nat) : Int)) ∧ ∃ n, w' = w.drewN n := by
  have hG := guess_ok xs ys m hyl hxl hx hy hyt hlt
  have kc1 := hcx (m + 1) (by omega)
  have kc2 := hcx m (by omega)
  have kc3 := hcy m (by omega)
  have sx : ∀ n, Sees (w.drewN n) (.slice (some ⟨g, off, none⟩) lx capx) xs := fun n => .inr ⟨g, off, capx, by rw [hxl, hlx], hcx⟩
  have sy : ∀ n, Sees (w.drewN n) (.slice (some ⟨gy, offy, none⟩) ly capy) ys := fun n => .inr ⟨gy, offy, capy, by rw [hyl, hly], hcy⟩
  have bx := fun n => block_any (w.drewN n) _ xs ((lx : Int) - 1 - 2) (sx n) (by omega) (by omega) (by omega)
  have by_ := fun n => block_any (w.drewN n) _ ys ((ly : Int) - 2) (sy n) (by omega) (by omega) (by omega)
  have ex : blkAt xs ((lx : Int) - 1 - 2) = bAt xs ((m : Int) - 1) := by rw [show (lx : Int) - 1 - 2 = (m : Int) - 1 by omega]; rfl
  have ey : blkAt ys ((ly : Int) - 2) = bAt ys ((m : Int) - 1) := by rw [show (ly : Int) - 2 = (m : Int) - 1 by omega]; rfl
  simp only [ex] at bx
  simp only [ey] at by_
  have b1 : xs.getD (m + 1) 0 < 1000000000 := getD_mem_lt _ (by decide) xs hx _
  have b2 : xs.getD m 0 < 1000000000 := getD_mem_lt _ (by decide) xs hx _
  have b3 : ys.getD m 0 < 1000000000 := getD_mem_lt _ (by decide) ys hy _
  have b4 := bAt_lt xs ((m : Int) - 1) hx
  have b5 := bAt_lt ys ((m : Int) - 1) hy
  have hGle := hG.le; have hGlt := hG.lt; have hGge := hG.ge
  clear hG sx sy hcx hcy hx hy hyt hlt ex ey
  generalize xs.getD (m + 1) 0 = x1 at *
  generalize xs.getD m 0 = x2 at *
  generalize bAt xs ((m : Int) - 1) = x3 at *
  generalize ys.getD m 0 = y1 at *
  generalize bAt ys ((m : Int) - 1) = y2 at *
  obtain ⟨P, hP⟩ : ∃ P, P = 1000000000 * x1 + x2 := ⟨_, rfl⟩
  obtain ⟨Y2, hY2⟩ : ∃ Y2, Y2 = 1000000000 * y1 + y2 := ⟨_, rfl⟩
  rw [← hP, ← hY2] at hGle hGlt ⊢
  rw [← hY2] at hGge
  have e1 : IntKind.u64.wrap ((x1 : Int) * 1000000000) = ((1000000000 * x1 : Nat) : Int) := wrap_u _ _ (by rw [Int.mul_comm]; exact (Int.natCast_mul 1000000000 _).symm) (by omega)
  have e2 : IntKind.u64.wrap (((1000000000 * x1 : Nat) : Int) + (x2 : Int)) = (P : Int) := wrap_u _ _ (by rw [hP]; exact (Int.natCast_add _ _).symm) (by omega)
  have e3 : IntKind.u64.wrap ((y1 : Int) * 1000000000) = ((1000000000 * y1 : Nat) : Int) := wrap_u _ _ (by rw [Int.mul_comm]; exact (Int.natCast_mul 1000000000 _).symm) (by omega)
  have e4 : IntKind.u64.wrap (((1000000000 * y1 : Nat) : Int) + (y2 : Int)) = (Y2 : Int) := wrap_u _ _ (by rw [hY2]; exact (Int.natCast_add _ _).symm) (by omega)
  have hPl : P < 18446744073709551616 := by omega
  have hmul := fun w => Tryd.bits_Mul64 P 1000000000 hPl (by decide) w
  have hmul2 : ∀ w, Calls Tryd.prog 70 #[.int .u64 P, .int .u64 1000000000] w fun e w' => e = .returned (.tuple #[.int .u64 ((P * 1000000000 / 18446744073709551616 : Nat) : Int), .int .u64 ((P * 1000000000 % 18446744073709551616 : Nat) : Int)]) ∧ w' = w := hmul
  have hN : 18446744073709551616 * (P * 1000000000 / 18446744073709551616) + P * 1000000000 % 18446744073709551616 = 1000000000 * P := by
    rw [Nat.mul_comm P]; exact Nat.div_add_mod _ _
  have hl0 : P * 1000000000 % 18446744073709551616 < 18446744073709551616 := Nat.mod_lt _ (by decide)
  clear hmul
  generalize P * 1000000000 / 18446744073709551616 = h0 at *
  generalize P * 1000000000 % 18446744073709551616 = l0 at *
  have hadd := fun w => Tryd.bits_Add64 l0 x3 w
  have hN2 : 18446744073709551616 * ((l0 + x3) / 18446744073709551616) + (l0 + x3) % 18446744073709551616 = l0 + x3 := Nat.div_add_mod _ _
  have hl1 : (l0 + x3) % 18446744073709551616 < 18446744073709551616 := Nat.mod_lt _ (by decide)
  generalize (l0 + x3) / 18446744073709551616 = c1 at *
  generalize (l0 + x3) % 18446744073709551616 = l1 at *
  have hN3 : 18446744073709551616 * (h0 + c1) + l1 = 1000000000 * P + x3 := by omega
  obtain ⟨h1, hh1⟩ : ∃ h1, h0 + c1 = h1 := ⟨_, rfl⟩
  rw [hh1] at hN3
  have hh2 : h1 < Y2 := by omega
  have e5 : IntKind.u64.wrap ((h0 : Int) + (c1 : Int)) = (h1 : Int) := wrap_u _ _ (by rw [← hh1]; exact (Int.natCast_add _ _).symm) (by omega)
  obtain ⟨r, hdiv⟩ := div64_full h1 l1 Y2 hh2 (by omega) hl1
  rw [hN3] at hdiv
  generalize (1000000000 * P + x3) / Y2 = q at *
  have HD := Lib.hid hdiv; have HBX := Lib.hid bx; have HBY := Lib.hid by_; have HM := Lib.hid hmul2; have HA := Lib.hid hadd
  clear hN hN2 hN3 hl0 hl1 hh1 hh2 hdiv bx by_ hmul2 hPl hP hY2 hGle hGlt hGge b1 b2 b3 b4 b5
  generalize ((1000000000 * x1 : Nat) : Int) = A1 at *
  generalize ((1000000000 * y1 : Nat) : Int) = A2 at *
  have i1 : (0 : Int) ≤ (lx : Int) - 1 := by omega
  have i2 : (0 : Int) ≤ (lx : Int) - 1 - 1 := by omega
  have i3 : (lx : Int) - 1 < (lx : Int) := by omega
  have i5 : (0 : Int) ≤ (ly : Int) - 1 := by omega
  have i6 : (ly : Int) - 1 < (ly : Int) := by omega
  have k1 : w.cell? ⟨g, off + (lx - 1), none⟩ = some (.int .u64 x1) := by rw [show lx - 1 = m + 1 by omega]; exact kc1
  have k2 : w.cell? ⟨g, off + (lx - 1 - 1), none⟩ = some (.int .u64 x2) := by rw [show lx - 1 - 1 = m by omega]; exact kc2
  have k3 : w.cell? ⟨gy, offy + (ly - 1), none⟩ = some (.int .u64 y1) := by rw [show ly - 1 = m by omega]; exact kc3
  have HLX := Lib.hid hlx; have HLY := Lib.hid hly
  have l1 : 2 ≤ lx := by omega
  have l2 : lx ≤ 100002 := by omega
  have l3 : 1 ≤ ly := by omega
  have l4 : ly ≤ 100001 := by omega
  clear kc1 kc2 kc3 hlx hly hm
  have j1 : IntKind.i64.wrap ((lx : Int) - 1) = (lx : Int) - 1 := IntWalk.i64_in _ (by omega)
  have j2 : IntKind.i64.wrap ((lx : Int) - 1 - 1) = (lx : Int) - 1 - 1 := IntWalk.i64_in _ (by omega)
  have j3 : IntKind.i64.wrap ((ly : Int) - 1) = (ly : Int) - 1 := IntWalk.i64_in _ (by omega)
  have j4 : IntKind.i64.wrap ((ly : Int) - 2) = (ly : Int) - 2 := IntWalk.i64_in _ (by omega)
  go_enter Tryd.func56, Tryd.ntmps56
  go_wp2
  go_quiet ((go_at_call 70; exact Calls.quiet_of_same (HM.out _)))
  go_wp2_with (go_at_call 65; refine (HBX.out _).mono ?_; rintro e w' ⟨rfl, rfl⟩)
  go_quiet (first
    | (go_at_call 65; exact quietTwice ((HBY.out _).mono (fun e w' h => ⟨h.1, 0, h.2.symm⟩)))
    | (go_at_call 72; exact quietTwice (HD.out _)))
  go_wp2
  go_ret
  exact ⟨rfl, _, World.drewN_drewN _ _ _⟩
end Go.Proofs.YtlkjfhidicgjiaaDoor
