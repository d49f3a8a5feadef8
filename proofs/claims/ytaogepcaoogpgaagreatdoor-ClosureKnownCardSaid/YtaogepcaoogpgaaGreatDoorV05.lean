/- U05 -/
import Derived.Test.YtaogepcaoogpgaaGreatDoorV04
import Derived.Test.YtaogepcaoogpgaaGreatDoorV03
import Derived.Test.YtaogepcaoogpgaaGreatDoorV01
set_option linter.unusedVariables false
set_option linter.unusedSimpArgs false
namespace Go.Proofs.YtaogepcaoogpgaaGreatDoor
open Go.RowKit
set_option maxRecDepth 100000 in
set_option maxHeartbeats 1000000 in
theorem div64_full (hi lo y : Nat) (h2 : hi < y) (hy : y < 18446744073709551616) (hlo : lo < 18446744073709551616) :
  ∃ r, ∀ w, Calls Tryz.prog 290 #[.int .u64 hi, .int .u64 lo, .int .u64 y] w fun e w' => e = .returned (.tuple #[.int .u64 ((18446744073709551616 * hi + lo) / y : Nat), .int .u64 r]) ∧ ∃ n, w' = w.drewN n := by
 by_cases h1 : 1 ≤ hi
 ·have hb := Lib.bitLenAux_bounds 64 y hy (by omega)
  change 1 ≤ Lib.bitLen y ∧ 2 ^ (Lib.bitLen y - 1) ≤ y ∧ y < 2 ^ Lib.bitLen y at hb
  obtain ⟨b1, b2, b3⟩ := hb
  have b4 := Lib.bitLen_le y 64 (Nat.le_refl _) hy
  have hlz : ∀ w, Calls Tryz.prog 294 #[.int .u64 y] w fun e w' => e = .returned (.int .i64 ((64 - Lib.bitLen y : Nat) : Int)) ∧ w = w' := by
   intro w
   refine (Tryz.bits_LeadingZeros64 (y : Int) w (by omega) (by omega)).mono ?_
   rintro e w' ⟨rfl, rfl⟩
   refine ⟨?_, rfl⟩
   rw [Int.toNat_natCast, Int.natCast_sub b4]; rfl
  have p1 : y * 2 ^ (64 - Lib.bitLen y) < 18446744073709551616 := by
   have : y * 2 ^ (64 - Lib.bitLen y) < 2 ^ Lib.bitLen y * 2 ^ (64 - Lib.bitLen y) := Nat.mul_lt_mul_of_pos_right b3 (Nat.two_pow_pos _)
   rw [← Nat.pow_add, show Lib.bitLen y + (64 - Lib.bitLen y) = 64 by omega] at this
   exact this
  have p2 : 9223372036854775808 ≤ y * 2 ^ (64 - Lib.bitLen y) := by
   have : 2 ^ (Lib.bitLen y - 1) * 2 ^ (64 - Lib.bitLen y) ≤ y * 2 ^ (64 - Lib.bitLen y) := Nat.mul_le_mul_right _ b2
   rw [← Nat.pow_add, show Lib.bitLen y - 1 + (64 - Lib.bitLen y) = 63 by omega] at this
   exact this
  obtain ⟨r, hr⟩ := div64_any hi lo y (64 - Lib.bitLen y) h1 h2 hlo (by omega) p1 p2 hlz
  refine ⟨r, fun w => (hr w).mono ?_⟩
  rintro e w' ⟨rfl, rfl⟩
  exact ⟨rfl, 0, rfl⟩
 ·obtain rfl : hi = 0 := by omega
  rw [Nat.mul_zero, Nat.zero_add]
  have f2 : ((y : Int) == 0) = false := by simp; omega
  have hy1 : (1 : Int) ≤ (y : Int) := by omega
  have f3 : (y : Int) ≠ 0 := by omega
  have ea : (lo : Int) / (y : Int) = ((lo / y : Nat) : Int) := by push_cast; rfl
  have hq : lo / y ≤ lo := Nat.div_le_self _ _
  refine ⟨(lo : Int) % (y : Int), fun w => ?_⟩
  generalize lo / y = q at *
  go_enter Tryz.func290, Tryz.ntmps290
  go_wp2
  go_quiet (fail)
  go_wp2
  go_ret2
  exact ⟨rfl, _, rfl⟩
theorem bAt_lt (xs : List Nat) (i : Int) (hx : ∀ x ∈ xs, x < 1000000000) : bAt xs i < 1000000000 := by
 unfold bAt
 split
 ·decide
 ·exact getD_mem_lt _ (by decide) xs hx _
theorem quietTwice {f : FuncId} {args : Array Value} {w : World} {a n : Nat} {v : Value}
  (h : Calls Tryz.prog f args (w.drewN (a + n)) fun e w' => e = .returned v ∧ ∃ k, w' = (w.drewN (a + n)).drewN k) :
  Calls Tryz.prog f args (w.drewN (a + n)) fun e w' => e = .returned v ∧ ∃ m, w' = w.drewN (a + m) := by
 refine h.mono ?_
 rintro e w' ⟨rfl, k, rfl⟩
 exact ⟨rfl, n + k, by rw [World.drewN_drewN, Nat.add_assoc]⟩
theorem wrap_u (n : Nat) (e : Int) (h : e = (n : Int)) (hn : n < 18446744073709551616) : IntKind.u64.wrap e = (n : Int) := wrap_cast n e h hn
set_option maxRecDepth 100000 in
set_option maxHeartbeats 2000000 in
theorem guess_any (w : World) (g off capx gy offy capy m lx ly : Nat) (xs ys : List Nat) (hlx : lx = m + 2) (hly : ly = m + 1) (hxl : xs.length = m + 2) (hyl : ys.length = m + 1)
  (hx : ∀ x ∈ xs, x < 1000000000) (hy : ∀ y ∈ ys, y < 1000000000) (hyt : topOk ys) (hlt : vl 1000000000 xs < 1000000000 * vl 1000000000 ys) (hm : m ≤ 100000)
  (hcx : ∀ k, k < xs.length → w.cell? ⟨g, off + k, none⟩ = some (.int .u64 (xs.getD k 0 : Nat))) (hcy : ∀ k, k < ys.length → w.cell? ⟨gy, offy + k, none⟩ = some (.int .u64 (ys.getD k 0 : Nat))) :
  Calls Tryz.prog 276 #[.slice (some ⟨g, off, none⟩) lx capx, .slice (some ⟨gy, offy, none⟩) ly capy] w fun e w' =>
   e = .returned (.int .u64 (((1000000000 * (1000000000 * xs.getD (m + 1) 0 + xs.getD m 0) + bAt xs ((m : Int) - 1)) / (1000000000 * ys.getD m 0 + bAt ys ((m : Int) - 1)) : Nat) : Int)) ∧ ∃ n, w' = w.drewN n := by
 have hG := guess_ok xs ys m hyl hxl hx hy hyt hlt
 have kc1 := hcx (m + 1) (by omega)
 have kc2 := hcx m (by omega)
 have kc3 := hcy m (by omega)
 have sx : ∀ n, Sees (w.drewN n) (.slice (some ⟨g, off, none⟩) lx capx) xs := fun n => .inr ⟨g, off, capx, by rw [hxl, hlx], hcx⟩
 have sy : ∀ n, Sees (w.drewN n) (.slice (some ⟨gy, offy, none⟩) ly capy) ys := fun n => .inr ⟨gy, offy, capy, by rw [hyl, hly], hcy⟩
 have bx := fun n => block_any (w.drewN n) _ xs ((lx : Int) - 1 - 2) (sx n) (by omega) (by omega) (by omega)
 have by_ := fun n => block_any (w.drewN n) _ ys ((ly : Int) - 2) (sy n) (by omega) (by omega) (by omega)
 have ex : blkAt xs ((lx : Int) - 1 - 2) = bAt xs ((m : Int) - 1) := by rw [show (lx : Int) - 1 - 2 = (m : Int) - 1 by omega]; rfl
 have ey : blkAt ys ((ly : Int) - 2) = bAt ys ((m : Int) - 1) := by rw [show (ly : Int) - 2 = (m : Int) - 1 by omega]; rfl
 simp only [ex] at bx
 simp only [ey] at by_
 have b1 : xs.getD (m + 1) 0 < 1000000000 := getD_mem_lt _ (by decide) xs hx _
 have b2 : xs.getD m 0 < 1000000000 := getD_mem_lt _ (by decide) xs hx _
 have b3 : ys.getD m 0 < 1000000000 := getD_mem_lt _ (by decide) ys hy _
 have b4 := bAt_lt xs ((m : Int) - 1) hx
 have b5 := bAt_lt ys ((m : Int) - 1) hy
 have hGle := hG.le; have hGlt := hG.lt; have hGge := hG.ge
 clear hG sx sy hcx hcy hx hy hyt hlt ex ey
 generalize xs.getD (m + 1) 0 = x1 at *
 generalize xs.getD m 0 = x2 at *
 generalize bAt xs ((m : Int) - 1) = x3 at *
 generalize ys.getD m 0 = y1 at *
 generalize bAt ys ((m : Int) - 1) = y2 at *
 obtain ⟨P, hP⟩ : ∃ P, P = 1000000000 * x1 + x2 := ⟨_, rfl⟩
 obtain ⟨Y2, hY2⟩ : ∃ Y2, Y2 = 1000000000 * y1 + y2 := ⟨_, rfl⟩
 rw [← hP, ← hY2] at hGle hGlt ⊢
 rw [← hY2] at hGge
 have e1 : IntKind.u64.wrap ((x1 : Int) * 1000000000) = ((1000000000 * x1 : Nat) : Int) := wrap_u _ _ (by rw [Int.mul_comm]; exact (Int.natCast_mul 1000000000 _).symm) (by omega)
 have e2 : IntKind.u64.wrap (((1000000000 * x1 : Nat) : Int) + (x2 : Int)) = (P : Int) := wrap_u _ _ (by rw [hP]; exact (Int.natCast_add _ _).symm) (by omega)
 have e3 : IntKind.u64.wrap ((y1 : Int) * 1000000000) = ((1000000000 * y1 : Nat) : Int) := wrap_u _ _ (by rw [Int.mul_comm]; exact (Int.natCast_mul 1000000000 _).symm) (by omega)
 have e4 : IntKind.u64.wrap (((1000000000 * y1 : Nat) : Int) + (y2 : Int)) = (Y2 : Int) := wrap_u _ _ (by rw [hY2]; exact (Int.natCast_add _ _).symm) (by omega)
 have hPl : P < 18446744073709551616 := by omega
 have hmul := fun w => Tryz.bits_Mul64 P 1000000000 hPl (by decide) w
 have hmul2 : ∀ w, Calls Tryz.prog 207 #[.int .u64 P, .int .u64 1000000000] w fun e w' => e = .returned (.tuple #[.int .u64 ((P * 1000000000 / 18446744073709551616 : Nat) : Int), .int .u64 ((P * 1000000000 % 18446744073709551616 : Nat) : Int)]) ∧ w' = w := hmul
 have hN : 18446744073709551616 * (P * 1000000000 / 18446744073709551616) + P * 1000000000 % 18446744073709551616 = 1000000000 * P := by
  rw [Nat.mul_comm P]; exact Nat.div_add_mod _ _
 have hl0 : P * 1000000000 % 18446744073709551616 < 18446744073709551616 := Nat.mod_lt _ (by decide)
 clear hmul
 generalize P * 1000000000 / 18446744073709551616 = h0 at *
 generalize P * 1000000000 % 18446744073709551616 = l0 at *
 have hadd := fun w => Tryz.bits_Add64 l0 x3 w
 have hN2 : 18446744073709551616 * ((l0 + x3) / 18446744073709551616) + (l0 + x3) % 18446744073709551616 = l0 + x3 := Nat.div_add_mod _ _
 have hl1 : (l0 + x3) % 18446744073709551616 < 18446744073709551616 := Nat.mod_lt _ (by decide)
 generalize (l0 + x3) / 18446744073709551616 = c1 at *
 generalize (l0 + x3) % 18446744073709551616 = l1 at *
 have hN3 : 18446744073709551616 * (h0 + c1) + l1 = 1000000000 * P + x3 := by omega
 obtain ⟨h1, hh1⟩ : ∃ h1, h0 + c1 = h1 := ⟨_, rfl⟩
 rw [hh1] at hN3
 have hh2 : h1 < Y2 := by omega
 have e5 : IntKind.u64.wrap ((h0 : Int) + (c1 : Int)) = (h1 : Int) := wrap_u _ _ (by rw [← hh1]; exact (Int.natCast_add _ _).symm) (by omega)
 obtain ⟨r, hdiv⟩ := div64_full h1 l1 Y2 hh2 (by omega) hl1
 rw [hN3] at hdiv
 generalize (1000000000 * P + x3) / Y2 = q at *
 have HD := Lib.hid hdiv; have HBX := Lib.hid bx; have HBY := Lib.hid by_; have HM := Lib.hid hmul2; have HA := Lib.hid hadd
 clear hN hN2 hN3 hl0 hl1 hh1 hh2 hdiv bx by_ hmul2 hPl hP hY2 hGle hGlt hGge b1 b2 b3 b4 b5
 generalize ((1000000000 * x1 : Nat) : Int) = A1 at *
 generalize ((1000000000 * y1 : Nat) : Int) = A2 at *
 have i1 : (0 : Int) ≤ (lx : Int) - 1 := by omega
 have i2 : (0 : Int) ≤ (lx : Int) - 1 - 1 := by omega
 have i3 : (lx : Int) - 1 < (lx : Int) := by omega
 have i5 : (0 : Int) ≤ (ly : Int) - 1 := by omega
 have i6 : (ly : Int) - 1 < (ly : Int) := by omega
 have k1 : w.cell? ⟨g, off + (lx - 1), none⟩ = some (.int .u64 x1) := by rw [show lx - 1 = m + 1 by omega]; exact kc1
 have k2 : w.cell? ⟨g, off + (lx - 1 - 1), none⟩ = some (.int .u64 x2) := by rw [show lx - 1 - 1 = m by omega]; exact kc2
 have k3 : w.cell? ⟨gy, offy + (ly - 1), none⟩ = some (.int .u64 y1) := by rw [show ly - 1 = m by omega]; exact kc3
 have HLX := Lib.hid hlx; have HLY := Lib.hid hly
 have l1 : 2 ≤ lx := by omega
 have l2 : lx ≤ 100002 := by omega
 have l3 : 1 ≤ ly := by omega
 have l4 : ly ≤ 100001 := by omega
 clear kc1 kc2 kc3 hlx hly hm
 have j1 : IntKind.i64.wrap ((lx : Int) - 1) = (lx : Int) - 1 := IntWalk.i64_in _ (by omega)
 have j2 : IntKind.i64.wrap ((lx : Int) - 1 - 1) = (lx : Int) - 1 - 1 := IntWalk.i64_in _ (by omega)
 have j3 : IntKind.i64.wrap ((ly : Int) - 1) = (ly : Int) - 1 := IntWalk.i64_in _ (by omega)
 have j4 : IntKind.i64.wrap ((ly : Int) - 2) = (ly : Int) - 2 := IntWalk.i64_in _ (by omega)
 go_enter Tryz.func276, Tryz.ntmps276
 go_wp2
 go_quiet ((go_at_call 207; exact Calls.quiet_of_same (HM.out _)))
 go_wp2_with (go_at_call 282; refine (HBX.out _).mono ?_; rintro e w' ⟨rfl, rfl⟩)
 go_quiet (first
  | (go_at_call 282; exact quietTwice ((HBY.out _).mono (fun e w' h => ⟨h.1, 0, h.2.symm⟩)))
  | (go_at_call 290; exact quietTwice (HD.out _)))
 go_wp2
 go_ret
 exact ⟨rfl, _, World.drewN_drewN _ _ _⟩
open Go.RowKit
structure DivOk (B gx gy : Nat) (xs ys : List Nat) (w w' : World) (qv : Value) (qs : List Nat) (gr cr : Nat) (rs : List Nat) : Prop where
 qb : Blks 0 w' qv qs
 qlt : ∀ z ∈ qs, z < 1000000000
 qv : vl 1000000000 qs = vl 1000000000 xs / vl 1000000000 ys
 qn : qs.length ≤ xs.length + 1
 rb : Blks B w' (.slice (some ⟨gr, 0, none⟩) rs.length cr) rs
 rne : gr ≠ gy
 rlt : ∀ z ∈ rs, z < 1000000000
 rv : vl 1000000000 rs = vl 1000000000 xs % vl 1000000000 ys
 rt : topOk rs
 rn : rs.length ≤ xs.length + 1
 gr : w.grownBy w' (some gx)
def DivPost (B gx gy : Nat) (xs ys : List Nat) (w : World) (e : Ending) (w' : World) : Prop :=
 ∃ qv qs gr cr rs, e = .returned (.tuple #[qv, .slice (some ⟨gr, 0, none⟩) rs.length cr]) ∧ DivOk B gx gy xs ys w w' qv qs gr cr rs
theorem grown_either {a b c : World} {g h : Nat} (k : a.grownBy b (some g)) (m : b.grownBy c (some h)) (e : h = g ∨ a.heap.size ≤ h) : a.grownBy c (some g) := by
 rcases e with rfl | e
 ·exact grown_trans k m
 ·exact grown_step k m e
theorem short_lt (xs ys : List Nat) (hx : ∀ x ∈ xs, x < 1000000000) (hyt : topOk ys) (h : xs.length < ys.length) : vl 1000000000 xs < vl 1000000000 ys := by
 have h1 := vl_top 1000000000 ys (by intro e; rw [e] at h; simp at h) hyt
 have h2 := vl_lt 1000000000 xs hx
 have h4 : (1000000000 : Nat) ^ xs.length ≤ 1000000000 ^ (ys.length - 1) := Nat.pow_le_pow_right (by decide) (by omega)
 omega
set_option maxRecDepth 20000 in
set_option maxHeartbeats 400000 in
theorem divide_short (B gx cx gy cy : Nat) (xs ys : List Nat) (w : World) (hxb : Blks B w (.slice (some ⟨gx, 0, none⟩) xs.length cx) xs) (hne : gx ≠ gy)
  (hx : ∀ x ∈ xs, x < 1000000000) (hxt : topOk xs) (hyt : topOk ys) (h : xs.length < ys.length) :
  Calls Tryz.prog 257 #[.slice (some ⟨gx, 0, none⟩) xs.length cx, .slice (some ⟨gy, 0, none⟩) ys.length cy] w (DivPost B gx gy xs ys w) := by
 have hlt := short_lt xs ys hx hyt h
 have HP : Hid (DivOk B gx gy xs ys w w (.slice none 0 0) [] gx cx xs) := ⟨World.ownsRow_nil _ _ _ _, by simp, by rw [Nat.div_eq_of_lt hlt]; rfl, by simp, hxb, hne, hx, (Nat.mod_eq_of_lt hlt).symm, hxt, by omega, grown_refl _ _⟩
 clear hlt hxb hx hxt hyt
 have h' : (xs.length : Int) < (ys.length : Int) := by omega
 go_enter Tryz.func257, Tryz.ntmps257
 go_wp2
 go_ret2
 exact ⟨_, _, _, _, _, rfl, HP.out⟩
theorem part_split (zs : List Nat) (k n : Nat) : uv zs = uv (zs.take k) ++ uv ((zs.drop k).take n) ++ uv (zs.drop (k + n)) := by
 rw [← uv_append, ← uv_append, ← List.drop_drop, List.append_assoc, List.take_append_drop, List.take_append_drop]
theorem part_getD (zs : List Nat) (k n t : Nat) (ht : t < n) : ((zs.drop k).take n).getD t 0 = zs.getD (k + t) 0 := by
 rw [List.getD_eq_getElem?_getD, List.getElem?_take, if_pos ht, List.getElem?_drop, ← List.getD_eq_getElem?_getD]
set_option maxRecDepth 100000 in
set_option maxHeartbeats 4000000 in
theorem divide_long (B gx cx gy cy m : Nat) (xs ys : List Nat) (w : World) (hxb : Blks B w (.slice (some ⟨gx, 0, none⟩) xs.length cx) xs) (hyb : Blks B w (.slice (some ⟨gy, 0, none⟩) ys.length cy) ys) (hne : gx ≠ gy)
  (hx : ∀ x ∈ xs, x < 1000000000) (hy : ∀ y ∈ ys, y < 1000000000) (hyt : topOk ys) (hym : ys.length = m + 1) (hle : ys.length ≤ xs.length) (hn : xs.length ≤ 10000) (hBw : B ≤ w.heap.size) :
  Calls Tryz.prog 257 #[.slice (some ⟨gx, 0, none⟩) xs.length cx, .slice (some ⟨gy, 0, none⟩) ys.length cy] w (DivPost B gx gy xs ys w) := by
 obtain ⟨i0, hi, hz0, hz1, hz2⟩ := info_parts info_u64
 have h0 : ys ≠ [] := by intro e; rw [e] at hym; simp at hym
 have hst := DivInv.start hx hyt h0 hle
 have hv : 0 < vl 1000000000 ys := by
  have := vl_top 1000000000 ys h0 hyt
  have : 0 < (1000000000 : Nat) ^ (ys.length - 1) := Nat.pow_pos (by decide)
  omega
 obtain ⟨n, hnn⟩ : ∃ n, xs.length - ys.length + 1 = n := ⟨_, rfl⟩
 rw [hnn] at hst
 have en : (xs.length : Int) - (ys.length : Int) + 1 = (n : Int) := by omega
 have hn1 : n ≤ 10001 := by omega
 have hgx := hxb.lt gx rfl
 have hgy := hyb.lt gy rfl
 have HST := Lib.hid hst; have HX := Lib.hid hx; have HY := Lib.hid hy; have HXB := Lib.hid hxb; have HYB := Lib.hid hyb; have HNN := Lib.hid hnn; have HYM := Lib.hid hym; have HYT := Lib.hid hyt
 clear hst hx hy hxb hyb hnn hym hyt h0
 have hge : ¬ (xs.length : Int) < (ys.length : Int) := by omega
 go_enter Tryz.func257, Tryz.ntmps257
 go_wp2_with (at_make; refine wpList_make_full _ rfl _ _ 209 rfl w.heap.size 181 i0 (.int .u64 0) 1 Tryz.underlying209 hi hz0 hz1 _ _ _ _ n rfl rfl ?c0 ?c1 ?c2 (by unfold maxLen; omega) (Nat.le_refl _) ?_)
 case c0 => omega
 case c1 => omega
 case c2 => first | omega | (rw [hz2]; omega)
 intro w1 hown hgr
 rw [uv_replicate] at hown
 have hcq := (Cells.of_full hown).1
 have hs1 := hcq.lt
 have hxb1 : Blks B (w1.alloc (.cells #[.int .u64 0] 181)) (.slice (some ⟨gx, 0, none⟩) xs.length cx) xs := (HXB.out.grown hgr (by simp)).grown (World.grownBy_alloc _ _ none) (by simp)
 have hcq1 : Cells (w1.alloc (.cells #[.int .u64 0] 181)) w.heap.size (uv (List.replicate n 0)) := hcq.grown (World.grownBy_alloc _ _ none) (by simp)
 have hg1 : w.grownBy (w1.alloc (.cells #[.int .u64 0] 181)) none := grown_trans hgr (World.grownBy_alloc _ _ none)
 have hnew : ∀ j u, [Value.int .u64 0][j]? = some u → (w1.alloc (.cells #[.int .u64 0] 181)).cell? ((⟨w1.heap.size, 0, none⟩ : Addr).add j) = some u := by
  intro j u hu
  match j, hu with
  | 0, hu =>
   simp at hu
   subst hu
   rw [add_plain, World.cell?_alloc_at _ _ _ _ rfl]; rfl
 have HG1 := Lib.hid hg1; have HCQ := Lib.hid hcq1; have HXB1 := Lib.hid hxb1; have HNEW := Lib.hid hnew
 have hsz1 : w.heap.size < w1.heap.size := hs1
 clear hown hgr hcq hxb1 hcq1 hg1 hnew hs1
 go_wp2_with (at_builtin; refine wpList_append_lies _ rfl _ _ _ rfl B 181 i0 (.int .u64 0) 1 8 Tryz.underlying209 hi hz0 hz1 hz2 rfl (by omega) _ xs.length (uv xs) rfl HXB1.out ⟨w1.heap.size, 0, none⟩ 1 1 [Value.int .u64 0] rfl rfl HNEW.out ?h1 ?h2 ?h3 ?h4 ?h5 (w1.heap.size + 1) ?h6 ?_)
 case h1 => intro u hu; simp at hu; subst hu; rfl
 case h2 => decide
 case h3 => unfold maxLen; omega
 case h4 => omega
 case h5 => simp; omega
 case h6 => simp
 intro gz cap w2 hown2 hg2 hat hlt2
 have hgz : gz = gx ∨ gz = w1.heap.size + 1 := by
  rcases hat with hat | hat
  ·simp [Value.ownBlock] at hat; exact .inl hat.symm
  ·exact .inr hat
 have hgz2 : gz ≠ gy := by rcases hgz with h | h <;> omega
 have hgz3 : gz ≠ w.heap.size := by rcases hgz with h | h <;> omega
 have hgz4 : gz = gx ∨ w.heap.size ≤ gz := by rcases hgz with h | h <;> omega
 have hgzB : B ≤ gz := by rcases hgz with h | h <;> omega
 have hb2 : Blks B w2 (.slice (some ⟨gz, 0, none⟩) (xs ++ [0]).length cap) (xs ++ [0]) := by
  have e : (xs ++ [0]).length = xs.length + 1 := by simp
  unfold Blks
  rw [e, uv_append]
  exact hown2
 obtain ⟨_, _, hcap1, hcap2, spare, hcz, hspl⟩ := hb2.cells
 have hcq2 : Cells w2 w.heap.size (uv (List.replicate n 0)) := HCQ.out.grown hg2 (by simp [Value.ownBlock]; omega)
 have hg02 : w.grownBy w2 (some gx) := grown_trans (grown_none HG1.out) hg2
 have hcap3 : xs.length + 1 ≤ cap := by simpa using hcap1
 unfold maxLen at hcap2
 have hspl2 : spare.length = cap - (xs.length + 1) := by simpa using hspl
 have HCZ := Lib.hid hcz; have HCQ2 := Lib.hid hcq2; have HG02 := Lib.hid hg02; have HSPL := Lib.hid hspl2
 clear hown2 hg2 hat hlt2 hgz hb2 hcap1 hspl hcz hcq2 hg02 hspl2 HCQ HXB1 HNEW HG1
 go_wp2
 go_loopw [28] (fun i wr => ∃ (j k : Nat) (zs qs : List Nat), i = .int .i64 j ∧ j + k = n ∧ DivInv xs ys k zs qs ∧ Cells wr gz (uv zs ++ spare) ∧ Cells wr w.heap.size (uv qs) ∧ w.grownBy wr (some gx)) (fun i _ => n - (intOf i).toNat)
 case atStart => exact ⟨0, n, _, _, rfl, by omega, HST.out, HCZ.out, HCQ2.out, HG02.out⟩
 case round =>
  obtain ⟨j, k, zs, qs, rfl, hjk, hinv, hcz, hcq, hgr⟩ := hrel
  have hzl := hinv.zlen
  have hql := hinv.qlen
  cases k with
  | succ k =>
   have hk1 : k + 1 ≤ xs.length - ys.length + 1 := by have := HNN.out; omega
   obtain ⟨a1, a2, a3, a4, a5⟩ := hinv.part hk1 hle HY.out
   have hyr : Blks B wr (.slice (some ⟨gy, 0, none⟩) ys.length cy) ys := HYB.out.grown hgr (by simp [Value.ownBlock]; omega)
   have hpr : (uv (zs.take k)).length = k := by rw [uv_length, List.length_take]; have := HNN.out; omega
   have hcz2 := hcz
   rw [part_split zs k (ys.length + 1), List.append_assoc] at hcz2
   obtain ⟨part, hpart⟩ : ∃ part, (zs.drop k).take (ys.length + 1) = part := ⟨_, rfl⟩
   have hpc : ∀ t, t < part.length → wr.cell? ⟨gz, k + t, none⟩ = some (.int .u64 (part.getD t 0 : Nat)) := by
    intro t ht
    have ht' : t < ys.length + 1 := by rw [← hpart, a2] at ht; exact ht
    have hkt : k + t < zs.length := by have := HNN.out; omega
    rw [hcz.cell, List.getElem?_append_left (by rw [uv_length]; exact hkt), uv_get _ _ hkt, ← hpart, part_getD _ _ _ _ ht']
   have hyc : ∀ t, t < ys.length → wr.cell? ⟨gy, 0 + t, none⟩ = some (.int .u64 (ys.getD t 0 : Nat)) := by
    intro t ht
    obtain ⟨_, _, _, _, py, hcy, _⟩ := hyr.cells
    rw [hcy.cell, Nat.zero_add, List.getElem?_append_left (by rw [uv_length]; exact ht), uv_get _ _ ht]
   rw [hpart] at a2 a3 a4 a5 hcz2
   have hgu := guess_any wr gz k (cap - k) gy 0 cy m (ys.length + 1) ys.length part ys (by rw [HYM.out]) HYM.out (by rw [a2, HYM.out]) HYM.out a3 HY.out HYT.out a4 (by have := HYM.out; omega) hpc hyc
   have hgok := guess_ok part ys m HYM.out (by rw [a2, HYM.out]) a3 HY.out HYT.out a4
   have hg1 := hgok.lo
   have hg2 := hgok.hi
   have hg3 := hgok.le
   clear hgok hpc hyc
   generalize (1000000000 * (1000000000 * part.getD (m + 1) 0 + part.getD m 0) + bAt part ((m : Int) - 1)) / (1000000000 * ys.getD m 0 + bAt ys ((m : Int) - 1)) = qh at *
   have hro := round_ok part ys qh a3 HY.out a2 hv hg1 hg2 hg3
   obtain ⟨q1, hq1⟩ : ∃ q1, comb (subT qh) part ys 0 (ys.length + 1) = q1 := ⟨_, rfl⟩
   obtain ⟨q2, hq2⟩ : ∃ q2, comb (addT 1) q1.1 ys 0 (ys.length + 1) = q2 := ⟨_, rfl⟩
   have hl1 : q1.1.length = ys.length + 1 := by rw [← hq1, comb_length]
   have hl2 : q2.1.length = ys.length + 1 := by rw [← hq2, comb_length]
   rw [hq1, hq2] at hro
   obtain ⟨hp1, hp2, hro1, hro2⟩ := hro
   have hcap : cap - k ≤ maxLen := by unfold maxLen; omega
   have hsub : ∀ n', Calls Tryz.prog 254 #[.slice (some ⟨gz, k, none⟩) (ys.length + 1) (cap - k), .slice (some ⟨gy, 0, none⟩) ys.length cy, .int .u64 (qh : Nat)] ((wr.setCell ⟨w.heap.size, k, none⟩ (.int .u64 (qh : Nat))).drewN n')
     (TimesPost q1 (uv (zs.take k)) (uv (zs.drop (k + (ys.length + 1))) ++ spare) gz ((wr.setCell ⟨w.heap.size, k, none⟩ (.int .u64 (qh : Nat))).drewN n')) := by
    intro n'
    have hg' : wr.grownBy ((wr.setCell ⟨w.heap.size, k, none⟩ (.int .u64 (qh : Nat))).drewN n') (some w.heap.size) := grown_trans (grown_setCell _ _ _) (grown_drewN _ _ _)
    have h := subTimes_any qh gz (cap - k) (uv (zs.take k)) (uv (zs.drop (k + (ys.length + 1))) ++ spare) part ys (.slice (some ⟨gy, 0, none⟩) ys.length cy) ((wr.setCell ⟨w.heap.size, k, none⟩ (.int .u64 (qh : Nat))).drewN n') hg3 a3 HY.out (by omega) (by omega) (by omega) hcap
     (hcz2.grown hg' (by simp; omega)) ((hyr.base (Nat.zero_le _)).grown hg' (by simp [Value.ownBlock]; omega)) (by simp [Value.ownBlock]; omega)
    rw [a2, hpr, hq1] at h
    exact h
   have hcqs : ∀ n' x, Cells ((wr.setCell ⟨w.heap.size, k, none⟩ (.int .u64 (x : Nat))).drewN n') w.heap.size (uv (qs.set k x)) := fun n' x => by
    have := hcq.set k (.int .u64 (x : Nat))
    rw [uv_set] at this
    exact this
   have hgq : ∀ n', w.grownBy ((wr.setCell ⟨w.heap.size, k, none⟩ (.int .u64 (qh : Nat))).drewN n') (some gx) := fun n' => grown_step (g := w.heap.size) hgr (grown_trans (grown_setCell _ _ _) (grown_drewN _ _ _)) (Nat.le_refl _)
   have hkq : k < qs.length := by omega
   have hqcell : ∃ old : Nat, wr.cell? ⟨w.heap.size, k, none⟩ = some (.int .u64 old) := ⟨_, by rw [hcq.cell, uv_get _ _ hkq]⟩
   obtain ⟨old, hqcell⟩ := hqcell
   have hqfree := hcq.free k
   have HGU := Lib.hid hgu; have HSUB := Lib.hid hsub; have HCQS := Lib.hid hcqs; have HGQ := Lib.hid hgq; have HINV := Lib.hid hinv; have HP1 := Lib.hid hp1; have HP2 := Lib.hid hp2; have HR1 := Lib.hid hro1; have HR2 := Lib.hid hro2; have HQ2 := Lib.hid hq2; have HL1 := Lib.hid hl1; have HL2 := Lib.hid hl2; have HPR := Lib.hid hpr; have HYR := Lib.hid hyr; have HKQ := Lib.hid hkq; have HPART := Lib.hid hpart; have HK1 := Lib.hid hk1; have HJK := Lib.hid hjk
   have hjn : j < n := by omega
   have hkc : k + ys.length + 1 ≤ cap := by have := HNN.out; omega
   have eat : (n : Int) - 1 - (j : Int) = (k : Int) := by omega
   have el : k + ys.length + 1 - k = ys.length + 1 := by omega
   have i6 : ¬ cap = k := by omega
   have i5 : decide (cap = k) = false := by simp; omega
   have hkn : k < n := by omega
   clear hgu hsub hcqs hgq hinv hp1 hp2 hro1 hro2 hq1 hq2 hl1 hl2 hpr hyr hkq hpart hk1 hjk a1 a2 a3 a4 a5 hcz hcq hgr hcz2 hzl hql hg1 hg2 hcap
   clear HST HCZ HCQ2 HG02
   go_wp2_with fail
   refine HGU.out.mono ?_
   rintro e wg ⟨rfl, nn, rfl⟩
   go_wp2_with fail
   refine (HSUB.out nn).mono ?_
   rintro e w3 ⟨rfl, hc3, hg3'⟩
   have hcq3 : Cells w3 w.heap.size (uv (qs.set k qh)) := (HCQS.out nn qh).grown hg3' (by simp; omega)
   have hgr3 : w.grownBy w3 (some gx) := grown_either (HGQ.out nn) hg3' hgz4
   by_cases hc : q1.2 = 0
   ·have hst := HINV.out.step HK1.out hle HY.out hv q1.1 qh HL1.out HP1.out (by rw [HPART.out]; exact (HR1.out hc).1) (by rw [HPART.out]; exact (HR1.out hc).2)
    have hcz3 : Cells w3 gz (uv (zs.take k ++ q1.1 ++ zs.drop (k + (ys.length + 1))) ++ spare) := by
     rw [uv_append, uv_append, List.append_assoc (uv (zs.take k) ++ uv q1.1)]; exact hc3
    have HST := Lib.hid hst; have HCZ := Lib.hid hcz3; have HCQ := Lib.hid hcq3; have HGR := Lib.hid hgr3
    clear hst hcz3 hcq3 hgr3 hc3 hg3'
    rw [hc]
    go_wp2
    go_roundw
    case rel => exact ⟨j + 1, k, _, _, by go_num, by have := HJK.out; omega, HST.out, HCZ.out, HCQ.out, HGR.out⟩
    case measure => simp [intOf]; omega
   ·have hc' : (0 : Int) < (q1.2 : Int) := by omega
    obtain ⟨hr1, hr2⟩ := HR2.out (by omega)
    have hq1p : 1 ≤ qh := by rw [hr1]; exact Nat.succ_le_succ (Nat.zero_le _)
    have eq1 : (qh : Int) - 1 = ((qh - 1 : Nat) : Int) := by omega
    have hst := HINV.out.step HK1.out hle HY.out hv q2.1 (qh - 1) HL2.out HP2.out (by rw [HPART.out, hr1]; simp) (by rw [HPART.out]; exact hr2)
    have hkl : k < (qs.set k qh).length := by rw [List.length_set]; exact HKQ.out
    have hcell3 : w3.cell? ⟨w.heap.size, k, none⟩ = some (.int .u64 (qh : Nat)) := by
     rw [hcq3.cell, uv_get _ _ hkl, getD_set _ _ _ _ HKQ.out, if_pos rfl]
    have hfree3 := hcq3.free k
    have hcq4 : Cells (w3.setCell ⟨w.heap.size, k, none⟩ (.int .u64 ((qh - 1 : Nat) : Int))) w.heap.size (uv (qs.set k (qh - 1))) := by
     have := hcq3.set k (.int .u64 ((qh - 1 : Nat) : Int))
     rw [uv_set, List.set_set] at this
     exact this
    have hgr4 : w.grownBy (w3.setCell ⟨w.heap.size, k, none⟩ (.int .u64 ((qh - 1 : Nat) : Int))) (some gx) := grown_step (g := w.heap.size) hgr3 (grown_setCell _ _ _) (Nat.le_refl _)
    have hg34 : w3.grownBy (w3.setCell ⟨w.heap.size, k, none⟩ (.int .u64 ((qh - 1 : Nat) : Int))) (some w.heap.size) := grown_setCell _ _ _
    have hyr4 : Blks 0 (w3.setCell ⟨w.heap.size, k, none⟩ (.int .u64 ((qh - 1 : Nat) : Int))) (.slice (some ⟨gy, 0, none⟩) ys.length cy) ys :=
     ((((HYB.out.base (Nat.zero_le _)).grown hgr4 (by simp [Value.ownBlock]; omega))))
    have hadd := addTimes_any 1 gz (cap - k) (uv (zs.take k)) (uv (zs.drop (k + (ys.length + 1))) ++ spare) q1.1 ys (.slice (some ⟨gy, 0, none⟩) ys.length cy) (w3.setCell ⟨w.heap.size, k, none⟩ (.int .u64 ((qh - 1 : Nat) : Int))) (by decide) HP1.out HY.out (by rw [HL1.out]; omega) (by rw [HPR.out]; omega) (by omega) (by unfold maxLen; omega)
     (hc3.grown hg34 (by simp; omega)) hyr4 (by simp [Value.ownBlock]; omega)
    rw [HL1.out, HPR.out, HQ2.out] at hadd
    have HADD := Lib.hid hadd; have HST := Lib.hid hst; have HCQ4 := Lib.hid hcq4; have HGR4 := Lib.hid hgr4
    clear hadd hst hcq4 hgr4 hg34 hyr4 hcq3 hgr3 hc3 hg3' hr1 hr2 hkl
    generalize ((qh - 1 : Nat) : Int) = qm at *
    go_wp2_with fail
    refine HADD.out.mono ?_
    rintro e w4 ⟨rfl, hc4, hg4⟩
    have hcz4 : Cells w4 gz (uv (zs.take k ++ q2.1 ++ zs.drop (k + (ys.length + 1))) ++ spare) := by
     rw [uv_append, uv_append, List.append_assoc (uv (zs.take k) ++ uv q2.1)]; exact hc4
    have hcq5 : Cells w4 w.heap.size (uv (qs.set k (qh - 1))) := HCQ4.out.grown hg4 (by simp; omega)
    have hgr5 : w.grownBy w4 (some gx) := grown_either HGR4.out hg4 hgz4
    have HCZ := Lib.hid hcz4; have HCQ := Lib.hid hcq5; have HGR := Lib.hid hgr5
    clear hcz4 hcq5 hgr5 hc4 hg4 hcell3 hfree3
    go_wp2
    go_roundw
    case rel => exact ⟨j + 1, k, _, _, by go_num, by have := HJK.out; omega, HST.out, HCZ.out, HCQ.out, HGR.out⟩
    case measure => simp [intOf]; omega
  | zero =>
   obtain ⟨hf1, hf2⟩ := hinv.fin
   have hzb : Blks B wr (.slice (some ⟨gz, 0, none⟩) zs.length cap) zs := Blks.of_cells hcz hgzB (by rw [List.length_append, uv_length]; have := HSPL.out; omega) (by unfold maxLen; omega) (by rw [List.take_append_of_le_length (by rw [uv_length]; exact Nat.le_refl _), List.take_of_length_le (by rw [uv_length]; exact Nat.le_refl _)]) (by omega)
   have htr := trim_any B gz cap zs wr hzb (by omega)
   rw [hzl] at htr
   have hqb : Blks 0 wr (.slice (some ⟨w.heap.size, 0, none⟩) qs.length n) qs := Blks.of_cells hcq (Nat.zero_le _) (by rw [uv_length, hql]; exact HNN.out) (by unfold maxLen; omega) (by rw [List.take_of_length_le (by rw [uv_length]; exact Nat.le_refl _)]) (by have := HNN.out; omega)
   have HT := Lib.hid htr; have HF1 := Lib.hid hf1; have HF2 := Lib.hid hf2; have HZB := Lib.hid hzb; have HQB := Lib.hid hqb; have HGR := Lib.hid hgr; have HINV := Lib.hid hinv; have HZL := Lib.hid hzl; have HCZ := Lib.hid hcz
   have hjn : ¬ ((j : Int) < (n : Int)) := by omega
   have hqln : qs.length = n := by rw [hql]; exact HNN.out
   have HQL := Lib.hid hqln
   clear hf1 hf2 hzb htr hqb hgr hinv hcz hcq hzl hql hqln hjk
   go_wp2_with fail
   refine HT.out.mono ?_
   rintro e w3 ⟨t, ht, rfl, rfl, hv', ht'⟩
   have htl : (zs.take t).length = t := by rw [List.length_take]; omega
   have HOK : Hid (DivOk B gx gy xs ys w wr (.slice (some ⟨w.heap.size, 0, none⟩) n n) qs gz cap (zs.take t)) := by
    have hzl := HZL.out
    refine ⟨by have := HQB.out; rw [HQL.out] at this; exact this, HINV.out.qlt, HF1.out, by rw [HQL.out]; have := HNN.out; omega, ?_, hgz2, fun z hz => HINV.out.zlt z (List.mem_of_mem_take hz), by rw [hv']; exact HF2.out, ht', by rw [htl]; omega, HGR.out⟩
    refine Blks.of_cells HCZ.out hgzB (by rw [List.length_append, uv_length]; have := HSPL.out; omega) (by unfold maxLen; omega) ?_ (by rw [htl]; omega)
    rw [htl, List.take_append_of_le_length (by rw [uv_length]; exact ht), uv_take]
   have HTL := Lib.hid htl
   clear hv' ht' htl
   go_wp2
   go_ret2
   exact ⟨_, qs, gz, cap, zs.take t, by rw [HTL.out]; rfl, HOK.out⟩
end Go.Proofs.YtaogepcaoogpgaaGreatDoor
