/- math/bits.Div64: the quotient. -/
import Derived.Test.YtlkjfhidicgjiaaDoorRa
import Derived.Test.YtlkjfhidicgjiaaDoorPc
import Derived.Test.YtlkjfhidicgjiaaDoorSh
import Derived.Laws.Bits64b
import Derived.Deep.CutBlock
import Derived.Deep.DeepCutAuto
set_option linter.unusedVariables false
set_option linter.unusedSimpArgs false
namespace Go.Proofs.YtlkjfhidicgjiaaDoor
open Go.RowKit

theorem and_mask (n : Nat) (h : n < 18446744073709551616) : bits BinOp.and IntKind.u64 (n : Int) 4294967295 = ((n % 4294967296 : Nat) : Int) := by
  have := bits_and_u64_nat n 4294967295 h (by decide)
  rw [show (4294967295 : Nat) = 2 ^ 32 - 1 by decide, Nat.and_two_pow_sub_one_eq_mod] at this
  exact this
theorem wrap_cast (n : Nat) (e : Int) (h : e = (n : Int)) (hn : n < 18446744073709551616) : IntKind.u64.wrap e = (n : Int) := by
  rw [h, IntKind.wrap_u64]; omega
theorem cast_pow (y s : Nat) : ((y * 2 ^ s : Nat) : Int) = (y : Int) * 2 ^ s := by push_cast; rfl

/-- What the walk uses of the first part: the names of its values. -/
structure D64 (hi lo y s Y c d H L U M m1 m0 : Nat) : Prop where
  e1 : IntKind.u64.wrap ((y : Int) * 2 ^ s) = (Y : Int)
  e2 : bits BinOp.and IntKind.u64 (Y : Int) 4294967295 = (d : Int)
  e3 : (Y : Int) / 4294967296 = (c : Int)
  e4 : IntKind.u64.wrap ((hi : Int) * 2 ^ s) = (H : Int)
  e5 : (lo : Int) / 2 ^ (64 - s) = (L : Int)
  e6 : bits BinOp.or IntKind.u64 (H : Int) (L : Int) = (U : Int)
  e7 : IntKind.u64.wrap ((lo : Int) * 2 ^ s) = (M : Int)
  e8 : (M : Int) / 4294967296 = (m1 : Int)
  e9 : bits BinOp.and IntKind.u64 (M : Int) 4294967295 = (m0 : Int)
  hY : Y = 4294967296 * c + d
  hc : 2147483648 ≤ c
  hc2 : c < 4294967296
  hd : d < 4294967296
  hm1 : m1 < 4294967296
  hm0 : m0 < 4294967296
  hM : M = 4294967296 * m1 + m0
  hU : U < Y
  hq : (18446744073709551616 * hi + lo) / y = (18446744073709551616 * U + (4294967296 * m1 + m0)) / Y
theorem D64.mk' (hi lo y s : Nat) (hs : s ≤ 63) (h2 : hi < y) (hlo : lo < 18446744073709551616) (hY : y * 2 ^ s < 18446744073709551616) (hY2 : 9223372036854775808 ≤ y * 2 ^ s) :
    ∃ Y c d H L U M m1 m0, D64 hi lo y s Y c d H L U M m1 m0 := by
  obtain ⟨a1, a2, a3, a4, a5⟩ := d64_shift hi lo y s hs h2 hlo hY
  have hp : 2 ^ s ≤ 2 ^ 63 := Nat.pow_le_pow_right (by decide) hs
  have hm : lo * 2 ^ s % 18446744073709551616 < 18446744073709551616 := Nat.mod_lt _ (by decide)
  refine ⟨y * 2 ^ s, y * 2 ^ s / 4294967296, y * 2 ^ s % 4294967296, hi * 2 ^ s, lo / 2 ^ (64 - s), hi * 2 ^ s + lo / 2 ^ (64 - s), lo * 2 ^ s % 18446744073709551616,
    lo * 2 ^ s % 18446744073709551616 / 4294967296, lo * 2 ^ s % 18446744073709551616 % 4294967296, ?_, and_mask _ hY, by omega, ?_, by push_cast; rfl, ?_, ?_, by omega, and_mask _ hm, by omega, by omega, by omega, by omega, by omega, by omega, by omega, a4, ?_⟩
  · exact wrap_cast _ _ (cast_pow y s).symm hY
  · exact wrap_cast _ _ (cast_pow hi s).symm (by omega)
  · rw [bits_or_u64_nat _ _ (by omega) (by omega), a3]
  · rw [← cast_pow, IntKind.wrap_u64]; omega
  · rw [← Nat.mul_div_mul_right (18446744073709551616 * hi + lo) y (Nat.two_pow_pos s), a5]
    congr 2
    omega

/-- What the walk uses of the rest: one more name for each wrapped sum. -/
structure D64T (U m1 m0 Y Q1 V Q0 g1 g2 g3 g5 R : Nat) : Prop where
  x1 : IntKind.u64.wrap ((U : Int) * 4294967296) = (g1 : Int)
  x2 : IntKind.u64.wrap ((g1 : Int) + (m1 : Int)) = (g2 : Int)
  x3 : IntKind.u64.wrap ((Q1 : Int) * (Y : Int)) = (g3 : Int)
  x4 : IntKind.u64.wrap ((g2 : Int) - (g3 : Int)) = (V : Int)
  x5 : IntKind.u64.wrap ((Q1 : Int) * 4294967296) = (g5 : Int)
  x6 : IntKind.u64.wrap ((g5 : Int) + (Q0 : Int)) = (R : Int)
  hV : V < Y
  hR : R = (18446744073709551616 * U + (4294967296 * m1 + m0)) / Y
theorem D64T.mk' (U m1 m0 Y : Nat) (hU : U < Y) (hY : Y ≤ 18446744073709551615) (hm1 : m1 < 4294967296) (hm0 : m0 < 4294967296) :
    ∃ Q1 V Q0 g1 g2 g3 g5 R, Q1 = (4294967296 * U + m1) / Y ∧ Q0 = (4294967296 * V + m0) / Y ∧ D64T U m1 m0 Y Q1 V Q0 g1 g2 g3 g5 R := by
  have hY0 : 0 < Y := by omega
  have hV := Nat.mod_lt (4294967296 * U + m1) hY0
  have hdm := Nat.div_add_mod (4294967296 * U + m1) Y
  have hq1 := d64_digit U m1 Y hY0 hU hm1
  have hq0 := d64_digit ((4294967296 * U + m1) % Y) m0 Y hY0 hV hm0
  have hR := d64_quot U m1 m0 Y hY0
  refine ⟨_, (4294967296 * U + m1) % Y, _, (4294967296 * U) % 18446744073709551616, ((4294967296 * U) % 18446744073709551616 + m1) % 18446744073709551616, (Y * ((4294967296 * U + m1) / Y)) % 18446744073709551616, 4294967296 * ((4294967296 * U + m1) / Y), _, rfl, rfl, ?_, ?_, ?_, ?_, ?_, ?_, hV, hR.symm⟩
  · rw [IntKind.wrap_u64, Int.mul_comm, Int.natCast_emod, Int.natCast_mul]; rfl
  · generalize 4294967296 * U % 18446744073709551616 = g
    rw [IntKind.wrap_u64, Int.natCast_emod, Int.natCast_add]; rfl
  · rw [IntKind.wrap_u64, Int.mul_comm, ← Int.natCast_mul]; exact (Int.natCast_emod _ _).symm
  · rw [IntKind.wrap_u64]
    generalize Y * ((4294967296 * U + m1) / Y) = t at *
    generalize (4294967296 * U + m1) % Y = V at *
    omega
  · refine wrap_cast _ _ (by rw [Int.mul_comm]; exact (Int.natCast_mul 4294967296 _).symm) (by omega)
  · refine wrap_cast _ _ ?_ ?_
    · exact (Int.natCast_add _ _).symm
    · omega

set_option maxRecDepth 100000 in
set_option maxHeartbeats 2000000 in
theorem div64_any (hi lo y s : Nat) (h1 : 1 ≤ hi) (h2 : hi < y) (hlo : lo < 18446744073709551616) (hs : s ≤ 63)
    (hY : y * 2 ^ s < 18446744073709551616) (hY2 : 9223372036854775808 ≤ y * 2 ^ s)
    (hlz : ∀ w, Calls Tryd.prog 83 #[.int .u64 y] w fun e w' => e = .returned (.int .i64 s) ∧ w = w') :
    ∃ r, ∀ w, Calls Tryd.prog 72 #[.int .u64 hi, .int .u64 lo, .int .u64 y] w fun e w' => e = .returned (.tuple #[.int .u64 ((18446744073709551616 * hi + lo) / y : Nat), .int .u64 r]) ∧ w = w' := by
  obtain ⟨Y, c, d, H, L, U, M, m1, m0, hD⟩ := D64.mk' hi lo y s hs h2 hlo hY hY2
  have HD := Lib.hid hD
  have hds := DInv.start hD.hY hD.hc hD.hd hD.hm1 hD.hU
  have hrl := DInv.rest_lt (U := U) hD.hc
  have e1 := hD.e1
  have e2 := hD.e2
  have e3 := hD.e3
  have e4 := hD.e4
  have e5 := hD.e5
  have e6 := hD.e6
  have e7 := hD.e7
  have e8 := hD.e8
  have e9 := hD.e9
  have hc := hD.hc
  have hc2 := hD.hc2
  have hd := hD.hd
  have hm1 := hD.hm1
  have hm0 := hD.hm0
  have hU := hD.hU
  have hy : y < 18446744073709551616 := by have := hD.hY; have : y * 1 ≤ y * 2 ^ s := Nat.mul_le_mul_left _ (Nat.two_pow_pos s); omega
  have ea : (U : Int) / (c : Int) = ((U / c : Nat) : Int) := by push_cast; rfl
  have ep : ((U / c : Nat) : Int) * (c : Int) = ((c * (U / c) : Nat) : Int) := by push_cast; rw [Int.mul_comm]
  have hpU : c * (U / c) ≤ U := Nat.mul_div_le U c
  have hYl : Y ≤ 18446744073709551615 := by have := hD.hY; omega
  have eq := hD.hq
  rw [eq]
  clear hD eq hY hY2
  generalize U / c = a0 at *
  generalize c * a0 = p0 at *
  have ha0 := hds.le
  obtain ⟨r0, hr0⟩ : ∃ r0, U - p0 = r0 := ⟨_, rfl⟩
  have er : (U : Int) - (p0 : Int) = (r0 : Int) := by omega
  rw [hr0] at hds hrl
  have HDS := Lib.hid hds
  clear hds hr0
  have f1 : ((hi : Int) == 0) = false := by simp; omega
  have f2 : ((y : Int) == 0) = false := by simp; omega
  have hc1 : (1 : Int) ≤ (c : Int) := by omega
  obtain ⟨Q1, V, Q0, g1, g2, g3, g5, R, hQ1, hQ0, hT⟩ := D64T.mk' U m1 m0 Y hU hYl hm1 hm0
  rw [← hT.hR]
  have HQ1 := Lib.hid hQ1.symm; have HQ0 := Lib.hid hQ0.symm; have HT := Lib.hid hT
  clear hQ1 hQ0 hT
  refine ⟨IntKind.u64.wrap (IntKind.u64.wrap (IntKind.u64.wrap ((V : Int) * 4294967296) + (m0 : Int)) - IntKind.u64.wrap ((Q0 : Int) * (Y : Int))) / 2 ^ (min s 64), fun w => ?_⟩
  go_enter Tryd.func72, Tryd.ntmps72
  go_upto_block 0 with (go_at_call 83; refine (hlz _).mono ?_; rintro e w' ⟨rfl, rfl⟩)
  go_cut [15] (fun q wx => q = .int .u64 Q1 ∧ w = wx)
  case first =>
    go_wp2_with fail
    clear e1 e2 e3 e4 e5 e6 e7 e8 e9 ea ep er hpU h1 h2 hlo hs hlz f1 f2 hy ha0
    go_loop [15, 16] (fun q rh => ∃ a r : Nat, q = .int .u64 a ∧ rh = .int .u64 r ∧ DInv U m1 c Y a r ∧ r < 4294967296) (fun q _ => (intOf q).toNat)
    case atStart => exact ⟨_, _, rfl, rfl, HDS.out, by omega⟩
    case round =>
      obtain ⟨a, r, rfl, rfl, hinv, hr⟩ := hrel
      have hle := hinv.le
      have hpr := hinv.prod hd
      have epp : (a : Int) * (d : Int) = ((d * a : Nat) : Int) := by push_cast; rw [Int.mul_comm]
      obtain ⟨R, hR⟩ : ∃ R, 4294967296 * r = R := ⟨_, rfl⟩
      have eR : IntKind.u64.wrap ((4294967296 : Int) * (r : Int)) = (R : Int) := wrap_cast R _ (by omega) (by omega)
      have hr2 : r ≤ 4294967296000 := by omega
      have hRb : R ≤ 18446744069414584320 := by omega
      have HR := Lib.hid hr
      clear hr
      by_cases ht : 4294967296 ≤ a ∨ R + m1 < d * a
      · obtain ⟨ha1, hnew⟩ := hinv.down HD.out.hY hc hd hm1 hU (by rw [hR]; exact ht)
        have HN := Lib.hid hnew
        clear hinv hnew hR
        have hle2 := HN.out.le
        generalize d * a = p at *
        by_cases hrr : 4294967296 ≤ r + c
        · have HQ := Lib.hid (HN.out.out HD.out.hY hc hd (by omega) hrr)
          by_cases hta : 4294967296 ≤ a
          · clear ht
            have g1 : ¬ ((a : Int) < 4294967296) := by omega
            have g1' : (4294967296 : Int) ≤ (a : Int) := by omega
            have g3 : (4294967296 : Int) ≤ (r : Int) + (c : Int) := by omega
            have g3' : ¬ ((r : Int) + (c : Int) < 4294967296) := by omega
            go_wp2
            go_meet
            case rel => exact ⟨by rw [← HQ1.out, ← HQ.out]; go_num, rfl⟩
          · have htb : R + m1 < p := by omega
            clear ht
            have g1 : (a : Int) < 4294967296 := by omega
            have g1' : ¬ ((4294967296 : Int) ≤ (a : Int)) := by omega
            have g2 : (R : Int) + (m1 : Int) < (p : Int) := by omega
            have g3 : (4294967296 : Int) ≤ (r : Int) + (c : Int) := by omega
            have g3' : ¬ ((r : Int) + (c : Int) < 4294967296) := by omega
            go_wp2
            go_meet
            case rel => exact ⟨by rw [← HQ1.out, ← HQ.out]; go_num, rfl⟩
        · by_cases hta : 4294967296 ≤ a
          · clear ht
            have g1 : ¬ ((a : Int) < 4294967296) := by omega
            have g1' : (4294967296 : Int) ≤ (a : Int) := by omega
            have g3 : ¬ ((4294967296 : Int) ≤ (r : Int) + (c : Int)) := by omega
            have g3' : (r : Int) + (c : Int) < 4294967296 := by omega
            go_wp2
            go_round
            case rel => exact ⟨a - 1, r + c, by go_num, by go_num, HN.out, by omega⟩
            case measure => simp [intOf]; omega
          · have htb : R + m1 < p := by omega
            clear ht
            have g1 : (a : Int) < 4294967296 := by omega
            have g1' : ¬ ((4294967296 : Int) ≤ (a : Int)) := by omega
            have g2 : (R : Int) + (m1 : Int) < (p : Int) := by omega
            have g3 : ¬ ((4294967296 : Int) ≤ (r : Int) + (c : Int)) := by omega
            have g3' : (r : Int) + (c : Int) < 4294967296 := by omega
            go_wp2
            go_round
            case rel => exact ⟨a - 1, r + c, by go_num, by go_num, HN.out, by omega⟩
            case measure => simp [intOf]; omega
      · have hta : a < 4294967296 := by omega
        have htb : d * a ≤ R + m1 := by omega
        have HQ := Lib.hid (hinv.done HD.out.hY hc (by rw [hR]; exact htb))
        clear ht hinv hR
        generalize d * a = p at *
        have g1 : (a : Int) < 4294967296 := by omega
        have g1' : ¬ ((4294967296 : Int) ≤ (a : Int)) := by omega
        have g2 : ¬ ((R : Int) + (m1 : Int) < (p : Int)) := by omega
        have g2' : (p : Int) ≤ (R : Int) + (m1 : Int) := by omega
        go_wp2
        go_meet
        case rel => exact ⟨by rw [← HQ1.out, ← HQ.out], rfl⟩
  case rest =>
    obtain ⟨rfl, rfl⟩ := hcut
    clear e1 e2 e3 e4 e5 e6 e7 e8 e9 ea ep er hpU ha0 HDS hrl hlz f1 f2 hlo hs HQ1
    have x1 := HT.out.x1
    have x2 := HT.out.x2
    have x3 := HT.out.x3
    have x4 := HT.out.x4
    have hV := HT.out.hV
    have hds := DInv.start HD.out.hY hc hd hm0 hV
    have hrl := DInv.rest_lt (U := V) hc
    have ea : (V : Int) / (c : Int) = ((V / c : Nat) : Int) := by push_cast; rfl
    have ep : ((V / c : Nat) : Int) * (c : Int) = ((c * (V / c) : Nat) : Int) := by push_cast; rw [Int.mul_comm]
    have hpU : c * (V / c) ≤ V := Nat.mul_div_le V c
    generalize V / c = a1 at *
    generalize c * a1 = p1 at *
    have ha1 := hds.le
    obtain ⟨r1, hr1⟩ : ∃ r1, V - p1 = r1 := ⟨_, rfl⟩
    have er : (V : Int) - (p1 : Int) = (r1 : Int) := by omega
    rw [hr1] at hds hrl
    have HDS := Lib.hid hds
    clear hds hr1
    go_upto_block 2 with (fail)
    go_cut [18] (fun q wx => q = .int .u64 Q0 ∧ w = wx)
    case first =>
      go_wp2_with fail
      clear x1 x2 x3 x4 ea ep er hpU ha1
      go_loop [18, 16] (fun q rh => ∃ a r : Nat, q = .int .u64 a ∧ rh = .int .u64 r ∧ DInv V m0 c Y a r ∧ r < 4294967296) (fun q _ => (intOf q).toNat)
      case atStart => exact ⟨_, _, rfl, rfl, HDS.out, by omega⟩
      case round =>
        obtain ⟨a, r, rfl, rfl, hinv, hr⟩ := hrel
        have hle := hinv.le
        have hpr := hinv.prod hd
        have epp : (a : Int) * (d : Int) = ((d * a : Nat) : Int) := by push_cast; rw [Int.mul_comm]
        obtain ⟨R, hR⟩ : ∃ R, 4294967296 * r = R := ⟨_, rfl⟩
        have eR : IntKind.u64.wrap ((4294967296 : Int) * (r : Int)) = (R : Int) := wrap_cast R _ (by omega) (by omega)
        have hr2 : r ≤ 4294967296000 := by omega
        have hRb : R ≤ 18446744069414584320 := by omega
        have HR := Lib.hid hr
        clear hr
        by_cases ht : 4294967296 ≤ a ∨ R + m0 < d * a
        · obtain ⟨ha1, hnew⟩ := hinv.down HD.out.hY hc hd hm0 hV (by rw [hR]; exact ht)
          have HN := Lib.hid hnew
          clear hinv hnew hR
          have hle2 := HN.out.le
          generalize d * a = p at *
          by_cases hrr : 4294967296 ≤ r + c
          · have HQ := Lib.hid (HN.out.out HD.out.hY hc hd (by omega) hrr)
            by_cases hta : 4294967296 ≤ a
            · clear ht
              have g1 : ¬ ((a : Int) < 4294967296) := by omega
              have g1' : (4294967296 : Int) ≤ (a : Int) := by omega
              have g3 : (4294967296 : Int) ≤ (r : Int) + (c : Int) := by omega
              have g3' : ¬ ((r : Int) + (c : Int) < 4294967296) := by omega
              go_wp2
              go_meet
              case rel => exact ⟨by rw [← HQ0.out, ← HQ.out]; go_num, rfl⟩
            · have htb : R + m0 < p := by omega
              clear ht
              have g1 : (a : Int) < 4294967296 := by omega
              have g1' : ¬ ((4294967296 : Int) ≤ (a : Int)) := by omega
              have g2 : (R : Int) + (m0 : Int) < (p : Int) := by omega
              have g3 : (4294967296 : Int) ≤ (r : Int) + (c : Int) := by omega
              have g3' : ¬ ((r : Int) + (c : Int) < 4294967296) := by omega
              go_wp2
              go_meet
              case rel => exact ⟨by rw [← HQ0.out, ← HQ.out]; go_num, rfl⟩
          · by_cases hta : 4294967296 ≤ a
            · clear ht
              have g1 : ¬ ((a : Int) < 4294967296) := by omega
              have g1' : (4294967296 : Int) ≤ (a : Int) := by omega
              have g3 : ¬ ((4294967296 : Int) ≤ (r : Int) + (c : Int)) := by omega
              have g3' : (r : Int) + (c : Int) < 4294967296 := by omega
              go_wp2
              go_round
              case rel => exact ⟨a - 1, r + c, by go_num, by go_num, HN.out, by omega⟩
              case measure => simp [intOf]; omega
            · have htb : R + m0 < p := by omega
              clear ht
              have g1 : (a : Int) < 4294967296 := by omega
              have g1' : ¬ ((4294967296 : Int) ≤ (a : Int)) := by omega
              have g2 : (R : Int) + (m0 : Int) < (p : Int) := by omega
              have g3 : ¬ ((4294967296 : Int) ≤ (r : Int) + (c : Int)) := by omega
              have g3' : (r : Int) + (c : Int) < 4294967296 := by omega
              go_wp2
              go_round
              case rel => exact ⟨a - 1, r + c, by go_num, by go_num, HN.out, by omega⟩
              case measure => simp [intOf]; omega
        · have hta : a < 4294967296 := by omega
          have htb : d * a ≤ R + m0 := by omega
          have HQ := Lib.hid (hinv.done HD.out.hY hc (by rw [hR]; exact htb))
          clear ht hinv hR
          generalize d * a = p at *
          have g1 : (a : Int) < 4294967296 := by omega
          have g1' : ¬ ((4294967296 : Int) ≤ (a : Int)) := by omega
          have g2 : ¬ ((R : Int) + (m0 : Int) < (p : Int)) := by omega
          have g2' : (p : Int) ≤ (R : Int) + (m0 : Int) := by omega
          go_wp2
          go_meet
          case rel => exact ⟨by rw [← HQ0.out, ← HQ.out], rfl⟩
    case rest =>
      obtain ⟨rfl, rfl⟩ := hcut
      clear x1 x2 x3 x4 ea ep er hpU ha1 HDS hrl HQ0
      have x5 := HT.out.x5
      have x6 := HT.out.x6
      go_wp2
      go_ret2
      exact ⟨rfl, rfl⟩
end Go.Proofs.YtlkjfhidicgjiaaDoor
