/- RatNative: every input. -/
import Derived.Test.YthokjhlbbgfplaaGreatDoorNg
import Derived.Test.YthokjhlbbgfplaaGreatDoorNh
set_option linter.unusedVariables false
set_option linter.unusedSimpArgs false
namespace Go.Proofs.YthokjhlbbgfplaaGreatDoor
open Go.RowKit
open Go.Lib (nDigits decDigits)

theorem mul_bound (a : Int) (b A B : Nat) (ha : a.natAbs ≤ A) (hb : b ≤ B) : (a * b).natAbs ≤ A * B := by
  rw [Int.natAbs_mul, Int.natAbs_natCast]
  exact Nat.mul_le_mul ha hb
theorem finV_small {z : Rat} (h : IsRat (ratS z) z) : finV z = .tuple #[.string (ratS z), .int .i64 0] := finV_rat h
theorem int_of_i32 {z : Int} (h : (Lit.int .i32 z).wf = true) : -2147483648 ≤ z ∧ z ≤ 2147483647 := by
  simp [Lit.wf] at h
  have h1 : IntKind.i32.min = -2147483648 := by decide
  have h2 : IntKind.i32.max = 2147483647 := by decide
  omega
theorem nat_of_u16 {z : Int} (h : (Lit.int .u16 z).wf = true) : ∃ s : Nat, z = s ∧ s < 65536 := by
  simp [Lit.wf] at h
  have h1 : IntKind.u16.min = 0 := by decide
  have h2 : IntKind.u16.max = 65535 := by decide
  exact ⟨z.toNat, by omega, by omega⟩

theorem native_any (p q : Int) (c d : Nat) (w : World) (hp : -2147483648 ≤ p ∧ p ≤ 2147483647) (hq : -2147483648 ≤ q ∧ q ≤ 2147483647) (hc : c < 65536) (hd : d < 65536) :
    Calls Tryz.prog 7 #[.int .i32 p, .int .i32 q, .int .u16 c, .int .u16 d] w (LawPost w) := by
  obtain ⟨M, eM⟩ : ∃ M, c % 32768 + 1 = M := ⟨_, rfl⟩
  obtain ⟨N, eN⟩ : ∃ N, d % 32768 + 1 = N := ⟨_, rfl⟩
  have bM : 1 ≤ M ∧ M ≤ 32768 := by omega
  have bN : 1 ≤ N ∧ N ≤ 32768 := by omega
  have m0 : M ≠ 0 := by omega
  have n0 : N ≠ 0 := by omega
  have ap : p.natAbs ≤ 2147483648 := by omega
  have aq : q.natAbs ≤ 2147483648 := by omega
  have b1 := mul_bound p N 2147483648 32768 ap bN.2
  have b2 := mul_bound q M 2147483648 32768 aq bM.2
  have b3 : M * N ≤ 32768 * 32768 := Nat.mul_le_mul bM.2 bN.2
  have b3' : 1 ≤ M * N := Nat.mul_pos bM.1 bN.1
  have b4 : (p * q).natAbs ≤ 2147483648 * 2147483648 := by rw [Int.natAbs_mul]; exact Nat.mul_le_mul ap aq
  have eC : ((M * N : Nat) : Int) = (M : Int) * N := Int.natCast_mul M N
  have NS : NativeSizes p q (p * N) (q * M) ((M * N : Nat) : Int) (p * q) M N c d := ⟨by omega, by omega, rfl, rfl, eC.symm, rfl⟩
  have hx := mk_small p M (by omega) (by omega) bM.1
  have hy := mk_small q N (by omega) (by omega) bN.1
  have s1 := mk_small (p * N + q * M) (M * N) (by omega) (by omega) b3'
  have s2 := mk_small (p * N - q * M) (M * N) (by omega) (by omega) b3'
  have s3 := mk_small (p * q) (M * N) (by omega) (by omega) b3'
  have A1 := fun w => add_rat hx hy w
  have A2 := fun w => sub_rat hx hy w
  have A3 := fun w => mul_rat hx hy w
  rw [frac_add p q M N m0 n0, finV_small s1] at A1
  rw [frac_sub p q M N m0 n0, finV_small s2] at A2
  rw [frac_mul p q M N, finV_small s3] at A3
  have CM := fun w => ratcmp_yes hx hy w
  obtain ⟨k, hk⟩ : ∃ k, cmpQ (mkRat p M) (mkRat q N) = k := ⟨_, rfl⟩
  rw [hk] at CM
  have HK : (p * N < q * M ∧ k = -1) ∨ (p * N = q * M ∧ k = 0) ∨ (q * M < p * N ∧ k = 1) := by
    rw [frac_cmp p q M N m0 n0] at hk
    split at hk
    · exact .inl ⟨by assumption, hk.symm⟩
    · split at hk
      · exact .inr (.inr ⟨by assumption, hk.symm⟩)
      · exact .inr (.inl ⟨by omega, hk.symm⟩)
  have NC : ∀ (V : ByteArray) (E4 : Int), Op2 25 (ratS (mkRat p M)) (ratS (mkRat q N)) V E4 → NativeCalls p q (p * N) (q * M) ((M * N : Nat) : Int) (p * q) M N (ratS (mkRat p M)) (ratS (mkRat q N)) (ratS (mkRat (p * N + q * M) (M * N))) (ratS (mkRat (p * N - q * M) (M * N))) (ratS (mkRat (p * q) (M * N))) V E4 k := fun V E4 hV =>
    ⟨frac_any p M (by omega) (by omega) bM.1, frac_any q N (by omega) (by omega) bN.1, op2_of A1 rfl, op2_of A2 rfl, op2_of A3 rfl, hV, fun w => ratvalid_yes hx w,
      frac_any _ _ (by omega) (by omega) b3', frac_any _ _ (by omega) (by omega) b3', frac_any _ _ (by omega) (by omega) b3', CM⟩
  have cM : (1 : Int) ≤ M ∧ (M : Int) ≤ 32768 := by omega
  have cN : (1 : Int) ≤ N ∧ (N : Int) ≤ 32768 := by omega
  have h1 : -140737488355328 ≤ p * N ∧ p * N ≤ 140737488355328 := by omega
  have h2 : -140737488355328 ≤ q * M ∧ q * M ≤ 140737488355328 := by omega
  have h3 : 0 ≤ ((M * N : Nat) : Int) ∧ ((M * N : Nat) : Int) ≤ 140737488355328 := by omega
  have h4 : -4611686018427387904 ≤ p * q ∧ p * q ≤ 4611686018427387904 := by omega
  rcases Int.lt_trichotomy q 0 with hq0 | hq0 | hq0
  · obtain ⟨b, hb⟩ : ∃ b : Nat, q = -(b : Int) := ⟨q.natAbs, by omega⟩
    have bb : M * b ≤ 32768 * 2147483648 := Nat.mul_le_mul bM.2 (by omega)
    have bb' : 1 ≤ M * b := Nat.mul_pos bM.1 (by omega)
    have ez : -p * (N : Int) = -(p * N) := Int.neg_mul p N
    have s4 := mk_small (-p * N) (M * b) (by omega) (by omega) bb'
    have D := fun w => div_rat hx hy (show (mkRat q N).num ≠ 0 by rw [ne_eq, Rat.num_eq_zero, Rat.mkRat_eq_zero n0]; omega) w
    rw [frac_div p q M N b (-p * N) (.inr ⟨hb, rfl⟩), finV_small s4] at D
    have eb : ((M * b : Nat) : Int) = (M : Int) * -q := by rw [Int.natCast_mul, hb, Int.neg_neg]
    exact native_minus p q _ _ _ _ M N c d _ _ _ _ _ _ _ k w hp hq hc hd cM cN h1 h2 h3 h4 NS (Lib.hid (NC _ 0 (op2_of D rfl))) (Lib.hid HK) hq0 rfl _ _ eb.symm rfl (by omega) (by omega) (Lib.hid (frac_any _ _ (by omega) (by omega) bb'))
  · have D := fun w => div_zero hx hy (show (mkRat q N).num = 0 by rw [Rat.num_eq_zero, Rat.mkRat_eq_zero n0]; exact hq0) w
    exact native_zero p q _ _ _ _ M N c d _ _ _ _ _ _ _ k w hp hq hc hd cM cN h1 h2 h3 h4 NS (Lib.hid (NC _ 4 (op2_of D rfl))) (Lib.hid HK) hq0 (by rw [hq0, Int.zero_mul]) (by rw [hq0, Int.mul_zero]) rfl rfl
  · obtain ⟨b, hb⟩ : ∃ b : Nat, q = (b : Int) := ⟨q.natAbs, by omega⟩
    have bb : M * b ≤ 32768 * 2147483648 := Nat.mul_le_mul bM.2 (by omega)
    have bb' : 1 ≤ M * b := Nat.mul_pos bM.1 (by omega)
    have s4 := mk_small (p * N) (M * b) (by omega) (by omega) bb'
    have D := fun w => div_rat hx hy (show (mkRat q N).num ≠ 0 by rw [ne_eq, Rat.num_eq_zero, Rat.mkRat_eq_zero n0]; omega) w
    rw [frac_div p q M N b (p * N) (.inl ⟨hb, rfl⟩), finV_small s4] at D
    have eb : ((M * b : Nat) : Int) = (M : Int) * q := by rw [Int.natCast_mul, hb]
    exact native_plus p q _ _ _ _ M N c d _ _ _ _ _ _ _ k w hp hq hc hd cM cN h1 h2 h3 h4 NS (Lib.hid (NC _ 0 (op2_of D rfl))) (Lib.hid HK) hq0 rfl _ eb.symm (by omega) (Lib.hid (frac_any _ _ (by omega) (by omega) bb'))
end Go.Proofs.YthokjhlbbgfplaaGreatDoor
