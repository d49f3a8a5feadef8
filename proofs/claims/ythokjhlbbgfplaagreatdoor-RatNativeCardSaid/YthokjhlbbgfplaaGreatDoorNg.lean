/- RatNative's walk: a divisor above zero. -/
import Derived.Test.YthokjhlbbgfplaaGreatDoorNe
set_option linter.unusedVariables false
set_option linter.unusedSimpArgs false
namespace Go.Proofs.YthokjhlbbgfplaaGreatDoor
open Go.RowKit
open Go.Lib (nDigits decDigits)

set_option maxRecDepth 100000 in
set_option maxHeartbeats 1600000 in
theorem native_plus (p q PN QM MN PQ M N : Int) (c d : Nat) (X Y S1 S2 S3 V : ByteArray) (E4 k : Int) (w : World) (hp : -2147483648 ≤ p ∧ p ≤ 2147483647) (hqb : -2147483648 ≤ q ∧ q ≤ 2147483647) (hc : c < 65536) (hd : d < 65536)
    (bM : 1 ≤ M ∧ M ≤ 32768) (bN : 1 ≤ N ∧ N ≤ 32768) (b1 : -140737488355328 ≤ PN ∧ PN ≤ 140737488355328) (b2 : -140737488355328 ≤ QM ∧ QM ≤ 140737488355328) (b3 : 0 ≤ MN ∧ MN ≤ 140737488355328) (b4 : -4611686018427387904 ≤ PQ ∧ PQ ≤ 4611686018427387904)
    (NS : NativeSizes p q PN QM MN PQ M N c d) (NC : Hid (NativeCalls p q PN QM MN PQ M N X Y S1 S2 S3 V E4 k)) (HK : Hid ((PN < QM ∧ k = -1) ∨ (PN = QM ∧ k = 0) ∨ (QM < PN ∧ k = 1))) (hq : 0 < q) (hE : E4 = 0) (MQ : Int) (eMQ : M * q = MQ) (bMQ : 0 ≤ MQ ∧ MQ ≤ 140737488355328) (FV : Hid (FracOk PN MQ V)) :
    Calls Tryz.prog 7 #[.int .i32 p, .int .i32 q, .int .u16 c, .int .u16 d] w (LawPost w) := by
  obtain ⟨eM, eN, ePN, eQM, eMN, ePQ⟩ := NS
  subst hE
  go_enter Tryz.func7, Tryz.ntmps7
  go_wp2_with fail
  refine (NC.out.fx _).mono ?_
  rintro e w1 ⟨rfl, hg⟩
  have G1 := Lib.hid hg
  clear hg
  go_wp2_with fail
  refine (NC.out.fy _).mono ?_
  rintro e w2 ⟨rfl, hg⟩
  have G2 := Lib.hid (grown_trans G1.out hg)
  clear hg G1
  go_wp2_with fail
  refine (NC.out.c1 _).mono ?_
  rintro e w3 ⟨rfl, hg⟩
  have G3 := Lib.hid (grown_trans G2.out hg)
  clear hg G2
  go_wp2_with fail
  refine (NC.out.c2 _).mono ?_
  rintro e w4 ⟨rfl, hg⟩
  have G4 := Lib.hid (grown_trans G3.out hg)
  clear hg G3
  go_wp2_with fail
  refine (NC.out.c3 _).mono ?_
  rintro e w5 ⟨rfl, hg⟩
  have G5 := Lib.hid (grown_trans G4.out hg)
  clear hg G4
  go_wp2_with fail
  refine (NC.out.c4 _).mono ?_
  rintro e w6 ⟨rfl, hg⟩
  have G6 := Lib.hid (grown_trans G5.out hg)
  clear hg G5
  go_wp2_with fail
  refine (NC.out.va _).mono ?_
  rintro e w7 ⟨rfl, hg⟩
  have G7 := Lib.hid (grown_trans G6.out hg)
  clear hg G6
  go_wp2_with fail
  refine (NC.out.f1 _).mono ?_
  rintro e w8 ⟨rfl, hg⟩
  have G8 := Lib.hid (grown_trans G7.out hg)
  clear hg G7
  go_wp2_with fail
  refine (is_same _ _).mono ?_
  rintro e w' ⟨rfl, rfl⟩
  go_wp2_with fail
  refine (NC.out.f2 _).mono ?_
  rintro e w9 ⟨rfl, hg⟩
  have G9 := Lib.hid (grown_trans G8.out hg)
  clear hg G8
  go_wp2_with fail
  refine (is_same _ _).mono ?_
  rintro e w' ⟨rfl, rfl⟩
  go_wp2_with fail
  refine (NC.out.f3 _).mono ?_
  rintro e w10 ⟨rfl, hg⟩
  have G10 := Lib.hid (grown_trans G9.out hg)
  clear hg G9
  go_wp2_with fail
  refine (is_same _ _).mono ?_
  rintro e w' ⟨rfl, rfl⟩
  have NK := Lib.hid NC.out.cm
  clear NC
  rcases HK.out with ⟨k1, rfl⟩ | ⟨k1, rfl⟩ | ⟨k1, rfl⟩
  all_goals
    clear HK
    have k2 : (PN < QM) ∨ (PN = QM) ∨ (QM < PN) := by omega
    first
      | have k3 : ¬ QM < PN := by omega
        have k4 : ¬ PN < QM := by omega
        clear k1
      | have k3 : ¬ QM < PN := by omega
      | have k3 : ¬ PN < QM := by omega
    clear k2
    go_wp2_with fail
    refine (NK.out _).mono ?_
    rintro e w11 ⟨rfl, hg⟩
    have G11 := Lib.hid (grown_trans G10.out hg)
    clear hg G10
    go_wp2_with fail
    refine (FV.out _).mono ?_
    rintro e w12 ⟨rfl, hg⟩
    have G12 := Lib.hid (grown_trans G11.out hg)
    clear hg G11
    go_wp2_with fail
    refine (is_same _ _).mono ?_
    rintro e w' ⟨rfl, rfl⟩
    go_wp2_with fail
    refine (awake_any _).mono ?_
    rintro e w13 ⟨rfl, hg⟩
    have G13 := Lib.hid (grown_trans G12.out hg)
    clear hg G12
    go_wp2
    go_ret
    exact ⟨rfl, G13.out⟩
end Go.Proofs.YthokjhlbbgfplaaGreatDoor
