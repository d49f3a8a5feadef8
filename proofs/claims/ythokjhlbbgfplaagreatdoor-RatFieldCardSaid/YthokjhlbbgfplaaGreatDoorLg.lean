/- The walk of RatField. -/
import Derived.Test.YthokjhlbbgfplaaGreatDoorZb
import Derived.Deep.CutRange
set_option linter.unusedVariables false
set_option linter.unusedSimpArgs false
namespace Go.Proofs.YthokjhlbbgfplaaGreatDoor
open Go.RowKit
open Go.Lib (nDigits decDigits)

def Op2 (F : Nat) (a b S : ByteArray) (E : Int) : Prop := ∀ w, Calls Tryz.prog F #[.string a, .string b] w (ValPost (.tuple #[.string S, .int .i64 E]) w)
def CmpIs (a b : ByteArray) (c : Int) : Prop := ∀ w, Calls Tryz.prog 20 #[.string a, .string b] w (ValPost (.int .i64 c) w)
structure FieldCalls (a b c S P D1 D2 D3 U V W X A B : ByteArray) (N : Bool) (E G K1 K2 K3 E1 E2 E3 E4 : Int) : Prop where
  va : ∀ w, Calls Tryz.prog 13 #[.string a] w (ValPost (.bool true) w)
  vb : ∀ w, Calls Tryz.prog 13 #[.string b] w (ValPost (.bool true) w)
  vc : ∀ w, Calls Tryz.prog 13 #[.string c] w (ValPost (.bool true) w)
  c1 : Op2 22 a b S E
  c2 : Op2 22 b a S E
  c3 : Op2 24 a b P G
  c4 : Op2 24 b a P G
  c5 : Op2 23 S b D1 K1
  c6 : Op2 25 P b D2 K2
  c7 : Op2 23 a b D3 K3
  c8 : Op2 24 S c U E1
  c9 : Op2 24 a c V E2
  c10 : Op2 24 b c W E3
  c11 : Op2 22 V W X E4
  c12 : ∀ w, Calls Tryz.prog 11 #[.string a] w (ValPost (.tuple #[.bool N, .string A, .string B, .bool true]) w)
  c13 : ∀ w, Calls Tryz.prog 14 #[.bool N, .string A, .string B] w (ValPost (.tuple #[.string a, .int .i64 0]) w)
structure FieldWays (a b D1 D2 D3 U X : ByteArray) (E G K1 K2 K3 E1 E2 E3 E4 : Int) : Prop where
  w1 : (E == 0) = false ∨ ((E == 0) = true ∧ D1 = a ∧ K1 = 0)
  w2 : (G == 0) = false ∨ ((G == 0) = true ∧ (b.toList == [48]) = true ∧ (b.toList != [48]) = false) ∨ ((G == 0) = true ∧ (b.toList == [48]) = false ∧ (b.toList != [48]) = true ∧ D2 = a ∧ K2 = 0)
  w3 : (K3 == 0) = false ∨ ((K3 == 0) = true ∧ ∃ c, CmpIs D3 ⟨#[48]⟩ c ∧ CmpIs a b c)
  w4 : (E == 0) = false ∨ ((E == 0) = true ∧ (E1 == 0) = false) ∨ ((E == 0) = true ∧ (E1 == 0) = true ∧ (E2 == 0) = false) ∨ ((E == 0) = true ∧ (E1 == 0) = true ∧ (E2 == 0) = true ∧ (E3 == 0) = false) ∨ ((E == 0) = true ∧ (E1 == 0) = true ∧ (E2 == 0) = true ∧ (E3 == 0) = true ∧ (E4 == 0) = false) ∨ ((E == 0) = true ∧ (E1 == 0) = true ∧ (E2 == 0) = true ∧ (E3 == 0) = true ∧ (E4 == 0) = true ∧ U = X)
def LargeIs3 (a b c : ByteArray) (k : Bool) : Prop := ∀ w : World,
  Calls Tryz.prog 9 #[.slice (some ⟨w.heap.size, 0, none⟩) 3 3] (w.alloc (.cells #[.string a, .string b, .string c] 9)) fun e w' => e = .returned (.bool k) ∧ w.alloc (.cells #[.string a, .string b, .string c] 9) = w'

set_option maxRecDepth 100000 in
set_option maxHeartbeats 8000000 in
theorem field_walk (a b c S P D1 D2 D3 U V W X A B : ByteArray) (N : Bool) (E G K1 K2 K3 E1 E2 E3 E4 : Int) (w : World)
    (LG : Hid (LargeIs3 a b c false)) (FC : Hid (FieldCalls a b c S P D1 D2 D3 U V W X A B N E G K1 K2 K3 E1 E2 E3 E4)) (FW : Hid (FieldWays a b D1 D2 D3 U X E G K1 K2 K3 E1 E2 E3 E4)) :
    Calls Tryz.prog 8 #[.string a, .string b, .string c] w (LawPost w) := by
  go_enter Tryz.func8, Tryz.ntmps8
  go_wp2_with fail
  refine (LG.out _).mono ?_
  rintro e w0 ⟨rfl, hw0⟩
  have G0 := Lib.hid (show w.grownBy w0 none from hw0 ▸ World.grownBy_alloc _ _ none)
  clear hw0
  go_wp2_with fail
  refine (FC.out.va _).mono ?_
  rintro e w1 ⟨rfl, hg⟩
  have G1 := Lib.hid (grown_trans G0.out hg)
  clear hg G0
  go_wp2_with fail
  refine (FC.out.vb _).mono ?_
  rintro e w2 ⟨rfl, hg⟩
  have G2 := Lib.hid (grown_trans G1.out hg)
  clear hg G1
  go_wp2_with fail
  refine (FC.out.vc _).mono ?_
  rintro e w3 ⟨rfl, hg⟩
  have G3 := Lib.hid (grown_trans G2.out hg)
  clear hg G2
  go_wp2_with fail
  refine (FC.out.c1 _).mono ?_
  rintro e w4 ⟨rfl, hg⟩
  have G4 := Lib.hid (grown_trans G3.out hg)
  clear hg G3
  go_wp2_with fail
  refine (FC.out.c2 _).mono ?_
  rintro e w5 ⟨rfl, hg⟩
  have G5 := Lib.hid (grown_trans G4.out hg)
  clear hg G4
  go_wp2_with fail
  refine (FC.out.c3 _).mono ?_
  rintro e w6 ⟨rfl, hg⟩
  have G6 := Lib.hid (grown_trans G5.out hg)
  clear hg G5
  go_wp2_with fail
  refine (FC.out.c4 _).mono ?_
  rintro e w7 ⟨rfl, hg⟩
  have G7 := Lib.hid (grown_trans G6.out hg)
  clear hg G6
  go_wp2_with fail
  refine (FC.out.c5 _).mono ?_
  rintro e w8 ⟨rfl, hg⟩
  have G8 := Lib.hid (grown_trans G7.out hg)
  clear hg G7
  go_upto_region 10 with (fail)
  go_cut [112] from 104 to 112 (fun b wx => b = .bool false ∧ w.grownBy wx none)
  case first =>
    rcases FW.out.w1 with g1 | ⟨g1, rfl, rfl⟩
    · go_wp2
      go_meet
      case rel => exact ⟨rfl, G8.out⟩
    · go_wp2_with fail
      refine (is_same _ _).mono ?_
      rintro e w' ⟨rfl, rfl⟩
      go_wp2
      go_meet
      case rel => exact ⟨rfl, G8.out⟩
  case rest =>
    clear G8
    obtain ⟨rfl, hg⟩ := hcut
    have G9 := Lib.hid hg
    clear hg
    go_wp2_with fail
    refine (FC.out.c6 _).mono ?_
    rintro e w10 ⟨rfl, hg⟩
    have G10 := Lib.hid (grown_trans G9.out hg)
    clear hg G9
    go_upto_region 13 with (fail)
    go_cut [131] from 119 to 131 (fun b wx => b = .bool false ∧ w.grownBy wx none)
    case first =>
      rcases FW.out.w2 with g1 | ⟨g1, g2, g3⟩ | ⟨g1, g2, g3, rfl, rfl⟩
      · go_wp2
        go_meet
        case rel => exact ⟨rfl, G10.out⟩
      · go_wp2
        go_meet
        case rel => exact ⟨rfl, G10.out⟩
      · go_wp2_with fail
        refine (is_same _ _).mono ?_
        rintro e w' ⟨rfl, rfl⟩
        go_wp2
        go_meet
        case rel => exact ⟨rfl, G10.out⟩
    case rest =>
      clear G10
      obtain ⟨rfl, hg⟩ := hcut
      have G11 := Lib.hid hg
      clear hg
      go_wp2_with fail
      refine (FC.out.c7 _).mono ?_
      rintro e w12 ⟨rfl, hg⟩
      have G12 := Lib.hid (grown_trans G11.out hg)
      clear hg G11
      go_upto_region 16 with (fail)
      go_cut [147] from 138 to 147 (fun b wx => b = .bool false ∧ w.grownBy wx none)
      case first =>
        rcases FW.out.w3 with g1 | ⟨g1, z, q1, q2⟩
        · go_wp2
          go_meet
          case rel => exact ⟨rfl, G12.out⟩
        · have Q1 := Lib.hid q1; have Q2 := Lib.hid q2
          clear q1 q2
          go_wp2_with fail
          refine (Q1.out _).mono ?_
          rintro e w13 ⟨rfl, hg⟩
          have G13 := Lib.hid (grown_trans G12.out hg)
          clear hg G12
          go_wp2_with fail
          refine (Q2.out _).mono ?_
          rintro e w14 ⟨rfl, hg⟩
          have G14 := Lib.hid (grown_trans G13.out hg)
          clear hg G13
          go_wp2
          go_meet
          case rel => exact ⟨rfl, G14.out⟩
      case rest =>
        clear G12
        obtain ⟨rfl, hg⟩ := hcut
        have G13 := Lib.hid hg
        clear hg
        go_wp2_with fail
        refine (FC.out.c8 _).mono ?_
        rintro e w14 ⟨rfl, hg⟩
        have G14 := Lib.hid (grown_trans G13.out hg)
        clear hg G13
        go_wp2_with fail
        refine (FC.out.c9 _).mono ?_
        rintro e w15 ⟨rfl, hg⟩
        have G15 := Lib.hid (grown_trans G14.out hg)
        clear hg G14
        go_wp2_with fail
        refine (FC.out.c10 _).mono ?_
        rintro e w16 ⟨rfl, hg⟩
        have G16 := Lib.hid (grown_trans G15.out hg)
        clear hg G15
        go_wp2_with fail
        refine (FC.out.c11 _).mono ?_
        rintro e w17 ⟨rfl, hg⟩
        have G17 := Lib.hid (grown_trans G16.out hg)
        clear hg G16
        go_upto_region 22 with (fail)
        go_cut [194] from 172 to 194 (fun b wx => b = .bool false ∧ w.grownBy wx none)
        case first =>
          rcases FW.out.w4 with g1 | ⟨g1, g2⟩ | ⟨g1, g2, g3⟩ | ⟨g1, g2, g3, g4⟩ | ⟨g1, g2, g3, g4, g5⟩ | ⟨g1, g2, g3, g4, g5, rfl⟩
          · go_wp2
            go_meet
            case rel => exact ⟨rfl, G17.out⟩
          · go_wp2
            go_meet
            case rel => exact ⟨rfl, G17.out⟩
          · go_wp2
            go_meet
            case rel => exact ⟨rfl, G17.out⟩
          · go_wp2
            go_meet
            case rel => exact ⟨rfl, G17.out⟩
          · go_wp2
            go_meet
            case rel => exact ⟨rfl, G17.out⟩
          · go_wp2
            go_meet
            case rel => exact ⟨rfl, G17.out⟩
        case rest =>
          clear G17
          obtain ⟨rfl, hg⟩ := hcut
          have G18 := Lib.hid hg
          clear hg
          go_wp2_with fail
          refine (FC.out.c12 _).mono ?_
          rintro e w19 ⟨rfl, hg⟩
          have G19 := Lib.hid (grown_trans G18.out hg)
          clear hg G18
          go_wp2_with fail
          refine (FC.out.c13 _).mono ?_
          rintro e w20 ⟨rfl, hg⟩
          have G20 := Lib.hid (grown_trans G19.out hg)
          clear hg G19
          go_wp2_with fail
          refine (is_same _ _).mono ?_
          rintro e w' ⟨rfl, rfl⟩
          go_wp2_with fail
          refine (awake_any _).mono ?_
          rintro e w21 ⟨rfl, hg⟩
          have G21 := Lib.hid (grown_trans G20.out hg)
          clear hg G20
          go_wp2
          go_ret
          exact ⟨rfl, G21.out⟩
end Go.Proofs.YthokjhlbbgfplaaGreatDoor
