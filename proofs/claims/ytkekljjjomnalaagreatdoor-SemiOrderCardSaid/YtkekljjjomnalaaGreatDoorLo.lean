/- SemiOrder: every input. -/
import Derived.Test.YtkekljjjomnalaaGreatDoorLf
set_option linter.unusedVariables false
set_option linter.unusedSimpArgs false
namespace Go.Proofs.YtkekljjjomnalaaGreatDoor
open Go.RowKit
open Go.Lib (nDigits decDigits)

set_option maxRecDepth 100000 in
set_option maxHeartbeats 4000000 in
theorem order_no (k : Int) (a b c : ByteArray) (F : Hid (FitIs k a b c false)) (w : World) : Calls Tryz.prog 8 #[.int .i64 k, .agg #[.string a, .string b, .string c]] w (LawPost w) := by
  go_enter Tryz.func8, Tryz.ntmps8
  go_wp2_with fail
  refine (F.out _).mono ?_
  rintro e w1 ⟨rfl, hg⟩
  have ht := three (alloc_old hg)
  have G1 := Lib.hid (grown_trans (World.grownBy_alloc _ _ none) hg)
  clear hg
  go_wp2_with fail
  refine (awake_any _).mono ?_
  rintro e w2 ⟨rfl, hg⟩
  have G2 := Lib.hid (grown_trans G1.out hg)
  clear hg
  go_wp2
  go_ret
  exact ⟨rfl, G2.out⟩
set_option maxRecDepth 100000 in
set_option maxHeartbeats 4000000 in
theorem order_m_le_two (k : Int) (a b c S X Y : ByteArray) (F : Hid (FitIs k a b c true)) (B1 : Hid (SOp 15 k a b (.int .i64 (-1)))) (B2 : Hid (SOp 15 k b a (.int .i64 (1)))) (e1 : (a.toList == b.toList) = false) (r t : Int) (B3 : Hid (SOp 15 k b c (.int .i64 r))) (hr : r ≤ 0) (B4 : Hid (SOp 15 k a c (.int .i64 t))) (ht : ¬ 0 < t) (P : Hid (SOp 13 k a b (.tuple #[.string S, .int .i64 0]))) (k1 : (k == 2) = true) (k2 : (k != 2) = false) (T1 : Hid (SOp 10 k a c (.tuple #[.string X, .int .i64 0]))) (T2 : Hid (SOp 10 k b c (.tuple #[.string Y, .int .i64 0]))) (z : Int) (B5 : Hid (SOp 15 k X Y (.int .i64 z))) (hz : z ≤ 0) (w : World) : Calls Tryz.prog 8 #[.int .i64 k, .agg #[.string a, .string b, .string c]] w (LawPost w) := by
  go_enter Tryz.func8, Tryz.ntmps8
  go_wp2_with fail
  refine (F.out _).mono ?_
  rintro e w1 ⟨rfl, hg⟩
  have ht3 := three (alloc_old hg)
  have G1 := Lib.hid (grown_trans (World.grownBy_alloc _ _ none) hg)
  clear hg
  go_wp2_with fail
  go_quiet (fail)
  clear ht3
  go_wp2_with fail
  refine (B1.out _).mono ?_
  rintro e w2 ⟨rfl, hg⟩
  have G2 := Lib.hid (grown_trans G1.out (grown_trans (grown_drewN _ _ _) hg))
  clear hg G1
  go_wp2_with fail
  refine (B2.out _).mono ?_
  rintro e w3 ⟨rfl, hg⟩
  have G3 := Lib.hid (grown_trans G2.out hg)
  clear hg G2
  go_wp2_with fail
  refine (B3.out _).mono ?_
  rintro e w4 ⟨rfl, hg⟩
  have G4 := Lib.hid (grown_trans G3.out hg)
  clear hg G3
  go_wp2_with fail
  refine (B4.out _).mono ?_
  rintro e w5 ⟨rfl, hg⟩
  have G5 := Lib.hid (grown_trans G4.out hg)
  clear hg G4
  go_wp2_with fail
  refine (P.out _).mono ?_
  rintro e w6 ⟨rfl, hg⟩
  have G6 := Lib.hid (grown_trans G5.out hg)
  clear hg G5
  go_wp2_with fail
  refine (T1.out _).mono ?_
  rintro e w7 ⟨rfl, hg⟩
  have G7 := Lib.hid (grown_trans G6.out hg)
  clear hg G6
  go_wp2_with fail
  refine (T2.out _).mono ?_
  rintro e w8 ⟨rfl, hg⟩
  have G8 := Lib.hid (grown_trans G7.out hg)
  clear hg G7
  go_wp2_with fail
  refine (B5.out _).mono ?_
  rintro e w9 ⟨rfl, hg⟩
  have G9 := Lib.hid (grown_trans G8.out hg)
  clear hg G8
  go_wp2_with fail
  refine (awake_any _).mono ?_
  rintro e w10 ⟨rfl, hg⟩
  have G10 := Lib.hid (grown_trans G9.out hg)
  clear hg G9
  go_wp2
  go_ret
  exact ⟨rfl, G10.out⟩
set_option maxRecDepth 100000 in
set_option maxHeartbeats 4000000 in
theorem order_m_le_other (k : Int) (a b c S X Y : ByteArray) (F : Hid (FitIs k a b c true)) (B1 : Hid (SOp 15 k a b (.int .i64 (-1)))) (B2 : Hid (SOp 15 k b a (.int .i64 (1)))) (e1 : (a.toList == b.toList) = false) (r t : Int) (B3 : Hid (SOp 15 k b c (.int .i64 r))) (hr : r ≤ 0) (B4 : Hid (SOp 15 k a c (.int .i64 t))) (ht : ¬ 0 < t) (P : Hid (SOp 13 k a b (.tuple #[.string S, .int .i64 0]))) (k1 : (k == 2) = false) (k2 : (k != 2) = true) (s1 : (S.toList == a.toList) = true) (s2 : (S.toList != a.toList) = false) (T1 : Hid (SOp 10 k a c (.tuple #[.string X, .int .i64 0]))) (T2 : Hid (SOp 10 k b c (.tuple #[.string Y, .int .i64 0]))) (z : Int) (B5 : Hid (SOp 15 k X Y (.int .i64 z))) (hz : z ≤ 0) (w : World) : Calls Tryz.prog 8 #[.int .i64 k, .agg #[.string a, .string b, .string c]] w (LawPost w) := by
  go_enter Tryz.func8, Tryz.ntmps8
  go_wp2_with fail
  refine (F.out _).mono ?_
  rintro e w1 ⟨rfl, hg⟩
  have ht3 := three (alloc_old hg)
  have G1 := Lib.hid (grown_trans (World.grownBy_alloc _ _ none) hg)
  clear hg
  go_wp2_with fail
  go_quiet (fail)
  clear ht3
  go_wp2_with fail
  refine (B1.out _).mono ?_
  rintro e w2 ⟨rfl, hg⟩
  have G2 := Lib.hid (grown_trans G1.out (grown_trans (grown_drewN _ _ _) hg))
  clear hg G1
  go_wp2_with fail
  refine (B2.out _).mono ?_
  rintro e w3 ⟨rfl, hg⟩
  have G3 := Lib.hid (grown_trans G2.out hg)
  clear hg G2
  go_wp2_with fail
  refine (B3.out _).mono ?_
  rintro e w4 ⟨rfl, hg⟩
  have G4 := Lib.hid (grown_trans G3.out hg)
  clear hg G3
  go_wp2_with fail
  refine (B4.out _).mono ?_
  rintro e w5 ⟨rfl, hg⟩
  have G5 := Lib.hid (grown_trans G4.out hg)
  clear hg G4
  go_wp2_with fail
  refine (P.out _).mono ?_
  rintro e w6 ⟨rfl, hg⟩
  have G6 := Lib.hid (grown_trans G5.out hg)
  clear hg G5
  go_wp2_with fail
  refine (T1.out _).mono ?_
  rintro e w7 ⟨rfl, hg⟩
  have G7 := Lib.hid (grown_trans G6.out hg)
  clear hg G6
  go_wp2_with fail
  refine (T2.out _).mono ?_
  rintro e w8 ⟨rfl, hg⟩
  have G8 := Lib.hid (grown_trans G7.out hg)
  clear hg G7
  go_wp2_with fail
  refine (B5.out _).mono ?_
  rintro e w9 ⟨rfl, hg⟩
  have G9 := Lib.hid (grown_trans G8.out hg)
  clear hg G8
  go_wp2_with fail
  refine (awake_any _).mono ?_
  rintro e w10 ⟨rfl, hg⟩
  have G10 := Lib.hid (grown_trans G9.out hg)
  clear hg G9
  go_wp2
  go_ret
  exact ⟨rfl, G10.out⟩
set_option maxRecDepth 100000 in
set_option maxHeartbeats 4000000 in
theorem order_m_gt_two (k : Int) (a b c S X Y : ByteArray) (F : Hid (FitIs k a b c true)) (B1 : Hid (SOp 15 k a b (.int .i64 (-1)))) (B2 : Hid (SOp 15 k b a (.int .i64 (1)))) (e1 : (a.toList == b.toList) = false) (r t : Int) (B3 : Hid (SOp 15 k b c (.int .i64 r))) (hr : ¬ r ≤ 0) (P : Hid (SOp 13 k a b (.tuple #[.string S, .int .i64 0]))) (k1 : (k == 2) = true) (k2 : (k != 2) = false) (T1 : Hid (SOp 10 k a c (.tuple #[.string X, .int .i64 0]))) (T2 : Hid (SOp 10 k b c (.tuple #[.string Y, .int .i64 0]))) (z : Int) (B5 : Hid (SOp 15 k X Y (.int .i64 z))) (hz : z ≤ 0) (w : World) : Calls Tryz.prog 8 #[.int .i64 k, .agg #[.string a, .string b, .string c]] w (LawPost w) := by
  go_enter Tryz.func8, Tryz.ntmps8
  go_wp2_with fail
  refine (F.out _).mono ?_
  rintro e w1 ⟨rfl, hg⟩
  have ht3 := three (alloc_old hg)
  have G1 := Lib.hid (grown_trans (World.grownBy_alloc _ _ none) hg)
  clear hg
  go_wp2_with fail
  go_quiet (fail)
  clear ht3
  go_wp2_with fail
  refine (B1.out _).mono ?_
  rintro e w2 ⟨rfl, hg⟩
  have G2 := Lib.hid (grown_trans G1.out (grown_trans (grown_drewN _ _ _) hg))
  clear hg G1
  go_wp2_with fail
  refine (B2.out _).mono ?_
  rintro e w3 ⟨rfl, hg⟩
  have G3 := Lib.hid (grown_trans G2.out hg)
  clear hg G2
  go_wp2_with fail
  refine (B3.out _).mono ?_
  rintro e w4 ⟨rfl, hg⟩
  have G4 := Lib.hid (grown_trans G3.out hg)
  clear hg G3
  go_wp2_with fail
  refine (P.out _).mono ?_
  rintro e w5 ⟨rfl, hg⟩
  have G5 := Lib.hid (grown_trans G4.out hg)
  clear hg G4
  go_wp2_with fail
  refine (T1.out _).mono ?_
  rintro e w6 ⟨rfl, hg⟩
  have G6 := Lib.hid (grown_trans G5.out hg)
  clear hg G5
  go_wp2_with fail
  refine (T2.out _).mono ?_
  rintro e w7 ⟨rfl, hg⟩
  have G7 := Lib.hid (grown_trans G6.out hg)
  clear hg G6
  go_wp2_with fail
  refine (B5.out _).mono ?_
  rintro e w8 ⟨rfl, hg⟩
  have G8 := Lib.hid (grown_trans G7.out hg)
  clear hg G7
  go_wp2_with fail
  refine (awake_any _).mono ?_
  rintro e w9 ⟨rfl, hg⟩
  have G9 := Lib.hid (grown_trans G8.out hg)
  clear hg G8
  go_wp2
  go_ret
  exact ⟨rfl, G9.out⟩
set_option maxRecDepth 100000 in
set_option maxHeartbeats 4000000 in
theorem order_m_gt_other (k : Int) (a b c S X Y : ByteArray) (F : Hid (FitIs k a b c true)) (B1 : Hid (SOp 15 k a b (.int .i64 (-1)))) (B2 : Hid (SOp 15 k b a (.int .i64 (1)))) (e1 : (a.toList == b.toList) = false) (r t : Int) (B3 : Hid (SOp 15 k b c (.int .i64 r))) (hr : ¬ r ≤ 0) (P : Hid (SOp 13 k a b (.tuple #[.string S, .int .i64 0]))) (k1 : (k == 2) = false) (k2 : (k != 2) = true) (s1 : (S.toList == a.toList) = true) (s2 : (S.toList != a.toList) = false) (T1 : Hid (SOp 10 k a c (.tuple #[.string X, .int .i64 0]))) (T2 : Hid (SOp 10 k b c (.tuple #[.string Y, .int .i64 0]))) (z : Int) (B5 : Hid (SOp 15 k X Y (.int .i64 z))) (hz : z ≤ 0) (w : World) : Calls Tryz.prog 8 #[.int .i64 k, .agg #[.string a, .string b, .string c]] w (LawPost w) := by
  go_enter Tryz.func8, Tryz.ntmps8
  go_wp2_with fail
  refine (F.out _).mono ?_
  rintro e w1 ⟨rfl, hg⟩
  have ht3 := three (alloc_old hg)
  have G1 := Lib.hid (grown_trans (World.grownBy_alloc _ _ none) hg)
  clear hg
  go_wp2_with fail
  go_quiet (fail)
  clear ht3
  go_wp2_with fail
  refine (B1.out _).mono ?_
  rintro e w2 ⟨rfl, hg⟩
  have G2 := Lib.hid (grown_trans G1.out (grown_trans (grown_drewN _ _ _) hg))
  clear hg G1
  go_wp2_with fail
  refine (B2.out _).mono ?_
  rintro e w3 ⟨rfl, hg⟩
  have G3 := Lib.hid (grown_trans G2.out hg)
  clear hg G2
  go_wp2_with fail
  refine (B3.out _).mono ?_
  rintro e w4 ⟨rfl, hg⟩
  have G4 := Lib.hid (grown_trans G3.out hg)
  clear hg G3
  go_wp2_with fail
  refine (P.out _).mono ?_
  rintro e w5 ⟨rfl, hg⟩
  have G5 := Lib.hid (grown_trans G4.out hg)
  clear hg G4
  go_wp2_with fail
  refine (T1.out _).mono ?_
  rintro e w6 ⟨rfl, hg⟩
  have G6 := Lib.hid (grown_trans G5.out hg)
  clear hg G5
  go_wp2_with fail
  refine (T2.out _).mono ?_
  rintro e w7 ⟨rfl, hg⟩
  have G7 := Lib.hid (grown_trans G6.out hg)
  clear hg G6
  go_wp2_with fail
  refine (B5.out _).mono ?_
  rintro e w8 ⟨rfl, hg⟩
  have G8 := Lib.hid (grown_trans G7.out hg)
  clear hg G7
  go_wp2_with fail
  refine (awake_any _).mono ?_
  rintro e w9 ⟨rfl, hg⟩
  have G9 := Lib.hid (grown_trans G8.out hg)
  clear hg G8
  go_wp2
  go_ret
  exact ⟨rfl, G9.out⟩
set_option maxRecDepth 100000 in
set_option maxHeartbeats 4000000 in
theorem order_z_le_two (k : Int) (a b c S X Y : ByteArray) (F : Hid (FitIs k a b c true)) (B1 : Hid (SOp 15 k a b (.int .i64 (0)))) (B2 : Hid (SOp 15 k b a (.int .i64 (0)))) (e1 : (a.toList == b.toList) = true) (r t : Int) (B3 : Hid (SOp 15 k b c (.int .i64 r))) (hr : r ≤ 0) (B4 : Hid (SOp 15 k a c (.int .i64 t))) (ht : ¬ 0 < t) (P : Hid (SOp 13 k a b (.tuple #[.string S, .int .i64 0]))) (k1 : (k == 2) = true) (k2 : (k != 2) = false) (T1 : Hid (SOp 10 k a c (.tuple #[.string X, .int .i64 0]))) (T2 : Hid (SOp 10 k b c (.tuple #[.string Y, .int .i64 0]))) (z : Int) (B5 : Hid (SOp 15 k X Y (.int .i64 z))) (hz : z ≤ 0) (w : World) : Calls Tryz.prog 8 #[.int .i64 k, .agg #[.string a, .string b, .string c]] w (LawPost w) := by
  go_enter Tryz.func8, Tryz.ntmps8
  go_wp2_with fail
  refine (F.out _).mono ?_
  rintro e w1 ⟨rfl, hg⟩
  have ht3 := three (alloc_old hg)
  have G1 := Lib.hid (grown_trans (World.grownBy_alloc _ _ none) hg)
  clear hg
  go_wp2_with fail
  go_quiet (fail)
  clear ht3
  go_wp2_with fail
  refine (B1.out _).mono ?_
  rintro e w2 ⟨rfl, hg⟩
  have G2 := Lib.hid (grown_trans G1.out (grown_trans (grown_drewN _ _ _) hg))
  clear hg G1
  go_wp2_with fail
  refine (B2.out _).mono ?_
  rintro e w3 ⟨rfl, hg⟩
  have G3 := Lib.hid (grown_trans G2.out hg)
  clear hg G2
  go_wp2_with fail
  refine (B3.out _).mono ?_
  rintro e w4 ⟨rfl, hg⟩
  have G4 := Lib.hid (grown_trans G3.out hg)
  clear hg G3
  go_wp2_with fail
  refine (B4.out _).mono ?_
  rintro e w5 ⟨rfl, hg⟩
  have G5 := Lib.hid (grown_trans G4.out hg)
  clear hg G4
  go_wp2_with fail
  refine (P.out _).mono ?_
  rintro e w6 ⟨rfl, hg⟩
  have G6 := Lib.hid (grown_trans G5.out hg)
  clear hg G5
  go_wp2_with fail
  refine (T1.out _).mono ?_
  rintro e w7 ⟨rfl, hg⟩
  have G7 := Lib.hid (grown_trans G6.out hg)
  clear hg G6
  go_wp2_with fail
  refine (T2.out _).mono ?_
  rintro e w8 ⟨rfl, hg⟩
  have G8 := Lib.hid (grown_trans G7.out hg)
  clear hg G7
  go_wp2_with fail
  refine (B5.out _).mono ?_
  rintro e w9 ⟨rfl, hg⟩
  have G9 := Lib.hid (grown_trans G8.out hg)
  clear hg G8
  go_wp2_with fail
  refine (awake_any _).mono ?_
  rintro e w10 ⟨rfl, hg⟩
  have G10 := Lib.hid (grown_trans G9.out hg)
  clear hg G9
  go_wp2
  go_ret
  exact ⟨rfl, G10.out⟩
set_option maxRecDepth 100000 in
set_option maxHeartbeats 4000000 in
theorem order_z_le_other (k : Int) (a b c S X Y : ByteArray) (F : Hid (FitIs k a b c true)) (B1 : Hid (SOp 15 k a b (.int .i64 (0)))) (B2 : Hid (SOp 15 k b a (.int .i64 (0)))) (e1 : (a.toList == b.toList) = true) (r t : Int) (B3 : Hid (SOp 15 k b c (.int .i64 r))) (hr : r ≤ 0) (B4 : Hid (SOp 15 k a c (.int .i64 t))) (ht : ¬ 0 < t) (P : Hid (SOp 13 k a b (.tuple #[.string S, .int .i64 0]))) (k1 : (k == 2) = false) (k2 : (k != 2) = true) (s1 : (S.toList == a.toList) = true) (s2 : (S.toList != a.toList) = false) (T1 : Hid (SOp 10 k a c (.tuple #[.string X, .int .i64 0]))) (T2 : Hid (SOp 10 k b c (.tuple #[.string Y, .int .i64 0]))) (z : Int) (B5 : Hid (SOp 15 k X Y (.int .i64 z))) (hz : z ≤ 0) (w : World) : Calls Tryz.prog 8 #[.int .i64 k, .agg #[.string a, .string b, .string c]] w (LawPost w) := by
  go_enter Tryz.func8, Tryz.ntmps8
  go_wp2_with fail
  refine (F.out _).mono ?_
  rintro e w1 ⟨rfl, hg⟩
  have ht3 := three (alloc_old hg)
  have G1 := Lib.hid (grown_trans (World.grownBy_alloc _ _ none) hg)
  clear hg
  go_wp2_with fail
  go_quiet (fail)
  clear ht3
  go_wp2_with fail
  refine (B1.out _).mono ?_
  rintro e w2 ⟨rfl, hg⟩
  have G2 := Lib.hid (grown_trans G1.out (grown_trans (grown_drewN _ _ _) hg))
  clear hg G1
  go_wp2_with fail
  refine (B2.out _).mono ?_
  rintro e w3 ⟨rfl, hg⟩
  have G3 := Lib.hid (grown_trans G2.out hg)
  clear hg G2
  go_wp2_with fail
  refine (B3.out _).mono ?_
  rintro e w4 ⟨rfl, hg⟩
  have G4 := Lib.hid (grown_trans G3.out hg)
  clear hg G3
  go_wp2_with fail
  refine (B4.out _).mono ?_
  rintro e w5 ⟨rfl, hg⟩
  have G5 := Lib.hid (grown_trans G4.out hg)
  clear hg G4
  go_wp2_with fail
  refine (P.out _).mono ?_
  rintro e w6 ⟨rfl, hg⟩
  have G6 := Lib.hid (grown_trans G5.out hg)
  clear hg G5
  go_wp2_with fail
  refine (T1.out _).mono ?_
  rintro e w7 ⟨rfl, hg⟩
  have G7 := Lib.hid (grown_trans G6.out hg)
  clear hg G6
  go_wp2_with fail
  refine (T2.out _).mono ?_
  rintro e w8 ⟨rfl, hg⟩
  have G8 := Lib.hid (grown_trans G7.out hg)
  clear hg G7
  go_wp2_with fail
  refine (B5.out _).mono ?_
  rintro e w9 ⟨rfl, hg⟩
  have G9 := Lib.hid (grown_trans G8.out hg)
  clear hg G8
  go_wp2_with fail
  refine (awake_any _).mono ?_
  rintro e w10 ⟨rfl, hg⟩
  have G10 := Lib.hid (grown_trans G9.out hg)
  clear hg G9
  go_wp2
  go_ret
  exact ⟨rfl, G10.out⟩
set_option maxRecDepth 100000 in
set_option maxHeartbeats 4000000 in
theorem order_z_gt_two (k : Int) (a b c S X Y : ByteArray) (F : Hid (FitIs k a b c true)) (B1 : Hid (SOp 15 k a b (.int .i64 (0)))) (B2 : Hid (SOp 15 k b a (.int .i64 (0)))) (e1 : (a.toList == b.toList) = true) (r t : Int) (B3 : Hid (SOp 15 k b c (.int .i64 r))) (hr : ¬ r ≤ 0) (P : Hid (SOp 13 k a b (.tuple #[.string S, .int .i64 0]))) (k1 : (k == 2) = true) (k2 : (k != 2) = false) (T1 : Hid (SOp 10 k a c (.tuple #[.string X, .int .i64 0]))) (T2 : Hid (SOp 10 k b c (.tuple #[.string Y, .int .i64 0]))) (z : Int) (B5 : Hid (SOp 15 k X Y (.int .i64 z))) (hz : z ≤ 0) (w : World) : Calls Tryz.prog 8 #[.int .i64 k, .agg #[.string a, .string b, .string c]] w (LawPost w) := by
  go_enter Tryz.func8, Tryz.ntmps8
  go_wp2_with fail
  refine (F.out _).mono ?_
  rintro e w1 ⟨rfl, hg⟩
  have ht3 := three (alloc_old hg)
  have G1 := Lib.hid (grown_trans (World.grownBy_alloc _ _ none) hg)
  clear hg
  go_wp2_with fail
  go_quiet (fail)
  clear ht3
  go_wp2_with fail
  refine (B1.out _).mono ?_
  rintro e w2 ⟨rfl, hg⟩
  have G2 := Lib.hid (grown_trans G1.out (grown_trans (grown_drewN _ _ _) hg))
  clear hg G1
  go_wp2_with fail
  refine (B2.out _).mono ?_
  rintro e w3 ⟨rfl, hg⟩
  have G3 := Lib.hid (grown_trans G2.out hg)
  clear hg G2
  go_wp2_with fail
  refine (B3.out _).mono ?_
  rintro e w4 ⟨rfl, hg⟩
  have G4 := Lib.hid (grown_trans G3.out hg)
  clear hg G3
  go_wp2_with fail
  refine (P.out _).mono ?_
  rintro e w5 ⟨rfl, hg⟩
  have G5 := Lib.hid (grown_trans G4.out hg)
  clear hg G4
  go_wp2_with fail
  refine (T1.out _).mono ?_
  rintro e w6 ⟨rfl, hg⟩
  have G6 := Lib.hid (grown_trans G5.out hg)
  clear hg G5
  go_wp2_with fail
  refine (T2.out _).mono ?_
  rintro e w7 ⟨rfl, hg⟩
  have G7 := Lib.hid (grown_trans G6.out hg)
  clear hg G6
  go_wp2_with fail
  refine (B5.out _).mono ?_
  rintro e w8 ⟨rfl, hg⟩
  have G8 := Lib.hid (grown_trans G7.out hg)
  clear hg G7
  go_wp2_with fail
  refine (awake_any _).mono ?_
  rintro e w9 ⟨rfl, hg⟩
  have G9 := Lib.hid (grown_trans G8.out hg)
  clear hg G8
  go_wp2
  go_ret
  exact ⟨rfl, G9.out⟩
set_option maxRecDepth 100000 in
set_option maxHeartbeats 4000000 in
theorem order_z_gt_other (k : Int) (a b c S X Y : ByteArray) (F : Hid (FitIs k a b c true)) (B1 : Hid (SOp 15 k a b (.int .i64 (0)))) (B2 : Hid (SOp 15 k b a (.int .i64 (0)))) (e1 : (a.toList == b.toList) = true) (r t : Int) (B3 : Hid (SOp 15 k b c (.int .i64 r))) (hr : ¬ r ≤ 0) (P : Hid (SOp 13 k a b (.tuple #[.string S, .int .i64 0]))) (k1 : (k == 2) = false) (k2 : (k != 2) = true) (s1 : (S.toList == a.toList) = true) (s2 : (S.toList != a.toList) = false) (T1 : Hid (SOp 10 k a c (.tuple #[.string X, .int .i64 0]))) (T2 : Hid (SOp 10 k b c (.tuple #[.string Y, .int .i64 0]))) (z : Int) (B5 : Hid (SOp 15 k X Y (.int .i64 z))) (hz : z ≤ 0) (w : World) : Calls Tryz.prog 8 #[.int .i64 k, .agg #[.string a, .string b, .string c]] w (LawPost w) := by
  go_enter Tryz.func8, Tryz.ntmps8
  go_wp2_with fail
  refine (F.out _).mono ?_
  rintro e w1 ⟨rfl, hg⟩
  have ht3 := three (alloc_old hg)
  have G1 := Lib.hid (grown_trans (World.grownBy_alloc _ _ none) hg)
  clear hg
  go_wp2_with fail
  go_quiet (fail)
  clear ht3
  go_wp2_with fail
  refine (B1.out _).mono ?_
  rintro e w2 ⟨rfl, hg⟩
  have G2 := Lib.hid (grown_trans G1.out (grown_trans (grown_drewN _ _ _) hg))
  clear hg G1
  go_wp2_with fail
  refine (B2.out _).mono ?_
  rintro e w3 ⟨rfl, hg⟩
  have G3 := Lib.hid (grown_trans G2.out hg)
  clear hg G2
  go_wp2_with fail
  refine (B3.out _).mono ?_
  rintro e w4 ⟨rfl, hg⟩
  have G4 := Lib.hid (grown_trans G3.out hg)
  clear hg G3
  go_wp2_with fail
  refine (P.out _).mono ?_
  rintro e w5 ⟨rfl, hg⟩
  have G5 := Lib.hid (grown_trans G4.out hg)
  clear hg G4
  go_wp2_with fail
  refine (T1.out _).mono ?_
  rintro e w6 ⟨rfl, hg⟩
  have G6 := Lib.hid (grown_trans G5.out hg)
  clear hg G5
  go_wp2_with fail
  refine (T2.out _).mono ?_
  rintro e w7 ⟨rfl, hg⟩
  have G7 := Lib.hid (grown_trans G6.out hg)
  clear hg G6
  go_wp2_with fail
  refine (B5.out _).mono ?_
  rintro e w8 ⟨rfl, hg⟩
  have G8 := Lib.hid (grown_trans G7.out hg)
  clear hg G7
  go_wp2_with fail
  refine (awake_any _).mono ?_
  rintro e w9 ⟨rfl, hg⟩
  have G9 := Lib.hid (grown_trans G8.out hg)
  clear hg G8
  go_wp2
  go_ret
  exact ⟨rfl, G9.out⟩
set_option maxRecDepth 100000 in
set_option maxHeartbeats 4000000 in
theorem order_p_x_two (k : Int) (a b c S X Y : ByteArray) (F : Hid (FitIs k a b c true)) (B1 : Hid (SOp 15 k a b (.int .i64 (1)))) (B2 : Hid (SOp 15 k b a (.int .i64 (-1)))) (e1 : (a.toList == b.toList) = false) (P : Hid (SOp 13 k a b (.tuple #[.string S, .int .i64 0]))) (k1 : (k == 2) = true) (k2 : (k != 2) = false) (T1 : Hid (SOp 10 k a c (.tuple #[.string X, .int .i64 0]))) (T2 : Hid (SOp 10 k b c (.tuple #[.string Y, .int .i64 0]))) (w : World) : Calls Tryz.prog 8 #[.int .i64 k, .agg #[.string a, .string b, .string c]] w (LawPost w) := by
  go_enter Tryz.func8, Tryz.ntmps8
  go_wp2_with fail
  refine (F.out _).mono ?_
  rintro e w1 ⟨rfl, hg⟩
  have ht3 := three (alloc_old hg)
  have G1 := Lib.hid (grown_trans (World.grownBy_alloc _ _ none) hg)
  clear hg
  go_wp2_with fail
  go_quiet (fail)
  clear ht3
  go_wp2_with fail
  refine (B1.out _).mono ?_
  rintro e w2 ⟨rfl, hg⟩
  have G2 := Lib.hid (grown_trans G1.out (grown_trans (grown_drewN _ _ _) hg))
  clear hg G1
  go_wp2_with fail
  refine (B2.out _).mono ?_
  rintro e w3 ⟨rfl, hg⟩
  have G3 := Lib.hid (grown_trans G2.out hg)
  clear hg G2
  go_wp2_with fail
  refine (P.out _).mono ?_
  rintro e w4 ⟨rfl, hg⟩
  have G4 := Lib.hid (grown_trans G3.out hg)
  clear hg G3
  go_wp2_with fail
  refine (T1.out _).mono ?_
  rintro e w5 ⟨rfl, hg⟩
  have G5 := Lib.hid (grown_trans G4.out hg)
  clear hg G4
  go_wp2_with fail
  refine (T2.out _).mono ?_
  rintro e w6 ⟨rfl, hg⟩
  have G6 := Lib.hid (grown_trans G5.out hg)
  clear hg G5
  go_wp2_with fail
  refine (awake_any _).mono ?_
  rintro e w7 ⟨rfl, hg⟩
  have G7 := Lib.hid (grown_trans G6.out hg)
  clear hg G6
  go_wp2
  go_ret
  exact ⟨rfl, G7.out⟩
set_option maxRecDepth 100000 in
set_option maxHeartbeats 4000000 in
theorem order_p_x_other (k : Int) (a b c S X Y : ByteArray) (F : Hid (FitIs k a b c true)) (B1 : Hid (SOp 15 k a b (.int .i64 (1)))) (B2 : Hid (SOp 15 k b a (.int .i64 (-1)))) (e1 : (a.toList == b.toList) = false) (P : Hid (SOp 13 k a b (.tuple #[.string S, .int .i64 0]))) (k1 : (k == 2) = false) (k2 : (k != 2) = true) (s1 : (S.toList == b.toList) = true) (s2 : (S.toList != b.toList) = false) (T1 : Hid (SOp 10 k a c (.tuple #[.string X, .int .i64 0]))) (T2 : Hid (SOp 10 k b c (.tuple #[.string Y, .int .i64 0]))) (w : World) : Calls Tryz.prog 8 #[.int .i64 k, .agg #[.string a, .string b, .string c]] w (LawPost w) := by
  go_enter Tryz.func8, Tryz.ntmps8
  go_wp2_with fail
  refine (F.out _).mono ?_
  rintro e w1 ⟨rfl, hg⟩
  have ht3 := three (alloc_old hg)
  have G1 := Lib.hid (grown_trans (World.grownBy_alloc _ _ none) hg)
  clear hg
  go_wp2_with fail
  go_quiet (fail)
  clear ht3
  go_wp2_with fail
  refine (B1.out _).mono ?_
  rintro e w2 ⟨rfl, hg⟩
  have G2 := Lib.hid (grown_trans G1.out (grown_trans (grown_drewN _ _ _) hg))
  clear hg G1
  go_wp2_with fail
  refine (B2.out _).mono ?_
  rintro e w3 ⟨rfl, hg⟩
  have G3 := Lib.hid (grown_trans G2.out hg)
  clear hg G2
  go_wp2_with fail
  refine (P.out _).mono ?_
  rintro e w4 ⟨rfl, hg⟩
  have G4 := Lib.hid (grown_trans G3.out hg)
  clear hg G3
  go_wp2_with fail
  refine (T1.out _).mono ?_
  rintro e w5 ⟨rfl, hg⟩
  have G5 := Lib.hid (grown_trans G4.out hg)
  clear hg G4
  go_wp2_with fail
  refine (T2.out _).mono ?_
  rintro e w6 ⟨rfl, hg⟩
  have G6 := Lib.hid (grown_trans G5.out hg)
  clear hg G5
  go_wp2_with fail
  refine (awake_any _).mono ?_
  rintro e w7 ⟨rfl, hg⟩
  have G7 := Lib.hid (grown_trans G6.out hg)
  clear hg G6
  go_wp2
  go_ret
  exact ⟨rfl, G7.out⟩
end Go.Proofs.YtkekljjjomnalaaGreatDoor
