/- The reference's Parse: texts without a sign. -/
import Derived.Test.YthokjhlbbgfplaaGreatDoorZg
set_option linter.unusedVariables false
set_option linter.unusedSimpArgs false
namespace Go.Proofs.YthokjhlbbgfplaaGreatDoor
open Go.RowKit
open Go.Lib (nDigits decDigits)

set_option maxRecDepth 100000 in
set_option maxHeartbeats 500000 in
theorem parse_plain_int (a N A S : ByteArray) (e l : Nat) (w : World) (hm : a.size ≤ 1200) (h0 : (0 : Int) < (a.size : Int)) (hp : 0 < a.size) (h1 : (((a[0]'hp).toNat : Int) == 45) = false)
    (D1 : Hid (EndOk a 0 e)) (he : e ≤ a.size) (he2 : a.size ≤ e) (q1 : ((e : Int) == (0 : Int)) = false) (hfe : 0 ≤ e) (eN : a.extract 0 e = N) (P1 : Hid (PlainOk N A)) (hl : ¬ (900 : Int) < (a.size : Int)) (E : Int) (MK : Hid (MakeOk false A ⟨#[49]⟩ S E)) :
    Calls Tryz.prog 17 #[.string a] w (ValPost (.tuple #[.string S, .int .i64 E]) w) := by
  have k1 : ¬ (e : Int) < (a.size : Int) := by omega
  have k2 : (e : Int) ≤ (a.size : Int) := by omega
  have k4 : ((0 : Nat) : Int) ≤ (e : Int) := by omega
  go_enter Tryz.func17, Tryz.ntmps17
  go_wp2_with fail
  refine (D1.out _).mono ?_
  rintro x w' ⟨rfl, rfl⟩
  go_wp2_with fail
  refine (P1.out _).mono ?_
  rintro x w' ⟨rfl, rfl⟩
  go_wp2_with fail
  refine (MK.out _).mono ?_
  rintro x w1 ⟨rfl, hg⟩
  have G1 := Lib.hid hg
  clear hg
  go_wp2
  go_ret2
  exact ⟨rfl, G1.out⟩
set_option maxRecDepth 100000 in
set_option maxHeartbeats 500000 in
theorem parse_plain_intlong (a N : ByteArray) (e l : Nat) (w : World) (hm : a.size ≤ 1200) (h0 : (0 : Int) < (a.size : Int)) (hp : 0 < a.size) (h1 : (((a[0]'hp).toNat : Int) == 45) = false)
    (D1 : Hid (EndOk a 0 e)) (he : e ≤ a.size) (he2 : a.size ≤ e) (q1 : ((e : Int) == (0 : Int)) = false) (hfe : 0 ≤ e) (eN : a.extract 0 e = N) (hl : (900 : Int) < (a.size : Int)) :
    Calls Tryz.prog 17 #[.string a] w (ValPost (.tuple #[.string ⟨#[]⟩, .int .i64 2]) w) := by
  have k1 : ¬ (e : Int) < (a.size : Int) := by omega
  have k2 : (e : Int) ≤ (a.size : Int) := by omega
  have k4 : ((0 : Nat) : Int) ≤ (e : Int) := by omega
  go_enter Tryz.func17, Tryz.ntmps17
  go_wp2_with fail
  refine (D1.out _).mono ?_
  rintro x w' ⟨rfl, rfl⟩
  go_wp2
  go_ret2
  exact ⟨rfl, grown_refl _ _⟩
set_option maxRecDepth 100000 in
set_option maxHeartbeats 500000 in
theorem parse_plain_other0 (a : ByteArray) (e l : Nat) (w : World) (hm : a.size ≤ 1200) (h0 : (0 : Int) < (a.size : Int)) (hp : 0 < a.size) (h1 : (((a[0]'hp).toNat : Int) == 45) = false)
    (D1 : Hid (EndOk a 0 0)) (he : 0 < a.size)  (c1 : (((a[0]'he).toNat : Int) == 47) = false) (c2 : (((a[0]'he).toNat : Int) == 46) = false) :
    Calls Tryz.prog 17 #[.string a] w (ValPost (.tuple #[.string ⟨#[]⟩, .int .i64 3]) w) := by
  have k1 : ((0 : Nat) : Int) < (a.size : Int) := by omega
  have k2 : ((0 : Nat) : Int) ≤ (a.size : Int) := by omega
  have k3 : (0 : Int) ≤ ((0 : Nat) : Int) := by omega
  go_enter Tryz.func17, Tryz.ntmps17
  go_wp2_with fail
  refine (D1.out _).mono ?_
  rintro x w' ⟨rfl, rfl⟩
  go_wp2
  go_ret2
  exact ⟨rfl, grown_refl _ _⟩
set_option maxRecDepth 100000 in
set_option maxHeartbeats 500000 in
theorem parse_plain_other1 (a : ByteArray) (e l : Nat) (w : World) (hm : a.size ≤ 1200) (h0 : (0 : Int) < (a.size : Int)) (hp : 0 < a.size) (h1 : (((a[0]'hp).toNat : Int) == 45) = false)
    (D1 : Hid (EndOk a 0 e)) (he : e < a.size) (q1 : ((e : Int) == (0 : Int)) = false) (hfe : 0 ≤ e) (c1 : (((a[e]'he).toNat : Int) == 47) = false) (c2 : (((a[e]'he).toNat : Int) == 46) = false) :
    Calls Tryz.prog 17 #[.string a] w (ValPost (.tuple #[.string ⟨#[]⟩, .int .i64 3]) w) := by
  have k1 : (e : Int) < (a.size : Int) := by omega
  have k2 : (e : Int) ≤ (a.size : Int) := by omega
  have k3 : (0 : Int) ≤ (e : Int) := by omega
  go_enter Tryz.func17, Tryz.ntmps17
  go_wp2_with fail
  refine (D1.out _).mono ?_
  rintro x w' ⟨rfl, rfl⟩
  go_wp2
  go_ret2
  exact ⟨rfl, grown_refl _ _⟩
set_option maxRecDepth 100000 in
set_option maxHeartbeats 500000 in
theorem parse_plain_s0 (a : ByteArray) (e l : Nat) (w : World) (hm : a.size ≤ 1200) (h0 : (0 : Int) < (a.size : Int)) (hp : 0 < a.size) (h1 : (((a[0]'hp).toNat : Int) == 45) = false)
    (D1 : Hid (EndOk a 0 0)) (he : 0 < a.size)  (c1 : (((a[0]'he).toNat : Int) == 47) = true) (D2 : Hid (EndOk a (0 + 1) l)) :
    Calls Tryz.prog 17 #[.string a] w (ValPost (.tuple #[.string ⟨#[]⟩, .int .i64 3]) w) := by
  have k1 : ((0 : Nat) : Int) < (a.size : Int) := by omega
  have k2 : ((0 : Nat) : Int) ≤ (a.size : Int) := by omega
  have k3 : (0 : Int) ≤ ((0 : Nat) : Int) := by omega
  go_enter Tryz.func17, Tryz.ntmps17
  go_wp2_with fail
  refine (D1.out _).mono ?_
  rintro x w' ⟨rfl, rfl⟩
  go_wp2_with fail
  refine (D2.out _).mono ?_
  rintro x w' ⟨rfl, rfl⟩
  go_wp2
  go_ret2
  exact ⟨rfl, grown_refl _ _⟩
set_option maxRecDepth 100000 in
set_option maxHeartbeats 500000 in
theorem parse_plain_s1 (a : ByteArray) (e l : Nat) (w : World) (hm : a.size ≤ 1200) (h0 : (0 : Int) < (a.size : Int)) (hp : 0 < a.size) (h1 : (((a[0]'hp).toNat : Int) == 45) = false)
    (D1 : Hid (EndOk a 0 e)) (he : e < a.size) (q1 : ((e : Int) == (0 : Int)) = false) (hfe : 0 ≤ e) (c1 : (((a[e]'he).toNat : Int) == 47) = true) (D2 : Hid (EndOk a (e + 1) l)) (hl1 : l < a.size) :
    Calls Tryz.prog 17 #[.string a] w (ValPost (.tuple #[.string ⟨#[]⟩, .int .i64 3]) w) := by
  have k1 : (e : Int) < (a.size : Int) := by omega
  have k2 : (e : Int) ≤ (a.size : Int) := by omega
  have k3 : (0 : Int) ≤ (e : Int) := by omega
  have k5 : (l : Int) < (a.size : Int) := by omega
  go_enter Tryz.func17, Tryz.ntmps17
  go_wp2_with fail
  refine (D1.out _).mono ?_
  rintro x w' ⟨rfl, rfl⟩
  go_wp2_with fail
  refine (D2.out _).mono ?_
  rintro x w' ⟨rfl, rfl⟩
  go_wp2
  go_ret2
  exact ⟨rfl, grown_refl _ _⟩
set_option maxRecDepth 100000 in
set_option maxHeartbeats 500000 in
theorem parse_plain_s2 (a : ByteArray) (e l : Nat) (w : World) (hm : a.size ≤ 1200) (h0 : (0 : Int) < (a.size : Int)) (hp : 0 < a.size) (h1 : (((a[0]'hp).toNat : Int) == 45) = false)
    (D1 : Hid (EndOk a 0 e)) (he : e < a.size) (q1 : ((e : Int) == (0 : Int)) = false) (hfe : 0 ≤ e) (c1 : (((a[e]'he).toNat : Int) == 47) = true) (D2 : Hid (EndOk a (e + 1) l)) (hl1 : l ≤ a.size) (hl1b : a.size ≤ l) (hl2 : l ≤ e + 1) (hl2b : e + 1 ≤ l) :
    Calls Tryz.prog 17 #[.string a] w (ValPost (.tuple #[.string ⟨#[]⟩, .int .i64 3]) w) := by
  have k1 : (e : Int) < (a.size : Int) := by omega
  have k2 : (e : Int) ≤ (a.size : Int) := by omega
  have k3 : (0 : Int) ≤ (e : Int) := by omega
  have k5 : ¬ (l : Int) < (a.size : Int) := by omega
  have k6 : (e : Int) < (l : Int) := by omega
  have k7 : ((l : Int) == (e : Int) + 1) = true := by simp; omega
  go_enter Tryz.func17, Tryz.ntmps17
  go_wp2_with fail
  refine (D1.out _).mono ?_
  rintro x w' ⟨rfl, rfl⟩
  go_wp2_with fail
  refine (D2.out _).mono ?_
  rintro x w' ⟨rfl, rfl⟩
  go_wp2
  go_ret2
  exact ⟨rfl, grown_refl _ _⟩
set_option maxRecDepth 100000 in
set_option maxHeartbeats 500000 in
theorem parse_plain_s3 (a N T B : ByteArray) (e l : Nat) (w : World) (hm : a.size ≤ 1200) (h0 : (0 : Int) < (a.size : Int)) (hp : 0 < a.size) (h1 : (((a[0]'hp).toNat : Int) == 45) = false)
    (D1 : Hid (EndOk a 0 e)) (he : e < a.size) (q1 : ((e : Int) == (0 : Int)) = false) (hfe : 0 ≤ e) (c1 : (((a[e]'he).toNat : Int) == 47) = true) (D2 : Hid (EndOk a (e + 1) l)) (hl1 : l ≤ a.size) (hl1b : a.size ≤ l) (hl2 : e + 1 < l) (eN : a.extract 0 e = N) (eT : a.extract (e + 1) l = T) (P2 : Hid (PlainOk T B)) (z : (B.toList == [48]) = true) :
    Calls Tryz.prog 17 #[.string a] w (ValPost (.tuple #[.string ⟨#[]⟩, .int .i64 3]) w) := by
  have k1 : (e : Int) < (a.size : Int) := by omega
  have k2 : (e : Int) ≤ (a.size : Int) := by omega
  have k3 : (0 : Int) ≤ (e : Int) := by omega
  have k4 : ((0 : Nat) : Int) ≤ (e : Int) := by omega
  have k5 : ¬ (l : Int) < (a.size : Int) := by omega
  have k6 : (e : Int) < (l : Int) := by omega
  have k7 : ((l : Int) == (e : Int) + 1) = false := by simp; omega
  have k8 : (0 : Int) ≤ (e : Int) + 1 := by omega
  have k9 : (e : Int) + 1 ≤ (l : Int) := by omega
  have k10 : (l : Int) ≤ (a.size : Int) := by omega
  go_enter Tryz.func17, Tryz.ntmps17
  go_wp2_with fail
  refine (D1.out _).mono ?_
  rintro x w' ⟨rfl, rfl⟩
  go_wp2_with fail
  refine (D2.out _).mono ?_
  rintro x w' ⟨rfl, rfl⟩
  go_wp2_with fail
  refine (P2.out _).mono ?_
  rintro x w' ⟨rfl, rfl⟩
  go_wp2
  go_ret2
  exact ⟨rfl, grown_refl _ _⟩
set_option maxRecDepth 100000 in
set_option maxHeartbeats 500000 in
theorem parse_plain_s4 (a N T B : ByteArray) (e l : Nat) (w : World) (hm : a.size ≤ 1200) (h0 : (0 : Int) < (a.size : Int)) (hp : 0 < a.size) (h1 : (((a[0]'hp).toNat : Int) == 45) = false)
    (D1 : Hid (EndOk a 0 e)) (he : e < a.size) (q1 : ((e : Int) == (0 : Int)) = false) (hfe : 0 ≤ e) (c1 : (((a[e]'he).toNat : Int) == 47) = true) (D2 : Hid (EndOk a (e + 1) l)) (hl1 : l ≤ a.size) (hl1b : a.size ≤ l) (hl2 : e + 1 < l) (eN : a.extract 0 e = N) (eT : a.extract (e + 1) l = T) (P2 : Hid (PlainOk T B)) (z : (B.toList == [48]) = false) (hl : (900 : Int) < (a.size : Int)) :
    Calls Tryz.prog 17 #[.string a] w (ValPost (.tuple #[.string ⟨#[]⟩, .int .i64 2]) w) := by
  have k1 : (e : Int) < (a.size : Int) := by omega
  have k2 : (e : Int) ≤ (a.size : Int) := by omega
  have k3 : (0 : Int) ≤ (e : Int) := by omega
  have k4 : ((0 : Nat) : Int) ≤ (e : Int) := by omega
  have k5 : ¬ (l : Int) < (a.size : Int) := by omega
  have k6 : (e : Int) < (l : Int) := by omega
  have k7 : ((l : Int) == (e : Int) + 1) = false := by simp; omega
  have k8 : (0 : Int) ≤ (e : Int) + 1 := by omega
  have k9 : (e : Int) + 1 ≤ (l : Int) := by omega
  have k10 : (l : Int) ≤ (a.size : Int) := by omega
  go_enter Tryz.func17, Tryz.ntmps17
  go_wp2_with fail
  refine (D1.out _).mono ?_
  rintro x w' ⟨rfl, rfl⟩
  go_wp2_with fail
  refine (D2.out _).mono ?_
  rintro x w' ⟨rfl, rfl⟩
  go_wp2_with fail
  refine (P2.out _).mono ?_
  rintro x w' ⟨rfl, rfl⟩
  go_wp2
  go_ret2
  exact ⟨rfl, grown_refl _ _⟩
set_option maxRecDepth 100000 in
set_option maxHeartbeats 500000 in
theorem parse_plain_s5 (a N T A B S : ByteArray) (e l : Nat) (w : World) (hm : a.size ≤ 1200) (h0 : (0 : Int) < (a.size : Int)) (hp : 0 < a.size) (h1 : (((a[0]'hp).toNat : Int) == 45) = false)
    (D1 : Hid (EndOk a 0 e)) (he : e < a.size) (q1 : ((e : Int) == (0 : Int)) = false) (hfe : 0 ≤ e) (c1 : (((a[e]'he).toNat : Int) == 47) = true) (D2 : Hid (EndOk a (e + 1) l)) (hl1 : l ≤ a.size) (hl1b : a.size ≤ l) (hl2 : e + 1 < l) (eN : a.extract 0 e = N) (eT : a.extract (e + 1) l = T) (P2 : Hid (PlainOk T B)) (z : (B.toList == [48]) = false) (hl : ¬ (900 : Int) < (a.size : Int)) (P1 : Hid (PlainOk N A)) (E : Int) (MK : Hid (MakeOk false A B S E)) :
    Calls Tryz.prog 17 #[.string a] w (ValPost (.tuple #[.string S, .int .i64 E]) w) := by
  have k1 : (e : Int) < (a.size : Int) := by omega
  have k2 : (e : Int) ≤ (a.size : Int) := by omega
  have k3 : (0 : Int) ≤ (e : Int) := by omega
  have k4 : ((0 : Nat) : Int) ≤ (e : Int) := by omega
  have k5 : ¬ (l : Int) < (a.size : Int) := by omega
  have k6 : (e : Int) < (l : Int) := by omega
  have k7 : ((l : Int) == (e : Int) + 1) = false := by simp; omega
  have k8 : (0 : Int) ≤ (e : Int) + 1 := by omega
  have k9 : (e : Int) + 1 ≤ (l : Int) := by omega
  have k10 : (l : Int) ≤ (a.size : Int) := by omega
  go_enter Tryz.func17, Tryz.ntmps17
  go_wp2_with fail
  refine (D1.out _).mono ?_
  rintro x w' ⟨rfl, rfl⟩
  go_wp2_with fail
  refine (D2.out _).mono ?_
  rintro x w' ⟨rfl, rfl⟩
  go_wp2_with fail
  refine (P2.out _).mono ?_
  rintro x w' ⟨rfl, rfl⟩
  go_wp2_with fail
  refine (P1.out _).mono ?_
  rintro x w' ⟨rfl, rfl⟩
  go_wp2_with fail
  refine (MK.out _).mono ?_
  rintro x w1 ⟨rfl, hg⟩
  have G1 := Lib.hid hg
  clear hg
  go_wp2
  go_ret2
  exact ⟨rfl, G1.out⟩
set_option maxRecDepth 100000 in
set_option maxHeartbeats 500000 in
theorem parse_plain_p0 (a : ByteArray) (e l : Nat) (w : World) (hm : a.size ≤ 1200) (h0 : (0 : Int) < (a.size : Int)) (hp : 0 < a.size) (h1 : (((a[0]'hp).toNat : Int) == 45) = false)
    (D1 : Hid (EndOk a 0 0)) (he : 0 < a.size)  (c1 : (((a[0]'he).toNat : Int) == 47) = false) (c2 : (((a[0]'he).toNat : Int) == 46) = true) (D2 : Hid (EndOk a (0 + 1) l)) :
    Calls Tryz.prog 17 #[.string a] w (ValPost (.tuple #[.string ⟨#[]⟩, .int .i64 3]) w) := by
  have k1 : ((0 : Nat) : Int) < (a.size : Int) := by omega
  have k2 : ((0 : Nat) : Int) ≤ (a.size : Int) := by omega
  have k3 : (0 : Int) ≤ ((0 : Nat) : Int) := by omega
  go_enter Tryz.func17, Tryz.ntmps17
  go_wp2_with fail
  refine (D1.out _).mono ?_
  rintro x w' ⟨rfl, rfl⟩
  go_wp2_with fail
  refine (D2.out _).mono ?_
  rintro x w' ⟨rfl, rfl⟩
  go_wp2
  go_ret2
  exact ⟨rfl, grown_refl _ _⟩
set_option maxRecDepth 100000 in
set_option maxHeartbeats 500000 in
theorem parse_plain_p1 (a : ByteArray) (e l : Nat) (w : World) (hm : a.size ≤ 1200) (h0 : (0 : Int) < (a.size : Int)) (hp : 0 < a.size) (h1 : (((a[0]'hp).toNat : Int) == 45) = false)
    (D1 : Hid (EndOk a 0 e)) (he : e < a.size) (q1 : ((e : Int) == (0 : Int)) = false) (hfe : 0 ≤ e) (c1 : (((a[e]'he).toNat : Int) == 47) = false) (c2 : (((a[e]'he).toNat : Int) == 46) = true) (D2 : Hid (EndOk a (e + 1) l)) (hl1 : l < a.size) :
    Calls Tryz.prog 17 #[.string a] w (ValPost (.tuple #[.string ⟨#[]⟩, .int .i64 3]) w) := by
  have k1 : (e : Int) < (a.size : Int) := by omega
  have k2 : (e : Int) ≤ (a.size : Int) := by omega
  have k3 : (0 : Int) ≤ (e : Int) := by omega
  have k5 : (l : Int) < (a.size : Int) := by omega
  go_enter Tryz.func17, Tryz.ntmps17
  go_wp2_with fail
  refine (D1.out _).mono ?_
  rintro x w' ⟨rfl, rfl⟩
  go_wp2_with fail
  refine (D2.out _).mono ?_
  rintro x w' ⟨rfl, rfl⟩
  go_wp2
  go_ret2
  exact ⟨rfl, grown_refl _ _⟩
set_option maxRecDepth 100000 in
set_option maxHeartbeats 500000 in
theorem parse_plain_p2 (a : ByteArray) (e l : Nat) (w : World) (hm : a.size ≤ 1200) (h0 : (0 : Int) < (a.size : Int)) (hp : 0 < a.size) (h1 : (((a[0]'hp).toNat : Int) == 45) = false)
    (D1 : Hid (EndOk a 0 e)) (he : e < a.size) (q1 : ((e : Int) == (0 : Int)) = false) (hfe : 0 ≤ e) (c1 : (((a[e]'he).toNat : Int) == 47) = false) (c2 : (((a[e]'he).toNat : Int) == 46) = true) (D2 : Hid (EndOk a (e + 1) l)) (hl1 : l ≤ a.size) (hl1b : a.size ≤ l) (hl2 : l ≤ e + 1) (hl2b : e + 1 ≤ l) :
    Calls Tryz.prog 17 #[.string a] w (ValPost (.tuple #[.string ⟨#[]⟩, .int .i64 3]) w) := by
  have k1 : (e : Int) < (a.size : Int) := by omega
  have k2 : (e : Int) ≤ (a.size : Int) := by omega
  have k3 : (0 : Int) ≤ (e : Int) := by omega
  have k5 : ¬ (l : Int) < (a.size : Int) := by omega
  have k6 : (e : Int) < (l : Int) := by omega
  have k7 : ((l : Int) == (e : Int) + 1) = true := by simp; omega
  go_enter Tryz.func17, Tryz.ntmps17
  go_wp2_with fail
  refine (D1.out _).mono ?_
  rintro x w' ⟨rfl, rfl⟩
  go_wp2_with fail
  refine (D2.out _).mono ?_
  rintro x w' ⟨rfl, rfl⟩
  go_wp2
  go_ret2
  exact ⟨rfl, grown_refl _ _⟩
set_option maxRecDepth 100000 in
set_option maxHeartbeats 500000 in
theorem parse_plain_p4 (a N T : ByteArray) (e l : Nat) (w : World) (hm : a.size ≤ 1200) (h0 : (0 : Int) < (a.size : Int)) (hp : 0 < a.size) (h1 : (((a[0]'hp).toNat : Int) == 45) = false)
    (D1 : Hid (EndOk a 0 e)) (he : e < a.size) (q1 : ((e : Int) == (0 : Int)) = false) (hfe : 0 ≤ e) (c1 : (((a[e]'he).toNat : Int) == 47) = false) (c2 : (((a[e]'he).toNat : Int) == 46) = true) (D2 : Hid (EndOk a (e + 1) l)) (hl1 : l ≤ a.size) (hl1b : a.size ≤ l) (hl2 : e + 1 < l) (eN : a.extract 0 e = N) (eT : a.extract (e + 1) l = T) (hl : (900 : Int) < (a.size : Int)) :
    Calls Tryz.prog 17 #[.string a] w (ValPost (.tuple #[.string ⟨#[]⟩, .int .i64 2]) w) := by
  have k1 : (e : Int) < (a.size : Int) := by omega
  have k2 : (e : Int) ≤ (a.size : Int) := by omega
  have k3 : (0 : Int) ≤ (e : Int) := by omega
  have k4 : ((0 : Nat) : Int) ≤ (e : Int) := by omega
  have k5 : ¬ (l : Int) < (a.size : Int) := by omega
  have k6 : (e : Int) < (l : Int) := by omega
  have k7 : ((l : Int) == (e : Int) + 1) = false := by simp; omega
  have k8 : (0 : Int) ≤ (e : Int) + 1 := by omega
  have k9 : (e : Int) + 1 ≤ (l : Int) := by omega
  have k10 : (l : Int) ≤ (a.size : Int) := by omega
  go_enter Tryz.func17, Tryz.ntmps17
  go_wp2_with fail
  refine (D1.out _).mono ?_
  rintro x w' ⟨rfl, rfl⟩
  go_wp2_with fail
  refine (D2.out _).mono ?_
  rintro x w' ⟨rfl, rfl⟩
  go_wp2
  go_ret2
  exact ⟨rfl, grown_refl _ _⟩
set_option maxRecDepth 100000 in
set_option maxHeartbeats 500000 in
theorem parse_plain_p5 (a N T A S : ByteArray) (e l : Nat) (w : World) (hm : a.size ≤ 1200) (h0 : (0 : Int) < (a.size : Int)) (hp : 0 < a.size) (h1 : (((a[0]'hp).toNat : Int) == 45) = false)
    (D1 : Hid (EndOk a 0 e)) (he : e < a.size) (q1 : ((e : Int) == (0 : Int)) = false) (hfe : 0 ≤ e) (c1 : (((a[e]'he).toNat : Int) == 47) = false) (c2 : (((a[e]'he).toNat : Int) == 46) = true) (D2 : Hid (EndOk a (e + 1) l)) (hl1 : l ≤ a.size) (hl1b : a.size ≤ l) (hl2 : e + 1 < l) (eN : a.extract 0 e = N) (eT : a.extract (e + 1) l = T) (hN : N.size ≤ 1200) (hT : T.size ≤ 1200) (hl : ¬ (900 : Int) < (a.size : Int)) (P1 : Hid (PlainOk (N ++ T) A)) (E : Int) (MK : Hid (MakeOk false A (zerosB (l - (e + 1))) S E)) :
    Calls Tryz.prog 17 #[.string a] w (ValPost (.tuple #[.string S, .int .i64 E]) w) := by
  have k1 : (e : Int) < (a.size : Int) := by omega
  have k2 : (e : Int) ≤ (a.size : Int) := by omega
  have k3 : (0 : Int) ≤ (e : Int) := by omega
  have k4 : ((0 : Nat) : Int) ≤ (e : Int) := by omega
  have k5 : ¬ (l : Int) < (a.size : Int) := by omega
  have k6 : (e : Int) < (l : Int) := by omega
  have k7 : ((l : Int) == (e : Int) + 1) = false := by simp; omega
  have k8 : (0 : Int) ≤ (e : Int) + 1 := by omega
  have k9 : (e : Int) + 1 ≤ (l : Int) := by omega
  have k10 : (l : Int) ≤ (a.size : Int) := by omega
  go_enter Tryz.func17, Tryz.ntmps17
  go_wp2_with fail
  refine (D1.out _).mono ?_
  rintro x w' ⟨rfl, rfl⟩
  go_wp2_with fail
  refine (D2.out _).mono ?_
  rintro x w' ⟨rfl, rfl⟩
  go_wp2
  go_loop [8, 9] (fun d i => ∃ j : Nat, i = .int .i64 j ∧ d = .string (zerosB (j - (e + 1))) ∧ e + 1 ≤ j ∧ j ≤ l) (fun _ i => l - (intOf i).toNat)
  case atStart => exact ⟨e + 1, by go_num, by rw [Nat.sub_self]; rfl, Nat.le_refl _, by omega⟩
  case round =>
    obtain ⟨j, rfl, rfl, hj1, hj2⟩ := hrel
    have hzs := zeros_size (j - (e + 1))
    by_cases hlt : (j : Int) < (l : Int)
    · have hz := zeros_step (j - (e + 1))
      have hjj : j + 1 - (e + 1) = j - (e + 1) + 1 := by omega
      generalize zerosB (j - (e + 1)) = Z at *
      have hZ : Z.size ≤ 1300 := by omega
      have HZ := Lib.hid hz
      have HJ := Lib.hid hjj
      clear hz hzs hjj
      go_wp2
      go_round
      case rel => exact ⟨j + 1, by go_num, by rw [HJ.out, ← HZ.out], by omega, by omega⟩
      case measure => simp [intOf]; omega
    · have hjl : j = l := by omega
      subst hjl
      generalize zerosB (j - (e + 1)) = Z at *
      clear hzs
      go_wp2_with fail
      refine (P1.out _).mono ?_
      rintro x w' ⟨rfl, rfl⟩
      go_wp2_with fail
      refine (MK.out _).mono ?_
      rintro x w1 ⟨rfl, hg⟩
      have G1 := Lib.hid hg
      clear hg
      go_wp2
      go_ret2
      exact ⟨rfl, G1.out⟩
end Go.Proofs.YthokjhlbbgfplaaGreatDoor
