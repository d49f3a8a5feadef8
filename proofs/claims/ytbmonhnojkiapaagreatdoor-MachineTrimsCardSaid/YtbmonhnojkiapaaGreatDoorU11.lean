/- The reference's helpers: index, short, digits, plain, times, sum. · The reference's Parts. · The reference's Parts, by contract. -/
import Derived.Test.YtbmonhnojkiapaaGreatDoorU10
import Derived.Test.YtbmonhnojkiapaaGreatDoorU07
import Derived.Test.YtbmonhnojkiapaaGreatDoorU01
set_option linter.unusedVariables false
set_option linter.unusedSimpArgs false
namespace Go.Proofs.YtbmonhnojkiapaaGreatDoor
open Go.RowKit
open Go.Lib (nDigits decDigits)

theorem list_at (s : ByteArray) (k : Nat) (hk : k < s.size) : s.data.toList[k]? = some s[k] := Lib.data_getElem? s k hk
set_option maxHeartbeats 1000000 in
theorem rindex_any (s : ByteArray) (w : World) (hs : s.size ≤ maxLen) :
    Calls Tryz.prog 144 #[.string s, .int .u8 47] w fun e w' => e = .returned (.int .i64 (Lib.indexByte s.data.toList 47)) ∧ w = w' := by
  unfold maxLen at hs
  go_enter Tryz.func144, Tryz.ntmps144
  go_wp2
  go_loop [5] (fun i => ∃ k : Nat, i = .int .i64 k ∧ k ≤ s.size ∧ Lib.NoAny s.data.toList [47] k) (fun i => s.size - (intOf i).toNat)
  case atStart => exact ⟨0, rfl, by omega, Lib.NoAny.zero _ _⟩
  case round =>
    obtain ⟨k, rfl, hk, hno⟩ := hrel
    have HNO := Lib.hid hno
    clear hno
    by_cases hlt : k < s.size
    · have hat := Lib.hid (list_at s k hlt)
      cases he : ((s[k].toNat : Int) == 47)
      · have hx : ¬ (s[k].toNat : Int) = 47 := by simpa using he
        have hc : ([47] : List UInt8).contains s[k] = false := by
          simp only [List.contains_cons, List.contains_nil, Bool.or_false, beq_eq_false_iff_ne]
          intro e; rw [e] at hx; exact hx rfl
        have HS := Lib.hid (HNO.out.succ hat.out hc)
        clear hx hc
        go_wp2
        go_round
        case rel => exact ⟨k + 1, by go_num, by omega, HS.out⟩
        case measure => simp [intOf]; omega
      · have hx : (s[k].toNat : Int) = 47 := by simpa using he
        have hc : ([47] : List UInt8).contains s[k] = true := by
          have : s[k] = 47 := UInt8.toNat_inj.1 (by have : (47 : UInt8).toNat = 47 := rfl; omega)
          rw [this]; decide
        have HS := Lib.hid (Lib.indexAny_hit HNO.out hat.out hc)
        clear hx hc
        go_wp2
        go_ret
        exact ⟨by rw [← Lib.indexAny_one, HS.out]; rfl, rfl⟩
    · have HS := Lib.hid (Lib.indexAny_none (s := s.data.toList) (chars := [47]) (by
        have e : k = s.data.toList.length := by rw [← Lib.size_eq]; omega
        rw [← e]; exact HNO.out))
      go_wp2
      go_ret
      exact ⟨by rw [← Lib.indexAny_one, HS.out]; rfl, rfl⟩

def shortB (s : ByteArray) : Bool := decide (s.size ≤ 400) && numB s
theorem short_any (s : ByteArray) (w : World) (hs : s.size ≤ maxLen) :
    Calls Tryz.prog 145 #[.string s] w fun e w' => e = .returned (.bool (shortB s)) ∧ w = w' := by
  have hv := fun w => rvalid_any s w hs
  by_cases h : s.size ≤ 400
  · have HN := Lib.hid (show shortB s = numB s by unfold shortB; simp [h])
    have h1 : (s.size : Int) ≤ 400 := by omega
    generalize numB s = b at *
    have HV := Lib.hid hv
    clear hv
    go_enter Tryz.func145, Tryz.ntmps145
    go_wp2_with fail
    refine (HV.out _).mono ?_
    rintro e w' ⟨rfl, rfl⟩
    go_wp2
    go_ret
    exact ⟨by rw [HN.out]; rfl, rfl⟩
  · have HN := Lib.hid (show shortB s = false by unfold shortB; simp [h])
    have h1 : ¬ (s.size : Int) ≤ 400 := by omega
    clear hv
    go_enter Tryz.func145, Tryz.ntmps145
    go_wp2
    go_ret
    exact ⟨by rw [HN.out]; rfl, rfl⟩

/-! ### digits, plain -/
/-! ### times, sum -/
theorem rtimes_walk (A C P : ByteArray) (w : World) (M : Hid (∀ w, Calls Tryz.prog 150 #[.string A, .string C] w (ValPost (.tuple #[.string P, .int .i64 0]) w))) :
    Calls Tryz.prog 120 #[.string A, .string C] w (ValPost (.string P) w) := by
  go_enter Tryz.func120, Tryz.ntmps120
  go_wp2_with fail
  refine (M.out _).mono ?_
  rintro e w1 ⟨rfl, hg⟩
  have G1 := Lib.hid hg
  clear hg
  go_wp2
  go_ret
  exact ⟨rfl, G1.out⟩
end Go.Proofs.YtbmonhnojkiapaaGreatDoor
set_option linter.unusedVariables false
set_option linter.unusedSimpArgs false
namespace Go.Proofs.YtbmonhnojkiapaaGreatDoor
open Go.RowKit
open Go.Lib (nDigits decDigits)

def IdxOk (R : ByteArray) (z : Int) : Prop := ∀ w, Calls Tryz.prog 144 #[.string R, .int .u8 47] w fun e w' => e = .returned (.int .i64 z) ∧ w = w'
def ShOk (s : ByteArray) (b : Bool) : Prop := ∀ w, Calls Tryz.prog 145 #[.string s] w fun e w' => e = .returned (.bool b) ∧ w = w'
def GcOk (n d G : ByteArray) : Prop := ∀ w, Calls Tryz.prog 146 #[.string n, .string d] w (ValPost (.tuple #[.string G, .int .i64 0]) w)

set_option maxRecDepth 100000 in
set_option maxHeartbeats 1000000 in
theorem parts_empty_n0 (a R G : ByteArray) (w : World) (h0 : ¬ (0 : Int) < (a.size : Int)) (eR : a = R)
    (IX : Hid (IdxOk R (-1))) (S1 : Hid (ShOk R false)) :
    Calls Tryz.prog 118 #[.string a] w (ValPost (.tuple #[.bool false, .string ⟨#[]⟩, .string ⟨#[]⟩, .bool false]) w) := by
  subst eR
  go_enter Tryz.func118, Tryz.ntmps118
  go_wp2_with fail
  refine (IX.out _).mono ?_
  rintro e w' ⟨rfl, rfl⟩
  go_wp2_with fail
  refine (S1.out _).mono ?_
  rintro e w' ⟨rfl, rfl⟩
  go_wp2
  exact bodyPost_ret (v := .tuple #[.bool _, .string _, .string _, .bool _]) (by simp [results, Tryz.results118, go_sem]) rfl ⟨rfl, grown_refl _ _⟩
set_option maxRecDepth 100000 in
set_option maxHeartbeats 1000000 in
theorem parts_plain_n0 (a R G : ByteArray) (w : World) (h0 : (0 : Int) < (a.size : Int)) (hp : 0 < a.size) (h1 : (((a[0]'hp).toNat : Int) == 45) = false) (eR : a = R)
    (IX : Hid (IdxOk R (-1))) (S1 : Hid (ShOk R false)) :
    Calls Tryz.prog 118 #[.string a] w (ValPost (.tuple #[.bool false, .string ⟨#[]⟩, .string ⟨#[]⟩, .bool false]) w) := by
  subst eR
  go_enter Tryz.func118, Tryz.ntmps118
  go_wp2_with fail
  refine (IX.out _).mono ?_
  rintro e w' ⟨rfl, rfl⟩
  go_wp2_with fail
  refine (S1.out _).mono ?_
  rintro e w' ⟨rfl, rfl⟩
  go_wp2
  exact bodyPost_ret (v := .tuple #[.bool _, .string _, .string _, .bool _]) (by simp [results, Tryz.results118, go_sem]) rfl ⟨rfl, grown_refl _ _⟩
set_option maxRecDepth 100000 in
set_option maxHeartbeats 1000000 in
theorem parts_minus_n0 (a R G : ByteArray) (w : World) (h0 : (0 : Int) < (a.size : Int)) (hp : 0 < a.size) (h1 : (((a[0]'hp).toNat : Int) == 45) = true) (hle : (1 : Int) ≤ (a.size : Int)) (eR : a.extract 1 a.size = R)
    (IX : Hid (IdxOk R (-1))) (S1 : Hid (ShOk R false)) :
    Calls Tryz.prog 118 #[.string a] w (ValPost (.tuple #[.bool false, .string ⟨#[]⟩, .string ⟨#[]⟩, .bool false]) w) := by
  go_enter Tryz.func118, Tryz.ntmps118
  go_wp2_with fail
  refine (IX.out _).mono ?_
  rintro e w' ⟨rfl, rfl⟩
  go_wp2_with fail
  refine (S1.out _).mono ?_
  rintro e w' ⟨rfl, rfl⟩
  go_wp2
  exact bodyPost_ret (v := .tuple #[.bool _, .string _, .string _, .bool _]) (by simp [results, Tryz.results118, go_sem]) rfl ⟨rfl, grown_refl _ _⟩
set_option maxRecDepth 100000 in
set_option maxHeartbeats 1000000 in
theorem parts_plain_okt (a R G : ByteArray) (w : World) (h0 : (0 : Int) < (a.size : Int)) (hp : 0 < a.size) (h1 : (((a[0]'hp).toNat : Int) == 45) = false) (eR : a = R)
    (IX : Hid (IdxOk R (-1))) (S1 : Hid (ShOk R true)) (S2 : Hid (ShOk ⟨#[49]⟩ true)) (z1 : (R.toList == [48]) = true) (GC : Hid (GcOk R ⟨#[49]⟩ G)) (q1 : (G.toList == [49]) = true) (q2 : (G.toList != [49]) = false) :
    Calls Tryz.prog 118 #[.string a] w (ValPost (.tuple #[.bool false, .string R, .string ⟨#[49]⟩, .bool true]) w) := by
  subst eR
  go_enter Tryz.func118, Tryz.ntmps118
  go_wp2_with fail
  refine (IX.out _).mono ?_
  rintro e w' ⟨rfl, rfl⟩
  go_wp2_with fail
  refine (S1.out _).mono ?_
  rintro e w' ⟨rfl, rfl⟩
  go_wp2_with fail
  refine (S2.out _).mono ?_
  rintro e w' ⟨rfl, rfl⟩
  go_wp2_with fail
  refine (GC.out _).mono ?_
  rintro e w1 ⟨rfl, hg⟩
  have G1 := Lib.hid hg
  clear hg
  go_wp2
  exact bodyPost_ret (v := .tuple #[.bool _, .string _, .string _, .bool _]) (by simp [results, Tryz.results118, go_sem]) rfl ⟨rfl, G1.out⟩
set_option maxRecDepth 100000 in
set_option maxHeartbeats 1000000 in
theorem parts_plain_okf (a R G : ByteArray) (w : World) (h0 : (0 : Int) < (a.size : Int)) (hp : 0 < a.size) (h1 : (((a[0]'hp).toNat : Int) == 45) = false) (eR : a = R)
    (IX : Hid (IdxOk R (-1))) (S1 : Hid (ShOk R true)) (S2 : Hid (ShOk ⟨#[49]⟩ true)) (z1 : (R.toList == [48]) = false) (GC : Hid (GcOk R ⟨#[49]⟩ G)) (q1 : (G.toList == [49]) = true) (q2 : (G.toList != [49]) = false) :
    Calls Tryz.prog 118 #[.string a] w (ValPost (.tuple #[.bool false, .string R, .string ⟨#[49]⟩, .bool true]) w) := by
  subst eR
  go_enter Tryz.func118, Tryz.ntmps118
  go_wp2_with fail
  refine (IX.out _).mono ?_
  rintro e w' ⟨rfl, rfl⟩
  go_wp2_with fail
  refine (S1.out _).mono ?_
  rintro e w' ⟨rfl, rfl⟩
  go_wp2_with fail
  refine (S2.out _).mono ?_
  rintro e w' ⟨rfl, rfl⟩
  go_wp2_with fail
  refine (GC.out _).mono ?_
  rintro e w1 ⟨rfl, hg⟩
  have G1 := Lib.hid hg
  clear hg
  go_wp2
  exact bodyPost_ret (v := .tuple #[.bool _, .string _, .string _, .bool _]) (by simp [results, Tryz.results118, go_sem]) rfl ⟨rfl, G1.out⟩
set_option maxRecDepth 100000 in
set_option maxHeartbeats 1000000 in
theorem parts_minus_nz (a R G : ByteArray) (w : World) (h0 : (0 : Int) < (a.size : Int)) (hp : 0 < a.size) (h1 : (((a[0]'hp).toNat : Int) == 45) = true) (hle : (1 : Int) ≤ (a.size : Int)) (eR : a.extract 1 a.size = R)
    (IX : Hid (IdxOk R (-1))) (S1 : Hid (ShOk R true)) (S2 : Hid (ShOk ⟨#[49]⟩ true)) (z1 : (R.toList == [48]) = true) :
    Calls Tryz.prog 118 #[.string a] w (ValPost (.tuple #[.bool false, .string ⟨#[]⟩, .string ⟨#[]⟩, .bool false]) w) := by
  go_enter Tryz.func118, Tryz.ntmps118
  go_wp2_with fail
  refine (IX.out _).mono ?_
  rintro e w' ⟨rfl, rfl⟩
  go_wp2_with fail
  refine (S1.out _).mono ?_
  rintro e w' ⟨rfl, rfl⟩
  go_wp2_with fail
  refine (S2.out _).mono ?_
  rintro e w' ⟨rfl, rfl⟩
  go_wp2
  exact bodyPost_ret (v := .tuple #[.bool _, .string _, .string _, .bool _]) (by simp [results, Tryz.results118, go_sem]) rfl ⟨rfl, grown_refl _ _⟩
set_option maxRecDepth 100000 in
set_option maxHeartbeats 1000000 in
theorem parts_minus_okf (a R G : ByteArray) (w : World) (h0 : (0 : Int) < (a.size : Int)) (hp : 0 < a.size) (h1 : (((a[0]'hp).toNat : Int) == 45) = true) (hle : (1 : Int) ≤ (a.size : Int)) (eR : a.extract 1 a.size = R)
    (IX : Hid (IdxOk R (-1))) (S1 : Hid (ShOk R true)) (S2 : Hid (ShOk ⟨#[49]⟩ true)) (z1 : (R.toList == [48]) = false) (GC : Hid (GcOk R ⟨#[49]⟩ G)) (q1 : (G.toList == [49]) = true) (q2 : (G.toList != [49]) = false) :
    Calls Tryz.prog 118 #[.string a] w (ValPost (.tuple #[.bool true, .string R, .string ⟨#[49]⟩, .bool true]) w) := by
  go_enter Tryz.func118, Tryz.ntmps118
  go_wp2_with fail
  refine (IX.out _).mono ?_
  rintro e w' ⟨rfl, rfl⟩
  go_wp2_with fail
  refine (S1.out _).mono ?_
  rintro e w' ⟨rfl, rfl⟩
  go_wp2_with fail
  refine (S2.out _).mono ?_
  rintro e w' ⟨rfl, rfl⟩
  go_wp2_with fail
  refine (GC.out _).mono ?_
  rintro e w1 ⟨rfl, hg⟩
  have G1 := Lib.hid hg
  clear hg
  go_wp2
  exact bodyPost_ret (v := .tuple #[.bool _, .string _, .string _, .bool _]) (by simp [results, Tryz.results118, go_sem]) rfl ⟨rfl, G1.out⟩
set_option maxRecDepth 100000 in
set_option maxHeartbeats 1000000 in
theorem parts_plain_s0 (a R n d G : ByteArray) (i : Nat) (w : World) (h0 : (0 : Int) < (a.size : Int)) (hp : 0 < a.size) (h1 : (((a[0]'hp).toNat : Int) == 45) = false) (eR : a = R)
    (hi : i < R.size) (hR : R.size ≤ 9223372036854775807) (IX : Hid (IdxOk R i)) (eN : R.extract 0 i = n) (eD : R.extract (i + 1) R.size = d) (S1 : Hid (ShOk n false)) :
    Calls Tryz.prog 118 #[.string a] w (ValPost (.tuple #[.bool false, .string ⟨#[]⟩, .string ⟨#[]⟩, .bool false]) w) := by
  have c1 : (0 : Int) ≤ (i : Int) := by omega
  have c2 : (i : Int) ≤ (R.size : Int) := by omega
  have c3 : (0 : Int) ≤ (i : Int) + 1 := by omega
  have c4 : (i : Int) + 1 ≤ (R.size : Int) := by omega
  subst eR
  go_enter Tryz.func118, Tryz.ntmps118
  go_wp2_with fail
  refine (IX.out _).mono ?_
  rintro e w' ⟨rfl, rfl⟩
  go_wp2_with fail
  refine (S1.out _).mono ?_
  rintro e w' ⟨rfl, rfl⟩
  go_wp2
  exact bodyPost_ret (v := .tuple #[.bool _, .string _, .string _, .bool _]) (by simp [results, Tryz.results118, go_sem]) rfl ⟨rfl, grown_refl _ _⟩
set_option maxRecDepth 100000 in
set_option maxHeartbeats 1000000 in
theorem parts_plain_s1 (a R n d G : ByteArray) (i : Nat) (w : World) (h0 : (0 : Int) < (a.size : Int)) (hp : 0 < a.size) (h1 : (((a[0]'hp).toNat : Int) == 45) = false) (eR : a = R)
    (hi : i < R.size) (hR : R.size ≤ 9223372036854775807) (IX : Hid (IdxOk R i)) (eN : R.extract 0 i = n) (eD : R.extract (i + 1) R.size = d) (S1 : Hid (ShOk n true)) (S2 : Hid (ShOk d false)) :
    Calls Tryz.prog 118 #[.string a] w (ValPost (.tuple #[.bool false, .string ⟨#[]⟩, .string ⟨#[]⟩, .bool false]) w) := by
  have c1 : (0 : Int) ≤ (i : Int) := by omega
  have c2 : (i : Int) ≤ (R.size : Int) := by omega
  have c3 : (0 : Int) ≤ (i : Int) + 1 := by omega
  have c4 : (i : Int) + 1 ≤ (R.size : Int) := by omega
  subst eR
  go_enter Tryz.func118, Tryz.ntmps118
  go_wp2_with fail
  refine (IX.out _).mono ?_
  rintro e w' ⟨rfl, rfl⟩
  go_wp2_with fail
  refine (S1.out _).mono ?_
  rintro e w' ⟨rfl, rfl⟩
  go_wp2_with fail
  refine (S2.out _).mono ?_
  rintro e w' ⟨rfl, rfl⟩
  go_wp2
  exact bodyPost_ret (v := .tuple #[.bool _, .string _, .string _, .bool _]) (by simp [results, Tryz.results118, go_sem]) rfl ⟨rfl, grown_refl _ _⟩
set_option maxRecDepth 100000 in
set_option maxHeartbeats 1000000 in
theorem parts_plain_s2 (a R n d G : ByteArray) (i : Nat) (w : World) (h0 : (0 : Int) < (a.size : Int)) (hp : 0 < a.size) (h1 : (((a[0]'hp).toNat : Int) == 45) = false) (eR : a = R)
    (hi : i < R.size) (hR : R.size ≤ 9223372036854775807) (IX : Hid (IdxOk R i)) (eN : R.extract 0 i = n) (eD : R.extract (i + 1) R.size = d) (S1 : Hid (ShOk n true)) (S2 : Hid (ShOk d true)) (z2 : (d.toList == [48]) = true) :
    Calls Tryz.prog 118 #[.string a] w (ValPost (.tuple #[.bool false, .string ⟨#[]⟩, .string ⟨#[]⟩, .bool false]) w) := by
  have c1 : (0 : Int) ≤ (i : Int) := by omega
  have c2 : (i : Int) ≤ (R.size : Int) := by omega
  have c3 : (0 : Int) ≤ (i : Int) + 1 := by omega
  have c4 : (i : Int) + 1 ≤ (R.size : Int) := by omega
  subst eR
  go_enter Tryz.func118, Tryz.ntmps118
  go_wp2_with fail
  refine (IX.out _).mono ?_
  rintro e w' ⟨rfl, rfl⟩
  go_wp2_with fail
  refine (S1.out _).mono ?_
  rintro e w' ⟨rfl, rfl⟩
  go_wp2_with fail
  refine (S2.out _).mono ?_
  rintro e w' ⟨rfl, rfl⟩
  go_wp2
  exact bodyPost_ret (v := .tuple #[.bool _, .string _, .string _, .bool _]) (by simp [results, Tryz.results118, go_sem]) rfl ⟨rfl, grown_refl _ _⟩
set_option maxRecDepth 100000 in
set_option maxHeartbeats 1000000 in
theorem parts_plain_s3 (a R n d G : ByteArray) (i : Nat) (w : World) (h0 : (0 : Int) < (a.size : Int)) (hp : 0 < a.size) (h1 : (((a[0]'hp).toNat : Int) == 45) = false) (eR : a = R)
    (hi : i < R.size) (hR : R.size ≤ 9223372036854775807) (IX : Hid (IdxOk R i)) (eN : R.extract 0 i = n) (eD : R.extract (i + 1) R.size = d) (S1 : Hid (ShOk n true)) (S2 : Hid (ShOk d true)) (z2 : (d.toList == [48]) = false) (z1 : (n.toList == [48]) = true) :
    Calls Tryz.prog 118 #[.string a] w (ValPost (.tuple #[.bool false, .string ⟨#[]⟩, .string ⟨#[]⟩, .bool false]) w) := by
  have c1 : (0 : Int) ≤ (i : Int) := by omega
  have c2 : (i : Int) ≤ (R.size : Int) := by omega
  have c3 : (0 : Int) ≤ (i : Int) + 1 := by omega
  have c4 : (i : Int) + 1 ≤ (R.size : Int) := by omega
  subst eR
  go_enter Tryz.func118, Tryz.ntmps118
  go_wp2_with fail
  refine (IX.out _).mono ?_
  rintro e w' ⟨rfl, rfl⟩
  go_wp2_with fail
  refine (S1.out _).mono ?_
  rintro e w' ⟨rfl, rfl⟩
  go_wp2_with fail
  refine (S2.out _).mono ?_
  rintro e w' ⟨rfl, rfl⟩
  go_wp2
  exact bodyPost_ret (v := .tuple #[.bool _, .string _, .string _, .bool _]) (by simp [results, Tryz.results118, go_sem]) rfl ⟨rfl, grown_refl _ _⟩
set_option maxRecDepth 100000 in
set_option maxHeartbeats 1000000 in
theorem parts_plain_s4 (a R n d G : ByteArray) (i : Nat) (w : World) (h0 : (0 : Int) < (a.size : Int)) (hp : 0 < a.size) (h1 : (((a[0]'hp).toNat : Int) == 45) = false) (eR : a = R)
    (hi : i < R.size) (hR : R.size ≤ 9223372036854775807) (IX : Hid (IdxOk R i)) (eN : R.extract 0 i = n) (eD : R.extract (i + 1) R.size = d) (S1 : Hid (ShOk n true)) (S2 : Hid (ShOk d true)) (z2 : (d.toList == [48]) = false) (z1 : (n.toList == [48]) = false) (o2 : (d.toList == [49]) = true) :
    Calls Tryz.prog 118 #[.string a] w (ValPost (.tuple #[.bool false, .string ⟨#[]⟩, .string ⟨#[]⟩, .bool false]) w) := by
  have c1 : (0 : Int) ≤ (i : Int) := by omega
  have c2 : (i : Int) ≤ (R.size : Int) := by omega
  have c3 : (0 : Int) ≤ (i : Int) + 1 := by omega
  have c4 : (i : Int) + 1 ≤ (R.size : Int) := by omega
  subst eR
  go_enter Tryz.func118, Tryz.ntmps118
  go_wp2_with fail
  refine (IX.out _).mono ?_
  rintro e w' ⟨rfl, rfl⟩
  go_wp2_with fail
  refine (S1.out _).mono ?_
  rintro e w' ⟨rfl, rfl⟩
  go_wp2_with fail
  refine (S2.out _).mono ?_
  rintro e w' ⟨rfl, rfl⟩
  go_wp2
  exact bodyPost_ret (v := .tuple #[.bool _, .string _, .string _, .bool _]) (by simp [results, Tryz.results118, go_sem]) rfl ⟨rfl, grown_refl _ _⟩
set_option maxRecDepth 100000 in
set_option maxHeartbeats 1000000 in
theorem parts_plain_s5 (a R n d G : ByteArray) (i : Nat) (w : World) (h0 : (0 : Int) < (a.size : Int)) (hp : 0 < a.size) (h1 : (((a[0]'hp).toNat : Int) == 45) = false) (eR : a = R)
    (hi : i < R.size) (hR : R.size ≤ 9223372036854775807) (IX : Hid (IdxOk R i)) (eN : R.extract 0 i = n) (eD : R.extract (i + 1) R.size = d) (S1 : Hid (ShOk n true)) (S2 : Hid (ShOk d true)) (z2 : (d.toList == [48]) = false) (z1 : (n.toList == [48]) = false) (o2 : (d.toList == [49]) = false) (o3 : (d.toList != [49]) = true) (GC : Hid (GcOk n d G)) (q1 : (G.toList == [49]) = false) (q2 : (G.toList != [49]) = true) :
    Calls Tryz.prog 118 #[.string a] w (ValPost (.tuple #[.bool false, .string ⟨#[]⟩, .string ⟨#[]⟩, .bool false]) w) := by
  have c1 : (0 : Int) ≤ (i : Int) := by omega
  have c2 : (i : Int) ≤ (R.size : Int) := by omega
  have c3 : (0 : Int) ≤ (i : Int) + 1 := by omega
  have c4 : (i : Int) + 1 ≤ (R.size : Int) := by omega
  subst eR
  go_enter Tryz.func118, Tryz.ntmps118
  go_wp2_with fail
  refine (IX.out _).mono ?_
  rintro e w' ⟨rfl, rfl⟩
  go_wp2_with fail
  refine (S1.out _).mono ?_
  rintro e w' ⟨rfl, rfl⟩
  go_wp2_with fail
  refine (S2.out _).mono ?_
  rintro e w' ⟨rfl, rfl⟩
  go_wp2_with fail
  refine (GC.out _).mono ?_
  rintro e w1 ⟨rfl, hg⟩
  have G1 := Lib.hid hg
  clear hg
  go_wp2
  exact bodyPost_ret (v := .tuple #[.bool _, .string _, .string _, .bool _]) (by simp [results, Tryz.results118, go_sem]) rfl ⟨rfl, G1.out⟩
set_option maxRecDepth 100000 in
set_option maxHeartbeats 1000000 in
theorem parts_plain_s6 (a R n d G : ByteArray) (i : Nat) (w : World) (h0 : (0 : Int) < (a.size : Int)) (hp : 0 < a.size) (h1 : (((a[0]'hp).toNat : Int) == 45) = false) (eR : a = R)
    (hi : i < R.size) (hR : R.size ≤ 9223372036854775807) (IX : Hid (IdxOk R i)) (eN : R.extract 0 i = n) (eD : R.extract (i + 1) R.size = d) (S1 : Hid (ShOk n true)) (S2 : Hid (ShOk d true)) (z2 : (d.toList == [48]) = false) (z1 : (n.toList == [48]) = false) (o2 : (d.toList == [49]) = false) (o3 : (d.toList != [49]) = true) (GC : Hid (GcOk n d G)) (q1 : (G.toList == [49]) = true) (q2 : (G.toList != [49]) = false) :
    Calls Tryz.prog 118 #[.string a] w (ValPost (.tuple #[.bool false, .string n, .string d, .bool true]) w) := by
  have c1 : (0 : Int) ≤ (i : Int) := by omega
  have c2 : (i : Int) ≤ (R.size : Int) := by omega
  have c3 : (0 : Int) ≤ (i : Int) + 1 := by omega
  have c4 : (i : Int) + 1 ≤ (R.size : Int) := by omega
  subst eR
  go_enter Tryz.func118, Tryz.ntmps118
  go_wp2_with fail
  refine (IX.out _).mono ?_
  rintro e w' ⟨rfl, rfl⟩
  go_wp2_with fail
  refine (S1.out _).mono ?_
  rintro e w' ⟨rfl, rfl⟩
  go_wp2_with fail
  refine (S2.out _).mono ?_
  rintro e w' ⟨rfl, rfl⟩
  go_wp2_with fail
  refine (GC.out _).mono ?_
  rintro e w1 ⟨rfl, hg⟩
  have G1 := Lib.hid hg
  clear hg
  go_wp2
  exact bodyPost_ret (v := .tuple #[.bool _, .string _, .string _, .bool _]) (by simp [results, Tryz.results118, go_sem]) rfl ⟨rfl, G1.out⟩
set_option maxRecDepth 100000 in
set_option maxHeartbeats 1000000 in
theorem parts_minus_s0 (a R n d G : ByteArray) (i : Nat) (w : World) (h0 : (0 : Int) < (a.size : Int)) (hp : 0 < a.size) (h1 : (((a[0]'hp).toNat : Int) == 45) = true) (hle : (1 : Int) ≤ (a.size : Int)) (eR : a.extract 1 a.size = R)
    (hi : i < R.size) (hR : R.size ≤ 9223372036854775807) (IX : Hid (IdxOk R i)) (eN : R.extract 0 i = n) (eD : R.extract (i + 1) R.size = d) (S1 : Hid (ShOk n false)) :
    Calls Tryz.prog 118 #[.string a] w (ValPost (.tuple #[.bool false, .string ⟨#[]⟩, .string ⟨#[]⟩, .bool false]) w) := by
  have c1 : (0 : Int) ≤ (i : Int) := by omega
  have c2 : (i : Int) ≤ (R.size : Int) := by omega
  have c3 : (0 : Int) ≤ (i : Int) + 1 := by omega
  have c4 : (i : Int) + 1 ≤ (R.size : Int) := by omega
  go_enter Tryz.func118, Tryz.ntmps118
  go_wp2_with fail
  refine (IX.out _).mono ?_
  rintro e w' ⟨rfl, rfl⟩
  go_wp2_with fail
  refine (S1.out _).mono ?_
  rintro e w' ⟨rfl, rfl⟩
  go_wp2
  exact bodyPost_ret (v := .tuple #[.bool _, .string _, .string _, .bool _]) (by simp [results, Tryz.results118, go_sem]) rfl ⟨rfl, grown_refl _ _⟩
set_option maxRecDepth 100000 in
set_option maxHeartbeats 1000000 in
theorem parts_minus_s1 (a R n d G : ByteArray) (i : Nat) (w : World) (h0 : (0 : Int) < (a.size : Int)) (hp : 0 < a.size) (h1 : (((a[0]'hp).toNat : Int) == 45) = true) (hle : (1 : Int) ≤ (a.size : Int)) (eR : a.extract 1 a.size = R)
    (hi : i < R.size) (hR : R.size ≤ 9223372036854775807) (IX : Hid (IdxOk R i)) (eN : R.extract 0 i = n) (eD : R.extract (i + 1) R.size = d) (S1 : Hid (ShOk n true)) (S2 : Hid (ShOk d false)) :
    Calls Tryz.prog 118 #[.string a] w (ValPost (.tuple #[.bool false, .string ⟨#[]⟩, .string ⟨#[]⟩, .bool false]) w) := by
  have c1 : (0 : Int) ≤ (i : Int) := by omega
  have c2 : (i : Int) ≤ (R.size : Int) := by omega
  have c3 : (0 : Int) ≤ (i : Int) + 1 := by omega
  have c4 : (i : Int) + 1 ≤ (R.size : Int) := by omega
  go_enter Tryz.func118, Tryz.ntmps118
  go_wp2_with fail
  refine (IX.out _).mono ?_
  rintro e w' ⟨rfl, rfl⟩
  go_wp2_with fail
  refine (S1.out _).mono ?_
  rintro e w' ⟨rfl, rfl⟩
  go_wp2_with fail
  refine (S2.out _).mono ?_
  rintro e w' ⟨rfl, rfl⟩
  go_wp2
  exact bodyPost_ret (v := .tuple #[.bool _, .string _, .string _, .bool _]) (by simp [results, Tryz.results118, go_sem]) rfl ⟨rfl, grown_refl _ _⟩
set_option maxRecDepth 100000 in
set_option maxHeartbeats 1000000 in
theorem parts_minus_s2 (a R n d G : ByteArray) (i : Nat) (w : World) (h0 : (0 : Int) < (a.size : Int)) (hp : 0 < a.size) (h1 : (((a[0]'hp).toNat : Int) == 45) = true) (hle : (1 : Int) ≤ (a.size : Int)) (eR : a.extract 1 a.size = R)
    (hi : i < R.size) (hR : R.size ≤ 9223372036854775807) (IX : Hid (IdxOk R i)) (eN : R.extract 0 i = n) (eD : R.extract (i + 1) R.size = d) (S1 : Hid (ShOk n true)) (S2 : Hid (ShOk d true)) (z2 : (d.toList == [48]) = true) :
    Calls Tryz.prog 118 #[.string a] w (ValPost (.tuple #[.bool false, .string ⟨#[]⟩, .string ⟨#[]⟩, .bool false]) w) := by
  have c1 : (0 : Int) ≤ (i : Int) := by omega
  have c2 : (i : Int) ≤ (R.size : Int) := by omega
  have c3 : (0 : Int) ≤ (i : Int) + 1 := by omega
  have c4 : (i : Int) + 1 ≤ (R.size : Int) := by omega
  go_enter Tryz.func118, Tryz.ntmps118
  go_wp2_with fail
  refine (IX.out _).mono ?_
  rintro e w' ⟨rfl, rfl⟩
  go_wp2_with fail
  refine (S1.out _).mono ?_
  rintro e w' ⟨rfl, rfl⟩
  go_wp2_with fail
  refine (S2.out _).mono ?_
  rintro e w' ⟨rfl, rfl⟩
  go_wp2
  exact bodyPost_ret (v := .tuple #[.bool _, .string _, .string _, .bool _]) (by simp [results, Tryz.results118, go_sem]) rfl ⟨rfl, grown_refl _ _⟩
set_option maxRecDepth 100000 in
set_option maxHeartbeats 1000000 in
theorem parts_minus_s3 (a R n d G : ByteArray) (i : Nat) (w : World) (h0 : (0 : Int) < (a.size : Int)) (hp : 0 < a.size) (h1 : (((a[0]'hp).toNat : Int) == 45) = true) (hle : (1 : Int) ≤ (a.size : Int)) (eR : a.extract 1 a.size = R)
    (hi : i < R.size) (hR : R.size ≤ 9223372036854775807) (IX : Hid (IdxOk R i)) (eN : R.extract 0 i = n) (eD : R.extract (i + 1) R.size = d) (S1 : Hid (ShOk n true)) (S2 : Hid (ShOk d true)) (z2 : (d.toList == [48]) = false) (z1 : (n.toList == [48]) = true) :
    Calls Tryz.prog 118 #[.string a] w (ValPost (.tuple #[.bool false, .string ⟨#[]⟩, .string ⟨#[]⟩, .bool false]) w) := by
  have c1 : (0 : Int) ≤ (i : Int) := by omega
  have c2 : (i : Int) ≤ (R.size : Int) := by omega
  have c3 : (0 : Int) ≤ (i : Int) + 1 := by omega
  have c4 : (i : Int) + 1 ≤ (R.size : Int) := by omega
  go_enter Tryz.func118, Tryz.ntmps118
  go_wp2_with fail
  refine (IX.out _).mono ?_
  rintro e w' ⟨rfl, rfl⟩
  go_wp2_with fail
  refine (S1.out _).mono ?_
  rintro e w' ⟨rfl, rfl⟩
  go_wp2_with fail
  refine (S2.out _).mono ?_
  rintro e w' ⟨rfl, rfl⟩
  go_wp2
  exact bodyPost_ret (v := .tuple #[.bool _, .string _, .string _, .bool _]) (by simp [results, Tryz.results118, go_sem]) rfl ⟨rfl, grown_refl _ _⟩
set_option maxRecDepth 100000 in
set_option maxHeartbeats 1000000 in
theorem parts_minus_s4 (a R n d G : ByteArray) (i : Nat) (w : World) (h0 : (0 : Int) < (a.size : Int)) (hp : 0 < a.size) (h1 : (((a[0]'hp).toNat : Int) == 45) = true) (hle : (1 : Int) ≤ (a.size : Int)) (eR : a.extract 1 a.size = R)
    (hi : i < R.size) (hR : R.size ≤ 9223372036854775807) (IX : Hid (IdxOk R i)) (eN : R.extract 0 i = n) (eD : R.extract (i + 1) R.size = d) (S1 : Hid (ShOk n true)) (S2 : Hid (ShOk d true)) (z2 : (d.toList == [48]) = false) (z1 : (n.toList == [48]) = false) (o2 : (d.toList == [49]) = true) :
    Calls Tryz.prog 118 #[.string a] w (ValPost (.tuple #[.bool false, .string ⟨#[]⟩, .string ⟨#[]⟩, .bool false]) w) := by
  have c1 : (0 : Int) ≤ (i : Int) := by omega
  have c2 : (i : Int) ≤ (R.size : Int) := by omega
  have c3 : (0 : Int) ≤ (i : Int) + 1 := by omega
  have c4 : (i : Int) + 1 ≤ (R.size : Int) := by omega
  go_enter Tryz.func118, Tryz.ntmps118
  go_wp2_with fail
  refine (IX.out _).mono ?_
  rintro e w' ⟨rfl, rfl⟩
  go_wp2_with fail
  refine (S1.out _).mono ?_
  rintro e w' ⟨rfl, rfl⟩
  go_wp2_with fail
  refine (S2.out _).mono ?_
  rintro e w' ⟨rfl, rfl⟩
  go_wp2
  exact bodyPost_ret (v := .tuple #[.bool _, .string _, .string _, .bool _]) (by simp [results, Tryz.results118, go_sem]) rfl ⟨rfl, grown_refl _ _⟩
set_option maxRecDepth 100000 in
set_option maxHeartbeats 1000000 in
theorem parts_minus_s5 (a R n d G : ByteArray) (i : Nat) (w : World) (h0 : (0 : Int) < (a.size : Int)) (hp : 0 < a.size) (h1 : (((a[0]'hp).toNat : Int) == 45) = true) (hle : (1 : Int) ≤ (a.size : Int)) (eR : a.extract 1 a.size = R)
    (hi : i < R.size) (hR : R.size ≤ 9223372036854775807) (IX : Hid (IdxOk R i)) (eN : R.extract 0 i = n) (eD : R.extract (i + 1) R.size = d) (S1 : Hid (ShOk n true)) (S2 : Hid (ShOk d true)) (z2 : (d.toList == [48]) = false) (z1 : (n.toList == [48]) = false) (o2 : (d.toList == [49]) = false) (o3 : (d.toList != [49]) = true) (GC : Hid (GcOk n d G)) (q1 : (G.toList == [49]) = false) (q2 : (G.toList != [49]) = true) :
    Calls Tryz.prog 118 #[.string a] w (ValPost (.tuple #[.bool false, .string ⟨#[]⟩, .string ⟨#[]⟩, .bool false]) w) := by
  have c1 : (0 : Int) ≤ (i : Int) := by omega
  have c2 : (i : Int) ≤ (R.size : Int) := by omega
  have c3 : (0 : Int) ≤ (i : Int) + 1 := by omega
  have c4 : (i : Int) + 1 ≤ (R.size : Int) := by omega
  go_enter Tryz.func118, Tryz.ntmps118
  go_wp2_with fail
  refine (IX.out _).mono ?_
  rintro e w' ⟨rfl, rfl⟩
  go_wp2_with fail
  refine (S1.out _).mono ?_
  rintro e w' ⟨rfl, rfl⟩
  go_wp2_with fail
  refine (S2.out _).mono ?_
  rintro e w' ⟨rfl, rfl⟩
  go_wp2_with fail
  refine (GC.out _).mono ?_
  rintro e w1 ⟨rfl, hg⟩
  have G1 := Lib.hid hg
  clear hg
  go_wp2
  exact bodyPost_ret (v := .tuple #[.bool _, .string _, .string _, .bool _]) (by simp [results, Tryz.results118, go_sem]) rfl ⟨rfl, G1.out⟩
set_option maxRecDepth 100000 in
set_option maxHeartbeats 1000000 in
theorem parts_minus_s6 (a R n d G : ByteArray) (i : Nat) (w : World) (h0 : (0 : Int) < (a.size : Int)) (hp : 0 < a.size) (h1 : (((a[0]'hp).toNat : Int) == 45) = true) (hle : (1 : Int) ≤ (a.size : Int)) (eR : a.extract 1 a.size = R)
    (hi : i < R.size) (hR : R.size ≤ 9223372036854775807) (IX : Hid (IdxOk R i)) (eN : R.extract 0 i = n) (eD : R.extract (i + 1) R.size = d) (S1 : Hid (ShOk n true)) (S2 : Hid (ShOk d true)) (z2 : (d.toList == [48]) = false) (z1 : (n.toList == [48]) = false) (o2 : (d.toList == [49]) = false) (o3 : (d.toList != [49]) = true) (GC : Hid (GcOk n d G)) (q1 : (G.toList == [49]) = true) (q2 : (G.toList != [49]) = false) :
    Calls Tryz.prog 118 #[.string a] w (ValPost (.tuple #[.bool true, .string n, .string d, .bool true]) w) := by
  have c1 : (0 : Int) ≤ (i : Int) := by omega
  have c2 : (i : Int) ≤ (R.size : Int) := by omega
  have c3 : (0 : Int) ≤ (i : Int) + 1 := by omega
  have c4 : (i : Int) + 1 ≤ (R.size : Int) := by omega
  go_enter Tryz.func118, Tryz.ntmps118
  go_wp2_with fail
  refine (IX.out _).mono ?_
  rintro e w' ⟨rfl, rfl⟩
  go_wp2_with fail
  refine (S1.out _).mono ?_
  rintro e w' ⟨rfl, rfl⟩
  go_wp2_with fail
  refine (S2.out _).mono ?_
  rintro e w' ⟨rfl, rfl⟩
  go_wp2_with fail
  refine (GC.out _).mono ?_
  rintro e w1 ⟨rfl, hg⟩
  have G1 := Lib.hid hg
  clear hg
  go_wp2
  exact bodyPost_ret (v := .tuple #[.bool _, .string _, .string _, .bool _]) (by simp [results, Tryz.results118, go_sem]) rfl ⟨rfl, G1.out⟩
end Go.Proofs.YtbmonhnojkiapaaGreatDoor
set_option linter.unusedVariables false
set_option linter.unusedSimpArgs false
namespace Go.Proofs.YtbmonhnojkiapaaGreatDoor
open Go.RowKit
open Go.Lib (nDigits decDigits)

theorem one_facts (b : ByteArray) (h : numB b = true) : (b.toList == [49]) = decide (nv b = 1) ∧ (b.toList != [49]) = !decide (nv b = 1) := by
  have e := (num_is b h).1
  have := one_str (nv b)
  rw [← e] at this
  exact this
theorem tail_list (a : ByteArray) : (a.extract 1 a.size).data.toList = a.data.toList.drop 1 := by
  rw [ByteArray.data_extract, Array.toList_extract, List.extract_eq_take_drop, List.take_of_length_le]
  rw [List.length_drop, Lib.size_eq]
  exact Nat.le_refl _
theorem front_none (a : ByteArray) (h : ∀ (hp : 0 < a.size), a[0] ≠ 45) : negA a = false ∧ restA a = a.data.toList := by
  have e : negA a = false := by
    unfold negA Lib.hasPrefix
    cases hd : a.data.toList with
    | nil => rfl
    | cons c r =>
      have hp : 0 < a.size := by rw [Lib.size_eq, hd]; simp
      have h0 := list_at a 0 hp
      rw [hd] at h0
      have : c = a[0] := by simpa using h0
      simp only [List.isPrefixOf_cons_cons, Bool.and_eq_false_iff]
      left
      rw [beq_eq_false_iff_ne]
      intro k
      exact h hp (by rw [← this, ← k])
  refine ⟨e, ?_⟩
  unfold restA Lib.trimPrefix
  unfold negA at e
  rw [e]; simp
theorem front_minus (a : ByteArray) (hp : 0 < a.size) (h : a[0] = 45) : negA a = true ∧ restA a = (a.extract 1 a.size).data.toList := by
  have e : negA a = true := by
    unfold negA Lib.hasPrefix
    have h0 := list_at a 0 hp
    cases hd : a.data.toList with
    | nil => rw [hd] at h0; simp at h0
    | cons c r =>
      rw [hd] at h0
      have : c = a[0] := by simpa using h0
      rw [this, h]
      rfl
  refine ⟨e, ?_⟩
  rw [tail_list]
  unfold restA Lib.trimPrefix
  unfold negA at e
  rw [e]; simp
theorem back_list (s : ByteArray) : (⟨s.data.toList.toArray⟩ : ByteArray) = s := by
  apply ByteArray.ext
  apply Array.ext'
  simp
theorem stroke_none (a R : ByteArray) (hr : restA a = R.data.toList) (h : Lib.indexByte R.data.toList 47 = -1) : strokeA a = false ∧ numA a = R ∧ denA a = ⟨#[49]⟩ := by
  have hc : Lib.cut (restA a) [47] = (R.data.toList, [], false) := by
    rw [hr]; unfold Lib.cut; rw [Lib.index_one, h]; rfl
  refine ⟨by unfold strokeA; rw [hc], ?_, by unfold denA strokeA; rw [hc]; rfl⟩
  unfold numA
  rw [hc]
theorem stroke_some (a R : ByteArray) (i : Nat) (hr : restA a = R.data.toList) (h : Lib.indexByte R.data.toList 47 = i) : strokeA a = true ∧ numA a = R.extract 0 i ∧ denA a = R.extract (i + 1) R.size := by
  have hc : Lib.cut (restA a) [47] = (R.data.toList.take i, R.data.toList.drop (i + 1), true) := by
    rw [hr]; unfold Lib.cut; rw [Lib.index_one, h, if_pos (by omega)]
    simp
  have e1 := extract_take R.data.toList i
  have e2 := extract_drop R.data.toList (i + 1)
  rw [back_list] at e1 e2
  refine ⟨by unfold strokeA; rw [hc], ?_, ?_⟩
  · unfold numA; rw [hc]; exact e1.symm
  · unfold denA strokeA tailA; rw [hc]; exact e2.symm
theorem index_room (s : List UInt8) : Lib.indexByte s 47 = -1 ∨ ∃ i : Nat, Lib.indexByte s 47 = i ∧ i < s.length := by
  rw [← Lib.indexAny_one]
  rcases indexAny_at s [47] with ⟨h, _⟩ | ⟨i, c, h1, h2, _⟩
  · exact .inl h
  · exact .inr ⟨i, h1, (List.getElem?_eq_some_iff.1 h2).1⟩

def RPost (a : ByteArray) (w : World) (e : Ending) (w' : World) : Prop :=
  ((PartsOk a ∧ e = .returned (.tuple #[.bool (negA a), .string (numA a), .string (denA a), .bool true])) ∨ (¬ PartsOk a ∧ e = .returned noParts)) ∧ w.grownBy w' none
theorem rp_bad {a : ByteArray} {w : World} (h : ¬ PartsOk a) {e : Ending} {w' : World} (k : ValPost noParts w e w') : RPost a w e w' := ⟨.inr ⟨h, k.1⟩, k.2⟩
theorem rp_ok {a : ByteArray} {w : World} (h : PartsOk a) {e : Ending} {w' : World} (k : ValPost (.tuple #[.bool (negA a), .string (numA a), .string (denA a), .bool true]) w e w') : RPost a w e w' := ⟨.inl ⟨h, k.1⟩, k.2⟩
theorem short_of {a : ByteArray} (h : PartsOk a) : shortB (numA a) = true ∧ shortB (denA a) = true := by
  unfold shortB
  rw [h.n, h.d]
  have := h.sn; have := h.sd
  simp [*]
theorem of_short {s : ByteArray} (h : shortB s = true) : s.size ≤ 400 ∧ numB s = true := by
  unfold shortB at h
  simpa using h
theorem gcOk (n d : ByteArray) (hn : numB n = true) (hd : numB d = true) : GcOk n d (decS (Nat.gcd (nv n) (nv d))) := fun w => by
  have := rgcd_any n d w (maxLen_ok hn) (maxLen_ok hd)
  unfold gcdV at this
  rw [hn, hd] at this
  exact this
theorem gc_facts (k : Nat) : ((decS k).toList == [49]) = decide (k = 1) ∧ ((decS k).toList != [49]) = !decide (k = 1) := one_str k

/-- A way without a stroke: what is left behind the sign is the numerator. -/
theorem whole_ways (a R : ByteArray) (N : Bool) (w : World) (hN : negA a = N) (hr : restA a = R.data.toList) (hR : R.size ≤ maxLen) (hz : Lib.indexByte R.data.toList 47 = -1)
    (B : ShOk R false → ∀ w, Calls Tryz.prog 118 #[.string a] w (ValPost noParts w))
    (Z : N = true → ShOk R true → (R.toList == [48]) = true → ∀ w, Calls Tryz.prog 118 #[.string a] w (ValPost noParts w))
    (K : ∀ z G, shortB R = true → ShOk R true → (R.toList == [48]) = z → (N = true → z = false) → GcOk R ⟨#[49]⟩ G → (G.toList == [49]) = true → (G.toList != [49]) = false → ∀ w, Calls Tryz.prog 118 #[.string a] w (ValPost (.tuple #[.bool N, .string R, .string ⟨#[49]⟩, .bool true]) w)) :
    Calls Tryz.prog 118 #[.string a] w (RPost a w) := by
  obtain ⟨e1, e2, e3⟩ := stroke_none a R hr hz
  have S := fun w => short_any R w hR
  cases hs : shortB R
  · rw [hs] at S
    refine (B S w).mono fun e w' k => rp_bad (fun h => ?_) k
    have := (short_of h).1
    rw [e2, hs] at this; cases this
  rw [hs] at S
  obtain ⟨h4, hn⟩ := of_short hs
  have hzf := (str_facts R hn).1
  by_cases hb : N = true ∧ nv R = 0
  · refine (Z hb.1 S (by rw [hzf]; simpa using hb.2) w).mono fun e w' k => rp_bad (fun h => ?_) k
    have := (h.z (by rw [e2]; exact hb.2)).1
    rw [hN, hb.1] at this; cases this
  · have G := gcOk R ⟨#[49]⟩ hn (by decide +kernel)
    have hg : Nat.gcd (nv R) (nv ⟨#[49]⟩) = 1 := by rw [show nv ⟨#[49]⟩ = 1 by decide +kernel, Nat.gcd_one_right]
    rw [hg] at G
    have f := gc_facts 1
    refine (K _ _ hs S rfl (fun hN1 => by rw [hzf]; simpa using fun h0 => hb ⟨hN1, h0⟩) G (by simpa using f.1) (by simpa using f.2) w).mono fun e w' k => ?_
    have P : PartsOk a := by
      refine ⟨by rw [e2]; exact hn, by rw [e3]; decide +kernel, by rw [e2]; exact h4, by rw [e3]; decide, by rw [e3]; decide +kernel, ?_, ?_, ?_⟩
      · rw [e2, hN, e1]
        intro h0
        refine ⟨?_, rfl⟩
        cases N
        · rfl
        · exact absurd ⟨rfl, h0⟩ hb
      · intro _; exact e1
      · rw [e3]; exact .inr (by decide +kernel)
    exact rp_ok P (by rw [hN, e2, e3]; exact k)
/-- A way with a stroke. -/
theorem stroke_ways (a R : ByteArray) (N : Bool) (i : Nat) (w : World) (hN : negA a = N) (hr : restA a = R.data.toList) (hR : R.size ≤ maxLen) (hz : Lib.indexByte R.data.toList 47 = i) (hi : i < R.size)
    (B0 : ∀ n d, R.extract 0 i = n → R.extract (i + 1) R.size = d → ShOk n false → ∀ w, Calls Tryz.prog 118 #[.string a] w (ValPost noParts w))
    (B1 : ∀ n d, R.extract 0 i = n → R.extract (i + 1) R.size = d → ShOk n true → ShOk d false → ∀ w, Calls Tryz.prog 118 #[.string a] w (ValPost noParts w))
    (B2 : ∀ n d, R.extract 0 i = n → R.extract (i + 1) R.size = d → ShOk n true → ShOk d true → (d.toList == [48]) = true → ∀ w, Calls Tryz.prog 118 #[.string a] w (ValPost noParts w))
    (B3 : ∀ n d, R.extract 0 i = n → R.extract (i + 1) R.size = d → ShOk n true → ShOk d true → (d.toList == [48]) = false → (n.toList == [48]) = true → ∀ w, Calls Tryz.prog 118 #[.string a] w (ValPost noParts w))
    (B4 : ∀ n d, R.extract 0 i = n → R.extract (i + 1) R.size = d → ShOk n true → ShOk d true → (d.toList == [48]) = false → (n.toList == [48]) = false → (d.toList == [49]) = true → ∀ w, Calls Tryz.prog 118 #[.string a] w (ValPost noParts w))
    (B5 : ∀ n d G, R.extract 0 i = n → R.extract (i + 1) R.size = d → ShOk n true → ShOk d true → (d.toList == [48]) = false → (n.toList == [48]) = false → (d.toList == [49]) = false → (d.toList != [49]) = true → GcOk n d G → (G.toList == [49]) = false → (G.toList != [49]) = true → ∀ w, Calls Tryz.prog 118 #[.string a] w (ValPost noParts w))
    (K : ∀ n d G, R.extract 0 i = n → R.extract (i + 1) R.size = d → ShOk n true → ShOk d true → (d.toList == [48]) = false → (n.toList == [48]) = false → (d.toList == [49]) = false → (d.toList != [49]) = true → GcOk n d G → (G.toList == [49]) = true → (G.toList != [49]) = false → ∀ w, Calls Tryz.prog 118 #[.string a] w (ValPost (.tuple #[.bool N, .string n, .string d, .bool true]) w)) :
    Calls Tryz.prog 118 #[.string a] w (RPost a w) := by
  obtain ⟨e1, e2, e3⟩ := stroke_some a R i hr hz
  have l1 : (R.extract 0 i).size ≤ maxLen := by rw [ByteArray.size_extract]; omega
  have l2 : (R.extract (i + 1) R.size).size ≤ maxLen := by rw [ByteArray.size_extract]; omega
  have S1 := fun w => short_any _ w l1
  have S2 := fun w => short_any _ w l2
  obtain ⟨n, en⟩ : ∃ n, R.extract 0 i = n := ⟨_, rfl⟩
  obtain ⟨d, ed⟩ : ∃ d, R.extract (i + 1) R.size = d := ⟨_, rfl⟩
  rw [en] at S1 e2
  rw [ed] at S2 e3
  cases hs1 : shortB n
  · rw [hs1] at S1
    refine (B0 n d en ed S1 w).mono fun e w' k => rp_bad (fun h => ?_) k
    have := (short_of h).1
    rw [e2, hs1] at this; cases this
  rw [hs1] at S1
  cases hs2 : shortB d
  · rw [hs2] at S2
    refine (B1 n d en ed S1 S2 w).mono fun e w' k => rp_bad (fun h => ?_) k
    have := (short_of h).2
    rw [e3, hs2] at this; cases this
  rw [hs2] at S2
  obtain ⟨n4, nn⟩ := of_short hs1
  obtain ⟨d4, nd⟩ := of_short hs2
  have zn := (str_facts n nn).1
  have zd := (str_facts d nd).1
  obtain ⟨od, od'⟩ := one_facts d nd
  by_cases h0 : nv d = 0
  · refine (B2 n d en ed S1 S2 (by rw [zd]; simpa using h0) w).mono fun e w' k => rp_bad (fun h => ?_) k
    exact h.d0 (by rw [e3]; exact h0)
  by_cases h1 : nv n = 0
  · refine (B3 n d en ed S1 S2 (by rw [zd]; simpa using h0) (by rw [zn]; simpa using h1) w).mono fun e w' k => rp_bad (fun h => ?_) k
    have := (h.z (by rw [e2]; exact h1)).2
    rw [e1] at this; cases this
  by_cases h2 : nv d = 1
  · refine (B4 n d en ed S1 S2 (by rw [zd]; simpa using h0) (by rw [zn]; simpa using h1) (by rw [od]; simpa using h2) w).mono fun e w' k => rp_bad (fun h => ?_) k
    have := h.one (by rw [e3]; exact h2)
    rw [e1] at this; cases this
  have G := gcOk n d nn nd
  have f := gc_facts (Nat.gcd (nv n) (nv d))
  by_cases h3 : Nat.gcd (nv n) (nv d) = 1
  · refine (K n d _ en ed S1 S2 (by rw [zd]; simpa using h0) (by rw [zn]; simpa using h1) (by rw [od]; simpa using h2) (by rw [od']; simpa using h2) G (by rw [f.1]; simpa using h3) (by rw [f.2]; simpa using h3) w).mono fun e w' k => ?_
    have P : PartsOk a := by
      refine ⟨by rw [e2]; exact nn, by rw [e3]; exact nd, by rw [e2]; exact n4, by rw [e3]; exact d4, by rw [e3]; exact h0, ?_, ?_, ?_⟩
      · rw [e2]; intro h; exact absurd h h1
      · rw [e3]; intro h; exact absurd h h2
      · rw [e2, e3]; exact .inl h3
    exact rp_ok P (by rw [hN, e2, e3]; exact k)
  · refine (B5 n d _ en ed S1 S2 (by rw [zd]; simpa using h0) (by rw [zn]; simpa using h1) (by rw [od]; simpa using h2) (by rw [od']; simpa using h2) G (by rw [f.1]; simpa using h3) (by rw [f.2]; simpa using h3) w).mono fun e w' k => rp_bad (fun h => ?_) k
    have := h.gcd
    rw [e2, e3] at this
    exact h3 this

theorem rparts_any (a : ByteArray) (w : World) (ha : a.size ≤ maxLen) : Calls Tryz.prog 118 #[.string a] w (RPost a w) := by
  have hm := ha
  unfold maxLen at hm
  have one : ShOk ⟨#[49]⟩ true := fun w => by have := short_any ⟨#[49]⟩ w (by decide); rw [show shortB ⟨#[49]⟩ = true by decide +kernel] at this; exact this
  have ix : ∀ (R : ByteArray) (z : Int), R.size ≤ maxLen → Lib.indexByte R.data.toList 47 = z → IdxOk R z := fun R z h e w => by rw [← e]; exact rindex_any R w h
  by_cases hp : 0 < a.size
  · cases h45 : (((a[0]'hp).toNat : Int) == 45)
    · have hne : a[0] ≠ 45 := by intro e; rw [e] at h45; exact absurd h45 (by decide)
      obtain ⟨hN, hr⟩ := front_none a (fun _ => hne)
      rcases index_room a.data.toList with hz | ⟨i, hz, hi⟩
      · have I := Lib.hid (ix a _ ha hz)
        refine whole_ways a a false w hN hr ha hz ?_ ?_ ?_
        · exact fun S w => parts_plain_n0 a a ⟨#[]⟩ w (by omega) hp h45 rfl I (Lib.hid S)
        · intro h; cases h
        · intro z G _ S hzz _ GC q1 q2 w
          cases z
          · exact parts_plain_okf a a G w (by omega) hp h45 rfl I (Lib.hid S) (Lib.hid one) hzz (Lib.hid GC) q1 q2
          · exact parts_plain_okt a a G w (by omega) hp h45 rfl I (Lib.hid S) (Lib.hid one) hzz (Lib.hid GC) q1 q2
      · have I := Lib.hid (ix a _ ha hz)
        have hi' : i < a.size := by rw [Lib.size_eq]; exact hi
        refine stroke_ways a a false i w hN hr ha hz hi' ?_ ?_ ?_ ?_ ?_ ?_ ?_
        · exact fun n d en ed S1 w => parts_plain_s0 a a n d ⟨#[]⟩ i w (by omega) hp h45 rfl hi' hm I en ed (Lib.hid S1)
        · exact fun n d en ed S1 S2 w => parts_plain_s1 a a n d ⟨#[]⟩ i w (by omega) hp h45 rfl hi' hm I en ed (Lib.hid S1) (Lib.hid S2)
        · exact fun n d en ed S1 S2 f w => parts_plain_s2 a a n d ⟨#[]⟩ i w (by omega) hp h45 rfl hi' hm I en ed (Lib.hid S1) (Lib.hid S2) f
        · exact fun n d en ed S1 S2 f g w => parts_plain_s3 a a n d ⟨#[]⟩ i w (by omega) hp h45 rfl hi' hm I en ed (Lib.hid S1) (Lib.hid S2) f g
        · exact fun n d en ed S1 S2 f g h w => parts_plain_s4 a a n d ⟨#[]⟩ i w (by omega) hp h45 rfl hi' hm I en ed (Lib.hid S1) (Lib.hid S2) f g h
        · exact fun n d G en ed S1 S2 f g h h' GC q1 q2 w => parts_plain_s5 a a n d G i w (by omega) hp h45 rfl hi' hm I en ed (Lib.hid S1) (Lib.hid S2) f g h h' (Lib.hid GC) q1 q2
        · exact fun n d G en ed S1 S2 f g h h' GC q1 q2 w => parts_plain_s6 a a n d G i w (by omega) hp h45 rfl hi' hm I en ed (Lib.hid S1) (Lib.hid S2) f g h h' (Lib.hid GC) q1 q2
    · have he : a[0] = 45 := UInt8.toNat_inj.1 (by
        have h2 : ((a[0]'hp).toNat : Int) = 45 := by simpa using h45
        have : (45 : UInt8).toNat = 45 := rfl
        omega)
      obtain ⟨hN, hr⟩ := front_minus a hp he
      obtain ⟨R, eR⟩ : ∃ R, a.extract 1 a.size = R := ⟨_, rfl⟩
      have hR : R.size ≤ maxLen := by rw [← eR, ByteArray.size_extract]; omega
      have hmR := hR
      unfold maxLen at hmR
      rw [eR] at hr
      rcases index_room R.data.toList with hz | ⟨i, hz, hi⟩
      · have I := Lib.hid (ix R _ hR hz)
        refine whole_ways a R true w hN hr hR hz ?_ ?_ ?_
        · exact fun S w => parts_minus_n0 a R ⟨#[]⟩ w (by omega) hp h45 (by omega) eR I (Lib.hid S)
        · exact fun _ S z w => parts_minus_nz a R ⟨#[]⟩ w (by omega) hp h45 (by omega) eR I (Lib.hid S) (Lib.hid one) z
        · intro z G _ S hzz hzn GC q1 q2 w
          have := hzn rfl
          subst this
          exact parts_minus_okf a R G w (by omega) hp h45 (by omega) eR I (Lib.hid S) (Lib.hid one) hzz (Lib.hid GC) q1 q2
      · have I := Lib.hid (ix R _ hR hz)
        have hi' : i < R.size := by rw [Lib.size_eq]; exact hi
        refine stroke_ways a R true i w hN hr hR hz hi' ?_ ?_ ?_ ?_ ?_ ?_ ?_
        · exact fun n d en ed S1 w => parts_minus_s0 a R n d ⟨#[]⟩ i w (by omega) hp h45 (by omega) eR hi' hmR I en ed (Lib.hid S1)
        · exact fun n d en ed S1 S2 w => parts_minus_s1 a R n d ⟨#[]⟩ i w (by omega) hp h45 (by omega) eR hi' hmR I en ed (Lib.hid S1) (Lib.hid S2)
        · exact fun n d en ed S1 S2 f w => parts_minus_s2 a R n d ⟨#[]⟩ i w (by omega) hp h45 (by omega) eR hi' hmR I en ed (Lib.hid S1) (Lib.hid S2) f
        · exact fun n d en ed S1 S2 f g w => parts_minus_s3 a R n d ⟨#[]⟩ i w (by omega) hp h45 (by omega) eR hi' hmR I en ed (Lib.hid S1) (Lib.hid S2) f g
        · exact fun n d en ed S1 S2 f g h w => parts_minus_s4 a R n d ⟨#[]⟩ i w (by omega) hp h45 (by omega) eR hi' hmR I en ed (Lib.hid S1) (Lib.hid S2) f g h
        · exact fun n d G en ed S1 S2 f g h h' GC q1 q2 w => parts_minus_s5 a R n d G i w (by omega) hp h45 (by omega) eR hi' hmR I en ed (Lib.hid S1) (Lib.hid S2) f g h h' (Lib.hid GC) q1 q2
        · exact fun n d G en ed S1 S2 f g h h' GC q1 q2 w => parts_minus_s6 a R n d G i w (by omega) hp h45 (by omega) eR hi' hmR I en ed (Lib.hid S1) (Lib.hid S2) f g h h' (Lib.hid GC) q1 q2
  · have h0 : a.size = 0 := by omega
    obtain ⟨hN, hr⟩ := front_none a (fun h => absurd h hp)
    have e0 : a = ⟨#[]⟩ := by
      cases a with
      | mk d => congr 1; exact Array.eq_empty_of_size_eq_zero h0
    have hz : Lib.indexByte a.data.toList 47 = -1 := by rw [e0]; rfl
    have I := Lib.hid (ix a _ ha hz)
    refine whole_ways a a false w hN hr ha hz ?_ ?_ ?_
    · exact fun S w => parts_empty_n0 a a ⟨#[]⟩ w (by omega) rfl I (Lib.hid S)
    · intro h; cases h
    · intro z G hs _ _ _ _ _ _ w
      rw [e0] at hs
      exact absurd hs (by decide +kernel)
theorem rparts_yes {a : ByteArray} {x : Rat} (h : IsRat a x) (w : World) : Calls Tryz.prog 118 #[.string a] w (ValPost (partsV x) w) := by
  refine (rparts_any a w (rat_len h)).mono ?_
  rintro e w' ⟨⟨_, k⟩ | ⟨k, _⟩, hg⟩
  · obtain ⟨p1, p2, p3, _⟩ := apart a x h.eq
    rw [p1, p2, p3] at k
    exact ⟨k, hg⟩
  · exact absurd (rat_parts h) k
theorem rparts_no {a : ByteArray} (h : notRat a) (ha : a.size ≤ maxLen) (w : World) : Calls Tryz.prog 118 #[.string a] w (ValPost noParts w) := by
  refine (rparts_any a w ha).mono ?_
  rintro e w' ⟨⟨k, _⟩ | ⟨_, k⟩, hg⟩
  · exact absurd (parts_rat k) (h _)
  · exact ⟨k, hg⟩
end Go.Proofs.YtbmonhnojkiapaaGreatDoor
