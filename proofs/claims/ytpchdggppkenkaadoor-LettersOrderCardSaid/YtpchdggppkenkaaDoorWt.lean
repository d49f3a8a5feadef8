/- The reference's Compare. -/
import Derived.Test.YtpchdggppkenkaaDoorWg
import Derived.Lib.Bytealg
import Derived.Lib.Strings
import Derived.Deep.QuietTactic
import Derived.BigQuiet
set_option linter.unusedVariables false
set_option linter.unusedSimpArgs false
namespace Go.Proofs.YtpchdggppkenkaaDoor
open Go.RowKit

def cmpAt (a b : ByteArray) (k : Nat) : Int := Lib.compareBytes (a.data.toList.drop k) (b.data.toList.drop k)

theorem drop_cons (a : ByteArray) (k : Nat) (h : k < a.size) : a.data.toList.drop k = (a[k]'h) :: a.data.toList.drop (k + 1) := by
  have h2 : k < a.data.toList.length := by have : a.data.toList.length = a.size := Array.length_toList; omega
  rw [List.drop_eq_getElem_cons h2]; rfl
theorem drop_end (a : ByteArray) (k : Nat) (h : ¬ k < a.size) : a.data.toList.drop k = [] := by
  rw [List.drop_eq_nil_iff]; have : a.data.toList.length = a.size := Array.length_toList; omega
theorem cmpAt_step (a b : ByteArray) (k : Nat) (ha : k < a.size) (hb : k < b.size) : cmpAt a b k = if (a[k]'ha).toNat < (b[k]'hb).toNat then -1 else if (b[k]'hb).toNat < (a[k]'ha).toNat then 1 else cmpAt a b (k + 1) := by
  unfold cmpAt
  rw [drop_cons a k ha, drop_cons b k hb]
  simp only [Lib.compareBytes, UInt8.lt_iff_toNat_lt]
theorem cmpAt_a (a b : ByteArray) (k : Nat) (ha : ¬ k < a.size) (hb : k < b.size) : cmpAt a b k = -1 := by
  unfold cmpAt; rw [drop_end a k ha, drop_cons b k hb]; rfl
theorem cmpAt_b (a b : ByteArray) (k : Nat) (ha : k < a.size) (hb : ¬ k < b.size) : cmpAt a b k = 1 := by
  unfold cmpAt; rw [drop_end b k hb, drop_cons a k ha]; rfl
theorem cmpAt_e (a b : ByteArray) (k : Nat) (ha : ¬ k < a.size) (hb : ¬ k < b.size) : cmpAt a b k = 0 := by
  unfold cmpAt; rw [drop_end b k hb, drop_end a k ha]; rfl

def CmpPost (a b : ByteArray) (w : World) (e : Ending) (w' : World) : Prop := e = .returned (.int .i64 (Lib.compareBytes a.data.toList b.data.toList)) ∧ ∃ n, w' = w.drewN n

set_option maxHeartbeats 2000000 in
theorem rcompare_any (a b : ByteArray) (w : World) (ha : a.size ≤ 9223372036854775806) (hb : b.size ≤ 9223372036854775806) :
    Calls Tryd.prog 33 #[.string a, .string b] w (CmpPost a b w) := by
  obtain ⟨C, hC⟩ : ∃ C, Lib.compareBytes a.data.toList b.data.toList = C := ⟨_, rfl⟩
  have h0 : cmpAt a b 0 = C := hC
  have HC := Lib.hid hC; have H0 := Lib.hid h0
  clear hC h0
  go_enter Tryd.func33, Tryd.ntmps33
  go_wp2
  go_loopw [5] (fun i wr => ∃ (k : Nat), i = .int .i64 k ∧ k ≤ a.size ∧ k ≤ b.size ∧ cmpAt a b k = C ∧ ∃ n, wr = w.drewN n) (fun i _ => a.size - (intOf i).toNat)
  case atStart => exact ⟨0, rfl, by omega, by omega, H0.out, 0, rfl⟩
  case round =>
    obtain ⟨k, rfl, hka, hkb, hk, n, rfl⟩ := hrel
    have HK := Lib.hid hk; clear hk
    by_cases la : k < a.size
    · have t1 : decide ((k : Int) < (a.size : Int)) = true := by simp; omega
      by_cases lb : k < b.size
      · have t2 : decide ((k : Int) < (b.size : Int)) = true := by simp; omega
        have hst := HK.out
        rw [cmpAt_step a b k la lb] at hst
        have HS := Lib.hid hst; clear hst
        have z0 : (0 : Int) ≤ (k : Int) := by omega
        have za : (k : Int) < (a.size : Int) := by omega
        have zb : (k : Int) < (b.size : Int) := by omega
        obtain ⟨x, hx⟩ : ∃ x, (a[k]'la).toNat = x := ⟨_, rfl⟩
        obtain ⟨y, hy⟩ : ∃ y, (b[k]'lb).toNat = y := ⟨_, rfl⟩
        rw [hx, hy] at HS
        by_cases c1 : x < y
        · have f1 : decide ((x : Int) < (y : Int)) = true := by simp; omega
          go_wp2
          go_quiet (fail)
          go_wp2
          go_ret
          exact ⟨by rw [HC.out, ← HS.out, if_pos c1]; rfl, n + nq, World.drewN_drewN _ _ _⟩
        · have f1 : decide ((x : Int) < (y : Int)) = false := by simp; omega
          by_cases c2 : y < x
          · have f2 : decide ((y : Int) < (x : Int)) = true := by simp; omega
            go_wp2
            go_quiet (fail)
            go_wp2
            go_quiet (fail)
            go_wp2
            go_ret
            refine ⟨by rw [HC.out, ← HS.out, if_neg c1, if_pos c2]; rfl, ?_⟩
            exact ⟨_, by rw [World.drewN_drewN, World.drewN_drewN]⟩
          · have f2 : decide ((y : Int) < (x : Int)) = false := by simp; omega
            go_wp2
            go_quiet (fail)
            go_wp2
            go_quiet (fail)
            go_wp2
            go_roundw
            case rel => exact ⟨k + 1, by go_num, by omega, by omega, by rw [← HS.out, if_neg c1, if_neg c2], _, rfl⟩
            case measure => simp [intOf]; omega
      · have t2 : decide ((k : Int) < (b.size : Int)) = false := by simp; omega
        have HE := Lib.hid (cmpAt_b a b k la lb)
        have t3 : decide ((a.size : Int) < (b.size : Int)) = false := by simp; omega
        have t4 : decide ((b.size : Int) < (a.size : Int)) = true := by simp; omega
        go_wp2
        go_ret
        exact ⟨by rw [HC.out, ← HK.out, HE.out]; rfl, _, rfl⟩
    · have t1 : decide ((k : Int) < (a.size : Int)) = false := by simp; omega
      by_cases lb : k < b.size
      · have HE := Lib.hid (cmpAt_a a b k la lb)
        have t3 : decide ((a.size : Int) < (b.size : Int)) = true := by simp; omega
        go_wp2
        go_ret
        exact ⟨by rw [HC.out, ← HK.out, HE.out]; rfl, _, rfl⟩
      · have HE := Lib.hid (cmpAt_e a b k la lb)
        have t3 : decide ((a.size : Int) < (b.size : Int)) = false := by simp; omega
        have t4 : decide ((b.size : Int) < (a.size : Int)) = false := by simp; omega
        go_wp2
        go_ret
        exact ⟨by rw [HC.out, ← HK.out, HE.out]; rfl, _, rfl⟩
end Go.Proofs.YtpchdggppkenkaaDoor
