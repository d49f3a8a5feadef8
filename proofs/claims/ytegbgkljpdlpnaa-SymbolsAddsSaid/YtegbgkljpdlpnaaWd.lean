/- The walk of the reference's Point, a theorem for each way. -/
import Derived.Test.YtegbgkljpdlpnaaWz
import Derived.BigGuardPart
set_option linter.unusedVariables false
set_option linter.unusedSimpArgs false
namespace Go.Proofs.Ytegbgkljpdlpnaa
open Go.RowKit

set_option maxHeartbeats 2000000 in
set_option maxRecDepth 100000 in
theorem pt_4 (s : ByteArray) (i a b c d : Nat) (w : World) (h : i < s.size) (hs : s.size ≤ 9223372036854775800) (ha : gb s i = a) (hb : gb s (i+1) = b) (hcc : gb s (i+2) = c) (hd : gb s (i+3) = d) (la : a < 256) (lb : b < 256) (lc : c < 256) (ld : d < 256)
    (q0 : 240 ≤ a) (q1 : a < 248) (m1 : cont b = true) (l1 : 128 ≤ b) (u1 : b < 192) (m2 : cont c = true) (l2 : 128 ≤ c) (u2 : c < 192) (m3 : cont d = true) (l3 : 128 ≤ d) (u3 : d < 192) (q : 65536 ≤ ((a : Int) - 240) * 262144 + ((b : Int) - 128) * 4096 + ((c : Int) - 128) * 64 + d - 128) (q2 : ((a : Int) - 240) * 262144 + ((b : Int) - 128) * 4096 + ((c : Int) - 128) * 64 + d - 128 ≤ 1114111) :
    Calls Try.prog 52 #[.string s, .int .i64 i] w fun e w' => e = .returned (.tuple #[.int .i64 (((a : Int) - 240) * 262144 + ((b : Int) - 128) * 4096 + ((c : Int) - 128) * 64 + d - 128), .int .i64 4]) ∧ w = w' := by
  have hc := at_z s
  have hm := more_z s
  have e0 : gb s (i : Int).toNat = a := ha
  have e1 : gb s ((i : Int) + 1).toNat = b := hb
  have e2 : gb s ((i : Int) + 2).toNat = c := hcc
  have e3 : gb s ((i : Int) + 3).toNat = d := hd
  have e1' : gb s (i + 1) = b := hb
  have e2' : gb s (i + 2) = c := hcc
  have e3' : gb s (i + 3) = d := hd
  have f1 : (decide ((a : Int) < 128)) = false := by simp; omega
  have f2 : (decide ((192 : Int) ≤ (a : Int))) = true := by simp; omega
  have f3 : (decide ((a : Int) < 224)) = false := by simp; omega
  have f4 : (decide ((224 : Int) ≤ (a : Int))) = true := by simp; omega
  have f5 : (decide ((a : Int) < 240)) = false := by simp; omega
  have f6 : (decide ((240 : Int) ≤ (a : Int))) = true := by simp; omega
  have f7 : (decide ((a : Int) < 248)) = true := by simp; omega
  have f8 : (decide (65536 ≤ ((a : Int) - 240) * 262144 + ((b : Int) - 128) * 4096 + ((c : Int) - 128) * 64 + d - 128)) = true := by simp; omega
  have f9 : (decide (((a : Int) - 240) * 262144 + ((b : Int) - 128) * 4096 + ((c : Int) - 128) * 64 + d - 128 ≤ 1114111)) = true := by simp; omega
  go_enter Try.func52, Try.ntmps52
  go_wp2_with (first | (go_at_call 54; refine (hc _ _ ?_).mono ?_; omega; rintro e w' ⟨rfl, rfl⟩) | (go_at_call 55; refine (hm _ _ ?_).mono ?_; omega; rintro e w' ⟨rfl, rfl⟩))
  go_ret2
  exact ⟨rfl, rfl⟩
set_option maxHeartbeats 2000000 in
set_option maxRecDepth 100000 in
theorem pt_4b (s : ByteArray) (i a b c d : Nat) (w : World) (h : i < s.size) (hs : s.size ≤ 9223372036854775800) (ha : gb s i = a) (hb : gb s (i+1) = b) (hcc : gb s (i+2) = c) (hd : gb s (i+3) = d) (la : a < 256) (lb : b < 256) (lc : c < 256) (ld : d < 256)
    (q0 : 240 ≤ a) (q1 : a < 248) (m1 : cont b = true) (l1 : 128 ≤ b) (u1 : b < 192) (m2 : cont c = true) (l2 : 128 ≤ c) (u2 : c < 192) (m3 : cont d = true) (l3 : 128 ≤ d) (u3 : d < 192) (q : ((a : Int) - 240) * 262144 + ((b : Int) - 128) * 4096 + ((c : Int) - 128) * 64 + d - 128 < 65536) :
    Calls Try.prog 52 #[.string s, .int .i64 i] w fun e w' => e = .returned (.tuple #[.int .i64 0, .int .i64 0]) ∧ w = w' := by
  have hc := at_z s
  have hm := more_z s
  have e0 : gb s (i : Int).toNat = a := ha
  have e1 : gb s ((i : Int) + 1).toNat = b := hb
  have e2 : gb s ((i : Int) + 2).toNat = c := hcc
  have e3 : gb s ((i : Int) + 3).toNat = d := hd
  have e1' : gb s (i + 1) = b := hb
  have e2' : gb s (i + 2) = c := hcc
  have e3' : gb s (i + 3) = d := hd
  have f1 : (decide ((a : Int) < 128)) = false := by simp; omega
  have f2 : (decide ((192 : Int) ≤ (a : Int))) = true := by simp; omega
  have f3 : (decide ((a : Int) < 224)) = false := by simp; omega
  have f4 : (decide ((224 : Int) ≤ (a : Int))) = true := by simp; omega
  have f5 : (decide ((a : Int) < 240)) = false := by simp; omega
  have f6 : (decide ((240 : Int) ≤ (a : Int))) = true := by simp; omega
  have f7 : (decide ((a : Int) < 248)) = true := by simp; omega
  have f8 : (decide (65536 ≤ ((a : Int) - 240) * 262144 + ((b : Int) - 128) * 4096 + ((c : Int) - 128) * 64 + d - 128)) = false := by simp; omega
  go_enter Try.func52, Try.ntmps52
  go_wp2_with (first | (go_at_call 54; refine (hc _ _ ?_).mono ?_; omega; rintro e w' ⟨rfl, rfl⟩) | (go_at_call 55; refine (hm _ _ ?_).mono ?_; omega; rintro e w' ⟨rfl, rfl⟩))
  go_ret2
  exact ⟨rfl, rfl⟩
set_option maxHeartbeats 2000000 in
set_option maxRecDepth 100000 in
theorem pt_4c (s : ByteArray) (i a b c d : Nat) (w : World) (h : i < s.size) (hs : s.size ≤ 9223372036854775800) (ha : gb s i = a) (hb : gb s (i+1) = b) (hcc : gb s (i+2) = c) (hd : gb s (i+3) = d) (la : a < 256) (lb : b < 256) (lc : c < 256) (ld : d < 256)
    (q0 : 240 ≤ a) (q1 : a < 248) (m1 : cont b = true) (l1 : 128 ≤ b) (u1 : b < 192) (m2 : cont c = true) (l2 : 128 ≤ c) (u2 : c < 192) (m3 : cont d = true) (l3 : 128 ≤ d) (u3 : d < 192) (q : 1114111 < ((a : Int) - 240) * 262144 + ((b : Int) - 128) * 4096 + ((c : Int) - 128) * 64 + d - 128) :
    Calls Try.prog 52 #[.string s, .int .i64 i] w fun e w' => e = .returned (.tuple #[.int .i64 0, .int .i64 0]) ∧ w = w' := by
  have hc := at_z s
  have hm := more_z s
  have e0 : gb s (i : Int).toNat = a := ha
  have e1 : gb s ((i : Int) + 1).toNat = b := hb
  have e2 : gb s ((i : Int) + 2).toNat = c := hcc
  have e3 : gb s ((i : Int) + 3).toNat = d := hd
  have e1' : gb s (i + 1) = b := hb
  have e2' : gb s (i + 2) = c := hcc
  have e3' : gb s (i + 3) = d := hd
  have f1 : (decide ((a : Int) < 128)) = false := by simp; omega
  have f2 : (decide ((192 : Int) ≤ (a : Int))) = true := by simp; omega
  have f3 : (decide ((a : Int) < 224)) = false := by simp; omega
  have f4 : (decide ((224 : Int) ≤ (a : Int))) = true := by simp; omega
  have f5 : (decide ((a : Int) < 240)) = false := by simp; omega
  have f6 : (decide ((240 : Int) ≤ (a : Int))) = true := by simp; omega
  have f7 : (decide ((a : Int) < 248)) = true := by simp; omega
  have f8 : (decide (65536 ≤ ((a : Int) - 240) * 262144 + ((b : Int) - 128) * 4096 + ((c : Int) - 128) * 64 + d - 128)) = true := by simp; omega
  have f9 : (decide (((a : Int) - 240) * 262144 + ((b : Int) - 128) * 4096 + ((c : Int) - 128) * 64 + d - 128 ≤ 1114111)) = false := by simp; omega
  go_enter Try.func52, Try.ntmps52
  go_wp2_with (first | (go_at_call 54; refine (hc _ _ ?_).mono ?_; omega; rintro e w' ⟨rfl, rfl⟩) | (go_at_call 55; refine (hm _ _ ?_).mono ?_; omega; rintro e w' ⟨rfl, rfl⟩))
  go_ret2
  exact ⟨rfl, rfl⟩
set_option maxHeartbeats 2000000 in
set_option maxRecDepth 100000 in
theorem pt_4d (s : ByteArray) (i a b c d : Nat) (w : World) (h : i < s.size) (hs : s.size ≤ 9223372036854775800) (ha : gb s i = a) (hb : gb s (i+1) = b) (hcc : gb s (i+2) = c) (hd : gb s (i+3) = d) (la : a < 256) (lb : b < 256) (lc : c < 256) (ld : d < 256)
    (q0 : 240 ≤ a) (q1 : a < 248) (m1 : cont b = false)  :
    Calls Try.prog 52 #[.string s, .int .i64 i] w fun e w' => e = .returned (.tuple #[.int .i64 0, .int .i64 0]) ∧ w = w' := by
  have hc := at_z s
  have hm := more_z s
  have e0 : gb s (i : Int).toNat = a := ha
  have e1 : gb s ((i : Int) + 1).toNat = b := hb
  have e2 : gb s ((i : Int) + 2).toNat = c := hcc
  have e3 : gb s ((i : Int) + 3).toNat = d := hd
  have e1' : gb s (i + 1) = b := hb
  have e2' : gb s (i + 2) = c := hcc
  have e3' : gb s (i + 3) = d := hd
  have f1 : (decide ((a : Int) < 128)) = false := by simp; omega
  have f2 : (decide ((192 : Int) ≤ (a : Int))) = true := by simp; omega
  have f3 : (decide ((a : Int) < 224)) = false := by simp; omega
  have f4 : (decide ((224 : Int) ≤ (a : Int))) = true := by simp; omega
  have f5 : (decide ((a : Int) < 240)) = false := by simp; omega
  have f6 : (decide ((240 : Int) ≤ (a : Int))) = true := by simp; omega
  have f7 : (decide ((a : Int) < 248)) = true := by simp; omega
  go_enter Try.func52, Try.ntmps52
  go_wp2_with (first | (go_at_call 54; refine (hc _ _ ?_).mono ?_; omega; rintro e w' ⟨rfl, rfl⟩) | (go_at_call 55; refine (hm _ _ ?_).mono ?_; omega; rintro e w' ⟨rfl, rfl⟩))
  go_ret2
  exact ⟨rfl, rfl⟩
set_option maxHeartbeats 2000000 in
set_option maxRecDepth 100000 in
theorem pt_4e (s : ByteArray) (i a b c d : Nat) (w : World) (h : i < s.size) (hs : s.size ≤ 9223372036854775800) (ha : gb s i = a) (hb : gb s (i+1) = b) (hcc : gb s (i+2) = c) (hd : gb s (i+3) = d) (la : a < 256) (lb : b < 256) (lc : c < 256) (ld : d < 256)
    (q0 : 240 ≤ a) (q1 : a < 248) (m1 : cont b = true) (l1 : 128 ≤ b) (u1 : b < 192) (m2 : cont c = false)  :
    Calls Try.prog 52 #[.string s, .int .i64 i] w fun e w' => e = .returned (.tuple #[.int .i64 0, .int .i64 0]) ∧ w = w' := by
  have hc := at_z s
  have hm := more_z s
  have e0 : gb s (i : Int).toNat = a := ha
  have e1 : gb s ((i : Int) + 1).toNat = b := hb
  have e2 : gb s ((i : Int) + 2).toNat = c := hcc
  have e3 : gb s ((i : Int) + 3).toNat = d := hd
  have e1' : gb s (i + 1) = b := hb
  have e2' : gb s (i + 2) = c := hcc
  have e3' : gb s (i + 3) = d := hd
  have f1 : (decide ((a : Int) < 128)) = false := by simp; omega
  have f2 : (decide ((192 : Int) ≤ (a : Int))) = true := by simp; omega
  have f3 : (decide ((a : Int) < 224)) = false := by simp; omega
  have f4 : (decide ((224 : Int) ≤ (a : Int))) = true := by simp; omega
  have f5 : (decide ((a : Int) < 240)) = false := by simp; omega
  have f6 : (decide ((240 : Int) ≤ (a : Int))) = true := by simp; omega
  have f7 : (decide ((a : Int) < 248)) = true := by simp; omega
  go_enter Try.func52, Try.ntmps52
  go_wp2_with (first | (go_at_call 54; refine (hc _ _ ?_).mono ?_; omega; rintro e w' ⟨rfl, rfl⟩) | (go_at_call 55; refine (hm _ _ ?_).mono ?_; omega; rintro e w' ⟨rfl, rfl⟩))
  go_ret2
  exact ⟨rfl, rfl⟩
set_option maxHeartbeats 2000000 in
set_option maxRecDepth 100000 in
theorem pt_4f (s : ByteArray) (i a b c d : Nat) (w : World) (h : i < s.size) (hs : s.size ≤ 9223372036854775800) (ha : gb s i = a) (hb : gb s (i+1) = b) (hcc : gb s (i+2) = c) (hd : gb s (i+3) = d) (la : a < 256) (lb : b < 256) (lc : c < 256) (ld : d < 256)
    (q0 : 240 ≤ a) (q1 : a < 248) (m1 : cont b = true) (l1 : 128 ≤ b) (u1 : b < 192) (m2 : cont c = true) (l2 : 128 ≤ c) (u2 : c < 192) (m3 : cont d = false)  :
    Calls Try.prog 52 #[.string s, .int .i64 i] w fun e w' => e = .returned (.tuple #[.int .i64 0, .int .i64 0]) ∧ w = w' := by
  have hc := at_z s
  have hm := more_z s
  have e0 : gb s (i : Int).toNat = a := ha
  have e1 : gb s ((i : Int) + 1).toNat = b := hb
  have e2 : gb s ((i : Int) + 2).toNat = c := hcc
  have e3 : gb s ((i : Int) + 3).toNat = d := hd
  have e1' : gb s (i + 1) = b := hb
  have e2' : gb s (i + 2) = c := hcc
  have e3' : gb s (i + 3) = d := hd
  have f1 : (decide ((a : Int) < 128)) = false := by simp; omega
  have f2 : (decide ((192 : Int) ≤ (a : Int))) = true := by simp; omega
  have f3 : (decide ((a : Int) < 224)) = false := by simp; omega
  have f4 : (decide ((224 : Int) ≤ (a : Int))) = true := by simp; omega
  have f5 : (decide ((a : Int) < 240)) = false := by simp; omega
  have f6 : (decide ((240 : Int) ≤ (a : Int))) = true := by simp; omega
  have f7 : (decide ((a : Int) < 248)) = true := by simp; omega
  go_enter Try.func52, Try.ntmps52
  go_wp2_with (first | (go_at_call 54; refine (hc _ _ ?_).mono ?_; omega; rintro e w' ⟨rfl, rfl⟩) | (go_at_call 55; refine (hm _ _ ?_).mono ?_; omega; rintro e w' ⟨rfl, rfl⟩))
  go_ret2
  exact ⟨rfl, rfl⟩
end Go.Proofs.Ytegbgkljpdlpnaa
