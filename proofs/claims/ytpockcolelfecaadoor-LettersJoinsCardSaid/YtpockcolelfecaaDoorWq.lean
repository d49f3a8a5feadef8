/- expand. -/
import Derived.Test.YtpockcolelfecaaDoorWp
import Derived.Test.YtpockcolelfecaaDoorPg
import Derived.Deep.QuietTactic
import Derived.BigQuiet
set_option linter.unusedVariables false
set_option linter.unusedSimpArgs false
namespace Go.Proofs.YtpockcolelfecaaDoor
open Go.RowKit

def expandV (x : Option (List UInt8)) : Value := match x with
  | none => .tuple #[.string ⟨#[]⟩, .bool false]
  | some l => .tuple #[.string ⟨l.toArray⟩, .bool true]
def ExpandPost (s : ByteArray) (w : World) (e : Ending) (w' : World) : Prop := e = .returned (expandV (expandL s)) ∧ Below w.heap.size w w'

theorem cells_of (c : Nat) (h : c < 256) : Lib.byteCells [UInt8.ofNat c] = [Value.int .u8 (c : Int)] := by
  unfold Lib.byteCells; simp only [List.map_cons, List.map_nil]; rw [u8_of c h]
theorem ext_get (s : ByteArray) (i k : Nat) (h : k < (s.extract i s.size).size) : ((s.extract i s.size)[k]'h).toNat = gb s (i + k) := by
  have h2 := h
  rw [ByteArray.size_extract] at h2
  rw [← gb_pos, gb_extract s i s.size k (Nat.le_refl _), if_pos (by omega)]
theorem ext_gb0 (s : ByteArray) (i k : Nat) : gb (s.extract i s.size) k = gb s (i + k) := by
  rw [gb_extract s i s.size k (Nat.le_refl _)]
  split
  · rfl
  · rw [gb_out s _ (by omega)]
theorem or16 (a b : Nat) (ha : a < 16) (hb : b < 16) : bits .or .i64 ((a * 16 : Nat) : Int) (b : Int) = ((a * 16 + b : Nat) : Int) := by
  have : ∀ x y : Fin 16, bits .or .i64 ((x.val * 16 : Nat) : Int) (y.val : Int) = ((x.val * 16 + y.val : Nat) : Int) := by decide +kernel
  exact this ⟨a, ha⟩ ⟨b, hb⟩

set_option maxHeartbeats 4000000 in
set_option maxRecDepth 20000 in
theorem expand_any (s : ByteArray) (w : World) (hs : s.size ≤ 17592186044416) :
    Calls Tryd.prog 42 #[.string s] w (ExpandPost s w) := by
  obtain ⟨X, hX⟩ : ∃ X, expandL s = X := ⟨_, rfl⟩
  have HX := Lib.hid hX; clear hX
  go_enter Tryd.func42, Tryd.ntmps42
  go_wp2
  go_loopw [5] (fun i wr => ∃ (pos fuel : Nat) (acc : List UInt8), i = .int .i64 pos ∧ pos ≤ s.size ∧ Lib.IsBuilderF 45 5 w.heap.size w.heap.size (Lib.byteCells acc) wr ∧ Below w.heap.size w wr ∧ w.heap.size < wr.heap.size ∧ (xFrom s fuel pos).map (acc ++ ·) = X ∧ s.size ≤ pos + fuel ∧ acc.length ≤ pos) (fun i _ => s.size - (intOf i).toNat)
  case atStart => exact ⟨0, s.size, [], rfl, by omega, Lib.IsBuilderF.of (Lib.fresh_isBuilder 45 5 w), (Below.refl _ w).alloc (Nat.le_refl _) _, by simp, by rw [← HX.out]; show (expandL s).map _ = _; simp, by omega, by simp⟩
  case round =>
    obtain ⟨pos, fuel, acc, rfl, hps, hI, hbw, hsz, hacc, hfu, hal⟩ := hrel
    have HACC := Lib.hid hacc; clear hacc
    by_cases hp : pos < s.size
    · obtain ⟨f, rfl⟩ : ∃ f, fuel = f + 1 := ⟨fuel - 1, by omega⟩
      have HSOME := Lib.hid (fun (b : UInt8) (n : Nat) (hx : xStep s pos = some (b, n)) => xFrom_some s f pos hp hx)
      have HNONE := Lib.hid (fun (hx : xStep s pos = none) => xFrom_none s f pos hp hx)
      obtain ⟨t, ht⟩ : ∃ t, s.extract pos s.size = t := ⟨_, rfl⟩
      have hts : t.size = s.size - pos := by rw [← ht, ByteArray.size_extract]; omega
      have g0 : ∀ h : 0 < t.size, (t[0]'h).toNat = gb s pos := by subst ht; exact fun h => ext_get s pos 0 h
      have g1 : ∀ h : 1 < t.size, (t[1]'h).toNat = gb s (pos + 1) := by subst ht; exact fun h => ext_get s pos 1 h
      have g2 : ∀ h : 2 < t.size, (t[2]'h).toNat = gb s (pos + 2) := by subst ht; exact fun h => ext_get s pos 2 h
      have g3 : ∀ h : 3 < t.size, (t[3]'h).toNat = gb s (pos + 3) := by subst ht; exact fun h => ext_get s pos 3 h
      have hpre : Lib.hasPrefix t.data.toList [37, 120] = decide (gb s pos = 37 ∧ gb s (pos + 1) = 120) := by rw [prefix_x, ← ht, ext_gb0, ext_gb0]; rfl
      have hP : ∀ w, Calls Tryd.prog 54 #[.string t, .string ⟨#[37, 120]⟩] w fun e w' => e = .returned (.bool (decide (gb s pos = 37 ∧ gb s (pos + 1) = 120))) ∧ w = w' := by
        intro w
        refine (Tryd.sh_HasPrefix t ⟨#[37, 120]⟩ w).mono ?_
        rintro e w' ⟨rfl, rfl⟩
        exact ⟨ret_bool hpre, rfl⟩
      have c0 := gb_lt s pos; have c1 := gb_lt s (pos + 1); have c2 := gb_lt s (pos + 2); have c3 := gb_lt s (pos + 3)
      have hh2 := hexV_range _ c2; have hh3 := hexV_range _ c3
      have HP1 := Lib.hid (xStep_plain s pos); have HP2 := Lib.hid (xStep_short s pos); have HP3 := Lib.hid (xStep_nohex s pos); have HP4 := Lib.hid (xStep_hex s pos); have HP5 := Lib.hid (xStep_end s pos); have HP6 := Lib.hid (xStep_two s pos)
      have hix : ∀ (c : Nat) (w : World), c < 256 → Calls Tryd.prog 58 #[.string ⟨#[48, 49, 50, 51, 52, 53, 54, 55, 56, 57, 97, 98, 99, 100, 101, 102]⟩, .int .u8 (c : Int)] w fun e w' => e = .returned (.int .i64 (hexV c)) ∧ w' = w := by
        intro c w hc
        refine (Tryd.sh_IndexByte _ (c : Int) w).mono ?_
        rintro e w' ⟨rfl, rfl⟩
        exact ⟨rfl, rfl⟩
      clear hpre
      generalize gb s pos = d0 at *
      generalize gb s (pos + 1) = d1 at *
      generalize gb s (pos + 2) = d2 at *
      generalize gb s (pos + 3) = d3 at *
      have hts0 : 0 < t.size := by omega
      by_cases q0 : d0 = 37
      rotate_left
      · have f0 : ((d0 : Int) != 37) = true := by simp; omega
        have Q0 := Lib.hid q0
        clear q0
        go_wp2_with (first | (go_at_call 54; refine (hP _).mono ?_; rintro e w' ⟨rfl, rfl⟩) | (go_at_call 39; refine (Tryd.sh_WriteByte w.heap.size w.heap.size _ _ _ hI (by rw [Lib.byteCells_length]; omega) (by omega)).mono ?_))
        rintro e W1 ⟨rfl, h1, b1, k1⟩
        have hs1 := b1.size
        go_wp2
        go_roundw
        case rel =>
          refine ⟨pos + 1, f, acc ++ [UInt8.ofNat d0], by go_num, by omega, ?_, hbw.trans b1, by omega, ?_, by omega, by simp; omega⟩
          · rw [Lib.byteCells_append, cells_of _ (by omega)]; exact Or.inr h1
          · rw [← HACC.out, HSOME.out _ _ (HP1.out Q0.out)]; cases xFrom s f (pos + 1) <;> simp
        case measure => simp [intOf]; omega
      have f0 : ((d0 : Int) != 37) = false := by simp; omega
      have Q0 := Lib.hid q0; clear q0
      by_cases q1 : d1 = 120
      · have f1 : decide (d0 = 37 ∧ d1 = 120) = true := by simp; exact ⟨Q0.out, q1⟩
        rw [f1] at hP
        have Q1 := Lib.hid q1
        clear q1 f1
        by_cases q4 : s.size < pos + 4
        · have f4 : decide ((t.size : Int) < 4) = true := by simp; omega
          go_wp2_with (first | (go_at_call 54; refine (hP _).mono ?_; rintro e w' ⟨rfl, rfl⟩) | (go_at_call 39; refine (Tryd.sh_WriteByte w.heap.size w.heap.size _ _ _ hI (by rw [Lib.byteCells_length]; omega) (by omega)).mono ?_))
          go_ret2
          have hX : X = none := by rw [← HACC.out, HNONE.out (HP2.out Q0.out Q1.out q4)]; rfl
          exact ⟨by rw [HX.out, hX]; rfl, hbw⟩
        have f4 : decide ((t.size : Int) < 4) = false := by simp; omega
        have hi2 := fun w => hix d2 w c2
        have hi3 := fun w => hix d3 w c3
        have HI3 := Lib.hid HP3.out; have HI4 := Lib.hid HP4.out
        clear hix hh2 hh3 HP1 HP2 HP3 HP4 HP5 HP6
        have hh2 := hexV_range _ c2; have hh3 := hexV_range _ c3
        generalize hexV d2 = v2 at *
        generalize hexV d3 = v3 at *
        have l2 : 2 < t.size := by omega
        have l3 : 3 < t.size := by omega
        by_cases b2 : v2 < 0
        · have f5 : decide (v2 < 0) = true := by simpa using b2
          have HN := Lib.hid (HI3.out Q0.out Q1.out q4 (Or.inl b2))
          go_wp2_with (first | (go_at_call 54; refine (hP _).mono ?_; rintro e w' ⟨rfl, rfl⟩) | (go_at_call 39; refine (Tryd.sh_WriteByte w.heap.size w.heap.size _ _ _ hI (by rw [Lib.byteCells_length]; omega) (by omega)).mono ?_))
          go_quiet ((go_at_call 58; first | (with_reducible exact Calls.quiet_of_same (hi2 _)) | (with_reducible exact Calls.quiet_of_same (hi3 _))))
          go_wp2
          go_ret2
          have hX : X = none := by rw [← HACC.out, HNONE.out (HN.out)]; rfl
          exact ⟨by rw [HX.out, hX]; rfl, below_drewN hbw _⟩
        by_cases b3 : v3 < 0
        · have f5 : decide (v2 < 0) = false := by simpa using b2
          have f6 : decide (v3 < 0) = true := by simpa using b3
          have HN := Lib.hid (HI3.out Q0.out Q1.out q4 (Or.inr b3))
          go_wp2_with (first | (go_at_call 54; refine (hP _).mono ?_; rintro e w' ⟨rfl, rfl⟩) | (go_at_call 39; refine (Tryd.sh_WriteByte w.heap.size w.heap.size _ _ _ hI (by rw [Lib.byteCells_length]; omega) (by omega)).mono ?_))
          go_quiet ((go_at_call 58; first | (with_reducible exact Calls.quiet_of_same (hi2 _)) | (with_reducible exact Calls.quiet_of_same (hi3 _))))
          go_wp2
          go_ret2
          have hX : X = none := by rw [← HACC.out, HNONE.out (HN.out)]; rfl
          exact ⟨by rw [HX.out, hX]; rfl, below_drewN hbw _⟩
        have f5 : decide (v2 < 0) = false := by simpa using b2
        have f6 : decide (v3 < 0) = false := by simpa using b3
        have HS := Lib.hid (HI4.out Q0.out Q1.out q4 (by omega))
        clear HI3 HI4
        obtain ⟨n2, rfl⟩ := Int.eq_ofNat_of_zero_le (show 0 ≤ v2 by omega)
        obtain ⟨n3, rfl⟩ := Int.eq_ofNat_of_zero_le (show 0 ≤ v3 by omega)
        have l2 : n2 < 16 := by omega
        have l3 : n3 < 16 := by omega
        have hor : bits .or .i64 ((n2 : Int) * 16) (n3 : Int) = ((n2 * 16 + n3 : Nat) : Int) := by have := or16 n2 n3 l2 l3; simpa using this
        have hn2 : UInt8.ofNat ((n2 : Int) * 16 + (n3 : Int)).toNat = UInt8.ofNat (n2 * 16 + n3) := by rw [show (((n2 : Int) * 16 + (n3 : Int)).toNat) = n2 * 16 + n3 by omega]
        have HN2 := Lib.hid hn2; clear hn2
        have hK : n2 * 16 + n3 < 256 := by omega
        generalize n2 * 16 + n3 = K at *
        have hmod : (K : Int) % 256 = (K : Int) := by omega
        clear hh2 hh3 b2 b3
        go_wp2_with (first | (go_at_call 54; refine (hP _).mono ?_; rintro e w' ⟨rfl, rfl⟩) | (go_at_call 39; refine (Tryd.sh_WriteByte w.heap.size w.heap.size _ _ _ hI (by rw [Lib.byteCells_length]; omega) (by omega)).mono ?_))
        go_quiet ((go_at_call 58; first | (with_reducible exact Calls.quiet_of_same (hi2 _)) | (with_reducible exact Calls.quiet_of_same (hi3 _))))
        have hI2 := builder_below hI (below_drewN (Below.refl _ wr) nq)
        have hbw2 := below_drewN hbw nq
        have hsz2 : w.heap.size < (wr.drewN nq).heap.size := by have := (below_drewN (Below.refl wr.heap.size wr) nq).size; omega
        clear hI hbw hi2 hi3
        generalize wr.drewN nq = W2 at *
        go_wp2_with (go_at_call 39; refine (Tryd.sh_WriteByte w.heap.size w.heap.size _ _ _ hI2 (by rw [Lib.byteCells_length]; omega) (by omega)).mono ?_)
        rintro e W1 ⟨rfl, h1, b1, k1⟩
        have hs1 := b1.size
        go_wp2
        go_roundw
        case rel =>
          refine ⟨pos + 4, f, acc ++ [UInt8.ofNat K], by go_num, by omega, ?_, hbw2.trans b1, by omega, ?_, by omega, by simp; omega⟩
          · rw [Lib.byteCells_append, cells_of _ (by omega)]; exact Or.inr h1
          · rw [← HACC.out, HSOME.out _ _ (by rw [HS.out, HN2.out])]; cases xFrom s f (pos + 4) <;> simp
        case measure => simp [intOf]; omega
      · have f1 : decide (d0 = 37 ∧ d1 = 120) = false := by simp; exact fun _ => q1
        rw [f1] at hP
        have Q1 := Lib.hid q1
        clear q1 f1
        by_cases q4 : s.size < pos + 2
        · have f4 : decide ((t.size : Int) < 2) = true := by simp; omega
          go_wp2_with (first | (go_at_call 54; refine (hP _).mono ?_; rintro e w' ⟨rfl, rfl⟩) | (go_at_call 39; refine (Tryd.sh_WriteByte w.heap.size w.heap.size _ _ _ hI (by rw [Lib.byteCells_length]; omega) (by omega)).mono ?_))
          go_ret2
          have hX : X = none := by rw [← HACC.out, HNONE.out (HP5.out Q0.out Q1.out q4)]; rfl
          exact ⟨by rw [HX.out, hX]; rfl, hbw⟩
        have f4 : decide ((t.size : Int) < 2) = false := by simp; omega
        have l1 : 1 < t.size := by omega
        go_wp2_with (first | (go_at_call 54; refine (hP _).mono ?_; rintro e w' ⟨rfl, rfl⟩) | (go_at_call 39; refine (Tryd.sh_WriteByte w.heap.size w.heap.size _ _ _ hI (by rw [Lib.byteCells_length]; omega) (by omega)).mono ?_))
        rintro e W1 ⟨rfl, h1, b1, k1⟩
        have hs1 := b1.size
        go_wp2
        go_roundw
        case rel =>
          refine ⟨pos + 2, f, acc ++ [UInt8.ofNat d1], by go_num, by omega, ?_, hbw.trans b1, by omega, ?_, by omega, by simp; omega⟩
          · rw [Lib.byteCells_append, cells_of _ (by omega)]; exact Or.inr h1
          · rw [← HACC.out, HSOME.out _ _ (HP6.out Q0.out Q1.out q4)]; cases xFrom s f (pos + 2) <;> simp
        case measure => simp [intOf]; omega
    · go_wp2_with (go_at_call 41; refine (Tryd.sh_BString w.heap.size w.heap.size acc _ hI (by omega)).mono ?_)
      rintro e W1 ⟨rfl, _, b1, _⟩
      go_wp2
      go_ret2
      have hX : X = some acc := by rw [← HACC.out, xFrom_end s fuel pos hp]; simp
      exact ⟨by rw [HX.out, hX]; rfl, hbw.trans b1⟩
end Go.Proofs.YtpockcolelfecaaDoor
