/- The reference's Small. -/
import Derived.Test.YtlkjfhidicgjiaaDoorYb
set_option linter.unusedVariables false
set_option linter.unusedSimpArgs false
namespace Go.Proofs.YtlkjfhidicgjiaaDoor
open Go.RowKit
open Go.Lib (nDigits decDigits)

theorem iv_append (a b : List Nat) : iv (a ++ b) = iv a ++ iv b := by simp [iv]
theorem iv_one (d : Nat) : iv [d] = [Value.int .i64 (d : Int)] := rfl
theorem pow_short (k u : Nat) (h : 10 ^ k ≤ u) (hu : u < 18446744073709551616) : k < 20 := by
  rcases Nat.lt_or_ge k 20 with h1 | h1
  · exact h1
  · have := Nat.pow_le_pow_right (n := 10) (by decide) h1
    have e : (10 : Nat) ^ 20 = 100000000000000000000 := by decide
    omega

set_option maxRecDepth 100000 in
set_option maxHeartbeats 2000000 in
theorem rsmall_any (u : Nat) (hu : u < 18446744073709551616) (w : World) :
    Calls Tryd.prog 15 #[.int .u64 u] w fun e w' => e = .returned (.string (decS u)) ∧ Below w.heap.size w w' := by
  obtain ⟨i0, hi, hz0, hz1, hz2⟩ := info_parts info_int
  go_enter Tryd.func15, Tryd.ntmps15
  go_wp2
  go_loopw [0, 3] (fun n b wr => ∃ (m : Nat) (acc : List Nat), n = .int .u64 m ∧ m ≤ u ∧ u = m * 10 ^ acc.length + vl 10 acc ∧ (∀ d ∈ acc, d < 10) ∧ acc.length ≤ 20 ∧ (acc = [] → b = .slice none 0 0) ∧ wr.ownsRow w.heap.size 3 1 b acc.length (iv acc) ∧ Below w.heap.size w wr) (fun n _ _ => (intOf n).toNat)
  case atStart => exact ⟨u, [], rfl, Nat.le_refl _, by simp [vl], by simp, by simp, fun _ => rfl, World.ownsRow_nil _ _ _ _, Below.refl _ _⟩
  case round =>
    obtain ⟨m, acc, rfl, hmu, hval, hd, hlen20, hnil, hown, hb⟩ := hrel
    have HVAL := Lib.hid hval; have HD := Lib.hid hd; have HNIL := Lib.hid hnil
    have hlen : m ≠ 0 → acc.length < 20 := fun h0 => pow_short acc.length u (by
      have := Nat.le_mul_of_pos_left (10 ^ acc.length) (show 0 < m by omega)
      omega) hu
    clear hval hd hnil
    by_cases h0 : m = 0
    · subst h0
      have hdg : Digs wr u3 acc := by
        by_cases ha : acc = []
        · exact .inl ⟨HNIL.out ha, ha⟩
        · exact Digs.of_own hown ha
      have HT := Lib.hid (text_any u3 acc wr hdg HD.out (by omega))
      have e := HVAL.out
      rw [Nat.zero_mul, Nat.zero_add] at e
      have HE := Lib.hid e
      have HB := Lib.hid hb
      clear hown hb hdg e hlen
      go_wp2_with fail
      refine HT.out.mono ?_
      rintro e w1 ⟨rfl, hb1⟩
      have HB1 := Lib.hid hb1
      clear hb1
      go_wp2
      go_ret
      exact ⟨by rw [HE.out]; rfl, HB.out.trans (HB1.out.mono HB.out.size)⟩
    · have hl := hlen h0
      have hm0 : (0 : Int) < (m : Int) := by omega
      have hq : IntKind.u64.wrap ((m : Int) / 10) = ((m / 10 : Nat) : Int) := by
        rw [show (m : Int) / 10 = ((m / 10 : Nat) : Int) from (Int.natCast_ediv m 10).symm]
        exact wrap_cast _ _ rfl (by omega)
      have hr0 : (m : Int) % 10 = ((m % 10 : Nat) : Int) := (Int.natCast_emod m 10).symm
      have hr1 : IntKind.u64.wrap ((m : Int) % 10) = ((m % 10 : Nat) : Int) := by rw [hr0]; exact wrap_cast _ _ rfl (by omega)
      have hr2 : IntKind.u64.wrap ((m % 10 : Nat) : Int) = ((m % 10 : Nat) : Int) := wrap_cast _ _ rfl (by omega)
      have hr3 : IntKind.i64.wrap ((m % 10 : Nat) : Int) = ((m % 10 : Nat) : Int) := IntWalk.i64_in _ ⟨by omega, by omega⟩
      have HU := Lib.hid hu
      have HMU := Lib.hid hmu
      clear hlen hu hmu
      obtain ⟨d, hd⟩ : ∃ d, m % 10 = d := ⟨_, rfl⟩
      rw [hd] at hr0 hr1 hr2 hr3
      have HDD := Lib.hid hd
      clear hd
      go_wp2_with (at_builtin; refine wpList_append_own _ rfl _ _ 38 rfl w.heap.size 3 i0 (.int .i64 0) 1 8 Tryd.underlying38 hi hz0 hz1 hz2 rfl (by decide) _ _ _ rfl (hown.alloc _) ⟨wr.heap.size, 0, none⟩ 1 1 [.int .i64 (d : Int)] rfl rfl ?c1 ?c2 ?c3 ?c4 ?c5 ?_)
      case c1 => exact one_new _ _ _
      case c2 => intro u hu; simp at hu; subst hu; rfl
      case c3 => unfold maxLen; omega
      case c4 => omega
      case c5 => simp; have := hb.size; omega
      intro v' w1 hown' hgrow _
      have HB := Lib.hid (below_new hb _ (fun g e => (hown.lt g e).1) hgrow)
      have HO := Lib.hid hown'
      clear hown hown' hgrow hb hm0
      go_wp2
      go_roundw
      case rel => exact ⟨m / 10, acc ++ [d], rfl, by have := HMU.out; have := Nat.div_le_self m 10; omega, by
        have e := HVAL.out
        rw [vl_snoc, List.length_append, List.length_singleton, Nat.pow_succ, ← HDD.out]
        have h2 := Nat.div_add_mod m 10
        generalize 10 ^ acc.length = P at *
        have : m * P = (10 * (m / 10) + m % 10) * P := by rw [h2]
        rw [Nat.add_mul] at this
        have e3 : m / 10 * (P * 10) = 10 * (m / 10) * P := by rw [Nat.mul_comm P 10, ← Nat.mul_assoc, Nat.mul_comm (m / 10) 10]
        rw [e3, Nat.mul_comm P (m % 10)]
        omega, by
        intro d hd
        rcases List.mem_append.1 hd with hd | hd
        · exact HD.out d hd
        · rw [List.mem_singleton.1 hd, ← HDD.out]; omega, by simp; omega, fun e => by simp at e, by
        rw [List.length_append, iv_append, iv_one]; exact HO.out, HB.out⟩
      case measure => simp [intOf]; omega
end Go.Proofs.YtlkjfhidicgjiaaDoor
