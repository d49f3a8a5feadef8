/- The reference's less, Sub. -/
import Derived.Test.YtlkjfhidicgjiaaDoorYe
set_option linter.unusedVariables false
set_option linter.unusedSimpArgs false
namespace Go.Proofs.YtlkjfhidicgjiaaDoor
open Go.RowKit
open Go.Lib (nDigits decDigits)

structure LessInv (xs ys : List Nat) (k c : Nat) (acc : List Nat) : Prop where
  len : acc.length = k
  lt : ∀ d ∈ acc, d < 10
  carry : c ≤ 1
  val : vl 10 acc + vl 10 (ys.take k) = vl 10 (xs.take k) + 10 ^ k * c
theorem LessInv.start (xs ys : List Nat) : LessInv xs ys 0 0 [] := ⟨rfl, fun d h => by simp at h, by omega, by simp [vl]⟩
theorem LessInv.step {xs ys : List Nat} {k c : Nat} {acc : List Nat} (h : LessInv xs ys k c acc) (d c' : Nat) (hd : d < 10) (hc : c' ≤ 1) (e : d + ys.getD k 0 + c = xs.getD k 0 + 10 * c') :
    LessInv xs ys (k + 1) c' (acc ++ [d]) := by
  refine ⟨by rw [List.length_append, h.len]; rfl, fun x hx => ?_, hc, ?_⟩
  · rcases List.mem_append.1 hx with hx | hx
    · exact h.lt x hx
    · rw [List.mem_singleton.1 hx]; exact hd
  · have v := h.val
    rw [vl_snoc, h.len, vl_take_succ, vl_take_succ, Nat.pow_succ]
    generalize xs.getD k 0 = p at *
    generalize ys.getD k 0 = q at *
    generalize 10 ^ k = P at *
    have e1 : P * (d + q + c) = P * (p + 10 * c') := by rw [e]
    rw [Nat.mul_add, Nat.mul_add, Nat.mul_add, ← Nat.mul_assoc] at e1
    omega
theorem LessInv.fin {xs ys : List Nat} {c : Nat} {acc : List Nat} (h : LessInv xs ys xs.length c acc) (hx : ∀ d ∈ xs, d < 10) (hle : vl 10 ys ≤ vl 10 xs) : vl 10 acc = vl 10 xs - vl 10 ys := by
  have e := h.val
  rw [List.take_of_length_le (Nat.le_refl _)] at e
  have a1 := vl_lt 10 xs hx
  have a2 := vl_lt 10 acc h.lt
  rw [h.len] at a2
  have hc := h.carry
  have hy : vl 10 (ys.take xs.length) = vl 10 ys := by
    rcases Nat.lt_or_ge ys.length xs.length with h1 | h1
    · rw [List.take_of_length_le (by omega)]
    · have s := vl_split 10 ys xs.length h1
      rcases Nat.eq_zero_or_pos (vl 10 (ys.drop xs.length)) with h0 | h0
      · rw [h0, Nat.mul_zero] at s; omega
      · have := Nat.mul_le_mul_left (10 ^ xs.length) h0
        omega
  rw [hy] at e
  have : c = 0 := by
    rcases Nat.eq_zero_or_pos c with h0 | h0
    · exact h0
    · obtain rfl : c = 1 := by omega
      omega
  subst this
  omega

def LessPost (xs ys : List Nat) (w : World) (e : Ending) (w' : World) : Prop :=
  ∃ v zs, e = .returned v ∧ Row10 w' v zs ∧ (∀ d ∈ zs, d < 10) ∧ vl 10 zs = vl 10 xs - vl 10 ys ∧ zs.length = xs.length ∧ Below w.heap.size w w'

set_option maxRecDepth 100000 in
set_option maxHeartbeats 4000000 in
theorem less_any (v1 v2 : Value) (xs ys : List Nat) (w : World) (hv1 : Row10 w v1 xs) (hv2 : Row10 w v2 ys) (hx : ∀ d ∈ xs, d < 10) (hy : ∀ d ∈ ys, d < 10) (lx : xs.length ≤ 1000000) (ly : ys.length ≤ 1000000) (hle : vl 10 ys ≤ vl 10 xs) :
    Calls Tryd.prog 44 #[v1, v2] w (LessPost xs ys w) := by
  obtain ⟨i0, hi, hz0, hz1, hz2⟩ := info_parts info_int
  obtain ⟨g1, c1, rfl⟩ := hv1.form
  obtain ⟨g2, c2, rfl⟩ := hv2.form
  have hpos := List.length_pos_iff.2 hv1.2
  have R1 := Lib.hid hv1; have R2 := Lib.hid hv2; have HX := Lib.hid hx; have HY := Lib.hid hy; have HLE := Lib.hid hle
  clear hv1 hv2 hx hy hle
  go_enter Tryd.func44, Tryd.ntmps44
  go_wp2
  go_loopw [5, 6, 7] (fun l c i wr => ∃ (k y : Nat) (acc : List Nat), i = .int .i64 k ∧ c = .int .i64 y ∧ LessInv xs ys k y acc ∧ k ≤ xs.length ∧ wr.ownsRow w.heap.size 3 1 l acc.length (iv acc) ∧ Below w.heap.size w wr) (fun _ _ i _ => xs.length - (intOf i).toNat)
  case atStart => exact ⟨0, 0, [], rfl, rfl, LessInv.start xs ys, by omega, World.ownsRow_nil _ _ _ _, Below.refl _ _⟩
  case round =>
    obtain ⟨k, y, acc, rfl, rfl, hinv, hk, hown, hb⟩ := hrel
    have hal : acc.length = k := hinv.len
    have hy1 := hinv.carry
    have HINV := Lib.hid hinv
    clear hinv
    by_cases hgo : k < xs.length
    · have a1 := Lib.hid (at_any _ xs k wr (R1.out.below hb) lx)
      have a2 := Lib.hid (at_any _ ys k wr (R2.out.below hb) ly)
      have hp := getD_lt xs HX.out k
      have hq := getD_lt ys HY.out k
      have HN := Lib.hid (fun d c' h1 h2 h3 => HINV.out.step d c' h1 h2 h3)
      generalize xs.getD k 0 = p at *
      generalize ys.getD k 0 = q at *
      have p0 : (0 : Int) ≤ (p : Int) := by omega
      have p1 : (p : Int) < 10 := by omega
      have q0 : (0 : Int) ≤ (q : Int) := by omega
      have q1 : (q : Int) < 10 := by omega
      have y0 : (0 : Int) ≤ (y : Int) := by omega
      have y1 : (y : Int) ≤ 1 := by omega
      have hb1 : acc.length + 1 ≤ 1000001 := by omega
      by_cases hneg : (p : Int) - q - y < 0
      · have HE := Lib.hid (show (p : Int) - q - y + 10 = ((p + 10 - q - y : Nat) : Int) by omega)
        have HM := Lib.hid (HN.out (p + 10 - q - y) 1 (by omega) (by omega) (by omega))
        clear hal hp hq hy1
        go_wp2_with fail
        refine a1.out.mono ?_
        rintro e w' ⟨rfl, rfl⟩
        go_wp2_with fail
        refine a2.out.mono ?_
        rintro e w' ⟨rfl, rfl⟩
        go_wp2_with (at_builtin; refine wpList_append_own _ rfl _ _ 38 rfl w.heap.size 3 i0 (.int .i64 0) 1 8 Tryd.underlying38 hi hz0 hz1 hz2 rfl (by decide) _ _ _ rfl (hown.alloc _) ⟨wr.heap.size, 0, none⟩ 1 1 [.int .i64 ((p : Int) - q - y + 10)] rfl rfl ?c1 ?c2 ?c3 ?c4 ?c5 ?_)
        case c1 => exact one_new _ _ _
        case c2 => intro u hu; simp at hu; subst hu; rfl
        case c3 => unfold maxLen; omega
        case c4 => omega
        case c5 => simp; have := hb.size; omega
        intro v' w3 hown' hgrow _
        have HB := Lib.hid (below_new hb _ (fun g e => (hown.lt g e).1) hgrow)
        have HO := Lib.hid hown'
        clear hown hown' hgrow hb
        go_wp2
        go_roundw
        case rel => exact ⟨k + 1, 1, acc ++ [p + 10 - q - y], by go_num, rfl, HM.out, by omega, by
          rw [List.length_append, iv_append, iv_one, ← HE.out]; exact HO.out, HB.out⟩
        case measure => simp [intOf]; omega
      · have HE := Lib.hid (show (p : Int) - q - y = ((p - q - y : Nat) : Int) by omega)
        have HM := Lib.hid (HN.out (p - q - y) 0 (by omega) (by omega) (by omega))
        clear hal hp hq hy1
        go_wp2_with fail
        refine a1.out.mono ?_
        rintro e w' ⟨rfl, rfl⟩
        go_wp2_with fail
        refine a2.out.mono ?_
        rintro e w' ⟨rfl, rfl⟩
        go_wp2_with (at_builtin; refine wpList_append_own _ rfl _ _ 38 rfl w.heap.size 3 i0 (.int .i64 0) 1 8 Tryd.underlying38 hi hz0 hz1 hz2 rfl (by decide) _ _ _ rfl (hown.alloc _) ⟨wr.heap.size, 0, none⟩ 1 1 [.int .i64 ((p : Int) - q - y)] rfl rfl ?c1 ?c2 ?c3 ?c4 ?c5 ?_)
        case c1 => exact one_new _ _ _
        case c2 => intro u hu; simp at hu; subst hu; rfl
        case c3 => unfold maxLen; omega
        case c4 => omega
        case c5 => simp; have := hb.size; omega
        intro v' w3 hown' hgrow _
        have HB := Lib.hid (below_new hb _ (fun g e => (hown.lt g e).1) hgrow)
        have HO := Lib.hid hown'
        clear hown hown' hgrow hb
        go_wp2
        go_roundw
        case rel => exact ⟨k + 1, 0, acc ++ [p - q - y], by go_num, rfl, HM.out, by omega, by
          rw [List.length_append, iv_append, iv_one, ← HE.out]; exact HO.out, HB.out⟩
        case measure => simp [intOf]; omega
    · obtain rfl : k = xs.length := by omega
      have hne : acc ≠ [] := by intro e; rw [e] at hal; simp at hal; omega
      have HR := Lib.hid (show Row10 wr u5 acc from ⟨Digs.of_own hown hne, hne⟩)
      have HFIN := Lib.hid (HINV.out.fin HX.out HLE.out)
      have HAL := Lib.hid hal
      have HB := Lib.hid hb
      clear hown hb hne hal
      go_wp2
      go_ret
      exact ⟨_, acc, rfl, HR.out, HINV.out.lt, HFIN.out, HAL.out, HB.out⟩
end Go.Proofs.YtlkjfhidicgjiaaDoor
