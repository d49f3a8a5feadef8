/- The reference's Add. -/
import Derived.Test.YtlkjfhidicgjiaaDoorYd
set_option linter.unusedVariables false
set_option linter.unusedSimpArgs false
namespace Go.Proofs.YtlkjfhidicgjiaaDoor
open Go.RowKit
open Go.Lib (nDigits decDigits)

theorem vl_digits (l : List Nat) (h : ∀ d ∈ l, d < 10) : nDigits (vl 10 l) ≤ l.length + 1 := by
  have h1 := nDigits_mono (Nat.le_of_lt (vl_lt 10 l h))
  have h2 := Lib.nDigits_unique l.length (10 ^ l.length) (Nat.le_refl _) (Nat.pow_lt_pow_right (by decide) (by omega))
  omega

structure AddInv (xs ys : List Nat) (k c : Nat) (acc : List Nat) : Prop where
  len : acc.length = k
  lt : ∀ d ∈ acc, d < 10
  carry : c ≤ 1
  val : vl 10 acc + 10 ^ k * c = vl 10 (xs.take k) + vl 10 (ys.take k)
theorem getD_lt (l : List Nat) (h : ∀ d ∈ l, d < 10) (k : Nat) : l.getD k 0 < 10 := by
  rcases Nat.lt_or_ge k l.length with h1 | h1
  · rw [List.getD_eq_getElem?_getD, List.getElem?_eq_getElem h1]; exact h _ (List.getElem_mem _)
  · rw [List.getD_eq_getElem?_getD, List.getElem?_eq_none h1]; decide
theorem AddInv.step {xs ys : List Nat} {k c : Nat} {acc : List Nat} (h : AddInv xs ys k c acc) (hx : ∀ d ∈ xs, d < 10) (hy : ∀ d ∈ ys, d < 10) :
    AddInv xs ys (k + 1) ((xs.getD k 0 + ys.getD k 0 + c) / 10) (acc ++ [(xs.getD k 0 + ys.getD k 0 + c) % 10]) := by
  have h1 := getD_lt xs hx k
  have h2 := getD_lt ys hy k
  have h3 := h.carry
  refine ⟨by rw [List.length_append, h.len]; rfl, fun d hd => ?_, by omega, ?_⟩
  · rcases List.mem_append.1 hd with hd | hd
    · exact h.lt d hd
    · rw [List.mem_singleton.1 hd]; omega
  · have e := h.val
    rw [vl_snoc, h.len, vl_take_succ, vl_take_succ, Nat.pow_succ]
    generalize xs.getD k 0 = p at *
    generalize ys.getD k 0 = q at *
    have hd := Nat.div_add_mod (p + q + c) 10
    generalize (p + q + c) / 10 = u at *
    generalize (p + q + c) % 10 = v at *
    generalize 10 ^ k = P at *
    have e1 : P * 10 * u + P * v = P * (p + q + c) := by rw [← hd, Nat.mul_add, Nat.mul_assoc]
    rw [Nat.mul_add, Nat.mul_add] at e1
    omega
theorem AddInv.fin {xs ys : List Nat} {k c : Nat} {acc : List Nat} (h : AddInv xs ys k c acc) (hx : ∀ d ∈ xs, d < 10) (hy : ∀ d ∈ ys, d < 10) (h1 : xs.length < k) (h2 : ys.length < k) : vl 10 acc = vl 10 xs + vl 10 ys := by
  have e := h.val
  rw [List.take_of_length_le (by omega), List.take_of_length_le (by omega)] at e
  have a1 := vl_lt 10 xs hx
  have a2 := vl_lt 10 ys hy
  obtain ⟨k, rfl⟩ : ∃ j, k = j + 1 := ⟨k - 1, by omega⟩
  have b1 := Nat.pow_le_pow_right (n := 10) (by decide) (show xs.length ≤ k by omega)
  have b2 := Nat.pow_le_pow_right (n := 10) (by decide) (show ys.length ≤ k by omega)
  rw [Nat.pow_succ] at e
  have hc := h.carry
  have : c = 0 := by
    rcases Nat.eq_zero_or_pos c with h0 | h0
    · exact h0
    · obtain rfl : c = 1 := by omega
      omega
  subst this
  omega
theorem AddInv.start (xs ys : List Nat) : AddInv xs ys 0 0 [] := ⟨rfl, fun d h => by simp at h, by omega, by simp [vl]⟩

theorem limV_form (n : Nat) : ∃ S E, limV n = .tuple #[.string S, .int .i64 E] := by
  unfold limV
  split
  · exact ⟨_, _, rfl⟩
  · exact ⟨_, _, rfl⟩

set_option maxRecDepth 100000 in
set_option maxHeartbeats 4000000 in
theorem radd_num (a b : ByteArray) (w : World) (na : numB a = true) (nb : numB b = true) :
    Calls Tryd.prog 21 #[.string a, .string b] w (ValPost (addV a b) w) := by
  obtain ⟨i0, hi, hz0, hz1, hz2⟩ := info_parts info_int
  have va := rvalid_any a w (maxLen_ok na)
  have vb := rvalid_any b w (maxLen_ok nb)
  rw [na] at va
  rw [nb] at vb
  have VA := Lib.hid va; have VB := Lib.hid vb
  have D1 := Lib.hid (fun w => digits_any a w na)
  have D2 := Lib.hid (fun w => digits_any b w nb)
  have HV := Lib.hid (show addV a b = limV (vl 10 (dg10 a) + vl 10 (dg10 b)) by unfold addV; rw [na, nb, dg10_val, dg10_val]; rfl)
  have hx := dg10_lt a na
  have hy := dg10_lt b nb
  have sa := num_size a na
  have sb := num_size b nb
  have la := dg10_len a
  have lb := dg10_len b
  clear va vb na nb
  generalize dg10 a = xs at *
  generalize dg10 b = ys at *
  have HX := Lib.hid hx; have HY := Lib.hid hy
  have lx : 1 ≤ xs.length ∧ xs.length ≤ 1000 := by omega
  have ly : 1 ≤ ys.length ∧ ys.length ≤ 1000 := by omega
  obtain ⟨lx1, lx2⟩ := lx
  obtain ⟨ly1, ly2⟩ := ly
  clear hx hy sa sb la lb
  go_enter Tryd.func21, Tryd.ntmps21
  go_wp2_with fail
  refine VA.out.mono ?_
  rintro e w' ⟨rfl, rfl⟩
  go_wp2_with fail
  refine VB.out.mono ?_
  rintro e w' ⟨rfl, rfl⟩
  go_wp2_with fail
  refine (D1.out _).mono ?_
  rintro e w1 ⟨v1, rfl, hr1, hb1⟩
  obtain ⟨g1, c1, rfl⟩ := hr1.form
  have R1 := Lib.hid hr1; have B1 := Lib.hid hb1
  clear hr1 hb1
  go_wp2_with fail
  refine (D2.out _).mono ?_
  rintro e w2 ⟨v2, rfl, hr2, hb2⟩
  obtain ⟨g2, c2, rfl⟩ := hr2.form
  have R1' := Lib.hid (R1.out.below hb2)
  have R2 := Lib.hid hr2
  have B2 := Lib.hid (B1.out.trans (hb2.mono B1.out.size))
  clear hr2 hb2 R1 B1 VA VB D1 D2
  go_wp2
  go_loopw [8, 9, 10] (fun l c i wr => ∃ (k y : Nat) (acc : List Nat), i = .int .i64 k ∧ c = .int .i64 y ∧ AddInv xs ys k y acc ∧ k ≤ 1001 ∧ wr.ownsRow w2.heap.size 3 1 l acc.length (iv acc) ∧ Below w2.heap.size w2 wr) (fun _ _ i _ => 1002 - (intOf i).toNat)
  case atStart => exact ⟨0, 0, [], rfl, rfl, AddInv.start xs ys, by omega, World.ownsRow_nil _ _ _ _, Below.refl _ _⟩
  case round =>
    obtain ⟨k, y, acc, rfl, rfl, hinv, hk, hown, hb⟩ := hrel
    have hal : acc.length = k := hinv.len
    have hy1 := hinv.carry
    have HINV := Lib.hid hinv
    clear hinv
    by_cases hgo : k ≤ xs.length ∨ k ≤ ys.length
    · have a1 := Lib.hid (at_any _ xs k wr (R1'.out.below hb) (by omega))
      have a2 := Lib.hid (at_any _ ys k wr (R2.out.below hb) (by omega))
      have hp := getD_lt xs HX.out k
      have hq := getD_lt ys HY.out k
      have HN := Lib.hid (HINV.out.step HX.out HY.out)
      generalize xs.getD k 0 = p at *
      generalize ys.getD k 0 = q at *
      have HE := Lib.hid (show ((p : Int) + q + y) % 10 = (((p + q + y) % 10 : Nat) : Int) by omega)
      have HE2 := Lib.hid (show ((p : Int) + q + y) / 10 = (((p + q + y) / 10 : Nat) : Int) by omega)
      have p0 : (0 : Int) ≤ (p : Int) := by omega
      have p1 : (p : Int) < 10 := by omega
      have q0 : (0 : Int) ≤ (q : Int) := by omega
      have q1 : (q : Int) < 10 := by omega
      have y0 : (0 : Int) ≤ (y : Int) := by omega
      have y1 : (y : Int) ≤ 1 := by omega
      have k1 : k ≤ 1000 := by omega
      have hb1 : acc.length + 1 ≤ 1000000 := by omega
      have HAL := Lib.hid hal
      clear hal hp hq hy1
      rcases Nat.lt_or_ge xs.length k with hxk | hxk
      · have hyk : k ≤ ys.length := by omega
        have f1 : ¬ k ≤ xs.length := by omega
        clear hgo
        go_wp2_with fail
        refine a1.out.mono ?_
        rintro e w' ⟨rfl, rfl⟩
        go_wp2_with fail
        refine a2.out.mono ?_
        rintro e w' ⟨rfl, rfl⟩
        go_wp2_with (at_builtin; refine wpList_append_own _ rfl _ _ 38 rfl w2.heap.size 3 i0 (.int .i64 0) 1 8 Tryd.underlying38 hi hz0 hz1 hz2 rfl (by decide) _ _ _ rfl (hown.alloc _) ⟨wr.heap.size, 0, none⟩ 1 1 [.int .i64 (((p : Int) + q + y) % 10)] rfl rfl ?c1 ?c2 ?c3 ?c4 ?c5 ?_)
        case c1 => exact one_new _ _ _
        case c2 => intro u hu; simp at hu; subst hu; rfl
        case c3 => unfold maxLen; omega
        case c4 => omega
        case c5 => simp; have := hb.size; omega
        intro v' w3 hown' hgrow _
        have HB := Lib.hid (below_new hb _ (fun g e => (hown.lt g e).1) hgrow)
        have HO := Lib.hid hown'
        clear hown hown' hgrow hb
        go_wp2
        go_roundw
        case rel => exact ⟨k + 1, (p + q + y) / 10, acc ++ [(p + q + y) % 10], by go_num, congrArg (Value.int .i64) HE2.out, HN.out, by omega, by
          rw [List.length_append, iv_append, iv_one, ← HE.out]; exact HO.out, HB.out⟩
        case measure => simp [intOf]; omega
      · clear hgo
        go_wp2_with fail
        refine a1.out.mono ?_
        rintro e w' ⟨rfl, rfl⟩
        go_wp2_with fail
        refine a2.out.mono ?_
        rintro e w' ⟨rfl, rfl⟩
        go_wp2_with (at_builtin; refine wpList_append_own _ rfl _ _ 38 rfl w2.heap.size 3 i0 (.int .i64 0) 1 8 Tryd.underlying38 hi hz0 hz1 hz2 rfl (by decide) _ _ _ rfl (hown.alloc _) ⟨wr.heap.size, 0, none⟩ 1 1 [.int .i64 (((p : Int) + q + y) % 10)] rfl rfl ?c1 ?c2 ?c3 ?c4 ?c5 ?_)
        case c1 => exact one_new _ _ _
        case c2 => intro u hu; simp at hu; subst hu; rfl
        case c3 => unfold maxLen; omega
        case c4 => omega
        case c5 => simp; have := hb.size; omega
        intro v' w3 hown' hgrow _
        have HB := Lib.hid (below_new hb _ (fun g e => (hown.lt g e).1) hgrow)
        have HO := Lib.hid hown'
        clear hown hown' hgrow hb
        go_wp2
        go_roundw
        case rel => exact ⟨k + 1, (p + q + y) / 10, acc ++ [(p + q + y) % 10], by go_num, congrArg (Value.int .i64) HE2.out, HN.out, by omega, by
          rw [List.length_append, iv_append, iv_one, ← HE.out]; exact HO.out, HB.out⟩
        case measure => simp [intOf]; omega
    · have e1 : ¬ k ≤ xs.length := by omega
      have e2 : ¬ k ≤ ys.length := by omega
      have hne : acc ≠ [] := by intro e; rw [e] at hal; simp at hal; omega
      have HFIN := Lib.hid (HINV.out.fin HX.out HY.out (by omega) (by omega))
      have HT := Lib.hid (text_any _ acc wr (Digs.of_own hown hne) HINV.out.lt (by omega))
      have HL := Lib.hid (fun w => limited_any (vl 10 acc) w (by have := vl_digits acc HINV.out.lt; omega))
      have HB := Lib.hid hb
      clear hown hb hne hal hgo
      go_wp2_with fail
      refine HT.out.mono ?_
      rintro e w3 ⟨rfl, hb3⟩
      have B3 := Lib.hid hb3
      clear hb3
      go_wp2_with fail
      refine (HL.out _).mono ?_
      rintro e w' ⟨he, rfl⟩
      have H1 := HFIN.out
      have H2 := HV.out
      rw [← H1] at H2
      rw [← H2] at he
      have BB := Lib.hid (B2.out.trans ((HB.out.trans (B3.out.mono HB.out.size)).mono B2.out.size))
      have HEND : Hid (ValPost (addV a b) w (.returned (addV a b)) w3) := Lib.hid ⟨rfl, grown_below BB.out⟩
      clear H1 H2
      rcases limV_form (vl 10 xs + vl 10 ys) with ⟨S, E, hS⟩
      have hav : addV a b = .tuple #[.string S, .int .i64 E] := by rw [HV.out, hS]
      rw [hav] at he
      subst he
      have HEND2 := HEND.out
      rw [hav] at HEND2
      have HE3 := Lib.hid HEND2
      have HAV := Lib.hid hav
      clear HEND HEND2 hav hS
      go_wp2
      go_ret2
      rw [HAV.out]
      exact HE3.out
end Go.Proofs.YtlkjfhidicgjiaaDoor
