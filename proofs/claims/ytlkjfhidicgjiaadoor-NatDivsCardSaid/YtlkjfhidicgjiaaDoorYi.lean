/- The reference's Div. -/
import Derived.Test.YtlkjfhidicgjiaaDoorYh
import Derived.Test.YtlkjfhidicgjiaaDoorLd
set_option linter.unusedVariables false
set_option linter.unusedSimpArgs false
namespace Go.Proofs.YtlkjfhidicgjiaaDoor
open Go.RowKit
open Go.Lib (nDigits decDigits)

theorem digits_le (n k : Nat) (hk : 1 ≤ k) (h : n < 10 ^ k) : nDigits n ≤ k := by
  rcases Nat.lt_or_ge k (nDigits n) with h1 | h1
  · rcases nDigits_unique_le n k (by omega) with h2 | h2
    · omega
    · omega
  · exact h1
theorem num_below (n k : Nat) (hk : 1 ≤ k) (hk2 : k ≤ 1000) (h : n < 10 ^ k) : numB (decS n) = true := by
  rw [num_dec]
  have := digits_le n k hk h
  exact decide_eq_true (by omega)
theorem own_keep {w w' : World} {base : Nat} {e : TypeId} {v : Value} {n : Nat} {xs : List Value} (h : w.ownsRow base e 1 v n xs) (hb : Below w.heap.size w w') : w'.ownsRow base e 1 v n xs := by
  obtain ⟨h1, h2⟩ := h
  refine ⟨h1, ?_⟩
  rcases h2 with h2 | ⟨g, cap, cur, a, b, c, d⟩
  · exact .inl h2
  · exact .inr ⟨g, cap, cur, a, b, (hb.block g (Array.getElem?_eq_some_iff.1 c).1).trans c, d⟩
def pre (a : ByteArray) (k : Nat) : Nat := dval (a.data.toList.take k)
theorem pre_step (a : ByteArray) (k : Nat) (h : k < a.size) : pre a (k + 1) = pre a k * 10 + (a[k].toNat - 48) := by
  unfold pre
  rw [take_snocB a k h, dval_snoc]
theorem pre_lt (a : ByteArray) (na : numB a = true) (k : Nat) (hk : k ≤ a.size) : pre a k < 10 ^ k := by
  unfold pre
  rw [← dgs_val]
  have h := vl_lt 10 (dgs (a.data.toList.take k)) (fun d hd => by
    unfold dgs at hd
    obtain ⟨c, hc, rfl⟩ := List.mem_map.1 hd
    rw [List.mem_reverse] at hc
    have hc := List.mem_of_mem_take hc
    exact dg10_lt a na _ (by unfold dg10 dgs; exact List.mem_map.2 ⟨c, List.mem_reverse.2 hc, rfl⟩))
  have e : (dgs (a.data.toList.take k)).length = k := by simp [dgs]; omega
  rw [e] at h
  exact h
theorem pre_all (a : ByteArray) : pre a a.size = nv a := by
  unfold pre nv
  rw [List.take_of_length_le (by simp)]
theorem one_digit (a : ByteArray) (na : numB a = true) (k : Nat) (h : k < a.size) : a.extract k (k + 1) = decS (a[k].toNat - 48) := by
  have hd := num_dig a na k h
  apply ByteArray.ext
  rw [ByteArray.data_extract]
  apply Array.toList_inj.1
  rw [Array.toList_extract]
  unfold decS
  rw [Lib.decDigits_one (by omega)]
  simp only [List.extract_eq_take_drop]
  rw [List.drop_eq_getElem_cons (by simpa using h), show k + 1 - k = 1 by omega, List.take_succ_cons, List.take_zero]
  congr 1
  apply UInt8.toNat_inj.1
  rw [UInt8.toNat_ofNat']
  have : a.data.toList[k]'(by simpa using h) = a[k] := rfl
  rw [this]
  omega
theorem dec_snoc (R x : Nat) (h0 : R ≠ 0) (hx : x < 10) : decS R ++ decS x = decS (R * 10 + x) := by
  apply ByteArray.ext
  rw [ByteArray.data_append]
  unfold decS
  rw [Lib.decDigits_one hx]
  conv => rhs; rw [decDigits, dif_neg (by omega)]
  rw [show (R * 10 + x) / 10 = R by omega, show (R * 10 + x) % 10 = x by omega]
  simp

structure DivI (a : ByteArray) (B k R : Nat) (S : ByteArray) (acc : List UInt8) : Prop where
  text : S = decS R
  rest : R = pre a k % B
  len : acc.length = k
  dig : acc.all isDg = true
  quo : dval acc = pre a k / B
theorem DivI.start (a : ByteArray) (B : Nat) : DivI a B 0 0 ⟨#[48]⟩ [] := ⟨dec_zero.symm, by simp [pre, dval], rfl, rfl, by simp [pre, dval]⟩
theorem DivI.step {a : ByteArray} {B k R : Nat} {S : ByteArray} {acc : List UInt8} (h : DivI a B k R S acc) (hk : k < a.size) (hB : 0 < B) {t M : Nat} (hN : R * 10 + (a[k].toNat - 48) = t * B + M) (hM : M < B) (ht : t < 10) :
    DivI a B (k + 1) M (decS M) (acc ++ [UInt8.ofNat (48 + t)]) := by
  have e0 := Nat.div_add_mod (pre a k) B
  rw [← h.rest, ← h.quo] at e0
  have e1 : pre a (k + 1) = B * (dval acc * 10 + t) + M := by
    rw [pre_step a k hk, ← e0, Nat.mul_add, Nat.mul_comm B t, ← Nat.mul_assoc]
    rw [Nat.add_mul]
    omega
  refine ⟨rfl, ?_, by rw [List.length_append, h.len]; rfl, ?_, ?_⟩
  · rw [e1, Nat.mul_add_mod, Nat.mod_eq_of_lt hM]
  · rw [List.all_append, h.dig]
    simp [isDg]
    omega
  · rw [dval_snoc, e1, Nat.mul_add_div hB, Nat.div_eq_of_lt hM, UInt8.toNat_ofNat']
    omega
theorem cut_text (acc : List UInt8) (j : Nat) (hj : j < acc.length) (hd : acc.all isDg = true) (hv : dval (acc.drop j) = dval acc) (hz : j + 1 = acc.length ∨ (acc.drop j).headD 0 ≠ 48) : (⟨(acc.drop j).toArray⟩ : ByteArray) = decS (dval acc) := by
  unfold decS
  rw [← hv, dec_dval (acc.drop j) (by intro e; have := congrArg List.length e; simp at this; omega) (by
    rw [List.all_eq_true] at hd ⊢
    exact fun c hc => hd c (List.mem_of_mem_drop hc)) (by
    rcases hz with hz | hz
    · left; rw [List.length_drop]; omega
    · exact .inr hz)]
theorem dval_cons (c : UInt8) : ∀ (l : List UInt8), dval (c :: l) = (c.toNat - 48) * 10 ^ l.length + dval l := by
  intro l
  induction h : l.length generalizing l with
  | zero => rw [List.length_eq_zero_iff.1 h]; simp [dval]
  | succ n ih =>
    obtain ⟨l', x, rfl⟩ : ∃ l' x, l = l' ++ [x] := ⟨l.dropLast, l.getLast (by intro e; rw [e] at h; simp at h), (List.dropLast_concat_getLast _).symm⟩
    have h' : l'.length = n := by simp at h; exact h
    rw [← List.cons_append, dval_snoc, dval_snoc, ih l' h', Nat.pow_succ, Nat.add_mul, Nat.mul_assoc]
    omega
theorem drop_zero_char (acc : List UInt8) (j : Nat) (hj : j < acc.length) (h : acc[j] = 48) : dval (acc.drop (j + 1)) = dval (acc.drop j) := by
  rw [List.drop_eq_getElem_cons hj, dval_cons, h]
  simp

def BackPost (T b : ByteArray) (w : World) : Prop := True
set_option maxRecDepth 100000 in
set_option maxHeartbeats 8000000 in
theorem rdiv_num (a b : ByteArray) (w : World) (na : numB a = true) (nb : numB b = true) (hb0 : nv b ≠ 0) :
    Calls Tryd.prog 27 #[.string a, .string b] w (ValPost (divV a b) w) := by
  obtain ⟨i0, hi, hz0, hz1, hz2⟩ := info_parts info_byte
  have va := rvalid_any a w (maxLen_ok na)
  have vb := rvalid_any b w (maxLen_ok nb)
  rw [na] at va
  rw [nb] at vb
  have VA := Lib.hid va; have VB := Lib.hid vb
  have hsz := num_size a na
  have HV := Lib.hid (show divV a b = .tuple #[.string (decS (nv a / nv b)), .string (decS (nv a % nv b)), .int .i64 0] by unfold divV; rw [na, nb]; simp only [Bool.and_self, if_true]; rw [if_neg hb0])
  have fb : (b.toList == [48]) = false := by rw [(str_facts b nb).1]; simp [hb0]
  have NA := Lib.hid na; have NB := Lib.hid nb; have HB0 := Lib.hid (show 0 < nv b by omega)
  obtain ⟨hs1, hs2⟩ := hsz
  clear va vb na nb hb0
  go_enter Tryd.func27, Tryd.ntmps27
  go_wp2_with fail
  refine VA.out.mono ?_
  rintro e w' ⟨rfl, rfl⟩
  go_wp2_with fail
  refine VB.out.mono ?_
  rintro e w' ⟨rfl, rfl⟩
  go_wp2
  go_loopw [7, 8, 9] (fun q r i wr => ∃ (k R : Nat) (S : ByteArray) (acc : List UInt8), i = .int .i64 k ∧ k ≤ a.size ∧ r = .string S ∧ DivI a (nv b) k R S acc ∧ wr.ownsRow w.heap.size 5 1 q acc.length (Lib.byteCells acc) ∧ Below w.heap.size w wr) (fun _ _ i _ => a.size - (intOf i).toNat)
  case atStart => exact ⟨0, 0, _, [], rfl, by omega, rfl, DivI.start a (nv b), World.ownsRow_nil _ _ _ _, Below.refl _ _⟩
  case round =>
    obtain ⟨k, R, S, acc, rfl, hk, rfl, hinv, hown, hb⟩ := hrel
    have HINV := Lib.hid hinv; have HOWN := Lib.hid hown; have HBL := Lib.hid hb
    have hal : acc.length = k := hinv.len
    have hST := hinv.text
    have hRlt := pre_lt a NA.out k hk
    have hRle : R ≤ pre a k := by rw [hinv.rest]; exact Nat.mod_le _ _
    have hRB : R < nv b := by rw [hinv.rest]; exact Nat.mod_lt _ HB0.out
    clear hinv hown hb
    by_cases hlt : k < a.size
    · have hpn := pre_lt a NA.out (k + 1) (by omega)
      rw [pre_step a k hlt] at hpn
      have hdg := num_dig a NA.out k hlt
      have E1 := one_digit a NA.out k hlt
      obtain ⟨x, hx⟩ : ∃ x, a[k].toNat - 48 = x := ⟨_, rfl⟩
      have hx10 : x < 10 := by omega
      rw [hx] at E1 hpn
      have hN1000 : R * 10 + x < 10 ^ (k + 1) := by omega
      have nS : numB S = true := by
        rw [hST]
        exact num_below R (k + 1) (by omega) (by omega) (by omega)
      have sz : S.size ≤ 1000 := (num_size S nS).2
      have sf := str_facts S nS
      have HX := Lib.hid hx
      have hNB : R * 10 + x < 10 * nv b := by omega
      obtain ⟨E, hE⟩ : ∃ E, a.extract k (k + 1) = E := ⟨_, rfl⟩
      by_cases hR0 : R = 0
      · have f1 : (S.toList == [48]) = true := by rw [sf.1, hST, nv_dec]; simp [hR0]
        have HT := Lib.hid (show a.extract k (k + 1) = decS (R * 10 + x) by rw [E1, hR0]; simp)
        have h1 := Lib.hid hN1000; have h2 := Lib.hid hNB
        clear sf hST E1 hpn hRlt hRle nS hN1000 hNB hR0 hdg hRB hx10 hE
        generalize wr = wv at *
        go_wp2
        go_loopw [8, 10] (fun r d wr => ∃ (t M : Nat) (T : ByteArray), r = .string T ∧ T = decS M ∧ R * 10 + x = t * nv b + M ∧ d = .int .u8 (48 + (t : Int)) ∧ t ≤ 9 ∧ Below wv.heap.size wv wr) (fun r _ _ => match r with | .string s => nv s | _ => 0)
        case atStart => exact ⟨0, R * 10 + x, _, rfl, HT.out, by omega, rfl, by omega, Below.refl _ _⟩
        case round =>
          obtain ⟨t, M, T, rfl, hT, hN, rfl, ht9, hbw⟩ := hrel
          have nT : numB T = true := by
            rw [hT]
            exact num_below M (k + 1) (by omega) (by omega) (by have := h1.out; have := Nat.le_add_left M (t * nv b); omega)
          have rc := rcompare_any T b wr nT NB.out
          have hM : nv T = M := by rw [hT, nv_dec]
          rw [hM] at rc
          have HTT := Lib.hid hT; have HN := Lib.hid hN; have HBW := Lib.hid hbw; have HM := Lib.hid hM
          have HT9 := Lib.hid ht9
          have t0 : (0 : Int) ≤ (t : Int) := by omega
          have t9 : (t : Int) ≤ 9 := by omega
          by_cases hge : nv b ≤ M
          · obtain ⟨d, hd, hd0⟩ : ∃ d : Int, cmpN M (nv b) = d ∧ 0 ≤ d := ⟨_, rfl, by have := cmpN_lt M (nv b); omega⟩
            have ht8 : t + 1 ≤ 9 := by
              have hh := h2.out
              rcases Nat.lt_or_ge t 9 with h9 | h9
              · omega
              · obtain rfl : t = 9 := by omega
                omega
            have HT8 := Lib.hid ht8
            rw [hd] at rc
            have RC := Lib.hid rc
            have D1 := Lib.hid (fun w => digits_any T w nT)
            have D2 := Lib.hid (fun w => digits_any b w NB.out)
            have hx1 := dg10_lt T nT
            have hy1 := dg10_lt b NB.out
            have l1 := dg10_len T
            have l2 := dg10_len b
            have s1 := num_size T nT
            have s2 := num_size b NB.out
            have v1 := dg10_val T
            have v2 := dg10_val b
            rw [hM] at v1
            have HGE := Lib.hid hge
            clear rc hd nT hM hT hN hbw hge ht8 ht9
            generalize dg10 T = us at *
            generalize dg10 b = ys at *
            have hle : vl 10 ys ≤ vl 10 us := by rw [v1, v2]; exact HGE.out
            have lu : us.length ≤ 1000 := by omega
            have ly : ys.length ≤ 1000 := by omega
            have HX1 := Lib.hid hx1; have HY1 := Lib.hid hy1; have HLE := Lib.hid hle; have V1 := Lib.hid v1; have V2 := Lib.hid v2
            clear hx1 hy1 hle v1 v2 s1 s2 l1 l2
            go_wp2_with fail
            refine RC.out.mono ?_
            rintro e w1 ⟨rfl, hg⟩
            have hb1 := HBW.out.trans ((below_grown hg (Nat.le_refl _) (by simp)).mono HBW.out.size)
            have BB1 := Lib.hid hb1
            clear hg hb1
            go_wp2_with fail
            refine (D1.out _).mono ?_
            rintro e w2 ⟨v1, rfl, hr1, hb2⟩
            have R1 := Lib.hid hr1
            have BB2 := Lib.hid (BB1.out.trans (hb2.mono BB1.out.size))
            clear hr1 hb2
            go_wp2_with fail
            refine (D2.out _).mono ?_
            rintro e w3 ⟨v2, rfl, hr2, hb3⟩
            have R1' := Lib.hid (R1.out.below hb3)
            have R2 := Lib.hid hr2
            have BB3 := Lib.hid (BB2.out.trans (hb3.mono BB2.out.size))
            clear hr2 hb3
            go_wp2_with fail
            refine (less_any v1 v2 us ys w3 R1'.out R2.out HX1.out HY1.out (by omega) (by omega) HLE.out).mono ?_
            rintro e w4 ⟨v3, zs, rfl, hr3, hz, hval, hlen, hb4⟩
            have BB4 := Lib.hid (BB3.out.trans (hb4.mono BB3.out.size))
            have hTx := text_any v3 zs w4 hr3.1 hz (by omega)
            rw [hval, V1.out, V2.out] at hTx
            have HTX := Lib.hid hTx
            clear hr3 hz hval hlen hb4 hTx
            go_wp2_with fail
            refine HTX.out.mono ?_
            rintro e w5 ⟨rfl, hb5⟩
            have BB5 := Lib.hid (BB4.out.trans (hb5.mono BB4.out.size))
            clear hb5
            have HNV := Lib.hid (nv_dec (M - nv b))
            obtain ⟨T2, hT2⟩ : ∃ T2, decS (M - nv b) = T2 := ⟨_, rfl⟩
            have HT2 := Lib.hid hT2
            rw [hT2]
            clear hT2
            go_wp2
            go_roundw
            case rel => exact ⟨t + 1, M - nv b, T2, rfl, HT2.out.symm, by have := HN.out; have := HGE.out; rw [Nat.add_mul]; omega, by go_num, HT8.out, BB5.out⟩
            case measure =>
              have e1 := HNV.out
              rw [HT2.out] at e1
              have := HGE.out
              have := HB0.out
              have := HM.out
              show nv T2 < nv T
              omega
          · obtain ⟨d, hd, hd0⟩ : ∃ d : Int, cmpN M (nv b) = d ∧ d < 0 := ⟨_, rfl, by have := cmpN_lt M (nv b); omega⟩
            rw [hd] at rc
            have RC := Lib.hid rc
            have hNs := hN
            rw [← HX.out] at hNs
            have HSTEP := Lib.hid (HINV.out.step hlt HB0.out hNs (by omega) (by omega))
            have HCC := Lib.hid (show Lib.byteCells [UInt8.ofNat (48 + t)] = [Value.int .u8 (48 + (t : Int))] from char_cell t (by omega))
            have hb1 : acc.length + 1 ≤ 1000000 := by omega
            have HAL := Lib.hid hal
            clear rc hd nT hM hT hN hNs hbw hge ht9 hal
            go_wp2_with fail
            refine RC.out.mono ?_
            rintro e w1 ⟨rfl, hg⟩
            have hbA := HBW.out.trans ((below_grown hg (Nat.le_refl _) (by simp)).mono HBW.out.size)
            have hown := own_keep HOWN.out hbA
            have hb := HBL.out.trans (hbA.mono HBL.out.size)
            have HBA := Lib.hid hb
            have hbs := hb.size
            clear hg hbA hb
            go_wp2_with (at_builtin; refine wpList_append_own _ rfl _ _ 54 rfl w.heap.size 5 i0 (.int .u8 0) 1 1 Tryd.underlying54 hi hz0 hz1 hz2 rfl (by decide) _ _ _ rfl (hown.alloc _) ⟨w1.heap.size, 0, none⟩ 1 1 [.int .u8 (48 + (t : Int))] rfl rfl ?c1 ?c2 ?c3 ?c4 ?c5 ?_)
            case c1 => exact one_new _ _ _
            case c2 => intro u hu; simp at hu; subst hu; rfl
            case c3 => unfold maxLen; omega
            case c4 => omega
            case c5 => simp; omega
            intro v' w2 hown' hgrow _
            have HB2 := Lib.hid (below_new HBA.out _ (fun g e => (hown.lt g e).1) hgrow)
            have HO := Lib.hid hown'
            clear hown hown' hgrow
            go_wp2
            go_roundw
            case rel => exact ⟨k + 1, M, T, acc ++ [UInt8.ofNat (48 + t)], by go_num, by omega, rfl, by rw [HTT.out]; exact HSTEP.out, by
              rw [List.length_append, Lib.byteCells_append, HCC.out]; exact HO.out, HB2.out⟩
            case measure => simp [intOf]; omega
      · have f1 : (S.toList == [48]) = false := by rw [sf.1, hST, nv_dec]; simp [hR0]
        have HT := Lib.hid (show S ++ a.extract k (k + 1) = decS (R * 10 + x) by rw [E1, hST, dec_snoc R x hR0 hx10])
        have hez : (a.extract k (k + 1)).size ≤ 1000 := by rw [E1]; exact (num_size _ (num_below x (k + 1) (by omega) (by omega) (by have := Nat.pow_le_pow_right (n := 10) (by decide) (show 1 ≤ k + 1 by omega); omega))).2
        have hcz : S.size + (a.extract k (k + 1)).size ≤ 9223372036854775807 := by omega
        have h1 := Lib.hid hN1000; have h2 := Lib.hid hNB
        clear sf hST E1 hpn hRlt hRle nS hN1000 hNB hR0 hdg hRB hx10 hE
        generalize wr = wv at *
        go_wp2
        go_loopw [8, 10] (fun r d wr => ∃ (t M : Nat) (T : ByteArray), r = .string T ∧ T = decS M ∧ R * 10 + x = t * nv b + M ∧ d = .int .u8 (48 + (t : Int)) ∧ t ≤ 9 ∧ Below wv.heap.size wv wr) (fun r _ _ => match r with | .string s => nv s | _ => 0)
        case atStart => exact ⟨0, R * 10 + x, _, rfl, HT.out, by omega, rfl, by omega, Below.refl _ _⟩
        case round =>
          obtain ⟨t, M, T, rfl, hT, hN, rfl, ht9, hbw⟩ := hrel
          have nT : numB T = true := by
            rw [hT]
            exact num_below M (k + 1) (by omega) (by omega) (by have := h1.out; have := Nat.le_add_left M (t * nv b); omega)
          have rc := rcompare_any T b wr nT NB.out
          have hM : nv T = M := by rw [hT, nv_dec]
          rw [hM] at rc
          have HTT := Lib.hid hT; have HN := Lib.hid hN; have HBW := Lib.hid hbw; have HM := Lib.hid hM
          have HT9 := Lib.hid ht9
          have t0 : (0 : Int) ≤ (t : Int) := by omega
          have t9 : (t : Int) ≤ 9 := by omega
          by_cases hge : nv b ≤ M
          · obtain ⟨d, hd, hd0⟩ : ∃ d : Int, cmpN M (nv b) = d ∧ 0 ≤ d := ⟨_, rfl, by have := cmpN_lt M (nv b); omega⟩
            have ht8 : t + 1 ≤ 9 := by
              have hh := h2.out
              rcases Nat.lt_or_ge t 9 with h9 | h9
              · omega
              · obtain rfl : t = 9 := by omega
                omega
            have HT8 := Lib.hid ht8
            rw [hd] at rc
            have RC := Lib.hid rc
            have D1 := Lib.hid (fun w => digits_any T w nT)
            have D2 := Lib.hid (fun w => digits_any b w NB.out)
            have hx1 := dg10_lt T nT
            have hy1 := dg10_lt b NB.out
            have l1 := dg10_len T
            have l2 := dg10_len b
            have s1 := num_size T nT
            have s2 := num_size b NB.out
            have v1 := dg10_val T
            have v2 := dg10_val b
            rw [hM] at v1
            have HGE := Lib.hid hge
            clear rc hd nT hM hT hN hbw hge ht8 ht9
            generalize dg10 T = us at *
            generalize dg10 b = ys at *
            have hle : vl 10 ys ≤ vl 10 us := by rw [v1, v2]; exact HGE.out
            have lu : us.length ≤ 1000 := by omega
            have ly : ys.length ≤ 1000 := by omega
            have HX1 := Lib.hid hx1; have HY1 := Lib.hid hy1; have HLE := Lib.hid hle; have V1 := Lib.hid v1; have V2 := Lib.hid v2
            clear hx1 hy1 hle v1 v2 s1 s2 l1 l2
            go_wp2_with fail
            refine RC.out.mono ?_
            rintro e w1 ⟨rfl, hg⟩
            have hb1 := HBW.out.trans ((below_grown hg (Nat.le_refl _) (by simp)).mono HBW.out.size)
            have BB1 := Lib.hid hb1
            clear hg hb1
            go_wp2_with fail
            refine (D1.out _).mono ?_
            rintro e w2 ⟨v1, rfl, hr1, hb2⟩
            have R1 := Lib.hid hr1
            have BB2 := Lib.hid (BB1.out.trans (hb2.mono BB1.out.size))
            clear hr1 hb2
            go_wp2_with fail
            refine (D2.out _).mono ?_
            rintro e w3 ⟨v2, rfl, hr2, hb3⟩
            have R1' := Lib.hid (R1.out.below hb3)
            have R2 := Lib.hid hr2
            have BB3 := Lib.hid (BB2.out.trans (hb3.mono BB2.out.size))
            clear hr2 hb3
            go_wp2_with fail
            refine (less_any v1 v2 us ys w3 R1'.out R2.out HX1.out HY1.out (by omega) (by omega) HLE.out).mono ?_
            rintro e w4 ⟨v3, zs, rfl, hr3, hz, hval, hlen, hb4⟩
            have BB4 := Lib.hid (BB3.out.trans (hb4.mono BB3.out.size))
            have hTx := text_any v3 zs w4 hr3.1 hz (by omega)
            rw [hval, V1.out, V2.out] at hTx
            have HTX := Lib.hid hTx
            clear hr3 hz hval hlen hb4 hTx
            go_wp2_with fail
            refine HTX.out.mono ?_
            rintro e w5 ⟨rfl, hb5⟩
            have BB5 := Lib.hid (BB4.out.trans (hb5.mono BB4.out.size))
            clear hb5
            have HNV := Lib.hid (nv_dec (M - nv b))
            obtain ⟨T2, hT2⟩ : ∃ T2, decS (M - nv b) = T2 := ⟨_, rfl⟩
            have HT2 := Lib.hid hT2
            rw [hT2]
            clear hT2
            go_wp2
            go_roundw
            case rel => exact ⟨t + 1, M - nv b, T2, rfl, HT2.out.symm, by have := HN.out; have := HGE.out; rw [Nat.add_mul]; omega, by go_num, HT8.out, BB5.out⟩
            case measure =>
              have e1 := HNV.out
              rw [HT2.out] at e1
              have := HGE.out
              have := HB0.out
              have := HM.out
              show nv T2 < nv T
              omega
          · obtain ⟨d, hd, hd0⟩ : ∃ d : Int, cmpN M (nv b) = d ∧ d < 0 := ⟨_, rfl, by have := cmpN_lt M (nv b); omega⟩
            rw [hd] at rc
            have RC := Lib.hid rc
            have hNs := hN
            rw [← HX.out] at hNs
            have HSTEP := Lib.hid (HINV.out.step hlt HB0.out hNs (by omega) (by omega))
            have HCC := Lib.hid (show Lib.byteCells [UInt8.ofNat (48 + t)] = [Value.int .u8 (48 + (t : Int))] from char_cell t (by omega))
            have hb1 : acc.length + 1 ≤ 1000000 := by omega
            have HAL := Lib.hid hal
            clear rc hd nT hM hT hN hNs hbw hge ht9 hal
            go_wp2_with fail
            refine RC.out.mono ?_
            rintro e w1 ⟨rfl, hg⟩
            have hbA := HBW.out.trans ((below_grown hg (Nat.le_refl _) (by simp)).mono HBW.out.size)
            have hown := own_keep HOWN.out hbA
            have hb := HBL.out.trans (hbA.mono HBL.out.size)
            have HBA := Lib.hid hb
            have hbs := hb.size
            clear hg hbA hb
            go_wp2_with (at_builtin; refine wpList_append_own _ rfl _ _ 54 rfl w.heap.size 5 i0 (.int .u8 0) 1 1 Tryd.underlying54 hi hz0 hz1 hz2 rfl (by decide) _ _ _ rfl (hown.alloc _) ⟨w1.heap.size, 0, none⟩ 1 1 [.int .u8 (48 + (t : Int))] rfl rfl ?c1 ?c2 ?c3 ?c4 ?c5 ?_)
            case c1 => exact one_new _ _ _
            case c2 => intro u hu; simp at hu; subst hu; rfl
            case c3 => unfold maxLen; omega
            case c4 => omega
            case c5 => simp; omega
            intro v' w2 hown' hgrow _
            have HB2 := Lib.hid (below_new HBA.out _ (fun g e => (hown.lt g e).1) hgrow)
            have HO := Lib.hid hown'
            clear hown hown' hgrow
            go_wp2
            go_roundw
            case rel => exact ⟨k + 1, M, T, acc ++ [UInt8.ofNat (48 + t)], by go_num, by omega, rfl, by rw [HTT.out]; exact HSTEP.out, by
              rw [List.length_append, Lib.byteCells_append, HCC.out]; exact HO.out, HB2.out⟩
            case measure => simp [intOf]; omega
    · obtain rfl : k = a.size := by omega
      have hq := HINV.out.quo
      have hr := HINV.out.rest
      rw [pre_all] at hq hr
      have HQ := Lib.hid hq; have HR := Lib.hid hr
      rcases HOWN.out.2 with ⟨_, h0⟩ | ⟨g, cap, cur, hv, hgb, hgg, hcap, hcm, _, _⟩
      · omega
      subst hv
      have hown := HOWN.out
      have hcells : ∀ j (hj : j < acc.length), wr.cell? ⟨g, j, none⟩ = some (.int .u8 (acc[j].toNat : Int)) := fun j hj => by
        have := hown.cells (g := g) rfl j (.int .u8 (acc[j].toNat : Int)) (by unfold Lib.byteCells; rw [List.getElem?_map, List.getElem?_eq_getElem hj]; rfl)
        rw [addr_add] at this
        exact this
      have HC := Lib.hid hcells
      have hcv := fun j (hj : j < acc.length) => run_convert_bytes_back (P := Tryd.prog) wr 54 9 5 ⟨g, j, none⟩ (cap - j) (acc.drop j) Tryd.underlying54 Tryd.underlying5 Tryd.underlying9 (fun i hi => by
        have e : (⟨g, j, none⟩ : Addr).add i = ⟨g, j + i, none⟩ := by unfold Addr.add; split <;> simp_all
        rw [List.length_drop] at hi
        rw [e, hcells (j + i) (by omega)]
        rw [List.getElem_drop])
      have HCV := Lib.hid hcv
      have HAL := Lib.hid hal
      have hl1 : 1 ≤ acc.length := by omega
      have hl2 : acc.length ≤ 1000 := by omega
      unfold maxLen at hcm
      have HCM := Lib.hid hcm
      clear hown hcells hcv hq hr hgg hal hST hRlt hRle hRB hcm hlt hk
      generalize wr = w1 at *
      go_wp2
      go_loop [11] (fun i => ∃ j : Nat, i = .int .i64 j ∧ j + 1 ≤ acc.length ∧ dval (acc.drop j) = dval acc) (fun i => acc.length - (intOf i).toNat)
      case atStart => exact ⟨0, rfl, by omega, rfl⟩
      case round =>
        obtain ⟨j, rfl, hj, hdv⟩ := hrel
        have HDV := Lib.hid hdv
        clear hdv
        have hjl : j < acc.length := by omega
        have hcell := HC.out j hjl
        have hcvj := HCV.out j hjl
        rw [List.length_drop] at hcvj
        have hw : IntKind.i64.wrap ((acc.length : Int) - 1) = (acc.length : Int) - 1 := IntWalk.i64_in _ ⟨by omega, by omega⟩
        have k0 : (0 : Int) ≤ (j : Int) := by omega
        have k1 : (j : Int) < (acc.length : Int) := by omega
        have k2 : (j : Int) ≤ (acc.length : Int) := by omega
        have k3 : ¬ (cap = j) := by omega
        have k4 : ¬ (cap - j = 0) := by omega
        by_cases hgo : (j : Int) < (acc.length : Int) - 1
        · by_cases hz : acc[j] = 48
          · have f1 : ((acc[j].toNat : Int) == 48) = true := by rw [hz]; rfl
            have HD := Lib.hid (drop_zero_char acc j hjl hz)
            clear hz hcvj
            go_wp2
            go_round
            case rel => exact ⟨j + 1, by go_num, by omega, by rw [HD.out, HDV.out]⟩
            case measure => simp [intOf]; omega
          · have f1 : ((acc[j].toNat : Int) == 48) = false := by
              rw [beq_eq_false_iff_ne]
              intro e
              exact hz (UInt8.toNat_inj.1 (show acc[j].toNat = (48 : UInt8).toNat by have : (48 : UInt8).toNat = 48 := rfl; omega))
            have HT := Lib.hid (cut_text acc j hjl HINV.out.dig HDV.out (.inr (by
              rw [List.drop_eq_getElem_cons hjl]; exact hz)))
            clear hz
            go_wp2
            go_ret3
            rw [HV.out, ← HQ.out, ← HT.out, ← HR.out, ← HINV.out.text]
            exact ⟨rfl, grown_below HBL.out⟩
        · have HT := Lib.hid (cut_text acc j hjl HINV.out.dig HDV.out (.inl (by omega)))
          go_wp2
          go_ret3
          rw [HV.out, ← HQ.out, ← HT.out, ← HR.out, ← HINV.out.text]
          exact ⟨rfl, grown_below HBL.out⟩
end Go.Proofs.YtlkjfhidicgjiaaDoor
