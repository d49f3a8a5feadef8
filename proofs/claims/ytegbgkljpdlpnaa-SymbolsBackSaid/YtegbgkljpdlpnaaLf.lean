/- SymbolsBack, walked. -/
import Derived.Test.YtegbgkljpdlpnaaLa
import Derived.Test.YtegbgkljpdlpnaaTz
set_option linter.unusedVariables false
set_option linter.unusedSimpArgs false
namespace Go.Proofs.Ytegbgkljpdlpnaa
open Go.RowKit

def BegPost (L : List ByteArray) (w : World) (e : Ending) (w' : World) : Prop := ∃ B n, e = .returned (.bool B) ∧ (B = false → Free L) ∧ w' = w.drewN n
theorem st_test (y x : ByteArray) (h : x.size ≤ y.size) : ((y.extract 0 x.size).toList == x.toList) = true ↔ St y x := by
  rw [str_test, decide_eq_true_eq]
  exact ⟨fun e => ⟨h, e⟩, fun e => e.2⟩

set_option maxRecDepth 20000 in
set_option maxHeartbeats 8000000 in
theorem begins_any {w : World} {v : Value} {L : List ByteArray} (hv : StrSl w v L) (hl : L.length ≤ 500) :
    Calls Try.prog 30 #[v] w (BegPost L w) := by
  obtain ⟨A, ca, rfl, hr⟩ := hv
  have HR := Lib.hid hr
  clear hr
  go_enter Try.func30, Try.ntmps30
  go_wp2
  go_loopw [3] (fun i wr => ∃ i' : Nat, i = .int .i64 i' ∧ i' ≤ L.length ∧ (∀ (i k : Nat) (x y : ByteArray), i < i' → i ≠ k → L[i]? = some x → L[k]? = some y → ¬ St y x) ∧ ∃ n, wr = w.drewN n) (fun i _ => L.length - (intOf i).toNat)
  case atStart => exact ⟨0, rfl, by omega, fun i k x y h => by omega, 0, rfl⟩
  case round =>
    obtain ⟨i, rfl, hi, hall, n, rfl⟩ := hrel
    have HALL := Lib.hid hall
    clear hall
    by_cases hlt : i < L.length
    · have n1 : (i : Int) < (L.length : Int) := by omega
      have n2 : IntKind.i64.wrap ((i : Int) + 1) = (i : Int) + 1 := by rw [IntKind.wrap_i64]; omega
      have n3 : IntKind.i64.wrap (i : Int) = (i : Int) := by rw [IntKind.wrap_i64]; omega
      obtain ⟨ad, x, hA, _, hx, hcx⟩ := row_str HR.out hlt
      subst hA
      have HX := Lib.hid hx
      clear hx
      generalize hw1 : w.drewN n = w1 at *
      go_wp2
      go_loopw [4] (fun k wr => ∃ k' : Nat, k = .int .i64 k' ∧ k' ≤ L.length ∧ (∀ (k : Nat) (y : ByteArray), k < k' → i ≠ k → L[k]? = some y → ¬ St y x) ∧ ∃ n, wr = w1.drewN n) (fun k _ => L.length - (intOf k).toNat)
      case atStart => exact ⟨0, rfl, by omega, fun k y h => by omega, 0, rfl⟩
      case round =>
        obtain ⟨k, rfl, hk, hall2, n4, rfl⟩ := hrel
        have HALL2 := Lib.hid hall2
        clear hall2
        by_cases hlt2 : k < L.length
        · have m1 : (k : Int) < (L.length : Int) := by omega
          have m2 : IntKind.i64.wrap ((k : Int) + 1) = (k : Int) + 1 := by rw [IntKind.wrap_i64]; omega
          have m3 : IntKind.i64.wrap (k : Int) = (k : Int) := by rw [IntKind.wrap_i64]; omega
          obtain ⟨ad2, y, hA, _, hy, hcy⟩ := row_str HR.out hlt2
          cases hA
          have hcx1 : ∀ m, (w1.drewN m).cell? (ad.add i) = some (.string x) := fun m => by rw [← hw1]; exact hcx
          have hcy1 : ∀ m, (w1.drewN m).cell? (ad.add k) = some (.string y) := fun m => by rw [← hw1]; exact hcy
          have HY := Lib.hid hy
          clear hy
          have HW1 := Lib.hid hw1
          clear hw1
          by_cases hik : i = k
          · have t1 : ((i : Int) != (k : Int)) = false := by simp; omega
            have HN2 : Hid (∀ (k' : Nat) (y : ByteArray), k' < k + 1 → i ≠ k' → L[k']? = some y → ¬ St y x) := Lib.hid (fun k' y' hk' hne hy' => by
              by_cases e : k' = k
              · subst e
                rw [HY.out] at hy'
                cases hy'
                exact absurd hik hne
              · exact HALL2.out k' y' (by omega) hne hy')
            clear hik
            go_wp2
            go_quiet (fail)
            go_wp2
            go_roundw
            case rel => exact ⟨k + 1, by go_num, by omega, HN2.out, _, rfl⟩
            case measure => simp [intOf]; omega
          · have t1 : ((i : Int) != (k : Int)) = true := by simp; omega
            by_cases hsz : x.size ≤ y.size
            · have t2 : decide ((x.size : Int) ≤ (y.size : Int)) = true := by simp; omega
              have hq := st_test y x hsz
              by_cases hS : St y x
              · have t3 := hq.2 hS
                clear hik hq hS
                go_wp2
                go_quiet (fail)
                go_wp2
                go_ret
                refine ⟨true, n + (n4 + nq), rfl, fun h => (by cases h), ?_⟩
                rw [← HW1.out, World.drewN_drewN, World.drewN_drewN]
              · have t3 : ((y.extract 0 x.size).toList == x.toList) = false := by
                  cases h : ((y.extract 0 x.size).toList == x.toList)
                  · rfl
                  · exact absurd (hq.1 h) hS
                have HN2 : Hid (∀ (k' : Nat) (y : ByteArray), k' < k + 1 → i ≠ k' → L[k']? = some y → ¬ St y x) := Lib.hid (fun k' y' hk' hne hy' => by
                  by_cases e : k' = k
                  · subst e
                    rw [HY.out] at hy'
                    cases hy'
                    exact hS
                  · exact HALL2.out k' y' (by omega) hne hy')
                clear hik hq hS
                go_wp2
                go_quiet (fail)
                go_wp2
                go_roundw
                case rel => exact ⟨k + 1, by go_num, by omega, HN2.out, _, rfl⟩
                case measure => simp [intOf]; omega
            · have t2 : decide ((x.size : Int) ≤ (y.size : Int)) = false := by simp; omega
              have t4 : decide (x.size ≤ y.size) = false := by simp; omega
              have t5 : y.size < x.size := by omega
              have HN2 : Hid (∀ (k' : Nat) (y : ByteArray), k' < k + 1 → i ≠ k' → L[k']? = some y → ¬ St y x) := Lib.hid (fun k' y' hk' hne hy' => by
                by_cases e : k' = k
                · subst e
                  rw [HY.out] at hy'
                  cases hy'
                  exact fun h => hsz h.size
                · exact HALL2.out k' y' (by omega) hne hy')
              clear hik hsz
              go_wp2
              go_quiet (fail)
              go_wp2
              go_roundw
              case rel => exact ⟨k + 1, by go_num, by omega, HN2.out, _, rfl⟩
              case measure => simp [intOf]; omega
        · have m1 : ¬ (k : Int) < (L.length : Int) := by omega
          have HW1 := Lib.hid hw1
          have HN1 : Hid (∀ (i' k' : Nat) (x' y : ByteArray), i' < i + 1 → i' ≠ k' → L[i']? = some x' → L[k']? = some y → ¬ St y x') := Lib.hid (fun i' k' x' y hi' hne hx' hy => by
            by_cases e : i' = i
            · subst e
              rw [HX.out] at hx'
              cases hx'
              have hk2 := (List.getElem?_eq_some_iff.1 hy).1
              exact HALL2.out k' y (by omega) hne hy
            · exact HALL.out i' k' x' y (by omega) hne hx' hy)
          clear hw1
          go_wp2
          go_roundw
          case rel => exact ⟨i + 1, by go_num, by omega, HN1.out, n + n4, by rw [← HW1.out, World.drewN_drewN]⟩
          case measure => simp [intOf]; omega
    · have n1 : ¬ (i : Int) < (L.length : Int) := by omega
      have HF : Hid (Free L) := Lib.hid (fun i' k' x' y hne hx' hy => HALL.out i' k' x' y (by have := (List.getElem?_eq_some_iff.1 hx').1; omega) hne hx' hy)
      go_wp2
      go_ret
      exact ⟨false, n, rfl, fun _ => HF.out, rfl⟩

set_option maxRecDepth 20000 in
set_option maxHeartbeats 8000000 in
theorem back_any (L : List ByteArray) (t : ByteArray) (X : List Int) (v x : Value) (w : World) (hv : StrArg w v L) (hx : IntSl w x X) (hl : L.length ≤ maxLen) (hxl : X.length ≤ maxLen) :
    Calls Try.prog 9 #[v, .string t, x] w (BoolPost true w) := by
  obtain ⟨A, ca, hvv, _⟩ := hv.form
  subst hvv
  have hx0 := hx
  obtain ⟨C, cc, hxx, _⟩ := hx0
  subst hxx
  by_cases h1 : 100 < L.length
  · have f1 : decide ((100 : Int) < (L.length : Int)) = true := by simp; omega
    clear hv hl hx
    go_enter Try.func9, Try.ntmps9
    go_wp2_with fail
    refine (awake_any _).mono ?_
    rintro e w2 ⟨rfl, hb⟩
    go_wp2
    go_ret
    exact ⟨rfl, hb⟩
  have f1 : decide ((100 : Int) < (L.length : Int)) = false := by simp; omega
  by_cases h2 : 20000 < t.size
  · have f2 : decide ((20000 : Int) < (t.size : Int)) = true := by simp; omega
    clear hv hl hx
    go_enter Try.func9, Try.ntmps9
    go_wp2_with fail
    refine (awake_any _).mono ?_
    rintro e w2 ⟨rfl, hb⟩
    go_wp2
    go_ret
    exact ⟨rfl, hb⟩
  have f2 : decide ((20000 : Int) < (t.size : Int)) = false := by simp; omega
  by_cases h3 : 300 < X.length
  · have f3 : decide ((300 : Int) < (X.length : Int)) = true := by simp; omega
    clear hv hl hx
    go_enter Try.func9, Try.ntmps9
    go_wp2_with fail
    refine (awake_any _).mono ?_
    rintro e w2 ⟨rfl, hb⟩
    go_wp2
    go_ret
    exact ⟨rfl, hb⟩
  have f3 : decide ((300 : Int) < (X.length : Int)) = false := by simp; omega
  have hX300 : X.length ≤ 300 := by omega
  have hL100 : L.length ≤ 100 := by omega
  have HVA := Lib.hid hv; have HX := Lib.hid hx
  clear hv hx h1 h2 h3
  obtain ⟨D, p, q, hR⟩ : ∃ D p q, tokL L t = (D, p, q) := ⟨_, _, _, rfl⟩
  have hdl := tok_len L t
  rw [hR] at hdl
  simp only at hdl
  have htx : ∃ (s : ByteArray) (q2 : Int), textV L X = .tuple #[.string s, .int .i64 q2] ∧ (q2 = 0 ∨ q2 = 1) := by
    unfold textV; split
    · exact ⟨_, _, rfl, .inl rfl⟩
    · exact ⟨_, _, rfl, .inr rfl⟩
  obtain ⟨s, q2, hX, hq2⟩ := htx
  have hback := fun (hq : q = 0) => text_of_tokens (L := L) (t := t) (D := D) (p := p) (by rw [hR, hq])
  have HR := Lib.hid hR; have HXV := Lib.hid hX
  clear hR hX
  by_cases hq : q = 0
  · have hbk := hback hq
    subst hq
    have HBK := Lib.hid hbk
    clear hback hbk
    go_enter Try.func9, Try.ntmps9
    go_wp2_with fail
    refine (tok_val HR.out HVA.out.sl hl).mono ?_
    rintro e w1 ⟨y, rfl, hy, hb⟩
    have Y := Lib.hid hy; have B1 := Lib.hid hb
    clear hy hb
    go_wp2_with fail
    refine (text_val HBK.out (HVA.out.below B1.out).sl Y.out hl (by simp [ofNats]; unfold maxLen; omega)).mono ?_
    rintro e w2 ⟨rfl, hb⟩
    have B2 := Lib.hid (below_chain B1.out hb)
    clear hb B1 Y
    go_wp2_with fail
    refine (text_val HXV.out (HVA.out.below B2.out).sl (HX.out.below B2.out) hl hxl).mono ?_
    rintro e w3 ⟨rfl, hb⟩
    have B3 := Lib.hid (below_chain B2.out hb)
    clear hb B2
    rcases hq2 with hq2 | hq2
    · subst hq2
      go_wp2_with fail
      refine (begins_any (HVA.out.below B3.out).sl (by omega)).mono ?_
      unfold BegPost
      rintro e w' ⟨B, n4, rfl, hfr, rfl⟩
      have B4 := Lib.hid (below_drewN3 B3.out n4)
      clear B3
      generalize World.drewN _ n4 = w4 at *
      cases B
      · obtain ⟨E, hE1, hE2⟩ := tokens_of_text HXV.out (hfr rfl)
        clear hfr
        have HE1 := Lib.hid hE1; have HE2 := Lib.hid hE2
        clear hE1 hE2
        go_wp2_with fail
        refine (tok_val HE1.out (HVA.out.below B4.out).sl hl).mono ?_
        rintro e w5 ⟨z, rfl, hz, hb⟩
        have B5 := Lib.hid (below_chain B4.out hb)
        have hx5 := HX.out.below B5.out
        simp only at hz
        rw [HE2.out] at hz
        clear hb B4
        go_wp2_with fail
        refine (sameInts_any _ _ _ _ _ hx5 hz (by omega)).mono ?_
        rintro e w' ⟨rfl, n6, rfl⟩
        have B6 := Lib.hid (below_drewN3 B5.out n6)
        clear B5 hx5 hz
        generalize World.drewN _ n6 = w6 at *
        rw [show decide (X = X) = true by simp]
        go_wp2_with fail
        refine (awake_any _).mono ?_
        rintro e w7 ⟨rfl, hb⟩
        have B7 := Lib.hid (below_chain B6.out hb)
        clear hb B6
        go_wp2
        go_ret
        exact ⟨rfl, B7.out⟩
      · clear hfr
        go_wp2_with fail
        refine (awake_any _).mono ?_
        rintro e w7 ⟨rfl, hb⟩
        have B7 := Lib.hid (below_chain B4.out hb)
        clear hb B4
        go_wp2
        go_ret
        exact ⟨rfl, B7.out⟩
    · subst hq2
      go_wp2_with fail
      refine (awake_any _).mono ?_
      rintro e w7 ⟨rfl, hb⟩
      have B7 := Lib.hid (below_chain B3.out hb)
      clear hb B3
      go_wp2
      go_ret
      exact ⟨rfl, B7.out⟩
  · have g1 : ((q : Int) == 0) = false := by simp; exact hq
    clear hback
    go_enter Try.func9, Try.ntmps9
    go_wp2_with fail
    refine (tok_val HR.out HVA.out.sl hl).mono ?_
    rintro e w2 ⟨y, rfl, hy, hb⟩
    have B2 := Lib.hid hb
    clear hy hb
    go_wp2_with fail
    refine (text_val HXV.out (HVA.out.below B2.out).sl (HX.out.below B2.out) hl hxl).mono ?_
    rintro e w3 ⟨rfl, hb⟩
    have B3 := Lib.hid (below_chain B2.out hb)
    clear hb B2
    rcases hq2 with hq2 | hq2
    · subst hq2
      go_wp2_with fail
      refine (begins_any (HVA.out.below B3.out).sl (by omega)).mono ?_
      unfold BegPost
      rintro e w' ⟨B, n4, rfl, hfr, rfl⟩
      have B4 := Lib.hid (below_drewN3 B3.out n4)
      clear B3
      generalize World.drewN _ n4 = w4 at *
      cases B
      · obtain ⟨E, hE1, hE2⟩ := tokens_of_text HXV.out (hfr rfl)
        clear hfr
        have HE1 := Lib.hid hE1; have HE2 := Lib.hid hE2
        clear hE1 hE2
        go_wp2_with fail
        refine (tok_val HE1.out (HVA.out.below B4.out).sl hl).mono ?_
        rintro e w5 ⟨z, rfl, hz, hb⟩
        have B5 := Lib.hid (below_chain B4.out hb)
        have hx5 := HX.out.below B5.out
        simp only at hz
        rw [HE2.out] at hz
        clear hb B4
        go_wp2_with fail
        refine (sameInts_any _ _ _ _ _ hx5 hz (by omega)).mono ?_
        rintro e w' ⟨rfl, n6, rfl⟩
        have B6 := Lib.hid (below_drewN3 B5.out n6)
        clear B5 hx5 hz
        generalize World.drewN _ n6 = w6 at *
        rw [show decide (X = X) = true by simp]
        go_wp2_with fail
        refine (awake_any _).mono ?_
        rintro e w7 ⟨rfl, hb⟩
        have B7 := Lib.hid (below_chain B6.out hb)
        clear hb B6
        go_wp2
        go_ret
        exact ⟨rfl, B7.out⟩
      · clear hfr
        go_wp2_with fail
        refine (awake_any _).mono ?_
        rintro e w7 ⟨rfl, hb⟩
        have B7 := Lib.hid (below_chain B4.out hb)
        clear hb B4
        go_wp2
        go_ret
        exact ⟨rfl, B7.out⟩
    · subst hq2
      go_wp2_with fail
      refine (awake_any _).mono ?_
      rintro e w7 ⟨rfl, hb⟩
      have B7 := Lib.hid (below_chain B3.out hb)
      clear hb B3
      go_wp2
      go_ret
      exact ⟨rfl, B7.out⟩
end Go.Proofs.Ytegbgkljpdlpnaa
