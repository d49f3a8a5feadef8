/- The reference's Find, Name, Word, Add, SameInts, by contract. -/
import Derived.Test.YtegbgkljpdlpnaaUa
import Derived.Test.YtegbgkljpdlpnaaWk
set_option linter.unusedVariables false
set_option linter.unusedSimpArgs false
namespace Go.Proofs.Ytegbgkljpdlpnaa
open Go.RowKit

set_option maxHeartbeats 1000000 in
theorem rfind_any {w : World} {v : Value} {L : List ByteArray} (hv : StrSl w v L) (hl : L.length ≤ maxLen) (s : ByteArray) :
    Calls Try.prog 23 #[v, .string s] w (ValPost (findV L s) w) := by
  have hp := position_any hv hl s
  have hva := rvalid5_any hv hl
  have hple := pos_le L s
  unfold maxLen at hl
  cases hT : tableB L
  · rw [hT] at hva
    have hV : findV L s = .tuple #[.int .i64 0, .bool false] := by unfold findV; rw [hT]; rfl
    rw [hV]
    clear hV hT hv
    go_enter Try.func23, Try.ntmps23
    go_wp2_with fail
    refine hp.mono ?_
    rintro e w1 ⟨rfl, rfl⟩
    go_wp2_with fail
    refine hva.mono ?_
    rintro e w1 ⟨rfl, hb⟩
    go_wp2
    go_ret2
    exact ⟨rfl, hb⟩
  · rw [hT] at hva
    by_cases hm : s ∈ L
    · have hV : findV L s = .tuple #[.int .i64 (pos L s : Int), .bool true] := by unfold findV; rw [hT, show decide (s ∈ L) = true by simpa using hm]; rfl
      rw [hV]
      have h1 := pos_mem hm
      obtain ⟨k, hk⟩ : ∃ k : Nat, pos L s = k + 1 := ⟨_, h1⟩
      rw [hk] at hp hple ⊢
      have f1 : decide ((k : Int) < 0) = false := by simp
      have f0 : ((k + 1 : Nat) : Int) - 1 = (k : Int) := by omega
      rw [f0] at hp
      have f2 : IntKind.i64.wrap ((k : Int) + 1) = ((k + 1 : Nat) : Int) := by rw [IntKind.wrap_i64]; omega
      clear hV hT hv hm h1 hk f0
      go_enter Try.func23, Try.ntmps23
      go_wp2_with fail
      refine hp.mono ?_
      rintro e w1 ⟨rfl, rfl⟩
      go_wp2_with fail
      refine hva.mono ?_
      rintro e w1 ⟨rfl, hb⟩
      go_wp2
      go_ret2
      exact ⟨rfl, hb⟩
    · have h1 := pos_not hm
      have hV : findV L s = .tuple #[.int .i64 0, .bool false] := by unfold findV; rw [hT, h1, show decide (s ∈ L) = false by simpa using hm]; rfl
      rw [hV]
      have f0 : (pos L s : Int) - 1 = -1 := by omega
      rw [f0] at hp
      clear hV hT hv hm h1 f0
      go_enter Try.func23, Try.ntmps23
      go_wp2_with fail
      refine hp.mono ?_
      rintro e w1 ⟨rfl, rfl⟩
      go_wp2_with fail
      refine hva.mono ?_
      rintro e w1 ⟨rfl, hb⟩
      go_wp2
      go_ret2
      exact ⟨rfl, hb⟩

set_option maxHeartbeats 1000000 in
theorem rname_any {w : World} {v : Value} {L : List ByteArray} (hv : StrSl w v L) (hl : L.length ≤ maxLen) (s : Int) :
    Calls Try.prog 24 #[v, .int .i64 s] w (ValPost (nameV L s) w) := by
  have hva := rvalid5_any hv hl
  obtain ⟨A, ca, rfl, hr⟩ := hv
  unfold maxLen at hl
  cases hT : tableB L
  · rw [hT] at hva
    have hV : nameV L s = .tuple #[.string ⟨#[]⟩, .bool false] := by unfold nameV; rw [hT]; rfl
    rw [hV]
    clear hV hT
    go_enter Try.func24, Try.ntmps24
    go_wp2_with fail
    refine hva.mono ?_
    rintro e w1 ⟨rfl, hb⟩
    go_wp2
    go_ret2
    exact ⟨rfl, hb⟩
  · rw [hT] at hva
    cases hH : hasB L.length s
    · have hV : nameV L s = .tuple #[.string ⟨#[]⟩, .bool false] := by unfold nameV; rw [hT, hH]; rfl
      rw [hV]
      have hH2 : s < 1 ∨ (¬ s < 1 ∧ (L.length : Int) < s) := by
        unfold hasB at hH
        simp only [Bool.and_eq_false_iff, decide_eq_false_iff_not] at hH
        omega
      clear hV hT hH
      rcases hH2 with h1 | ⟨h1, h2⟩
      · go_enter Try.func24, Try.ntmps24
        go_wp2_with fail
        refine hva.mono ?_
        rintro e w1 ⟨rfl, hb⟩
        go_wp2
        go_ret2
        exact ⟨rfl, hb⟩
      · go_enter Try.func24, Try.ntmps24
        go_wp2_with fail
        refine hva.mono ?_
        rintro e w1 ⟨rfl, hb⟩
        go_wp2
        go_ret2
        exact ⟨rfl, hb⟩
    · obtain ⟨k, hk1, hk2, hk3⟩ := hasB_idx hH
      obtain ⟨ad, x, hA, hab, hx, hc0⟩ := row_str hr hk2
      subst hA
      have hV : nameV L s = .tuple #[.string x, .bool true] := by
        unfold nameV; rw [hT, hH, hk3, List.getD_eq_getElem?_getD, hx]; rfl
      rw [hV]
      have n1 : IntKind.i64.wrap (s - 1) = (k : Int) := by rw [IntKind.wrap_i64]; omega
      have n2 : (k : Int) < (L.length : Int) := by omega
      have n3 : ¬ s < 1 := by omega
      have n4 : ¬ (L.length : Int) < s := by omega
      clear hV hT hH hk1 hk3
      go_enter Try.func24, Try.ntmps24
      go_wp2_with fail
      refine hva.mono ?_
      rintro e w1 ⟨rfl, hb⟩
      have hc : w1.cell? (ad.add k) = some (.string x) := (hb.cell (by rw [block_of_add]; exact hab)).trans hc0
      go_wp2
      go_ret2
      exact ⟨rfl, hb⟩

set_option maxHeartbeats 1000000 in
theorem rword_any {w : World} {x : Value} {X : List Int} (A : Option Addr) (n ca : Nat) (hx : IntSl w x X) (hxl : X.length ≤ maxLen) :
    Calls Try.prog 41 #[.slice A n ca, x] w fun e w' => e = .returned (.bool (wordB n X)) ∧ w = w' := by
  obtain ⟨C, cc, rfl, hr⟩ := hx
  unfold maxLen at hxl
  by_cases hbig : 200 < X.length
  · have hV : wordB n X = false := by unfold wordB; rw [show decide (X.length ≤ 200) = false by simp; omega]; rfl
    rw [hV]
    have f0 : decide ((200 : Int) < (X.length : Int)) = true := by simp; omega
    clear hV hr
    go_enter Try.func41, Try.ntmps41
    go_wp2
    go_ret
    exact ⟨rfl, rfl⟩
  have f0 : decide ((200 : Int) < (X.length : Int)) = false := by simp; omega
  go_enter Try.func41, Try.ntmps41
  go_wp2
  go_loop [5] (fun i => ∃ k : Nat, i = .int .i64 k ∧ k ≤ X.length ∧ ∀ m, m < k → ∀ z, X[m]? = some z → hasB n z = true) (fun i => X.length - (intOf i).toNat)
  case atStart => exact ⟨0, rfl, by omega, fun m hm => by omega⟩
  case round =>
    obtain ⟨k, rfl, hk, hall⟩ := hrel
    have HALL := Lib.hid hall
    clear hall
    by_cases hlt : k < X.length
    · obtain ⟨ad, z, rfl, hadb, hz, hc⟩ := row_int hr hlt
      have n1 : (k : Int) < (X.length : Int) := by omega
      have n2 : IntKind.i64.wrap ((k : Int) + 1) = (k : Int) + 1 := by rw [IntKind.wrap_i64]; omega
      cases hH : hasB n z
      · have hV : wordB n X = false := by
          cases h : wordB n X
          · rfl
          · rw [word_at h hz] at hH; cases hH
        have HV := Lib.hid hV
        have hH2 : z < 1 ∨ (¬ z < 1 ∧ (n : Int) < z) := by
          unfold hasB at hH
          simp only [Bool.and_eq_false_iff, decide_eq_false_iff_not] at hH
          omega
        clear hV hH hz
        rcases hH2 with h1 | ⟨h1, h2⟩
        · go_wp2
          go_ret
          exact ⟨by rw [HV.out]; rfl, rfl⟩
        · go_wp2
          go_ret
          exact ⟨by rw [HV.out]; rfl, rfl⟩
      · have hH2 := hH
        unfold hasB at hH2
        simp only [Bool.and_eq_true, decide_eq_true_eq] at hH2
        have h1 : ¬ z < 1 := by omega
        have h2 : ¬ (n : Int) < z := by omega
        have HALL2 : Hid (∀ m, m < k + 1 → ∀ z, X[m]? = some z → hasB n z = true) := Lib.hid (fun m hm y hy => by
          by_cases e : m = k
          · subst e; rw [hz] at hy; cases hy; exact hH
          · exact HALL.out m (by omega) y hy)
        clear hH hH2 hz
        go_wp2
        go_round
        case rel => exact ⟨k + 1, by go_num, by omega, HALL2.out⟩
        case measure => simp [intOf]; omega
    · have n1 : ¬ (k : Int) < (X.length : Int) := by omega
      have hw : wordB n X = true := by
        unfold wordB
        simp only [Bool.and_eq_true, decide_eq_true_eq, List.all_eq_true]
        refine ⟨by omega, fun z hz => ?_⟩
        obtain ⟨m, hm⟩ := List.mem_iff_getElem?.1 hz
        exact HALL.out m (by have := (List.getElem?_eq_some_iff.1 hm).1; omega) z hm
      have HW := Lib.hid hw
      clear hw
      go_wp2
      go_ret
      exact ⟨by rw [HW.out]; rfl, rfl⟩

set_option maxHeartbeats 1000000 in
theorem sameInts_any (w : World) (va vb : Value) (la lb : List Int) (ha : IntSl w va la) (hb : IntSl w vb lb) (hla : la.length ≤ 9223372036854775806) :
    Calls Try.prog 18 #[va, vb] w fun e w' => e = .returned (.bool (decide (la = lb))) ∧ ∃ n, w' = w.drewN n := by
  obtain ⟨A, ca, rfl, ra⟩ := ha
  obtain ⟨B, cb, rfl, rb⟩ := hb
  by_cases hl : la.length = lb.length
  · have f1 : ((la.length : Int) != (lb.length : Int)) = false := by simp; omega
    have HL := Lib.hid hl
    clear hl
    go_enter Try.func18, Try.ntmps18
    go_wp2
    go_loopw [5] (fun i wr => ∃ (k : Nat), i = .int .i64 k ∧ k ≤ la.length ∧ (∃ n, wr = w.drewN n) ∧ ∀ j, j < k → la[j]? = lb[j]?) (fun i _ => la.length - (intOf i).toNat)
    case atStart => exact ⟨0, rfl, by omega, ⟨0, rfl⟩, fun j hj => by omega⟩
    case round =>
      obtain ⟨k, rfl, hk, ⟨n, rfl⟩, hall⟩ := hrel
      have HALL := Lib.hid hall; clear hall
      by_cases hlt : k < la.length
      · have hlt2 : k < lb.length := by have := HL.out; omega
        obtain ⟨ad, x, rfl, _, hx, hcx⟩ := row_int ra hlt
        obtain ⟨bd, y, rfl, _, hy, hcy⟩ := row_int rb hlt2
        have n1 : IntKind.i64.wrap (k : Int) = (k : Int) := by rw [IntKind.wrap_i64]; omega
        have HX := Lib.hid hx; have HY := Lib.hid hy
        clear hx hy
        by_cases he : x = y
        · subst he
          go_wp2
          go_quiet (fail)
          go_wp2
          go_roundw
          case rel =>
            refine ⟨k + 1, by go_num, by omega, ⟨_, rfl⟩, fun j hj => ?_⟩
            by_cases hj2 : j = k
            · subst hj2; rw [HX.out, HY.out]
            · exact HALL.out j (by omega)
          case measure => simp [intOf]; omega
        · have f2 : (x != y) = true := by simpa using he
          have HE := Lib.hid he; clear he
          go_wp2
          go_quiet (fail)
          go_wp2
          go_ret
          refine ⟨ret_boolk ?_, n + nq, World.drewN_drewN _ _ _⟩
          simp
          intro h
          apply HE.out
          have := HX.out
          rw [h, HY.out] at this
          exact (Option.some.inj this).symm
      · have e : k = la.length := by omega
        have hend : la = lb := by
          apply List.ext_getElem?
          intro j
          by_cases hj : j < k
          · exact HALL.out j hj
          · rw [List.getElem?_eq_none (by omega), List.getElem?_eq_none (by have := HL.out; omega)]
        have HE := Lib.hid hend
        clear hend
        subst e
        go_wp2
        go_ret
        exact ⟨ret_boolk (by simp [HE.out]), _, rfl⟩
  · have f1 : ((la.length : Int) != (lb.length : Int)) = true := by simp; omega
    have HL := Lib.hid hl
    clear hl
    go_enter Try.func18, Try.ntmps18
    go_wp2
    go_ret
    exact ⟨ret_boolk (by simp; intro h; exact HL.out (by rw [h])), 0, rfl⟩
end Go.Proofs.Ytegbgkljpdlpnaa
