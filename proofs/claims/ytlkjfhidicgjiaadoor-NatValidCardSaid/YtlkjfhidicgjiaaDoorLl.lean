/- The walk of NatLaws. -/
import Derived.Test.YtlkjfhidicgjiaaDoorWq
set_option linter.unusedVariables false
set_option linter.unusedSimpArgs false
namespace Go.Proofs.YtlkjfhidicgjiaaDoor
open Go.RowKit
open Go.Lib (nDigits)

theorem limV_cases (n : Nat) : (∃ S, limV n = .tuple #[.string S, .int .i64 0] ∧ numB S = true ∧ nv S = n ∧ nDigits n ≤ 1000) ∨ (limV n = .tuple #[.string ⟨#[]⟩, .int .i64 2] ∧ ¬ nDigits n ≤ 1000) := by
  by_cases h : nDigits n ≤ 1000
  · left
    refine ⟨decS n, ?_, ?_, nv_dec n, h⟩
    · unfold limV; rw [if_pos h]
    · rw [num_dec]; simp [h]
  · right
    exact ⟨by unfold limV; rw [if_neg h], h⟩
theorem addV_cases (a b : ByteArray) : (∃ S, addV a b = .tuple #[.string S, .int .i64 0] ∧ numB a = true ∧ numB b = true ∧ numB S = true ∧ nv S = nv a + nv b) ∨
    (∃ E : Int, addV a b = .tuple #[.string ⟨#[]⟩, .int .i64 E] ∧ (E = 1 ∨ E = 2)) := by
  cases ha : numB a
  · right; exact ⟨1, by unfold addV; rw [ha]; rfl, .inl rfl⟩
  cases hb : numB b
  · right; exact ⟨1, by unfold addV; rw [hb, Bool.and_false]; rfl, .inl rfl⟩
  have e : addV a b = limV (nv a + nv b) := by unfold addV; rw [ha, hb]; rfl
  rcases limV_cases (nv a + nv b) with ⟨S, h1, h2, h3, _⟩ | ⟨h1, _⟩
  · left; exact ⟨S, by rw [e, h1], rfl, rfl, h2, h3⟩
  · right; exact ⟨2, by rw [e, h1], .inr rfl⟩
theorem mulV_cases (a b : ByteArray) : (∃ S, mulV a b = .tuple #[.string S, .int .i64 0] ∧ numB a = true ∧ numB b = true ∧ numB S = true ∧ nv S = nv a * nv b) ∨
    (∃ E : Int, mulV a b = .tuple #[.string ⟨#[]⟩, .int .i64 E] ∧ (E = 1 ∨ E = 2)) := by
  cases ha : numB a
  · right; exact ⟨1, by unfold mulV; rw [ha]; rfl, .inl rfl⟩
  cases hb : numB b
  · right; exact ⟨1, by unfold mulV; rw [hb, Bool.and_false]; rfl, .inl rfl⟩
  have e : mulV a b = limV (nv a * nv b) := by unfold mulV; rw [ha, hb]; rfl
  rcases limV_cases (nv a * nv b) with ⟨S, h1, h2, h3, _⟩ | ⟨h1, _⟩
  · left; exact ⟨S, by rw [e, h1], rfl, rfl, h2, h3⟩
  · right; exact ⟨2, by rw [e, h1], .inr rfl⟩
theorem addV_comm (a b : ByteArray) : addV a b = addV b a := by unfold addV; rw [Bool.and_comm, Nat.add_comm]
theorem mulV_comm (a b : ByteArray) : mulV a b = mulV b a := by unfold mulV; rw [Bool.and_comm, Nat.mul_comm]
theorem mul_form (a b : ByteArray) : ∃ S E, mulV a b = .tuple #[.string S, .int .i64 E] := by
  rcases mulV_cases a b with ⟨S, h, _⟩ | ⟨E, h, _⟩
  · exact ⟨_, _, h⟩
  · exact ⟨_, _, h⟩

def LawPost (w : World) (e : Ending) (w' : World) : Prop := e = .returned (.bool true) ∧ w.grownBy w' none
def ExOk : Prop := ∀ w, Calls Tryd.prog 18 #[] w (LawPost w)
theorem exOk : ExOk := fun w => example_any w

set_option maxRecDepth 100000 in
set_option maxHeartbeats 4000000 in
theorem laws_walk (a b c : ByteArray) (w : World) (ha : a.size ≤ maxLen) (hb : b.size ≤ maxLen) (hc : c.size ≤ maxLen) :
    Calls Tryd.prog 9 #[.string a, .string b, .string c] w (LawPost w) := by
  have c1 := fun w => add_any a b w ha hb
  have c2 := fun w => add_any b a w hb ha
  have c3 := fun w => mul_any a b w ha hb
  have c4 := fun w => mul_any b a w hb ha
  simp only [addV_comm b a] at c2
  simp only [mulV_comm b a] at c4
  obtain ⟨P, EP, hP⟩ := mul_form a b
  simp only [hP] at c3 c4
  have hx := exOk
  have C3 := Lib.hid c3; have C4 := Lib.hid c4; have X := Lib.hid hx
  clear c3 c4 hP hx
  rcases addV_cases a b with ⟨S, hS, na, nb, nS, vS⟩ | ⟨E, hE, hEv⟩
  · simp only [hS] at c1 c2
    have hSs := maxLen_ok nS
    have c5 := fun w => mul_any S c w hSs hc
    have c6 := fun w => mul_any a c w ha hc
    have c7 := fun w => mul_any b c w hb hc
    have C1 := Lib.hid c1; have C2 := Lib.hid c2
    clear c1 c2 hS
    rcases mulV_cases S c with ⟨L, hL, _, nc, nL, vL⟩ | ⟨E, hE, hEv⟩
    · rcases mulV_cases a c with ⟨A, hA, _, _, nA, vA⟩ | ⟨E, hE, hEv⟩
      · rcases mulV_cases b c with ⟨B, hB, _, _, nB, vB⟩ | ⟨E, hE, hEv⟩
        · have c8 := fun w => add_any A B w (maxLen_ok nA) (maxLen_ok nB)
          rw [addV_lit A B L nA nB nL (by rw [vL, vA, vB, vS, Nat.add_mul])] at c8
          simp only [hL] at c5
          simp only [hA] at c6
          simp only [hB] at c7
          have C5 := Lib.hid c5; have C6 := Lib.hid c6; have C7 := Lib.hid c7; have C8 := Lib.hid c8
          clear c5 c6 c7 c8 hL hA hB nc nL vL nA vA nB vB na nb nS vS ha hb hc hSs
          go_enter Tryd.func9, Tryd.ntmps9
          go_wp2_with fail
          refine (C1.out _).mono ?_
          rintro e w1 ⟨rfl, hg⟩
          have G1 := Lib.hid hg
          clear hg
          go_wp2_with fail
          refine (C2.out _).mono ?_
          rintro e w2 ⟨rfl, hg⟩
          have G2 := Lib.hid (grown_trans G1.out (grown_none hg (r := none)))
          clear hg G1
          go_wp2_with fail
          refine (C3.out _).mono ?_
          rintro e w3 ⟨rfl, hg⟩
          have G3 := Lib.hid (grown_trans G2.out (grown_none hg (r := none)))
          clear hg G2
          go_wp2_with fail
          refine (C4.out _).mono ?_
          rintro e w4 ⟨rfl, hg⟩
          have G4 := Lib.hid (grown_trans G3.out (grown_none hg (r := none)))
          clear hg G3
          go_wp2_with fail
          refine (C5.out _).mono ?_
          rintro e w5 ⟨rfl, hg⟩
          have G5 := Lib.hid (grown_trans G4.out (grown_none hg (r := none)))
          clear hg G4
          go_wp2_with fail
          refine (C6.out _).mono ?_
          rintro e w6 ⟨rfl, hg⟩
          have G6 := Lib.hid (grown_trans G5.out (grown_none hg (r := none)))
          clear hg G5
          go_wp2_with fail
          refine (C7.out _).mono ?_
          rintro e w7 ⟨rfl, hg⟩
          have G7 := Lib.hid (grown_trans G6.out (grown_none hg (r := none)))
          clear hg G6
          go_wp2_with fail
          refine (C8.out _).mono ?_
          rintro e w8 ⟨rfl, hg⟩
          have G8 := Lib.hid (grown_trans G7.out (grown_none hg (r := none)))
          clear hg G7
          go_wp2_with fail
          refine (X.out _).mono ?_
          rintro e w9 ⟨rfl, hg⟩
          have G9 := Lib.hid (grown_trans G8.out (grown_none hg (r := none)))
          clear hg G8
          go_wp2
          go_ret
          exact ⟨rfl, G9.out⟩
        · simp only [hL] at c5
          simp only [hA] at c6
          simp only [hE] at c7
          have f1 : (E != 0) = true := by rcases hEv with rfl | rfl <;> decide
          have C5 := Lib.hid c5; have C6 := Lib.hid c6; have C7 := Lib.hid c7
          clear c5 c6 c7 hL hA hE hEv nc nL vL nA vA na nb nS vS ha hb hc hSs
          go_enter Tryd.func9, Tryd.ntmps9
          go_wp2_with fail
          refine (C1.out _).mono ?_
          rintro e w1 ⟨rfl, hg⟩
          have G1 := Lib.hid hg
          clear hg
          go_wp2_with fail
          refine (C2.out _).mono ?_
          rintro e w2 ⟨rfl, hg⟩
          have G2 := Lib.hid (grown_trans G1.out (grown_none hg (r := none)))
          clear hg G1
          go_wp2_with fail
          refine (C3.out _).mono ?_
          rintro e w3 ⟨rfl, hg⟩
          have G3 := Lib.hid (grown_trans G2.out (grown_none hg (r := none)))
          clear hg G2
          go_wp2_with fail
          refine (C4.out _).mono ?_
          rintro e w4 ⟨rfl, hg⟩
          have G4 := Lib.hid (grown_trans G3.out (grown_none hg (r := none)))
          clear hg G3
          go_wp2_with fail
          refine (C5.out _).mono ?_
          rintro e w5 ⟨rfl, hg⟩
          have G5 := Lib.hid (grown_trans G4.out (grown_none hg (r := none)))
          clear hg G4
          go_wp2_with fail
          refine (C6.out _).mono ?_
          rintro e w6 ⟨rfl, hg⟩
          have G6 := Lib.hid (grown_trans G5.out (grown_none hg (r := none)))
          clear hg G5
          go_wp2_with fail
          refine (C7.out _).mono ?_
          rintro e w7 ⟨rfl, hg⟩
          have G7 := Lib.hid (grown_trans G6.out (grown_none hg (r := none)))
          clear hg G6
          go_wp2_with fail
          refine (X.out _).mono ?_
          rintro e w8 ⟨rfl, hg⟩
          have G8 := Lib.hid (grown_trans G7.out (grown_none hg (r := none)))
          clear hg G7
          go_wp2
          go_ret
          exact ⟨rfl, G8.out⟩
      · obtain ⟨B, EB, hB⟩ := mul_form b c
        simp only [hL] at c5
        simp only [hE] at c6
        simp only [hB] at c7
        have f1 : (E != 0) = true := by rcases hEv with rfl | rfl <;> decide
        have C5 := Lib.hid c5; have C6 := Lib.hid c6; have C7 := Lib.hid c7
        clear c5 c6 c7 hL hB hE hEv nc nL vL na nb nS vS ha hb hc hSs
        go_enter Tryd.func9, Tryd.ntmps9
        go_wp2_with fail
        refine (C1.out _).mono ?_
        rintro e w1 ⟨rfl, hg⟩
        have G1 := Lib.hid hg
        clear hg
        go_wp2_with fail
        refine (C2.out _).mono ?_
        rintro e w2 ⟨rfl, hg⟩
        have G2 := Lib.hid (grown_trans G1.out (grown_none hg (r := none)))
        clear hg G1
        go_wp2_with fail
        refine (C3.out _).mono ?_
        rintro e w3 ⟨rfl, hg⟩
        have G3 := Lib.hid (grown_trans G2.out (grown_none hg (r := none)))
        clear hg G2
        go_wp2_with fail
        refine (C4.out _).mono ?_
        rintro e w4 ⟨rfl, hg⟩
        have G4 := Lib.hid (grown_trans G3.out (grown_none hg (r := none)))
        clear hg G3
        go_wp2_with fail
        refine (C5.out _).mono ?_
        rintro e w5 ⟨rfl, hg⟩
        have G5 := Lib.hid (grown_trans G4.out (grown_none hg (r := none)))
        clear hg G4
        go_wp2_with fail
        refine (C6.out _).mono ?_
        rintro e w6 ⟨rfl, hg⟩
        have G6 := Lib.hid (grown_trans G5.out (grown_none hg (r := none)))
        clear hg G5
        go_wp2_with fail
        refine (C7.out _).mono ?_
        rintro e w7 ⟨rfl, hg⟩
        have G7 := Lib.hid (grown_trans G6.out (grown_none hg (r := none)))
        clear hg G6
        go_wp2_with fail
        refine (X.out _).mono ?_
        rintro e w8 ⟨rfl, hg⟩
        have G8 := Lib.hid (grown_trans G7.out (grown_none hg (r := none)))
        clear hg G7
        go_wp2
        go_ret
        exact ⟨rfl, G8.out⟩
    · obtain ⟨A, EA, hA⟩ := mul_form a c
      obtain ⟨B, EB, hB⟩ := mul_form b c
      simp only [hE] at c5
      simp only [hA] at c6
      simp only [hB] at c7
      have f1 : (E != 0) = true := by rcases hEv with rfl | rfl <;> decide
      have C5 := Lib.hid c5; have C6 := Lib.hid c6; have C7 := Lib.hid c7
      clear c5 c6 c7 hA hB hE hEv na nb nS vS ha hb hc hSs
      go_enter Tryd.func9, Tryd.ntmps9
      go_wp2_with fail
      refine (C1.out _).mono ?_
      rintro e w1 ⟨rfl, hg⟩
      have G1 := Lib.hid hg
      clear hg
      go_wp2_with fail
      refine (C2.out _).mono ?_
      rintro e w2 ⟨rfl, hg⟩
      have G2 := Lib.hid (grown_trans G1.out (grown_none hg (r := none)))
      clear hg G1
      go_wp2_with fail
      refine (C3.out _).mono ?_
      rintro e w3 ⟨rfl, hg⟩
      have G3 := Lib.hid (grown_trans G2.out (grown_none hg (r := none)))
      clear hg G2
      go_wp2_with fail
      refine (C4.out _).mono ?_
      rintro e w4 ⟨rfl, hg⟩
      have G4 := Lib.hid (grown_trans G3.out (grown_none hg (r := none)))
      clear hg G3
      go_wp2_with fail
      refine (C5.out _).mono ?_
      rintro e w5 ⟨rfl, hg⟩
      have G5 := Lib.hid (grown_trans G4.out (grown_none hg (r := none)))
      clear hg G4
      go_wp2_with fail
      refine (C6.out _).mono ?_
      rintro e w6 ⟨rfl, hg⟩
      have G6 := Lib.hid (grown_trans G5.out (grown_none hg (r := none)))
      clear hg G5
      go_wp2_with fail
      refine (C7.out _).mono ?_
      rintro e w7 ⟨rfl, hg⟩
      have G7 := Lib.hid (grown_trans G6.out (grown_none hg (r := none)))
      clear hg G6
      go_wp2_with fail
      refine (X.out _).mono ?_
      rintro e w8 ⟨rfl, hg⟩
      have G8 := Lib.hid (grown_trans G7.out (grown_none hg (r := none)))
      clear hg G7
      go_wp2
      go_ret
      exact ⟨rfl, G8.out⟩
  · simp only [hE] at c1 c2
    have f1 : (E != 0) = true := by rcases hEv with rfl | rfl <;> decide
    have C1 := Lib.hid c1; have C2 := Lib.hid c2
    clear c1 c2 hE hEv ha hb hc
    go_enter Tryd.func9, Tryd.ntmps9
    go_wp2_with fail
    refine (C1.out _).mono ?_
    rintro e w1 ⟨rfl, hg⟩
    have G1 := Lib.hid hg
    clear hg
    go_wp2_with fail
    refine (C2.out _).mono ?_
    rintro e w2 ⟨rfl, hg⟩
    have G2 := Lib.hid (grown_trans G1.out (grown_none hg (r := none)))
    clear hg G1
    go_wp2_with fail
    refine (C3.out _).mono ?_
    rintro e w3 ⟨rfl, hg⟩
    have G3 := Lib.hid (grown_trans G2.out (grown_none hg (r := none)))
    clear hg G2
    go_wp2_with fail
    refine (C4.out _).mono ?_
    rintro e w4 ⟨rfl, hg⟩
    have G4 := Lib.hid (grown_trans G3.out (grown_none hg (r := none)))
    clear hg G3
    go_wp2_with fail
    refine (X.out _).mono ?_
    rintro e w5 ⟨rfl, hg⟩
    have G5 := Lib.hid (grown_trans G4.out (grown_none hg (r := none)))
    clear hg G4
    go_wp2
    go_ret
    exact ⟨rfl, G5.out⟩
end Go.Proofs.YtlkjfhidicgjiaaDoor
