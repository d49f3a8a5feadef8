/- Plain Lean: the classes of code points: the program's spans, gone through from the first. -/

set_option linter.unusedVariables false
set_option linter.unusedSimpArgs false
namespace Go.Proofs.Ytegbgkljpdlpnaa

def spanT : List (Int × Int × Int) := [(97, 122, 1), (181, 181, 1), (223, 246, 1), (248, 255, 1), (65, 90, 2), (192, 214, 2), (216, 222, 2), (48, 57, 3), (9, 13, 4), (32, 32, 4), (160, 160, 4), (33, 126, 5)]
def spLo (k : Nat) : Int := (spanT.getD k (0, 0, 0)).1
def spHi (k : Nat) : Int := (spanT.getD k (0, 0, 0)).2.1
def spCl (k : Nat) : Int := (spanT.getD k (0, 0, 0)).2.2

/-- The class of a code point, from the k-th span on. -/
def clsFrom (r : Int) : Nat → Nat → Int
  | 0, _ => 6
  | f + 1, k => if k < 12 then (if spLo k ≤ r ∧ r ≤ spHi k then spCl k else clsFrom r f (k + 1)) else 6
def cls (r : Int) : Int := clsFrom r 12 0

theorem clsFrom_end (r : Int) (f k : Nat) (h : ¬ k < 12) : clsFrom r f k = 6 := by cases f <;> simp [clsFrom, h]
theorem clsFrom_hit (r : Int) (f k : Nat) (h : k < 12) (h1 : spLo k ≤ r) (h2 : r ≤ spHi k) : clsFrom r (f + 1) k = spCl k := by simp [clsFrom, h, h1, h2]
theorem clsFrom_miss (r : Int) (f k : Nat) (h : k < 12) (h1 : ¬ (spLo k ≤ r ∧ r ≤ spHi k)) : clsFrom r (f + 1) k = clsFrom r f (k + 1) := by simp only [clsFrom, if_pos h, if_neg h1]

theorem cls_eq (r : Int) : cls r =
    if (97 ≤ r ∧ r ≤ 122) ∨ r = 181 ∨ (223 ≤ r ∧ r ≤ 246) ∨ (248 ≤ r ∧ r ≤ 255) then 1
    else if (65 ≤ r ∧ r ≤ 90) ∨ (192 ≤ r ∧ r ≤ 214) ∨ (216 ≤ r ∧ r ≤ 222) then 2
    else if 48 ≤ r ∧ r ≤ 57 then 3
    else if (9 ≤ r ∧ r ≤ 13) ∨ r = 32 ∨ r = 160 then 4
    else if 33 ≤ r ∧ r ≤ 126 then 5 else 6 := by
  have h : ∀ f k, cls r = clsFrom r (f + 1) k → k < 12 → (spLo k ≤ r ∧ r ≤ spHi k → cls r = spCl k) ∧ (¬ (spLo k ≤ r ∧ r ≤ spHi k) → cls r = clsFrom r f (k + 1)) := by
    intro f k h hk
    exact ⟨fun g => h.trans (clsFrom_hit r f k hk g.1 g.2), fun g => h.trans (clsFrom_miss r f k hk g)⟩
  by_cases g0 : spLo 0 ≤ r ∧ r ≤ spHi 0
  · have e := (h _ _ (rfl : cls r = clsFrom r (11 + 1) 0) (by decide)).1 g0
    rw [e]; simp only [spLo, spHi, spCl, spanT, List.getD_cons_zero, List.getD_cons_succ] at g0 ⊢
    rw [if_pos (by omega)]
  have e0 := (h _ _ (rfl : cls r = clsFrom r (11 + 1) 0) (by decide)).2 g0
  simp only [spLo, spHi, spanT, List.getD_cons_zero, List.getD_cons_succ] at g0
  by_cases g1 : spLo 1 ≤ r ∧ r ≤ spHi 1
  · have e := (h _ _ e0 (by decide)).1 g1
    rw [e]; simp only [spLo, spHi, spCl, spanT, List.getD_cons_zero, List.getD_cons_succ] at g1 ⊢
    rw [if_pos (by omega)]
  have e1 := (h _ _ e0 (by decide)).2 g1
  simp only [spLo, spHi, spanT, List.getD_cons_zero, List.getD_cons_succ] at g1
  by_cases g2 : spLo 2 ≤ r ∧ r ≤ spHi 2
  · have e := (h _ _ e1 (by decide)).1 g2
    rw [e]; simp only [spLo, spHi, spCl, spanT, List.getD_cons_zero, List.getD_cons_succ] at g2 ⊢
    rw [if_pos (by omega)]
  have e2 := (h _ _ e1 (by decide)).2 g2
  simp only [spLo, spHi, spanT, List.getD_cons_zero, List.getD_cons_succ] at g2
  by_cases g3 : spLo 3 ≤ r ∧ r ≤ spHi 3
  · have e := (h _ _ e2 (by decide)).1 g3
    rw [e]; simp only [spLo, spHi, spCl, spanT, List.getD_cons_zero, List.getD_cons_succ] at g3 ⊢
    rw [if_pos (by omega)]
  have e3 := (h _ _ e2 (by decide)).2 g3
  simp only [spLo, spHi, spanT, List.getD_cons_zero, List.getD_cons_succ] at g3
  by_cases g4 : spLo 4 ≤ r ∧ r ≤ spHi 4
  · have e := (h _ _ e3 (by decide)).1 g4
    rw [e]; simp only [spLo, spHi, spCl, spanT, List.getD_cons_zero, List.getD_cons_succ] at g4 ⊢
    rw [if_neg (by omega), if_pos (by omega)]
  have e4 := (h _ _ e3 (by decide)).2 g4
  simp only [spLo, spHi, spanT, List.getD_cons_zero, List.getD_cons_succ] at g4
  by_cases g5 : spLo 5 ≤ r ∧ r ≤ spHi 5
  · have e := (h _ _ e4 (by decide)).1 g5
    rw [e]; simp only [spLo, spHi, spCl, spanT, List.getD_cons_zero, List.getD_cons_succ] at g5 ⊢
    rw [if_neg (by omega), if_pos (by omega)]
  have e5 := (h _ _ e4 (by decide)).2 g5
  simp only [spLo, spHi, spanT, List.getD_cons_zero, List.getD_cons_succ] at g5
  by_cases g6 : spLo 6 ≤ r ∧ r ≤ spHi 6
  · have e := (h _ _ e5 (by decide)).1 g6
    rw [e]; simp only [spLo, spHi, spCl, spanT, List.getD_cons_zero, List.getD_cons_succ] at g6 ⊢
    rw [if_neg (by omega), if_pos (by omega)]
  have e6 := (h _ _ e5 (by decide)).2 g6
  simp only [spLo, spHi, spanT, List.getD_cons_zero, List.getD_cons_succ] at g6
  by_cases g7 : spLo 7 ≤ r ∧ r ≤ spHi 7
  · have e := (h _ _ e6 (by decide)).1 g7
    rw [e]; simp only [spLo, spHi, spCl, spanT, List.getD_cons_zero, List.getD_cons_succ] at g7 ⊢
    rw [if_neg (by omega), if_neg (by omega), if_pos (by omega)]
  have e7 := (h _ _ e6 (by decide)).2 g7
  simp only [spLo, spHi, spanT, List.getD_cons_zero, List.getD_cons_succ] at g7
  by_cases g8 : spLo 8 ≤ r ∧ r ≤ spHi 8
  · have e := (h _ _ e7 (by decide)).1 g8
    rw [e]; simp only [spLo, spHi, spCl, spanT, List.getD_cons_zero, List.getD_cons_succ] at g8 ⊢
    rw [if_neg (by omega), if_neg (by omega), if_neg (by omega), if_pos (by omega)]
  have e8 := (h _ _ e7 (by decide)).2 g8
  simp only [spLo, spHi, spanT, List.getD_cons_zero, List.getD_cons_succ] at g8
  by_cases g9 : spLo 9 ≤ r ∧ r ≤ spHi 9
  · have e := (h _ _ e8 (by decide)).1 g9
    rw [e]; simp only [spLo, spHi, spCl, spanT, List.getD_cons_zero, List.getD_cons_succ] at g9 ⊢
    rw [if_neg (by omega), if_neg (by omega), if_neg (by omega), if_pos (by omega)]
  have e9 := (h _ _ e8 (by decide)).2 g9
  simp only [spLo, spHi, spanT, List.getD_cons_zero, List.getD_cons_succ] at g9
  by_cases g10 : spLo 10 ≤ r ∧ r ≤ spHi 10
  · have e := (h _ _ e9 (by decide)).1 g10
    rw [e]; simp only [spLo, spHi, spCl, spanT, List.getD_cons_zero, List.getD_cons_succ] at g10 ⊢
    rw [if_neg (by omega), if_neg (by omega), if_neg (by omega), if_pos (by omega)]
  have e10 := (h _ _ e9 (by decide)).2 g10
  simp only [spLo, spHi, spanT, List.getD_cons_zero, List.getD_cons_succ] at g10
  by_cases g11 : spLo 11 ≤ r ∧ r ≤ spHi 11
  · have e := (h _ _ e10 (by decide)).1 g11
    rw [e]; simp only [spLo, spHi, spCl, spanT, List.getD_cons_zero, List.getD_cons_succ] at g11 ⊢
    rw [if_neg (by omega), if_neg (by omega), if_neg (by omega), if_neg (by omega), if_pos (by omega)]
  have e11 := (h _ _ e10 (by decide)).2 g11
  simp only [spLo, spHi, spanT, List.getD_cons_zero, List.getD_cons_succ] at g11
  rw [e11, if_neg (by omega), if_neg (by omega), if_neg (by omega), if_neg (by omega), if_neg (by omega)]
  rfl
theorem spCl_range (k : Nat) (h : k < 12) : 1 ≤ spCl k ∧ spCl k ≤ 5 := by
  have : ∀ k : Fin 12, 1 ≤ spCl k.val ∧ spCl k.val ≤ 5 := by decide
  exact this ⟨k, h⟩
end Go.Proofs.Ytegbgkljpdlpnaa
