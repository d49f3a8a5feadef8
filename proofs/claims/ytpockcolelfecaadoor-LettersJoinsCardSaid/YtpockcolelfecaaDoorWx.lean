/- The reference's Unit. -/
import Derived.Test.YtpockcolelfecaaDoorWw
import Derived.Test.YtpockcolelfecaaDoorWp
import Derived.Test.YtpockcolelfecaaDoorPo
import Derived.Laws.Concat
set_option linter.unusedVariables false
set_option linter.unusedSimpArgs false
namespace Go.Proofs.YtpockcolelfecaaDoor
open Go.RowKit

theorem app3 (a b : UInt8) : (⟨#[37, 120]⟩ ++ ⟨#[a]⟩ ++ ⟨#[b]⟩ : ByteArray) = ⟨[37, 120, a, b].toArray⟩ := by apply ByteArray.ext; simp
theorem app1 (p : ByteArray) : (⟨#[37]⟩ ++ p : ByteArray) = ⟨(37 :: p.data.toList).toArray⟩ := by apply ByteArray.ext; simp
theorem hex_one : ∀ n : Fin 16, (ByteArray.extract ⟨#[48, 49, 50, 51, 52, 53, 54, 55, 56, 57, 97, 98, 99, 100, 101, 102]⟩ n.val (n.val + 1)) = ⟨[hexD n.val].toArray⟩ := by decide +kernel
theorem hex_cut (n : Nat) (h : n < 16) : (ByteArray.extract ⟨#[48, 49, 50, 51, 52, 53, 54, 55, 56, 57, 97, 98, 99, 100, 101, 102]⟩ n (n + 1)) = ⟨[hexD n].toArray⟩ := hex_one ⟨n, h⟩

set_option maxHeartbeats 1000000 in
theorem unit_hex (p : ByteArray) (w : World) (h0 : 0 < p.size) (hs : p.size ≤ 4) (hc : clsD p = 0 ∨ (clsD p ≠ 0 ∧ ctlS p = true)) :
    Calls Tryd.prog 52 #[.string p] w fun e w' => e = .returned (.string ⟨[37, 120, hexD (gb p 0 / 16), hexD (gb p 0 % 16)].toArray⟩) ∧ ∃ n, w' = w.drewN n := by
  have h1 := fun w => rclass_any p w (by omega)
  simp only [clsR_eq] at h1
  have h2 := fun w => control_any p w (by omega)
  have hg : (p[0]'h0).toNat = gb p 0 := (gb_pos p 0 h0).symm
  have l0 := gb_lt p 0
  have hx1 := hex_cut (gb p 0 / 16) (by omega)
  have hx2 := hex_cut (gb p 0 % 16) (by omega)
  generalize clsD p = cl at *
  generalize ctlS p = ct at *
  generalize gb p 0 = c at *
  have hc2 : (cl == 0) = true ∨ ((cl == 0) = false ∧ ct = true) := by
    rcases hc with h | ⟨h, h'⟩
    · exact Or.inl (by simpa using h)
    · exact Or.inr ⟨by simpa using h, h'⟩
  clear hc
  rcases hc2 with f1 | ⟨f1, rfl⟩
  · go_enter Tryd.func52, Tryd.ntmps52
    go_wp2_with (first | (go_at_call 25; refine (h1 _).mono ?_; rintro e w' ⟨rfl, rfl⟩) | (go_at_call 63; refine (h2 _).mono ?_; rintro e w' ⟨rfl, rfl⟩))
    go_quiet (fail)
    go_wp2
    go_ret
    exact ⟨congrArg (fun x => Ending.returned (Value.string x)) (app3 _ _), nq, rfl⟩
  · go_enter Tryd.func52, Tryd.ntmps52
    go_wp2_with (first | (go_at_call 25; refine (h1 _).mono ?_; rintro e w' ⟨rfl, rfl⟩) | (go_at_call 63; refine (h2 _).mono ?_; rintro e w' ⟨rfl, rfl⟩))
    go_quiet (fail)
    go_wp2
    go_ret
    exact ⟨congrArg (fun x => Ending.returned (Value.string x)) (app3 _ _), nq, rfl⟩

set_option maxHeartbeats 1000000 in
theorem unit_mark (p : ByteArray) (w : World) (hs : p.size ≤ 4) (hc : clsD p ≠ 0) (ht : ctlS p = false) (hm : clsD p = 4 ∨ clsD p = 5) :
    Calls Tryd.prog 52 #[.string p] w fun e w' => e = .returned (.string ⟨(37 :: p.data.toList).toArray⟩) ∧ ∃ n, w' = w.drewN n := by
  have h1 := fun w => rclass_any p w (by omega)
  simp only [clsR_eq] at h1
  have h2 := fun w => control_any p w (by omega)
  have f0 : (clsD p == 0) = false := by simpa using hc
  have hc2 : (clsD p == 4) = true ∨ ((clsD p == 4) = false ∧ (clsD p == 5) = true) := by
    by_cases h : clsD p = 4
    · exact Or.inl (by simpa using h)
    · exact Or.inr ⟨by simpa using h, by simpa [h] using hm⟩
  generalize clsD p = cl at *
  generalize ctlS p = ct at *
  subst ht
  clear hc hm
  rcases hc2 with f1 | ⟨f1, f2⟩
  all_goals
    go_enter Tryd.func52, Tryd.ntmps52
    go_wp2_with (first | (go_at_call 25; refine (h1 _).mono ?_; rintro e w' ⟨rfl, rfl⟩) | (go_at_call 63; refine (h2 _).mono ?_; rintro e w' ⟨rfl, rfl⟩))
    go_ret
    exact ⟨congrArg (fun x => Ending.returned (Value.string x)) (app1 p), 0, rfl⟩

set_option maxHeartbeats 1000000 in
theorem unit_plain (p : ByteArray) (w : World) (hs : p.size ≤ 4) (hc : clsD p ≠ 0) (ht : ctlS p = false) (hm : ¬ (clsD p = 4 ∨ clsD p = 5)) :
    Calls Tryd.prog 52 #[.string p] w fun e w' => e = .returned (.string p) ∧ ∃ n, w' = w.drewN n := by
  have h1 := fun w => rclass_any p w (by omega)
  simp only [clsR_eq] at h1
  have h2 := fun w => control_any p w (by omega)
  have f0 : (clsD p == 0) = false := by simpa using hc
  have f1 : (clsD p == 4) = false := by simp; intro h; exact hm (Or.inl h)
  have f2 : (clsD p == 5) = false := by simp; intro h; exact hm (Or.inr h)
  generalize clsD p = cl at *
  generalize ctlS p = ct at *
  subst ht
  clear hc hm
  go_enter Tryd.func52, Tryd.ntmps52
  go_wp2_with (first | (go_at_call 25; refine (h1 _).mono ?_; rintro e w' ⟨rfl, rfl⟩) | (go_at_call 63; refine (h2 _).mono ?_; rintro e w' ⟨rfl, rfl⟩))
  go_ret
  exact ⟨rfl, 0, rfl⟩

theorem unit_any (p : ByteArray) (w : World) (h0 : 0 < p.size) (hs : p.size ≤ 4) :
    Calls Tryd.prog 52 #[.string p] w fun e w' => e = .returned (.string ⟨(rUnit (clsD p) (ctlP p) p).toArray⟩) ∧ ∃ n, w' = w.drewN n := by
  unfold rUnit
  by_cases h : clsD p = 0 ∨ ctlP p = true
  · rw [if_pos h]
    refine unit_hex p w h0 hs ?_
    rcases h with h | h
    · exact Or.inl h
    · by_cases h2 : clsD p = 0
      · exact Or.inl h2
      · exact Or.inr ⟨h2, h⟩
  · have hc : clsD p ≠ 0 := fun g => h (Or.inl g)
    have ht : ctlS p = false := by
      cases g : ctlS p
      · rfl
      · exact absurd (Or.inr g) h
    rw [if_neg h]
    by_cases hm : clsD p = 4 ∨ clsD p = 5
    · rw [if_pos hm]; exact unit_mark p w hs hc ht hm
    · rw [if_neg hm]; exact unit_plain p w hs hc ht hm
theorem unit_piece (s : ByteArray) (i : Nat) (h : i < s.size) (w : World) :
    Calls Tryd.prog 52 #[.string (piece s i)] w fun e w' => e = .returned (.string ⟨(qUnit s i).toArray⟩) ∧ ∃ n, w' = w.drewN n := by
  have := piece_size s i h
  have hp := pw_pos s i
  have hl := pw_le s i h
  rw [← rUnit_piece s i h]
  exact unit_any (piece s i) w (by omega) (by omega)
end Go.Proofs.YtpockcolelfecaaDoor
