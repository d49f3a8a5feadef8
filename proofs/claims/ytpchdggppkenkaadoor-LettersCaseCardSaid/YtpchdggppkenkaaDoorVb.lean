/- The law's digit. -/
import Derived.Test.YtpchdggppkenkaaDoorWx
import Derived.Test.YtpchdggppkenkaaDoorPr
set_option linter.unusedVariables false
set_option linter.unusedSimpArgs false
namespace Go.Proofs.YtpchdggppkenkaaDoor
open Go.RowKit

theorem hexD_range : ∀ n : Fin 16, (48 ≤ (hexD n.val).toNat ∧ (hexD n.val).toNat ≤ 57) ∨ (97 ≤ (hexD n.val).toNat ∧ (hexD n.val).toNat ≤ 102) := by decide +kernel

set_option maxHeartbeats 1000000 in
theorem ldigit_any (b : UInt8) (w : World) (h : (48 ≤ b.toNat ∧ b.toNat ≤ 57) ∨ (97 ≤ b.toNat ∧ b.toNat ≤ 102)) :
    Calls Tryd.prog 32 #[.string ⟨[b].toArray⟩] w fun e w' => e = .returned (.bool true) ∧ w = w' := by
  obtain ⟨p, hp⟩ : ∃ p : ByteArray, p = ⟨[b].toArray⟩ := ⟨_, rfl⟩
  have hz : p.size = 1 := by rw [hp]; rfl
  have hz3 : 0 < p.size := by omega
  have hg : (p[0]'hz3).toNat = b.toNat := by subst hp; rfl
  rw [← hp]
  clear hp
  have hz2 : ((p.size : Int) == 1) = true := by rw [hz]; rfl
  have hc : (decide (48 ≤ (b.toNat : Int)) = true ∧ decide ((b.toNat : Int) ≤ 57) = true) ∨ (decide (48 ≤ (b.toNat : Int)) = true ∧ decide ((b.toNat : Int) ≤ 57) = false ∧ decide (97 ≤ (b.toNat : Int)) = true ∧ decide ((b.toNat : Int) ≤ 102) = true) := by
    simp only [decide_eq_true_eq, decide_eq_false_iff_not]
    omega
  generalize b.toNat = c at *
  clear hz h
  rcases hc with ⟨f1, f2⟩ | ⟨f1, f2, f3, f4⟩
  all_goals
    go_enter Tryd.func32, Tryd.ntmps32
    go_wp2
    go_ret
    exact ⟨rfl, rfl⟩
theorem ldigit_hex (n : Nat) (h : n < 16) (w : World) :
    Calls Tryd.prog 32 #[.string ⟨[hexD n].toArray⟩] w fun e w' => e = .returned (.bool true) ∧ w = w' := ldigit_any (hexD n) w (hexD_range ⟨n, h⟩)
def HexS (p : ByteArray) : Prop := ∃ m, m < 16 ∧ p = ⟨[hexD m].toArray⟩
theorem ldigit_s (p : ByteArray) (h : HexS p) (w : World) : Calls Tryd.prog 32 #[.string p] w fun e w' => e = .returned (.bool true) ∧ w = w' := by
  obtain ⟨m, hm, rfl⟩ := h
  exact ldigit_hex m hm w
end Go.Proofs.YtpchdggppkenkaaDoor
