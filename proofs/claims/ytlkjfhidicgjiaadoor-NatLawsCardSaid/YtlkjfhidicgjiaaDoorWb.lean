/- block; combine with each of its closures; addTimes, subTimes. -/
import Derived.Test.YtlkjfhidicgjiaaDoorWa
set_option linter.unusedVariables false
set_option linter.unusedSimpArgs false
namespace Go.Proofs.YtlkjfhidicgjiaaDoor
open Go.RowKit

/-- The value is a slice that reads as these numbers, wherever it lies. -/
def Sees (w : World) (v : Value) (xs : List Nat) : Prop := (v = .slice none 0 0 ∧ xs = []) ∨
  ∃ g off cap, v = .slice (some ⟨g, off, none⟩) xs.length cap ∧ ∀ k, k < xs.length → w.cell? ⟨g, off + k, none⟩ = some (.int .u64 (xs.getD k 0 : Nat))
theorem Blks.sees {B : Nat} {w : World} {v : Value} {xs : List Nat} (h : Blks B w v xs) : Sees w v xs := by
  rcases h.form with hn | ⟨g, cap, cur, rfl, hb, hg, hc, hm, hs, ht⟩
  · exact .inl hn
  · exact .inr ⟨g, 0, cap, rfl, fun k hk => by rw [Nat.zero_add, cell_row hg, take_at ht k hk]⟩
def blkAt (xs : List Nat) (i : Int) : Nat := if i < 0 then 0 else xs.getD i.toNat 0

set_option maxHeartbeats 400000 in
theorem block_any (w : World) (v : Value) (xs : List Nat) (i : Int) (h : Sees w v xs) (hn : xs.length ≤ 1000000) (hi : -1000000 ≤ i) (hi2 : i ≤ 1000000) :
    Calls Tryd.prog 65 #[v, .int .i64 i] w fun e w' => e = .returned (.int .u64 (blkAt xs i : Nat)) ∧ w = w' := by
  by_cases h0 : i < 0
  · have e1 : blkAt xs i = 0 := by unfold blkAt; rw [if_pos h0]
    rw [e1]
    obtain ⟨A, cap, rfl⟩ : ∃ A cap, v = .slice A xs.length cap := by
      rcases h with ⟨rfl, rfl⟩ | ⟨g, off, cap, rfl, _⟩
      · exact ⟨none, 0, rfl⟩
      · exact ⟨_, _, rfl⟩
    clear h e1
    go_enter Tryd.func65, Tryd.ntmps65
    go_wp2
    go_ret
    exact ⟨rfl, rfl⟩
  · obtain ⟨k, rfl⟩ : ∃ k : Nat, i = k := ⟨i.toNat, by omega⟩
    have e1 : blkAt xs (k : Int) = xs.getD k 0 := by unfold blkAt; rw [if_neg h0]; rfl
    rw [e1]
    by_cases hk : k < xs.length
    · rcases h with ⟨rfl, rfl⟩ | ⟨g, off, cap, rfl, hc⟩
      · exact absurd hk (by simp)
      · have hcell := hc k hk
        generalize xs.getD k 0 = x at *
        clear e1 hc
        go_enter Tryd.func65, Tryd.ntmps65
        go_wp2
        go_ret
        exact ⟨rfl, rfl⟩
    · rw [getD_out xs k hk]
      obtain ⟨A, cap, rfl⟩ : ∃ A cap, v = .slice A xs.length cap := by
        rcases h with ⟨rfl, rfl⟩ | ⟨g, off, cap, rfl, _⟩
        · exact ⟨none, 0, rfl⟩
        · exact ⟨_, _, rfl⟩
      clear h e1
      go_enter Tryd.func65, Tryd.ntmps65
      go_wp2
      go_ret
      exact ⟨rfl, rfl⟩
end Go.Proofs.YtlkjfhidicgjiaaDoor
