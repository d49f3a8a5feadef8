/- The program's Valid, Cmp. -/
import Derived.Test.YtlkjfhidicgjiaaDoorWd
import Derived.Test.YtlkjfhidicgjiaaDoorSh
set_option linter.unusedVariables false
set_option linter.unusedSimpArgs false
namespace Go.Proofs.YtlkjfhidicgjiaaDoor
open Go.RowKit

theorem all_dg (s : ByteArray) (h : ∀ k (hk : k < s.size), isDg s[k] = true) : s.data.toList.all isDg = true := by
  rw [List.all_eq_true]
  intro c hc
  obtain ⟨k, hk, rfl⟩ := List.mem_iff_getElem.1 hc
  exact h k (by simpa using hk)
theorem head_at (s : ByteArray) (h : 0 < s.size) : s.data.toList.headD 0 = s[0] := by
  have hl : 0 < s.data.toList.length := by simpa using h
  rw [List.headD_eq_head?_getD, List.head?_eq_getElem?, List.getElem?_eq_getElem hl]
  rfl
theorem num_yes (s : ByteArray) (h1 : 1 ≤ s.size) (h2 : s.size ≤ 1000) (ha : ∀ k (hk : k < s.size), isDg s[k] = true) (hz : s.size = 1 ∨ s[0].toNat ≠ 48) : numB s = true := by
  unfold numB numL
  have e : s.data.toList.length = s.size := by simp
  rw [e, all_dg s ha, head_at s (by omega)]
  have hz' : s.size = 1 ∨ ¬ s[0] = 48 := by
    rcases hz with hz | hz
    · exact .inl hz
    · exact .inr (fun e => hz (by rw [e]; rfl))
  simp
  exact ⟨⟨by omega, h2⟩, hz'⟩
theorem num_size_no (s : ByteArray) (h : ¬ (1 ≤ s.size ∧ s.size ≤ 1000)) : numB s = false := by
  cases hn : numB s
  · rfl
  · exact absurd (num_size s hn) h
theorem num_dig_no (s : ByteArray) (k : Nat) (hk : k < s.size) (h : isDg s[k] = false) : numB s = false := by
  cases hn : numB s
  · rfl
  · have := num_dig s hn k hk
    unfold isDg at h
    simp at h
    omega
theorem num_zero_no (s : ByteArray) (h1 : 1 < s.size) (h : s[0].toNat = 48) : numB s = false := by
  cases hn : numB s
  · rfl
  · unfold numB numL at hn
    have e : s.data.toList.length = s.size := by simp
    rw [e, head_at s (by omega)] at hn
    have h0 : s[0] = 48 := UInt8.toNat_inj.1 h
    rw [h0] at hn
    simp at hn
    omega
theorem isDg_of (c : UInt8) (h1 : (48 : Int) ≤ (c.toNat : Int)) (h2 : (c.toNat : Int) ≤ 57) : isDg c = true := by unfold isDg; simp; omega
theorem isDg_no (c : UInt8) (h : (c.toNat : Int) < 48 ∨ 57 < (c.toNat : Int)) : isDg c = false := by unfold isDg; simp; omega
theorem empty_false (s : ByteArray) (h : 1 ≤ s.size) : s.toList.isEmpty = false := by
  rw [Lib.toList_data]
  cases hl : s.data.toList with
  | nil => have e : s.data.toList.length = s.size := by simp
           rw [hl] at e; simp at e; omega
  | cons a b => rfl

set_option maxHeartbeats 1000000 in
theorem valid_any (s : ByteArray) (w : World) (hs : s.size ≤ maxLen) :
    Calls Tryd.prog 12 #[.string s] w fun e w' => e = .returned (.bool (numB s)) ∧ w = w' := by
  unfold maxLen at hs
  by_cases h0 : s.size = 0
  · rw [num_size_no s (by omega)]
    have e0 : s = ⟨#[]⟩ := by
      cases s with
      | mk d => congr 1; exact Array.eq_empty_of_size_eq_zero h0
    subst e0
    clear h0 hs
    go_enter Tryd.func12, Tryd.ntmps12
    go_wp2
    go_ret
    exact ⟨rfl, rfl⟩
  have hne := empty_false s (by omega)
  by_cases h1 : s.size ≤ 1000
  · have h1' : ¬ (1000 : Int) < (s.size : Int) := by omega
    go_enter Tryd.func12, Tryd.ntmps12
    go_wp2
    go_loop [13] (fun i => ∃ k : Nat, i = .int .i64 k ∧ k ≤ s.size ∧ ∀ j (hj : j < s.size), j < k → isDg s[j] = true) (fun i => s.size - (intOf i).toNat)
    case atStart => exact ⟨0, rfl, by omega, fun j hj h => by omega⟩
    case round =>
      obtain ⟨k, rfl, hk, hall⟩ := hrel
      have HALL := Lib.hid hall
      clear hall
      by_cases hlt : k < s.size
      · by_cases hd : (48 : Int) ≤ (s[k].toNat : Int)
        · by_cases hd2 : (s[k].toNat : Int) ≤ 57
          · have HN := Lib.hid (isDg_of s[k] hd hd2)
            go_wp2
            go_round
            case rel => exact ⟨k + 1, by go_num, by omega, fun j hj h => by
              by_cases e : j = k
              · subst e; exact HN.out
              · exact HALL.out j hj (by omega)⟩
            case measure => simp [intOf]; omega
          · have HN := Lib.hid (num_dig_no s k hlt (isDg_no s[k] (.inr (by omega))))
            go_wp2
            go_ret
            exact ⟨by rw [HN.out]; rfl, rfl⟩
        · have HN := Lib.hid (num_dig_no s k hlt (isDg_no s[k] (.inl (by omega))))
          go_wp2
          go_ret
          exact ⟨by rw [HN.out]; rfl, rfl⟩
      · have hsz : 0 < s.size := by omega
        by_cases hz : (s[0].toNat : Int) = 48
        · have f1 : ((s[0].toNat : Int) != 48) = false := by simpa using hz
          by_cases hs1 : s.size = 1
          · have e0 : s = ⟨#[48]⟩ := by
              cases s with
              | mk d =>
                congr 1
                obtain ⟨c, hc⟩ : ∃ c, d = #[c] := Array.size_eq_one_iff.1 hs1
                subst hc
                have : c.toNat = 48 := by
                  have hz2 : ((ByteArray.mk #[c])[0].toNat : Int) = 48 := hz
                  have : (ByteArray.mk #[c])[0] = c := rfl
                  rw [this] at hz2
                  omega
                rw [UInt8.toNat_inj.1 (show c.toNat = (48 : UInt8).toNat from this)]
            have HN := Lib.hid (num_yes s (by omega) h1 (fun j hj => HALL.out j hj (by omega)) (.inl hs1))
            have f2 : (s.toList == [48]) = true := by rw [e0, Lib.toList_data]; rfl
            clear e0 hz
            go_wp2
            go_ret
            exact ⟨by rw [HN.out]; rfl, rfl⟩
          · have HN := Lib.hid (num_zero_no s (by omega) (by omega))
            have f2 : (s.toList == [48]) = false := by
              rw [Lib.toList_data]
              apply beq_eq_false_iff_ne.2
              intro e
              have := congrArg List.length e
              simp at this
              omega
            clear hz
            go_wp2
            go_ret
            exact ⟨by rw [HN.out]; rfl, rfl⟩
        · have f1 : ((s[0].toNat : Int) != 48) = true := by simpa using hz
          have HN := Lib.hid (num_yes s (by omega) h1 (fun j hj => HALL.out j hj (by omega)) (.inr (by omega)))
          clear hz
          go_wp2
          go_ret
          exact ⟨by rw [HN.out]; rfl, rfl⟩
  · have h1' : (1000 : Int) < (s.size : Int) := by omega
    rw [num_size_no s (by omega)]
    go_enter Tryd.func12, Tryd.ntmps12
    go_wp2
    go_ret
    exact ⟨rfl, rfl⟩
end Go.Proofs.YtlkjfhidicgjiaaDoor
