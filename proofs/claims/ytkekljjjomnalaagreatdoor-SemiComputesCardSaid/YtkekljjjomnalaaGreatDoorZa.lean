/- The reference's helpers: index, short, digits, plain, times, sum. -/
import Derived.Test.YtkekljjjomnalaaGreatDoorQj
import Derived.Test.YtkekljjjomnalaaGreatDoorYj
set_option linter.unusedVariables false
set_option linter.unusedSimpArgs false
namespace Go.Proofs.YtkekljjjomnalaaGreatDoor
open Go.RowKit
open Go.Lib (nDigits decDigits)

theorem list_at (s : ByteArray) (k : Nat) (hk : k < s.size) : s.data.toList[k]? = some s[k] := Lib.data_getElem? s k hk
theorem u8_eq (c : UInt8) (n : Nat) (hn : n < 256) : ((c.toNat : Int) == (n : Int)) = decide (c = UInt8.ofNat n) := by
  rw [Bool.eq_iff_iff, decide_eq_true_eq, beq_iff_eq, ← UInt8.toNat_inj, UInt8.toNat_ofNat']
  omega

set_option maxHeartbeats 1000000 in
theorem rindex_any (s : ByteArray) (w : World) (hs : s.size ≤ maxLen) :
    Calls Tryz.prog 76 #[.string s, .int .u8 47] w fun e w' => e = .returned (.int .i64 (Lib.indexByte s.data.toList 47)) ∧ w = w' := by
  unfold maxLen at hs
  go_enter Tryz.func76, Tryz.ntmps76
  go_wp2
  go_loop [5] (fun i => ∃ k : Nat, i = .int .i64 k ∧ k ≤ s.size ∧ Lib.NoAny s.data.toList [47] k) (fun i => s.size - (intOf i).toNat)
  case atStart => exact ⟨0, rfl, by omega, Lib.NoAny.zero _ _⟩
  case round =>
    obtain ⟨k, rfl, hk, hno⟩ := hrel
    have HNO := Lib.hid hno
    clear hno
    by_cases hlt : k < s.size
    · have hat := Lib.hid (list_at s k hlt)
      cases he : ((s[k].toNat : Int) == 47)
      · have hx : ¬ (s[k].toNat : Int) = 47 := by simpa using he
        have hc : ([47] : List UInt8).contains s[k] = false := by
          simp only [List.contains_cons, List.contains_nil, Bool.or_false, beq_eq_false_iff_ne]
          intro e; rw [e] at hx; exact hx rfl
        have HS := Lib.hid (HNO.out.succ hat.out hc)
        clear hx hc
        go_wp2
        go_round
        case rel => exact ⟨k + 1, by go_num, by omega, HS.out⟩
        case measure => simp [intOf]; omega
      · have hx : (s[k].toNat : Int) = 47 := by simpa using he
        have hc : ([47] : List UInt8).contains s[k] = true := by
          have : s[k] = 47 := UInt8.toNat_inj.1 (by have : (47 : UInt8).toNat = 47 := rfl; omega)
          rw [this]; decide
        have HS := Lib.hid (Lib.indexAny_hit HNO.out hat.out hc)
        clear hx hc
        go_wp2
        go_ret
        exact ⟨by rw [← Lib.indexAny_one, HS.out]; rfl, rfl⟩
    · have HS := Lib.hid (Lib.indexAny_none (s := s.data.toList) (chars := [47]) (by
        have e : k = s.data.toList.length := by rw [← Lib.size_eq]; omega
        rw [← e]; exact HNO.out))
      go_wp2
      go_ret
      exact ⟨by rw [← Lib.indexAny_one, HS.out]; rfl, rfl⟩

def shortB (s : ByteArray) : Bool := decide (s.size ≤ 400) && numB s
theorem short_any (s : ByteArray) (w : World) (hs : s.size ≤ maxLen) :
    Calls Tryz.prog 77 #[.string s] w fun e w' => e = .returned (.bool (shortB s)) ∧ w = w' := by
  have hv := fun w => rvalid_any s w hs
  by_cases h : s.size ≤ 400
  · have HN := Lib.hid (show shortB s = numB s by unfold shortB; simp [h])
    have h1 : (s.size : Int) ≤ 400 := by omega
    generalize numB s = b at *
    have HV := Lib.hid hv
    clear hv
    go_enter Tryz.func77, Tryz.ntmps77
    go_wp2_with fail
    refine (HV.out _).mono ?_
    rintro e w' ⟨rfl, rfl⟩
    go_wp2
    go_ret
    exact ⟨by rw [HN.out]; rfl, rfl⟩
  · have HN := Lib.hid (show shortB s = false by unfold shortB; simp [h])
    have h1 : ¬ (s.size : Int) ≤ 400 := by omega
    clear hv
    go_enter Tryz.func77, Tryz.ntmps77
    go_wp2
    go_ret
    exact ⟨by rw [HN.out]; rfl, rfl⟩

/-! ### digits, plain -/
def dEnd (s : ByteArray) (i : Nat) : Nat := i + ((s.data.toList.drop i).takeWhile isDg).length
theorem dEnd_is (s : ByteArray) (i k : Nat) (hik : i ≤ k) (hk : k ≤ s.size) (ha : ∀ j (hj : j < s.size), i ≤ j → j < k → isDg s[j] = true) (hn : ∀ (h : k < s.size), isDg s[k] = false) : dEnd s i = k := by
  unfold dEnd
  have hl : s.data.toList.length = s.size := (Lib.size_eq s).symm
  have e := (all_split (k - i) (s.data.toList.drop i) (by
    rw [List.all_eq_true]
    intro x hx
    obtain ⟨j, hj, rfl⟩ := List.mem_iff_getElem.1 hx
    rw [List.length_take, List.length_drop] at hj
    rw [List.getElem_take, List.getElem_drop]
    exact ha (i + j) (by omega) (by omega) (by omega)) (fun x hx => by
    rw [List.getElem?_drop, show i + (k - i) = k by omega] at hx
    obtain ⟨h1, rfl⟩ := List.getElem?_eq_some_iff.1 hx
    exact hn (by omega))).1
  rw [e, List.length_take, List.length_drop, hl]
  omega
theorem natB_cons (s : ByteArray) (c : UInt8) (l : List UInt8) (h : s.data.toList = c :: l) (hc : c ≠ 48) : natB s = s := by
  unfold natB Lib.trimLeftB
  rw [h, List.dropWhile_cons_of_neg (by simpa using hc), if_neg (by simp), ← h]
theorem natB_one (s : ByteArray) (h : s.size = 1) : natB s = s := by
  have hl : s.data.toList.length = 1 := by rw [← Lib.size_eq]; exact h
  obtain ⟨c, hc⟩ := List.length_eq_one_iff.1 hl
  by_cases h48 : c = 48
  · subst h48
    have e : s = ⟨#[48]⟩ := by apply ByteArray.ext; apply Array.ext'; rw [hc]
    rw [e]; decide +kernel
  · exact natB_cons s c [] hc h48
theorem head_list (s : ByteArray) (h : 0 < s.size) : s.data.toList = s[0] :: (s.extract 1 s.size).data.toList := by
  have h1 := list_at s 0 h
  have hl : s.data.toList.length = s.size := (Lib.size_eq s).symm
  cases hd : s.data.toList with
  | nil => rw [hd] at hl; simp at hl; omega
  | cons c l =>
    rw [hd] at h1
    simp at h1
    rw [← h1]
    congr 1
    have e : (s.extract 1 s.size).data.toList = s.data.toList.drop 1 := by
      rw [ByteArray.data_extract, Array.toList_extract, List.extract_eq_take_drop, ← hl, List.take_of_length_le (by simp)]
    rw [e, hd]; rfl
theorem natB_tail (s : ByteArray) (h : 1 < s.size) (h0 : s[0] = 48) : natB (s.extract 1 s.size) = natB s := by
  have e := head_list s (by omega)
  unfold natB Lib.trimLeftB
  rw [e, h0, List.dropWhile_cons_of_pos (by decide)]
/-! ### times, sum -/
theorem rtimes_walk (A C P : ByteArray) (w : World) (M : Hid (∀ w, Calls Tryz.prog 82 #[.string A, .string C] w (ValPost (.tuple #[.string P, .int .i64 0]) w))) :
    Calls Tryz.prog 62 #[.string A, .string C] w (ValPost (.string P) w) := by
  go_enter Tryz.func62, Tryz.ntmps62
  go_wp2_with fail
  refine (M.out _).mono ?_
  rintro e w1 ⟨rfl, hg⟩
  have G1 := Lib.hid hg
  clear hg
  go_wp2
  go_ret
  exact ⟨rfl, G1.out⟩
end Go.Proofs.YtkekljjjomnalaaGreatDoor
