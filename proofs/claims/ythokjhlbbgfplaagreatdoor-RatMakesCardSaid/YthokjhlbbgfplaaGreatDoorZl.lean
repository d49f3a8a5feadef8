/- IndexAny at the two marks of a numeral: any text. -/
import Derived.Test.YthokjhlbbgfplaaGreatDoorZk
import Derived.Test.YthokjhlbbgfplaaGreatDoorZb
import Derived.Test.YthokjhlbbgfplaaGreatDoorZa
import Derived.Lib.OthersKept
set_option linter.unusedVariables false
set_option linter.unusedSimpArgs false
namespace Go.Proofs.YthokjhlbbgfplaaGreatDoor
open Go.RowKit
open Go.Lib (nDigits decDigits run_next_any_at run_next_end_at iterAt_heap)

theorem decode_cont (s : ByteArray) (pos : Nat) : ∀ k, 1 ≤ k → k < (Utf8.decode s pos).2 → (s.get! (pos + k)).toNat / 64 = 2 := by
  intro k h1
  simp only [Utf8.decode]
  repeat' split
  all_goals
    intro h2
    simp only at h2
    first
      | omega
      | (have hk : k = 1 ∨ k = 2 ∨ k = 3 := by omega
         rcases hk with rfl | rfl | rfl <;> simp_all)
theorem get_list (s : ByteArray) (j : Nat) (h : j < s.size) : s.get! j = s[j] := get_at s j h
theorem noAny_far (s : ByteArray) (i : Nat) (hi : i < s.size) (h128 : 128 ≤ (s[i]'hi).toNat) (h : Lib.NoAny s.data.toList [47, 46] i) : Lib.NoAny s.data.toList [47, 46] (i + (Utf8.decode s i).2) := by
  intro j b hj hb
  by_cases hji : j < i
  · exact h j b hji hb
  · obtain ⟨hjs, rfl⟩ := List.getElem?_eq_some_iff.1 hb
    have hjs' : j < s.size := by rw [Lib.size_eq]; exact hjs
    have hx : 128 ≤ (s[j]'hjs').toNat := by
      by_cases e : j = i
      · subst e; exact h128
      · have := decode_cont s i (j - i) (by omega) (by omega)
        rw [show i + (j - i) = j by omega, get_list s j hjs'] at this
        omega
    have hne : ∀ n : Nat, n < 128 → s.data.toList[j] ≠ UInt8.ofNat n := by
      intro n hn e
      have e2 : (s[j]'hjs').toNat = n := by
        have : s[j]'hjs' = s.data.toList[j] := rfl
        rw [this, e, UInt8.toNat_ofNat']
        omega
      omega
    have a1 := hne 47 (by omega)
    have a2 := hne 46 (by omega)
    simp only [List.contains_cons, List.contains_nil, Bool.or_false, Bool.or_eq_false_iff, beq_eq_false_iff_ne]
    exact ⟨a1, a2⟩
theorem iterAt_grown {w wr : World} {s : ByteArray} {p : Nat} (h : w.grownBy wr none) : w.grownBy (wr.iterAt w.heap.size s p) none := by
  refine ⟨h.os, h.tape, h.output, ?_, fun i hi hne => ?_⟩
  · have := h.size
    simpa [World.iterAt] using this
  · have := h.block i hi hne
    rw [← this]
    simp only [World.iterAt, Array.getElem?_setIfInBounds]
    rw [if_neg (by omega)]
def RuneAt (r : Int) (z : Int) : Prop := ∀ w, Calls Tryz.prog 85 #[.string ⟨#[47, 46]⟩, .int .i32 r] w fun e w' => e = .returned (.int .i64 z) ∧ w.grownBy w' none
theorem rune_near (r : Int) (h0 : 0 ≤ r) (h1 : r < 128) : RuneAt r (Lib.indexByte [47, 46] r.toNat.toUInt8) := fun w => by
  refine Calls.mono (show Calls Tryz.prog 85 _ _ _ from Any.strings_IndexRune_ascii ({ Tryz.lays153 with } : Go.Proofs.Lays.n152 Tryz.prog Tryz.lays153_ren) ⟨#[47, 46]⟩ r w h0 h1) fun e w' ⟨k1, k2⟩ => ⟨k1, ?_⟩
  rw [k2]
  exact grown_refl _ _
theorem use_set (n : Int) (w : World) : Calls Tryz.prog 86 #[.int .i64 n] w fun e w' => e = .returned (.bool (decide (8 < n))) ∧ w = w' := by
  go_enter Tryz.func86, Tryz.ntmps86
  go_wp2
  go_ret
  exact ⟨rfl, rfl⟩

set_option maxRecDepth 100000 in
set_option maxHeartbeats 2000000 in
theorem indexAny_short (s : ByteArray) (w : World) (h8 : s.size ≤ 8) :
    Calls Tryz.prog 65 #[.string s, .string ⟨#[47, 46]⟩] w (ValPost (.int .i64 (Lib.indexAny s.data.toList [47, 46])) w) := by
  have h8z : decide ((8 : Int) < (s.size : Int)) = false := decide_eq_false (by omega)
  have US := Lib.hid (fun w => (use_set (s.size : Int) w))
  rw [h8z] at US
  go_enter Tryz.func65, Tryz.ntmps65
  go_wp2_with fail
  refine (US.out _).mono ?_
  rintro e w' ⟨rfl, rfl⟩
  go_wp2
  go_loopg [9, 10] s.size (fun g _ _ wx => ∃ i : Nat, s.size ≤ i + g ∧ wx.heap[w.heap.size]? = some (.stringIter s i) ∧ w.grownBy wx none ∧ Lib.NoAny s.data.toList [47, 46] i)
  case atStart => exact ⟨0, by omega, World.iter_heap _ _ _, World.grownBy_alloc _ _ _, Lib.NoAny.zero _ _⟩
  case round =>
    obtain ⟨i, hig, hk, hg, hno⟩ := hrel
    have HN := Lib.hid hno; have HG := Lib.hid hg; have HK := Lib.hid hk
    by_cases hi : i < s.size
    · cases gk with
      | zero => omega
      | succ g =>
        have hnx := fun ty => run_next_any_at (P := Tryz.prog) wr w.heap.size s i ty hk hi
        have hit := iterAt_heap wr w.heap.size s i (i + (Utf8.decode s i).2) hk
        have hig2 := iterAt_grown (s := s) (p := i + (Utf8.decode s i).2) hg
        have hat := list_at s i hi
        obtain ⟨r, z, R, hpos, hways⟩ : ∃ (r z : Int), RuneAt r z ∧ ((Utf8.decode s i).1 : Int) = r ∧
            (((0 : Int) ≤ z ∧ Lib.indexAny s.data.toList [47, 46] = i) ∨ (¬ (0 : Int) ≤ z ∧ Lib.NoAny s.data.toList [47, 46] (i + (Utf8.decode s i).2) ∧ 1 ≤ (Utf8.decode s i).2)) := by
          by_cases h128 : (s[i]'hi).toNat < 128
          · rw [decode_ascii s i hi h128]
            refine ⟨_, _, rune_near ((s[i]'hi).toNat : Int) (by omega) (by omega), rfl, ?_⟩
            have hback : ((((s[i]'hi).toNat : Nat) : Int)).toNat.toUInt8 = s[i]'hi := by simp
            rw [hback]
            have hcon := Lib.contains_iff_indexByte [47, 46] (s[i]'hi)
            cases hin : ([47, 46] : List UInt8).contains (s[i]'hi)
            · rw [hin] at hcon
              exact .inr ⟨of_decide_eq_false hcon.symm, hno.succ hat hin, Nat.le_refl _⟩
            · rw [hin] at hcon
              exact .inl ⟨of_decide_eq_true hcon.symm, Lib.indexAny_hit hno hat hin⟩
          · have hd := decode_high s i hi (by omega)
            refine ⟨_, -1, fun w => far_any _ (by omega) w, rfl, .inr ⟨by omega, noAny_far s i hi (by omega) hno, hd.2⟩⟩
        rw [hpos] at hnx
        generalize wr.iterAt w.heap.size s (i + (Utf8.decode s i).2) = W1 at *
        generalize (Utf8.decode s i).2 = wd at *
        have HR := Lib.hid R; have HW := Lib.hid hways; have HIT := Lib.hid hit; have HIG := Lib.hid hig2
        clear hno hg hk R hways hit hig2 hpos hat HK HG HN
        go_wp2_with fail
        refine (HR.out _).mono ?_
        rintro e w2 ⟨rfl, hg2⟩
        have HG2 := Lib.hid hg2
        clear hg2
        rcases HW.out with ⟨hz, he⟩ | ⟨hz, hn2, hw1⟩
        · have HE := Lib.hid he
          clear he
          go_wp2
          go_ret
          exact ⟨by rw [HE.out]; rfl, grown_trans HIG.out HG2.out⟩
        · have HN2 := Lib.hid hn2
          clear hn2
          go_wp2
          go_roundg g
          case measure => omega
          case rel =>
            exact ⟨i + wd, by omega, by
              have hlt := lt_of_block HIT.out
              exact (HG2.out.block _ hlt (by simp)).trans HIT.out, grown_trans HIG.out HG2.out, HN2.out⟩
    · have hnx := fun ty => run_next_end_at (P := Tryz.prog) wr w.heap.size s i ty hk hi
      have HE := Lib.hid (Lib.indexAny_none (s := s.data.toList) (chars := [47, 46]) (fun j b hj hb => hno j b (by rw [← Lib.size_eq] at hj; omega) hb))
      clear hno hg hk
      go_wp2
      go_ret
      exact ⟨by rw [HE.out]; rfl, HG.out⟩
end Go.Proofs.YthokjhlbbgfplaaGreatDoor
