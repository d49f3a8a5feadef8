/- The reference's before; Sorted, plain. -/
import Derived.Test.YtbmonhnojkiapaaGreatDoorU24
import Derived.Test.YtbmonhnojkiapaaGreatDoorU23
import Derived.Test.YtbmonhnojkiapaaGreatDoorU25
set_option linter.unusedVariables false
set_option linter.unusedSimpArgs false
namespace Go.Proofs.YtbmonhnojkiapaaGreatDoor
open Go.RowKit

theorem ltA_i {a b : MArc} (h : a.i ≠ b.i) : ltA a b = decide (a.i < b.i) := by
  have := ltA_iff (a := a) (b := b)
  cases hl : ltA a b
  · rw [hl] at this; simp at this; symm; simp; omega
  · symm; rw [decide_eq_true_iff]; rw [hl] at this; rcases this.1 rfl with h1 | ⟨h1, _⟩
    · exact h1
    · exact absurd h1 h
theorem ltA_o {a b : MArc} (h1 : a.i = b.i) (h : a.o ≠ b.o) : ltA a b = decide (a.o < b.o) := by
  have := ltA_iff (a := a) (b := b)
  by_cases hc : a.o < b.o
  · rw [decide_eq_true hc]; exact this.2 (.inr ⟨h1, .inl hc⟩)
  · rw [decide_eq_false hc]
    cases hl : ltA a b
    · rfl
    · rcases this.1 hl with h2 | ⟨_, h2 | ⟨h2, _⟩⟩
      · omega
      · exact absurd h2 hc
      · exact absurd h2 h
theorem ltA_w {a b : MArc} (h1 : a.i = b.i) (h2 : a.o = b.o) (h : a.w ≠ b.w) : ltA a b = decide (a.w.data.toList < b.w.data.toList) := by
  have := ltA_iff (a := a) (b := b)
  by_cases hc : a.w.data.toList < b.w.data.toList
  · rw [decide_eq_true hc]; exact this.2 (.inr ⟨h1, .inr ⟨h2, .inl hc⟩⟩)
  · rw [decide_eq_false hc]
    cases hl : ltA a b
    · rfl
    · rcases this.1 hl with h3 | ⟨_, h3 | ⟨_, h3 | ⟨h3, _⟩⟩⟩
      · omega
      · omega
      · exact absurd h3 hc
      · exact absurd h3 h
theorem ltA_t {a b : MArc} (h1 : a.i = b.i) (h2 : a.o = b.o) (h3 : a.w = b.w) : ltA a b = decide (a.t < b.t) := by
  have := ltA_iff (a := a) (b := b)
  by_cases hc : a.t < b.t
  · rw [decide_eq_true hc]; exact this.2 (.inr ⟨h1, .inr ⟨h2, .inr ⟨h3, hc⟩⟩⟩)
  · rw [decide_eq_false hc]
    cases hl : ltA a b
    · rfl
    · rcases this.1 hl with h4 | ⟨_, h4 | ⟨_, h4 | ⟨_, h4⟩⟩⟩
      · omega
      · omega
      · rw [h3] at h4; exact absurd h4 (List.lt_irrefl _)
      · exact absurd h4 hc
set_option maxRecDepth 20000 in
set_option maxHeartbeats 2000000 in
theorem rbefore_any (a b : MArc) (w : World) : Calls Tryz.prog 74 #[.agg #[.int .i64 a.i, .int .i64 a.o, .string a.w, .int .i64 a.t], .agg #[.int .i64 b.i, .int .i64 b.o, .string b.w, .int .i64 b.t]] w (ValPost (.bool (ltA a b)) w) := by
  have hga := World.grownBy_alloc w (.cells #[.int .i64 a.i, .int .i64 a.o, .string a.w, .int .i64 a.t] 35) none
  have hgb := World.grownBy_alloc (w.alloc (.cells #[.int .i64 a.i, .int .i64 a.o, .string a.w, .int .i64 a.t] 35)) (.cells #[.int .i64 b.i, .int .i64 b.o, .string b.w, .int .i64 b.t] 35) none
  have HG := Lib.hid (grown_trans hga hgb)
  have a1 := (arc_new w a).grown hgb (by show w.heap.size < _; simp)
  have b1 := arc_new (w.alloc (.cells #[.int .i64 a.i, .int .i64 a.o, .string a.w, .int .i64 a.t] 35)) b
  have e1 : (w.alloc (.cells #[.int .i64 a.i, .int .i64 a.o, .string a.w, .int .i64 a.t] 35)).heap.size = w.heap.size + 1 := by simp
  rw [e1] at b1
  obtain ⟨x0, x1, x2, x3⟩ := a1
  obtain ⟨y0, y1, y2, y3⟩ := b1
  simp only [Nat.zero_add] at x1 x2 x3 y1 y2 y3
  clear hga hgb e1
  by_cases h1 : a.i = b.i
  · have n1 : (a.i == b.i) = true := by simp [h1]
    have n1b : (a.i != b.i) = false := by simp [h1]
    by_cases h2 : a.o = b.o
    · have n2 : (a.o == b.o) = true := by simp [h2]
      have n2b : (a.o != b.o) = false := by simp [h2]
      by_cases h3 : a.w = b.w
      · have HL := Lib.hid (ltA_t h1 h2 h3)
        have n3 : (a.w.toList == b.w.toList) = true := by rw [h3]; simp
        have n3b : (a.w.toList != b.w.toList) = false := flip_t n3
        clear h1 h2 h3
        go_enter Tryz.func74, Tryz.ntmps74
        go_wp2
        go_ret
        exact ⟨by rw [HL.out]; rfl, HG.out⟩
      · have HL := Lib.hid (ltA_w h1 h2 h3)
        have n3 : (a.w.toList == b.w.toList) = false := text_ne h3
        have n3b : (a.w.toList != b.w.toList) = true := flip_f n3
        have n4 := less_text a.w b.w
        clear h1 h2 h3
        go_enter Tryz.func74, Tryz.ntmps74
        go_wp2
        go_ret
        have n5 : decide (a.w.data < b.w.data) = decide (a.w.data.toList < b.w.data.toList) := decide_eq_decide.2 Iff.rfl
        exact ⟨by rw [HL.out, ← n5]; rfl, HG.out⟩
    · have HL := Lib.hid (ltA_o h1 h2)
      have n2 : (a.o == b.o) = false := by simp [h2]
      have n2b : (a.o != b.o) = true := by simp [h2]
      clear h1 h2
      go_enter Tryz.func74, Tryz.ntmps74
      go_wp2
      go_ret
      exact ⟨by rw [HL.out]; rfl, HG.out⟩
  · have HL := Lib.hid (ltA_i h1)
    have n1 : (a.i == b.i) = false := by simp [h1]
    have n1b : (a.i != b.i) = true := by simp [h1]
    clear h1
    go_enter Tryz.func74, Tryz.ntmps74
    go_wp2
    go_ret
    exact ⟨by rw [HL.out]; rfl, HG.out⟩

/-! An arc put into its place. -/
theorem insert_sorted {o : List MArc} {x : MArc} {k : Nat} (h : o.Pairwise (fun a b => leA a b = true)) (hk : k ≤ o.length) (hb : ∀ y ∈ o.take k, leA y x = true) (ha : ∀ y ∈ o.drop k, ltA x y = true) : (o.take k ++ x :: o.drop k).Pairwise (fun a b => leA a b = true) := by
  have hp := List.take_append_drop k o
  rw [← hp] at h
  rw [List.pairwise_append] at h ⊢
  refine ⟨h.1, ?_, fun a hm b hb2 => ?_⟩
  · rw [List.pairwise_cons]
    refine ⟨fun y hy => ?_, h.2.1⟩
    have := ltA_asymm (ha y hy)
    unfold leA
    rw [this]; rfl
  · rcases List.mem_cons.1 hb2 with rfl | hb3
    · exact hb a hm
    · exact h.2.2 a hm b hb3
theorem insert_perm {o : List MArc} {x : MArc} (k : Nat) : (o.take k ++ x :: o.drop k).Perm (o ++ [x]) := by
  refine List.perm_middle.trans ?_
  rw [List.take_append_drop]
  exact (List.perm_append_singleton x o).symm
/-- The arcs from the place on come behind x, all others do not. -/
theorem insert_is {l o : List MArc} {x : MArc} {i k : Nat} (ho : o = sortA (l.take i)) (hx : l[i]? = some x) (hk : k ≤ o.length) (hb : k = 0 ∨ ∃ y, o[k - 1]? = some y ∧ ltA x y = false) (ha : ∀ y ∈ o.drop k, ltA x y = true) : o.take k ++ x :: o.drop k = sortA (l.take (i + 1)) := by
  have hs : o.Pairwise (fun a b => leA a b = true) := by rw [ho]; exact sortA_sorted _
  refine sortA_is (insert_sorted hs hk (fun y hy => ?_) ha) ((insert_perm k).trans ?_)
  · rcases hb with rfl | ⟨z, hz, hzx⟩
    · simp at hy
    · have hzy : leA z x = true := by unfold leA; rw [hzx]; rfl
      obtain ⟨j, hj⟩ := List.mem_iff_getElem?.1 hy
      have hjk : j < k := by have := (List.getElem?_eq_some_iff.1 hj).1; rw [List.length_take] at this; omega
      rw [List.getElem?_take_of_lt hjk] at hj
      by_cases e : j = k - 1
      · rw [e, hz] at hj; cases hj; exact hzy
      · have h1 := List.pairwise_iff_getElem.1 hs j (k - 1) (by omega) (by omega) (by omega)
        rw [(List.getElem?_eq_some_iff.1 hj).2, (List.getElem?_eq_some_iff.1 hz).2] at h1
        exact leA_trans _ _ _ h1 hzy
  · rw [take_one hx, ho]
    exact List.Perm.append_right _ (sortA_perm _)
end Go.Proofs.YtbmonhnojkiapaaGreatDoor
