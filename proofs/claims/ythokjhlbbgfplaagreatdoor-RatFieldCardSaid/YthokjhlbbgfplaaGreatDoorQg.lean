/- negated, sum, compare: two numbers by their parts. -/
import Derived.Test.YthokjhlbbgfplaaGreatDoorQf
import Derived.Test.YthokjhlbbgfplaaGreatDoorPn
set_option linter.unusedVariables false
set_option linter.unusedSimpArgs false
namespace Go.Proofs.YthokjhlbbgfplaaGreatDoor
open Go.RowKit
open Go.Lib (nDigits decDigits)

set_option maxRecDepth 100000 in
set_option maxHeartbeats 1000000 in
theorem negated_walk (s b c : Bool) (A B : ByteArray) (w : World) (f0 : (A.toList != [48]) = c) (hb : (!s && c) = b) :
    Calls Tryz.prog 45 #[.agg #[.bool s, .string A, .string B]] w (ValPost (.agg #[.bool b, .string A, .string B]) w) := by
  have f00 := ne_facts f0
  subst hb
  cases s <;> cases c <;> simp only [Bool.not_true, Bool.not_false] at f00
  all_goals
    go_enter Tryz.func45, Tryz.ntmps45
    go_wp2
    exact bodyPost_ret (v := .agg #[.bool _, .string A, .string B]) (by simp [results, Tryz.results45, go_sem]) rfl ⟨rfl, grown_trans (World.grownBy_alloc _ _ _) (World.grownBy_alloc _ _ _)⟩
theorem negated_any (x : Rat) (w : World) : Calls Tryz.prog 45 #[ratV x] w (ValPost (ratV (-x)) w) := by
  rw [neg_parts]
  exact negated_walk _ _ _ _ _ w (zero_str' _).2 rfl

set_option maxRecDepth 100000 in
set_option maxHeartbeats 4000000 in
theorem sum_same0 (b1 b2 b : Bool) (A B C D N S T : ByteArray) (w : World) (he : (b1 == b2) = true)
    (T1 : TimesOk A D) (T2 : TimesOk C B) (T3 : TimesOk B D)
    (N1 : Hid (∀ w, Calls Tryz.prog 76 #[.string (mulS A D), .string (mulS C B)] w (ValPost (.tuple #[.string N, .int .i64 0]) w)))
    (R : Hid (∀ w, Calls Tryz.prog 38 #[.bool b1, .string N, .string (mulS B D)] w (ValPost (.agg #[.bool b, .string S, .string T]) w))) :
    Calls Tryz.prog 50 #[.agg #[.bool b1, .string A, .string B], .agg #[.bool b2, .string C, .string D]] w (ValPost (.agg #[.bool b, .string S, .string T]) w) := by
  have h0 := held_start w b1 b2 A B C D
  obtain ⟨W0, hW0⟩ : ∃ W0, W0 = (((w.alloc (.cells #[.bool b1, .string A, .string B] 42)).alloc (.cells #[.bool b2, .string C, .string D] 42)).alloc (.cells #[.bool false, .string ⟨#[]⟩, .string ⟨#[]⟩] 42)) := ⟨_, rfl⟩
  rw [← hW0] at h0
  have H0 := Lib.hid h0; have HW0 := Lib.hid hW0
  clear h0 hW0
  go_enter Tryz.func50, Tryz.ntmps50
  go_wp2_with fail
  rw [← HW0.out]
  have hs := H0.out.drew.seen
  unfold Seen at hs
  have hh := Lib.hid H0.out.drew
  clear HW0
  go_region_held3 (fun W' => (W'.cell? ⟨w.heap.size, 0, none⟩ = some (.bool b1) ∧ W'.cell? ⟨w.heap.size, 1, none⟩ = some (.string A) ∧ W'.cell? ⟨w.heap.size, 2, none⟩ = some (.string B) ∧
      W'.cell? ⟨w.heap.size + 1, 0, none⟩ = some (.bool b2) ∧ W'.cell? ⟨w.heap.size + 1, 1, none⟩ = some (.string C) ∧ W'.cell? ⟨w.heap.size + 1, 2, none⟩ = some (.string D)) ∧ Hid (Held w W' b1 b2 A B C D))
    (first
      | exact ⟨hs, hh⟩
      | assumption
      | exact s1
      | go_keep)
    (first
      | (go_at_call 70; refine (times_call _ _ ?_ _).mono ?_; assumption; rintro e w5 ⟨rfl, hg5⟩; have s1 := held_next w b1 b2 A B C D hg5 ‹_›))
  clear hs hh H0
  obtain ⟨⟨x0, x1, x2, y0, y1, y2⟩, hh⟩ := s1
  go_wp2_with fail
  refine (T3 _).mono ?_
  rintro e v6 ⟨rfl, hg⟩
  have s6 := held_next w b1 b2 A B C D hg ⟨⟨x0, x1, x2, y0, y1, y2⟩, hh⟩
  clear x0 x1 x2 y0 y1 y2 hh hg
  obtain ⟨⟨x0, x1, x2, y0, y1, y2⟩, hh⟩ := s6
  go_wp2_with fail
  refine (N1.out _).mono ?_
  rintro e v7 ⟨rfl, hg⟩
  have s7 := held_next w b1 b2 A B C D hg ⟨⟨x0, x1, x2, y0, y1, y2⟩, hh⟩
  clear x0 x1 x2 y0 y1 y2 hh hg
  obtain ⟨⟨x0, x1, x2, y0, y1, y2⟩, hh⟩ := s7
  go_wp2_with fail
  refine (R.out _).mono ?_
  rintro e v8 ⟨rfl, hg⟩
  have s8 := held_next w b1 b2 A B C D hg ⟨⟨x0, x1, x2, y0, y1, y2⟩, hh⟩
  clear x0 x1 x2 y0 y1 y2 hh hg
  obtain ⟨zb, zS, zT, z0, z1, z2, z3, z4, z5⟩ := held_room w b1 b2 A B C D s8
  have hend := grown3 (a := .bool b) (b := .string S) (c := .string T) s8.2.out.g (show w.heap.size ≤ w.heap.size + 1 + 1 by omega)
  have HE := Lib.hid hend
  clear hend s8
  go_wp2
  exact bodyPost_ret (v := .agg #[.bool _, .string _, .string _]) (by simp [results, Tryz.results50, go_sem, z0, z1, z2, z3, z4, z5]) rfl ⟨rfl, HE.out⟩
theorem sum_same (b1 : Bool) (b : Bool) (A B C D N S T : ByteArray) (w : World)
    (T1 : TimesOk A D) (T2 : TimesOk C B) (T3 : TimesOk B D)
    (N1 : Hid (∀ w, Calls Tryz.prog 76 #[.string (mulS A D), .string (mulS C B)] w (ValPost (.tuple #[.string N, .int .i64 0]) w)))
    (R : Hid (∀ w, Calls Tryz.prog 38 #[.bool b1, .string N, .string (mulS B D)] w (ValPost (.agg #[.bool b, .string S, .string T]) w))) :
    Calls Tryz.prog 50 #[.agg #[.bool b1, .string A, .string B], .agg #[.bool b1, .string C, .string D]] w (ValPost (.agg #[.bool b, .string S, .string T]) w) :=
  sum_same0 b1 b1 b A B C D N S T w (by simp) T1 T2 T3 N1 R
set_option maxRecDepth 100000 in
set_option maxHeartbeats 4000000 in
theorem sum_less (b1 b2 b : Bool) (A B C D N S T : ByteArray) (c : Int) (w : World) (hne : b1 ≠ b2) (hc : c < 0)
    (T1 : TimesOk A D) (T2 : TimesOk C B) (T3 : TimesOk B D)
    (CM : Hid (∀ w, Calls Tryz.prog 69 #[.string (mulS A D), .string (mulS C B)] w fun e w' => e = .returned (.int .i64 c) ∧ w.grownBy w' none))
    (SU : Hid (∀ w, Calls Tryz.prog 77 #[.string (mulS C B), .string (mulS A D)] w (ValPost (.tuple #[.string N, .int .i64 0]) w)))
    (R : Hid (∀ w, Calls Tryz.prog 38 #[.bool b2, .string N, .string (mulS B D)] w (ValPost (.agg #[.bool b, .string S, .string T]) w))) :
    Calls Tryz.prog 50 #[.agg #[.bool b1, .string A, .string B], .agg #[.bool b2, .string C, .string D]] w (ValPost (.agg #[.bool b, .string S, .string T]) w) := by
  have he : (b1 == b2) = false := by simpa using hne
  have h0 := held_start w b1 b2 A B C D
  obtain ⟨W0, hW0⟩ : ∃ W0, W0 = (((w.alloc (.cells #[.bool b1, .string A, .string B] 42)).alloc (.cells #[.bool b2, .string C, .string D] 42)).alloc (.cells #[.bool false, .string ⟨#[]⟩, .string ⟨#[]⟩] 42)) := ⟨_, rfl⟩
  rw [← hW0] at h0
  have H0 := Lib.hid h0; have HW0 := Lib.hid hW0
  clear h0 hW0
  go_enter Tryz.func50, Tryz.ntmps50
  go_wp2_with fail
  rw [← HW0.out]
  have hs := H0.out.drew.seen
  unfold Seen at hs
  have hh := Lib.hid H0.out.drew
  clear HW0
  go_region_held3 (fun W' => (W'.cell? ⟨w.heap.size, 0, none⟩ = some (.bool b1) ∧ W'.cell? ⟨w.heap.size, 1, none⟩ = some (.string A) ∧ W'.cell? ⟨w.heap.size, 2, none⟩ = some (.string B) ∧
      W'.cell? ⟨w.heap.size + 1, 0, none⟩ = some (.bool b2) ∧ W'.cell? ⟨w.heap.size + 1, 1, none⟩ = some (.string C) ∧ W'.cell? ⟨w.heap.size + 1, 2, none⟩ = some (.string D)) ∧ Hid (Held w W' b1 b2 A B C D))
    (first
      | exact ⟨hs, hh⟩
      | assumption
      | exact s1
      | go_keep)
    (first
      | (go_at_call 70; refine (times_call _ _ ?_ _).mono ?_; assumption; rintro e w5 ⟨rfl, hg5⟩; have s1 := held_next w b1 b2 A B C D hg5 ‹_›))
  clear hs hh H0
  obtain ⟨⟨x0, x1, x2, y0, y1, y2⟩, hh⟩ := s1
  go_wp2_with fail
  refine (T3 _).mono ?_
  rintro e v6 ⟨rfl, hg⟩
  have s6 := held_next w b1 b2 A B C D hg ⟨⟨x0, x1, x2, y0, y1, y2⟩, hh⟩
  clear x0 x1 x2 y0 y1 y2 hh hg
  obtain ⟨⟨x0, x1, x2, y0, y1, y2⟩, hh⟩ := s6
  go_wp2_with fail
  refine (CM.out _).mono ?_
  rintro e v7 ⟨rfl, hg⟩
  have s7 := held_next w b1 b2 A B C D hg ⟨⟨x0, x1, x2, y0, y1, y2⟩, hh⟩
  clear x0 x1 x2 y0 y1 y2 hh hg
  obtain ⟨⟨x0, x1, x2, y0, y1, y2⟩, hh⟩ := s7
  go_wp2_with fail
  refine (SU.out _).mono ?_
  rintro e v8 ⟨rfl, hg⟩
  have s8 := held_next w b1 b2 A B C D hg ⟨⟨x0, x1, x2, y0, y1, y2⟩, hh⟩
  clear x0 x1 x2 y0 y1 y2 hh hg
  obtain ⟨⟨x0, x1, x2, y0, y1, y2⟩, hh⟩ := s8
  go_wp2_with fail
  refine (R.out _).mono ?_
  rintro e v9 ⟨rfl, hg⟩
  have s9 := held_next w b1 b2 A B C D hg ⟨⟨x0, x1, x2, y0, y1, y2⟩, hh⟩
  clear x0 x1 x2 y0 y1 y2 hh hg
  obtain ⟨zb, zS, zT, z0, z1, z2, z3, z4, z5⟩ := held_room w b1 b2 A B C D s9
  have hend := grown3 (a := .bool b) (b := .string S) (c := .string T) s9.2.out.g (show w.heap.size ≤ w.heap.size + 1 + 1 by omega)
  have HE := Lib.hid hend
  clear hend s9
  go_wp2
  exact bodyPost_ret (v := .agg #[.bool _, .string _, .string _]) (by simp [results, Tryz.results50, go_sem, z0, z1, z2, z3, z4, z5]) rfl ⟨rfl, HE.out⟩
set_option maxRecDepth 100000 in
set_option maxHeartbeats 4000000 in
theorem sum_more (b1 b2 b : Bool) (A B C D N S T : ByteArray) (c : Int) (w : World) (hne : b1 ≠ b2) (hc : ¬ c < 0)
    (T1 : TimesOk A D) (T2 : TimesOk C B) (T3 : TimesOk B D)
    (CM : Hid (∀ w, Calls Tryz.prog 69 #[.string (mulS A D), .string (mulS C B)] w fun e w' => e = .returned (.int .i64 c) ∧ w.grownBy w' none))
    (SU : Hid (∀ w, Calls Tryz.prog 77 #[.string (mulS A D), .string (mulS C B)] w (ValPost (.tuple #[.string N, .int .i64 0]) w)))
    (R : Hid (∀ w, Calls Tryz.prog 38 #[.bool b1, .string N, .string (mulS B D)] w (ValPost (.agg #[.bool b, .string S, .string T]) w))) :
    Calls Tryz.prog 50 #[.agg #[.bool b1, .string A, .string B], .agg #[.bool b2, .string C, .string D]] w (ValPost (.agg #[.bool b, .string S, .string T]) w) := by
  have he : (b1 == b2) = false := by simpa using hne
  have h0 := held_start w b1 b2 A B C D
  obtain ⟨W0, hW0⟩ : ∃ W0, W0 = (((w.alloc (.cells #[.bool b1, .string A, .string B] 42)).alloc (.cells #[.bool b2, .string C, .string D] 42)).alloc (.cells #[.bool false, .string ⟨#[]⟩, .string ⟨#[]⟩] 42)) := ⟨_, rfl⟩
  rw [← hW0] at h0
  have H0 := Lib.hid h0; have HW0 := Lib.hid hW0
  clear h0 hW0
  go_enter Tryz.func50, Tryz.ntmps50
  go_wp2_with fail
  rw [← HW0.out]
  have hs := H0.out.drew.seen
  unfold Seen at hs
  have hh := Lib.hid H0.out.drew
  clear HW0
  go_region_held3 (fun W' => (W'.cell? ⟨w.heap.size, 0, none⟩ = some (.bool b1) ∧ W'.cell? ⟨w.heap.size, 1, none⟩ = some (.string A) ∧ W'.cell? ⟨w.heap.size, 2, none⟩ = some (.string B) ∧
      W'.cell? ⟨w.heap.size + 1, 0, none⟩ = some (.bool b2) ∧ W'.cell? ⟨w.heap.size + 1, 1, none⟩ = some (.string C) ∧ W'.cell? ⟨w.heap.size + 1, 2, none⟩ = some (.string D)) ∧ Hid (Held w W' b1 b2 A B C D))
    (first
      | exact ⟨hs, hh⟩
      | assumption
      | exact s1
      | go_keep)
    (first
      | (go_at_call 70; refine (times_call _ _ ?_ _).mono ?_; assumption; rintro e w5 ⟨rfl, hg5⟩; have s1 := held_next w b1 b2 A B C D hg5 ‹_›))
  clear hs hh H0
  obtain ⟨⟨x0, x1, x2, y0, y1, y2⟩, hh⟩ := s1
  go_wp2_with fail
  refine (T3 _).mono ?_
  rintro e v6 ⟨rfl, hg⟩
  have s6 := held_next w b1 b2 A B C D hg ⟨⟨x0, x1, x2, y0, y1, y2⟩, hh⟩
  clear x0 x1 x2 y0 y1 y2 hh hg
  obtain ⟨⟨x0, x1, x2, y0, y1, y2⟩, hh⟩ := s6
  go_wp2_with fail
  refine (CM.out _).mono ?_
  rintro e v7 ⟨rfl, hg⟩
  have s7 := held_next w b1 b2 A B C D hg ⟨⟨x0, x1, x2, y0, y1, y2⟩, hh⟩
  clear x0 x1 x2 y0 y1 y2 hh hg
  obtain ⟨⟨x0, x1, x2, y0, y1, y2⟩, hh⟩ := s7
  go_wp2_with fail
  refine (SU.out _).mono ?_
  rintro e v8 ⟨rfl, hg⟩
  have s8 := held_next w b1 b2 A B C D hg ⟨⟨x0, x1, x2, y0, y1, y2⟩, hh⟩
  clear x0 x1 x2 y0 y1 y2 hh hg
  obtain ⟨⟨x0, x1, x2, y0, y1, y2⟩, hh⟩ := s8
  go_wp2_with fail
  refine (R.out _).mono ?_
  rintro e v9 ⟨rfl, hg⟩
  have s9 := held_next w b1 b2 A B C D hg ⟨⟨x0, x1, x2, y0, y1, y2⟩, hh⟩
  clear x0 x1 x2 y0 y1 y2 hh hg
  obtain ⟨zb, zS, zT, z0, z1, z2, z3, z4, z5⟩ := held_room w b1 b2 A B C D s9
  have hend := grown3 (a := .bool b) (b := .string S) (c := .string T) s9.2.out.g (show w.heap.size ≤ w.heap.size + 1 + 1 by omega)
  have HE := Lib.hid hend
  clear hend s9
  go_wp2
  exact bodyPost_ret (v := .agg #[.bool _, .string _, .string _]) (by simp [results, Tryz.results50, go_sem, z0, z1, z2, z3, z4, z5]) rfl ⟨rfl, HE.out⟩
end Go.Proofs.YthokjhlbbgfplaaGreatDoor
