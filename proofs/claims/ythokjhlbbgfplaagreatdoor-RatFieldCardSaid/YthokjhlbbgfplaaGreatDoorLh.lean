/- RatField: every input. -/
import Derived.Test.YthokjhlbbgfplaaGreatDoorLg
set_option linter.unusedVariables false
set_option linter.unusedSimpArgs false
namespace Go.Proofs.YthokjhlbbgfplaaGreatDoor
open Go.RowKit
open Go.Lib (nDigits decDigits)

theorem largeIs3 (a b c : ByteArray) (ha : a.size ≤ maxLen) (hb : b.size ≤ maxLen) (hc : c.size ≤ maxLen) : LargeIs3 a b c (largeB [a, b, c]) := fun w => by
  refine (large_any [a, b, c] w.heap.size _ (by simp) ?_ ?_).mono ?_
  · intro x hx
    simp at hx
    rcases hx with rfl | rfl | rfl <;> assumption
  · intro k x hx
    rw [cell_of_row _ _ _ _ _ (0, 0) (new_block _ _)]
    rcases k with _ | _ | _ | k
    · cases hx; rfl
    · cases hx; rfl
    · cases hx; rfl
    · simp at hx
  · rintro e w' ⟨rfl, rfl⟩
    exact ⟨rfl, rfl⟩
theorem large_no {xs : List ByteArray} (h : largeB xs = false) : ∀ x ∈ xs, x.size ≤ 1200 := fun x hx => by
  unfold largeB at h
  rw [List.any_eq_false] at h
  have := h x hx
  simp at this
  exact this

set_option maxRecDepth 100000 in
theorem field_large (a b c : ByteArray) (w : World) (LG : Hid (LargeIs3 a b c true)) :
    Calls Tryz.prog 8 #[.string a, .string b, .string c] w (LawPost w) := by
  go_enter Tryz.func8, Tryz.ntmps8
  go_wp2_with fail
  refine (LG.out _).mono ?_
  rintro e w0 ⟨rfl, hw0⟩
  have G0 := Lib.hid (show w.grownBy w0 none from hw0 ▸ World.grownBy_alloc _ _ none)
  clear hw0
  go_wp2_with fail
  refine (awake_any _).mono ?_
  rintro e w1 ⟨rfl, hg⟩
  have G1 := Lib.hid (grown_trans G0.out hg)
  clear hg
  go_wp2
  go_ret
  exact ⟨rfl, G1.out⟩
def ValidIs (a : ByteArray) (k : Bool) : Prop := ∀ w, Calls Tryz.prog 13 #[.string a] w (ValPost (.bool k) w)
theorem valid_or (a : ByteArray) (ha : a.size ≤ maxLen) : (∃ x, IsRat a x ∧ ValidIs a true) ∨ ValidIs a false := by
  rcases rat_or a with ⟨x, h⟩ | h
  · exact .inl ⟨x, h, fun w => ratvalid_yes h w⟩
  · exact .inr fun w => ratvalid_no h ha w
set_option maxRecDepth 100000 in
theorem field_no (a b c : ByteArray) (ka kb : Bool) (w : World) (LG : Hid (LargeIs3 a b c false)) (VA : Hid (ValidIs a ka)) (VB : Hid (ka = true → ValidIs b kb)) (VC : Hid (ka = true → kb = true → ValidIs c false)) :
    Calls Tryz.prog 8 #[.string a, .string b, .string c] w (LawPost w) := by
  cases ka
  · clear VB VC
    go_enter Tryz.func8, Tryz.ntmps8
    go_wp2_with fail
    refine (LG.out _).mono ?_
    rintro e w0 ⟨rfl, hw0⟩
    have G0 := Lib.hid (show w.grownBy w0 none from hw0 ▸ World.grownBy_alloc _ _ none)
    clear hw0
    go_wp2_with fail
    refine (VA.out _).mono ?_
    rintro e w1 ⟨rfl, hg⟩
    have G1 := Lib.hid (grown_trans G0.out hg)
    clear hg G0
    go_wp2_with fail
    refine (awake_any _).mono ?_
    rintro e w2 ⟨rfl, hg⟩
    have G2 := Lib.hid (grown_trans G1.out hg)
    clear hg
    go_wp2
    go_ret
    exact ⟨rfl, G2.out⟩
  have VB' := Lib.hid (VB.out rfl)
  clear VB
  cases kb
  · clear VC
    go_enter Tryz.func8, Tryz.ntmps8
    go_wp2_with fail
    refine (LG.out _).mono ?_
    rintro e w0 ⟨rfl, hw0⟩
    have G0 := Lib.hid (show w.grownBy w0 none from hw0 ▸ World.grownBy_alloc _ _ none)
    clear hw0
    go_wp2_with fail
    refine (VA.out _).mono ?_
    rintro e w1 ⟨rfl, hg⟩
    have G1 := Lib.hid (grown_trans G0.out hg)
    clear hg G0
    go_wp2_with fail
    refine (VB'.out _).mono ?_
    rintro e w2 ⟨rfl, hg⟩
    have G2 := Lib.hid (grown_trans G1.out hg)
    clear hg G1
    go_wp2_with fail
    refine (awake_any _).mono ?_
    rintro e w3 ⟨rfl, hg⟩
    have G3 := Lib.hid (grown_trans G2.out hg)
    clear hg
    go_wp2
    go_ret
    exact ⟨rfl, G3.out⟩
  · have VC' := Lib.hid (VC.out rfl rfl)
    clear VC
    go_enter Tryz.func8, Tryz.ntmps8
    go_wp2_with fail
    refine (LG.out _).mono ?_
    rintro e w0 ⟨rfl, hw0⟩
    have G0 := Lib.hid (show w.grownBy w0 none from hw0 ▸ World.grownBy_alloc _ _ none)
    clear hw0
    go_wp2_with fail
    refine (VA.out _).mono ?_
    rintro e w1 ⟨rfl, hg⟩
    have G1 := Lib.hid (grown_trans G0.out hg)
    clear hg G0
    go_wp2_with fail
    refine (VB'.out _).mono ?_
    rintro e w2 ⟨rfl, hg⟩
    have G2 := Lib.hid (grown_trans G1.out hg)
    clear hg G1
    go_wp2_with fail
    refine (VC'.out _).mono ?_
    rintro e w3 ⟨rfl, hg⟩
    have G3 := Lib.hid (grown_trans G2.out hg)
    clear hg G2
    go_wp2_with fail
    refine (awake_any _).mono ?_
    rintro e w4 ⟨rfl, hg⟩
    have G4 := Lib.hid (grown_trans G3.out hg)
    clear hg
    go_wp2
    go_ret
    exact ⟨rfl, G4.out⟩

/-! ### The rational numbers -/
/-- The empty string is no number. -/
theorem not_empty : notRat ⟨#[]⟩ := fun x h => by
  have h1 := (rat_parts h).n
  revert h1
  decide +kernel
theorem empty_len : (⟨#[]⟩ : ByteArray).size ≤ maxLen := by decide
/-- What a sum, a product is: a number, or too long. -/
theorem res_or (z : Rat) : (∃ S, finV z = .tuple #[.string S, .int .i64 0] ∧ IsRat S z) ∨ finV z = .tuple #[.string ⟨#[]⟩, .int .i64 2] := by
  rcases finV_cases z with h | ⟨h, _⟩
  · exact .inl h
  · exact .inr h
theorem op2_of {F : Nat} {a b S : ByteArray} {E : Int} {v : Value} (h : ∀ w, Calls Tryz.prog F #[.string a, .string b] w (ValPost v w)) (e : v = .tuple #[.string S, .int .i64 E]) : Op2 F a b S E := fun w => by rw [← e]; exact h w
theorem parts_make {a : ByteArray} {x : Rat} (h : IsRat a x) (w : World) : Calls Tryz.prog 14 #[.bool (sgn x), .string (decS x.num.natAbs), .string (decS x.den)] w (ValPost (.tuple #[.string a, .int .i64 0]) w) := by
  have s1 := h.short.1; have s2 := h.short.2
  have := make_any (sgn x) (decS x.num.natAbs) (decS x.den) w (big_len _ (by omega)) (big_len _ (by omega))
  obtain ⟨p1, p2, p3, _⟩ := apart a x h.eq
  have e := makeV_rat h
  rw [p1, p2, p3] at e
  rw [show sgn x = decide (x.num < 0) from rfl] at this ⊢
  rw [e] at this
  exact this

theorem field_any (a b c : ByteArray) (w : World) (ha : a.size ≤ maxLen) (hb : b.size ≤ maxLen) (hc : c.size ≤ maxLen) :
    Calls Tryz.prog 8 #[.string a, .string b, .string c] w (LawPost w) := by
  have LG := largeIs3 a b c ha hb hc
  cases hl : largeB [a, b, c]
  case true => rw [hl] at LG; exact field_large a b c w (Lib.hid LG)
  rw [hl] at LG
  rcases valid_or a ha with ⟨x, hx, va⟩ | va
  case inr => exact field_no a b c false false w (Lib.hid LG) (Lib.hid va) (Lib.hid fun h => by cases h) (Lib.hid fun h => by cases h)
  rcases valid_or b hb with ⟨y, hy, vb⟩ | vb
  case inr => exact field_no a b c true false w (Lib.hid LG) (Lib.hid va) (Lib.hid fun _ => vb) (Lib.hid fun _ h => by cases h)
  rcases valid_or c hc with ⟨z, hz, vc⟩ | vc
  case inr => exact field_no a b c true true w (Lib.hid LG) (Lib.hid va) (Lib.hid fun _ => vb) (Lib.hid fun _ _ => vc)
  -- the sum and what is made of it
  obtain ⟨S, E, D1, K1, U, E1, c1, c2, c5, c8, w1, hU⟩ : ∃ S E D1 K1 U E1, Op2 22 a b S E ∧ Op2 22 b a S E ∧ Op2 23 S b D1 K1 ∧ Op2 24 S c U E1 ∧
      ((E == 0) = false ∨ ((E == 0) = true ∧ D1 = a ∧ K1 = 0)) ∧ ((E == 0) = true → finV ((x + y) * z) = .tuple #[.string U, .int .i64 E1]) := by
    have A1 := fun w => add_rat hx hy w
    have A2 := fun w => add_rat hy hx w
    rw [Rat.add_comm y x] at A2
    rcases res_or (x + y) with ⟨S, e, hS⟩ | e
    · have B1 := fun w => sub_rat hS hy w
      rw [Rat.add_sub_cancel, finV_rat hx] at B1
      obtain ⟨U, E1, eU⟩ := finV_form ((x + y) * z)
      exact ⟨S, 0, a, 0, U, E1, op2_of A1 e, op2_of A2 e, op2_of B1 rfl, op2_of (fun w => mul_rat hS hz w) eU, .inr ⟨rfl, rfl, rfl⟩, fun _ => eU⟩
    · exact ⟨_, _, _, _, _, _, op2_of A1 e, op2_of A2 e, op2_of (fun w => sub_not _ b w empty_len hb (.inl not_empty)) rfl, op2_of (fun w => mul_not _ c w empty_len hc (.inl not_empty)) rfl, .inl rfl, fun h => by cases h⟩
  -- the product and what is made of it
  obtain ⟨P, G, D2, K2, c3, c4, c6, w2⟩ : ∃ P G D2 K2, Op2 24 a b P G ∧ Op2 24 b a P G ∧ Op2 25 P b D2 K2 ∧
      ((G == 0) = false ∨ ((G == 0) = true ∧ (b.toList == [48]) = true ∧ (b.toList != [48]) = false) ∨ ((G == 0) = true ∧ (b.toList == [48]) = false ∧ (b.toList != [48]) = true ∧ D2 = a ∧ K2 = 0)) := by
    have A1 := fun w => mul_rat hx hy w
    have A2 := fun w => mul_rat hy hx w
    rw [Rat.mul_comm y x] at A2
    have hb0 : (b.toList == [48]) = decide (y = 0) := by
      have e := bytes_ne (a := ⟨#[48]⟩) (c := b)
      rw [show (⟨#[48]⟩ : ByteArray).toList = [48] by decide +kernel] at e
      rw [e]
      exact decide_eq_decide.2 (zero_iff hy)
    rcases res_or (x * y) with ⟨P, e, hP⟩ | e
    · by_cases h0 : y = 0
      · refine ⟨P, 0, _, _, op2_of A1 e, op2_of A2 e, op2_of (fun w => div_zero hP hy (by rw [h0]; rfl) w) rfl, .inr (.inl ⟨rfl, ?_, ?_⟩)⟩
        · rw [hb0]; simpa using h0
        · rw [bne, hb0]; simpa using h0
      · have hn : y.num ≠ 0 := fun k => h0 (Rat.num_eq_zero.1 k)
        have B1 := fun w => div_rat hP hy hn w
        rw [Rat.mul_div_cancel h0, finV_rat hx] at B1
        refine ⟨P, 0, a, 0, op2_of A1 e, op2_of A2 e, op2_of B1 rfl, .inr (.inr ⟨rfl, ?_, ?_, rfl, rfl⟩)⟩
        · rw [hb0]; simpa using h0
        · rw [bne, hb0]; simpa using h0
    · exact ⟨_, _, _, _, op2_of A1 e, op2_of A2 e, op2_of (fun w => div_not _ b w empty_len hb (.inl not_empty)) rfl, .inl rfl⟩
  -- the difference and the order
  obtain ⟨D3, K3, c7, w3⟩ : ∃ D3 K3, Op2 23 a b D3 K3 ∧ ((K3 == 0) = false ∨ ((K3 == 0) = true ∧ ∃ c, CmpIs D3 ⟨#[48]⟩ c ∧ CmpIs a b c)) := by
    have A1 := fun w => sub_rat hx hy w
    rcases res_or (x - y) with ⟨D, e, hD⟩ | e
    · have B1 := fun w => ratcmp_yes hD zero_rat w
      rw [cmp_sub] at B1
      exact ⟨D, 0, op2_of A1 e, .inr ⟨rfl, cmpQ x y, B1, fun w => ratcmp_yes hx hy w⟩⟩
    · exact ⟨_, _, op2_of A1 e, .inl rfl⟩
  -- the two products and their sum
  obtain ⟨V, E2, W, E3, X, E4, c9, c10, c11, hX⟩ : ∃ V E2 W E3 X E4, Op2 24 a c V E2 ∧ Op2 24 b c W E3 ∧ Op2 22 V W X E4 ∧
      ((E2 == 0) = false ∨ ((E2 == 0) = true ∧ (E3 == 0) = false) ∨ ((E2 == 0) = true ∧ (E3 == 0) = true ∧ finV (x * z + y * z) = .tuple #[.string X, .int .i64 E4])) := by
    have A1 := fun w => mul_rat hx hz w
    have A2 := fun w => mul_rat hy hz w
    rcases res_or (x * z) with ⟨V, e, hV⟩ | e
    · rcases res_or (y * z) with ⟨W, f, hW⟩ | f
      · obtain ⟨X, E4, eX⟩ := finV_form (x * z + y * z)
        exact ⟨V, 0, W, 0, X, E4, op2_of A1 e, op2_of A2 f, op2_of (fun w => add_rat hV hW w) eX, .inr (.inr ⟨rfl, rfl, eX⟩)⟩
      · exact ⟨V, 0, _, _, _, _, op2_of A1 e, op2_of A2 f, op2_of (fun w => add_not V _ w (rat_len hV) empty_len (.inr not_empty)) rfl, .inr (.inl ⟨rfl, rfl⟩)⟩
    · obtain ⟨W, E3, f⟩ := finV_form (y * z)
      have hWl : W.size ≤ maxLen := by
        rcases res_or (y * z) with ⟨W', f', hW⟩ | f'
        · rw [f] at f'; cases f'; exact rat_len hW
        · rw [f] at f'; cases f'; exact empty_len
      exact ⟨_, _, W, E3, _, _, op2_of A1 e, op2_of A2 f, op2_of (fun w => add_not _ W w empty_len hWl (.inl not_empty)) rfl, .inl rfl⟩
  refine field_walk a b c S P D1 D2 D3 U V W X (decS x.num.natAbs) (decS x.den) (sgn x) E G K1 K2 K3 E1 E2 E3 E4 w (Lib.hid LG)
    (Lib.hid ⟨va, vb, vc, c1, c2, c3, c4, c5, c6, c7, c8, c9, c10, c11, fun w => parts_yes hx w, fun w => parts_make hx w⟩) (Lib.hid ⟨w1, w2, w3, ?_⟩)
  cases hE : (E == 0)
  · exact .inl rfl
  have eU := hU hE
  cases hE1 : (E1 == 0)
  · exact .inr (.inl ⟨rfl, rfl⟩)
  rcases hX with h | ⟨h2, h3⟩ | ⟨h2, h3, h4⟩
  · exact .inr (.inr (.inl ⟨rfl, rfl, h⟩))
  · exact .inr (.inr (.inr (.inl ⟨rfl, rfl, h2, h3⟩)))
  · rw [← Rat.add_mul, eU] at h4
    cases h4
    exact .inr (.inr (.inr (.inr (.inr ⟨rfl, rfl, h2, h3, hE1, rfl⟩))))
end Go.Proofs.YthokjhlbbgfplaaGreatDoor
