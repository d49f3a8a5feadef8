/- The reference's Add and Sub, at any strings. -/
import Derived.Test.YtlkjfhidicgjiaaDoorYf
set_option linter.unusedVariables false
set_option linter.unusedSimpArgs false
namespace Go.Proofs.YtlkjfhidicgjiaaDoor
open Go.RowKit
open Go.Lib (nDigits decDigits)

theorem radd_bad_a (a b : ByteArray) (w : World) (ha : a.size ≤ maxLen) (hb : b.size ≤ maxLen) (na : numB a = false) :
    Calls Tryd.prog 21 #[.string a, .string b] w (ValPost (addV a b) w) := by
  have HV := Lib.hid (show addV a b = .tuple #[.string ⟨#[]⟩, .int .i64 1] by unfold addV; rw [na]; rfl)
  have va := rvalid_any a w ha
  have vb := rvalid_any b w hb
  rw [na] at va
  have VA := Lib.hid va; have VB := Lib.hid vb
  clear va vb ha hb na
  go_enter Tryd.func21, Tryd.ntmps21
  go_wp2_with fail
  refine VA.out.mono ?_
  rintro e w' ⟨rfl, rfl⟩
  go_wp2
  go_ret2
  rw [HV.out]
  exact ⟨rfl, grown_refl _ _⟩

theorem radd_bad_b (a b : ByteArray) (w : World) (ha : a.size ≤ maxLen) (hb : b.size ≤ maxLen) (na : numB a = true) (nb : numB b = false) :
    Calls Tryd.prog 21 #[.string a, .string b] w (ValPost (addV a b) w) := by
  have HV := Lib.hid (show addV a b = .tuple #[.string ⟨#[]⟩, .int .i64 1] by unfold addV; rw [na, nb]; rfl)
  have va := rvalid_any a w ha
  have vb := rvalid_any b w hb
  rw [na] at va
  rw [nb] at vb
  have VA := Lib.hid va; have VB := Lib.hid vb
  clear va vb ha hb na nb
  go_enter Tryd.func21, Tryd.ntmps21
  go_wp2_with fail
  refine VA.out.mono ?_
  rintro e w' ⟨rfl, rfl⟩
  go_wp2_with fail
  refine VB.out.mono ?_
  rintro e w' ⟨rfl, rfl⟩
  go_wp2
  go_ret2
  rw [HV.out]
  exact ⟨rfl, grown_refl _ _⟩

theorem radd_any (a b : ByteArray) (w : World) (ha : a.size ≤ maxLen) (hb : b.size ≤ maxLen) :
    Calls Tryd.prog 21 #[.string a, .string b] w (ValPost (addV a b) w) := by
  cases na : numB a
  · exact radd_bad_a a b w ha hb na
  cases nb : numB b
  · exact radd_bad_b a b w ha hb na nb
  exact radd_num a b w na nb

theorem rsub_bad_a (a b : ByteArray) (w : World) (ha : a.size ≤ maxLen) (hb : b.size ≤ maxLen) (na : numB a = false) :
    Calls Tryd.prog 23 #[.string a, .string b] w (ValPost (subV a b) w) := by
  have HV := Lib.hid (show subV a b = .tuple #[.string ⟨#[]⟩, .int .i64 1] by unfold subV; rw [na]; rfl)
  have va := rvalid_any a w ha
  have vb := rvalid_any b w hb
  rw [na] at va
  have VA := Lib.hid va; have VB := Lib.hid vb
  clear va vb ha hb na
  go_enter Tryd.func23, Tryd.ntmps23
  go_wp2_with fail
  refine VA.out.mono ?_
  rintro e w' ⟨rfl, rfl⟩
  go_wp2
  go_ret2
  rw [HV.out]
  exact ⟨rfl, grown_refl _ _⟩

theorem rsub_bad_b (a b : ByteArray) (w : World) (ha : a.size ≤ maxLen) (hb : b.size ≤ maxLen) (na : numB a = true) (nb : numB b = false) :
    Calls Tryd.prog 23 #[.string a, .string b] w (ValPost (subV a b) w) := by
  have HV := Lib.hid (show subV a b = .tuple #[.string ⟨#[]⟩, .int .i64 1] by unfold subV; rw [na, nb]; rfl)
  have va := rvalid_any a w ha
  have vb := rvalid_any b w hb
  rw [na] at va
  rw [nb] at vb
  have VA := Lib.hid va; have VB := Lib.hid vb
  clear va vb ha hb na nb
  go_enter Tryd.func23, Tryd.ntmps23
  go_wp2_with fail
  refine VA.out.mono ?_
  rintro e w' ⟨rfl, rfl⟩
  go_wp2_with fail
  refine VB.out.mono ?_
  rintro e w' ⟨rfl, rfl⟩
  go_wp2
  go_ret2
  rw [HV.out]
  exact ⟨rfl, grown_refl _ _⟩

set_option maxRecDepth 100000 in
set_option maxHeartbeats 4000000 in
theorem rsub_num (a b : ByteArray) (w : World) (na : numB a = true) (nb : numB b = true) :
    Calls Tryd.prog 23 #[.string a, .string b] w (ValPost (subV a b) w) := by
  have va := rvalid_any a w (maxLen_ok na)
  have vb := rvalid_any b w (maxLen_ok nb)
  rw [na] at va
  rw [nb] at vb
  have VA := Lib.hid va; have VB := Lib.hid vb
  have rc := rcompare_any a b w na nb
  clear va vb
  by_cases hlt : nv a < nv b
  · have HV := Lib.hid (show subV a b = .tuple #[.string ⟨#[]⟩, .int .i64 4] by rw [subV_lt a b na nb hlt])
    rw [show cmpN (nv a) (nv b) = -1 by unfold cmpN; rw [if_pos hlt]] at rc
    have RC := Lib.hid rc
    clear na nb hlt rc
    go_enter Tryd.func23, Tryd.ntmps23
    go_wp2_with fail
    refine VA.out.mono ?_
    rintro e w' ⟨rfl, rfl⟩
    go_wp2_with fail
    refine VB.out.mono ?_
    rintro e w' ⟨rfl, rfl⟩
    go_wp2_with fail
    refine RC.out.mono ?_
    rintro e w1 ⟨rfl, hg⟩
    have G := Lib.hid hg
    clear hg
    go_wp2
    go_ret2
    rw [HV.out]
    exact ⟨rfl, G.out⟩
  · have HV := Lib.hid (show subV a b = .tuple #[.string (decS (nv a - nv b)), .int .i64 0] by unfold subV; rw [na, nb]; simp only [Bool.and_self, if_true]; rw [if_neg hlt])
    obtain ⟨d, hd, hd0⟩ : ∃ d : Int, cmpN (nv a) (nv b) = d ∧ ¬ d < 0 := ⟨_, rfl, by have := cmpN_lt (nv a) (nv b); omega⟩
    rw [hd] at rc
    have RC := Lib.hid rc
    have D1 := Lib.hid (fun w => digits_any a w na)
    have D2 := Lib.hid (fun w => digits_any b w nb)
    have hx := dg10_lt a na
    have hy := dg10_lt b nb
    have sa := num_size a na
    have sb := num_size b nb
    have la := dg10_len a
    have lb := dg10_len b
    have xa := dg10_val a
    have xb := dg10_val b
    have hle : vl 10 (dg10 b) ≤ vl 10 (dg10 a) := by omega
    rw [← xa, ← xb] at HV
    clear na nb rc hd xa xb hlt
    generalize dg10 a = xs at *
    generalize dg10 b = ys at *
    have HX := Lib.hid hx; have HY := Lib.hid hy; have HLE := Lib.hid hle
    have lx2 : xs.length ≤ 1000 := by omega
    have ly2 : ys.length ≤ 1000 := by omega
    clear hx hy sa sb la lb hle
    go_enter Tryd.func23, Tryd.ntmps23
    go_wp2_with fail
    refine VA.out.mono ?_
    rintro e w' ⟨rfl, rfl⟩
    go_wp2_with fail
    refine VB.out.mono ?_
    rintro e w' ⟨rfl, rfl⟩
    go_wp2_with fail
    refine RC.out.mono ?_
    rintro e w0 ⟨rfl, hg⟩
    have G0 := Lib.hid hg
    clear hg VA VB RC
    go_wp2_with fail
    refine (D1.out _).mono ?_
    rintro e w1 ⟨v1, rfl, hr1, hb1⟩
    have R1 := Lib.hid hr1; have B1 := Lib.hid hb1
    clear hr1 hb1
    go_wp2_with fail
    refine (D2.out _).mono ?_
    rintro e w2 ⟨v2, rfl, hr2, hb2⟩
    have R1' := Lib.hid (R1.out.below hb2)
    have R2 := Lib.hid hr2
    have B2 := Lib.hid (B1.out.trans (hb2.mono B1.out.size))
    clear hr2 hb2 R1 B1 D1 D2
    go_wp2_with fail
    refine (less_any v1 v2 xs ys w2 R1'.out R2.out HX.out HY.out (by omega) (by omega) HLE.out).mono ?_
    rintro e w3 ⟨v3, zs, rfl, hr3, hz, hval, hlen, hb3⟩
    have B3 := Lib.hid (B2.out.trans (hb3.mono B2.out.size))
    have R3 := Lib.hid hr3
    have hT := text_any v3 zs w3 hr3.1 hz (by omega)
    rw [hval] at hT
    have HT := Lib.hid hT
    clear hr3 hz hval hlen hb3 hT
    go_wp2_with fail
    refine HT.out.mono ?_
    rintro e w4 ⟨rfl, hb4⟩
    have BB := Lib.hid (grown_trans G0.out (grown_below (B3.out.trans (hb4.mono B3.out.size))))
    clear hb4
    generalize decS (vl 10 xs - vl 10 ys) = S at *
    go_wp2
    go_ret2
    rw [HV.out]
    exact ⟨rfl, BB.out⟩

theorem rsub_any (a b : ByteArray) (w : World) (ha : a.size ≤ maxLen) (hb : b.size ≤ maxLen) :
    Calls Tryd.prog 23 #[.string a, .string b] w (ValPost (subV a b) w) := by
  cases na : numB a
  · exact rsub_bad_a a b w ha hb na
  cases nb : numB b
  · exact rsub_bad_b a b w ha hb na nb
  exact rsub_num a b w na nb

end Go.Proofs.YtlkjfhidicgjiaaDoor
