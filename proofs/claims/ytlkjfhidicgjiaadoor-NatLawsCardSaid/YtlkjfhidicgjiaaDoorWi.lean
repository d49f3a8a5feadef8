/- withinLimit, Add, Mul, Sub. -/
import Derived.Test.YtlkjfhidicgjiaaDoorWh
import Derived.Test.YtlkjfhidicgjiaaDoorWg
set_option linter.unusedVariables false
set_option linter.unusedSimpArgs false
namespace Go.Proofs.YtlkjfhidicgjiaaDoor
open Go.RowKit
open Go.Lib (nDigits)

def badV : Value := .tuple #[.string ⟨#[]⟩, .int .i64 1]
def limV (n : Nat) : Value := if nDigits n ≤ 1000 then .tuple #[.string (decS n), .int .i64 0] else .tuple #[.string ⟨#[]⟩, .int .i64 2]
def addV (a b : ByteArray) : Value := if numB a && numB b then limV (nv a + nv b) else badV
def mulV (a b : ByteArray) : Value := if numB a && numB b then limV (nv a * nv b) else badV
def subV (a b : ByteArray) : Value := if numB a && numB b then (if nv a < nv b then .tuple #[.string ⟨#[]⟩, .int .i64 4] else .tuple #[.string (decS (nv a - nv b)), .int .i64 0]) else badV

theorem nDigits_unique_le (u : Nat) : ∀ k, k + 1 ≤ nDigits u → k = 0 ∨ 10 ^ k ≤ u := by
  induction u using Nat.strongRecOn with
  | _ u ih =>
    intro k hk
    by_cases h : u < 10
    · rw [Lib.nDigits_small h] at hk; exact .inl (by omega)
    · rw [Lib.nDigits_big h] at hk
      cases k with
      | zero => exact .inl rfl
      | succ k =>
        right
        rcases ih (u / 10) (by omega) k (by omega) with rfl | h1
        · omega
        · rw [Nat.pow_succ]; omega
def ValPost (v : Value) (w : World) (e : Ending) (w' : World) : Prop := e = .returned v ∧ w.grownBy w' none

set_option maxHeartbeats 400000 in
theorem within_any (v : Value) (xs : List Nat) (w : World) (h : Blks 0 w v xs) (hx : ∀ x ∈ xs, x < 1000000000) (hn : xs.length ≤ 10000) :
    Calls Tryd.prog 36 #[v] w (ValPost (limV (vl 1000000000 xs)) w) := by
  have hw := write_any v xs w h hx hn
  have h2 := decS_size (vl 1000000000 xs)
  have hlt : nDigits (vl 1000000000 xs) ≤ 100000 := by
    have := vl_ten xs hx
    rcases Nat.lt_or_ge 100000 (nDigits (vl 1000000000 xs)) with h' | h'
    · rcases nDigits_unique_le (vl 1000000000 xs) (9 * xs.length + 1) (by omega) with h3 | h3
      · omega
      · have h4 : 10 ^ (9 * xs.length) ≤ 10 ^ (9 * xs.length + 1) := Nat.pow_le_pow_right (by decide) (by omega)
        omega
    · exact h'
  by_cases hl : nDigits (vl 1000000000 xs) ≤ 1000
  · have HL := Lib.hid (show limV (vl 1000000000 xs) = .tuple #[.string (decS (vl 1000000000 xs)), .int .i64 0] by unfold limV; rw [if_pos hl])
    rw [← h2] at hl hlt
    obtain ⟨S, hS⟩ : ∃ S, decS (vl 1000000000 xs) = S := ⟨_, rfl⟩
    unfold WritePost at hw
    rw [hS] at hw hl hlt
    have HS := Lib.hid hS
    clear hS h2 h hx
    have hl1 : ¬ (1000 : Int) < (S.size : Int) := by omega
    go_enter Tryd.func36, Tryd.ntmps36
    go_wp2_with (go_at_call 43; refine hw.mono ?_; rintro e w' ⟨rfl, hg⟩)
    go_ret2
    exact ⟨by rw [HL.out, HS.out]; rfl, ‹_›⟩
  · have HL := Lib.hid (show limV (vl 1000000000 xs) = .tuple #[.string ⟨#[]⟩, .int .i64 2] by unfold limV; rw [if_neg hl])
    rw [← h2] at hl hlt
    obtain ⟨S, hS⟩ : ∃ S, decS (vl 1000000000 xs) = S := ⟨_, rfl⟩
    unfold WritePost at hw
    rw [hS] at hw hl hlt
    have HS := Lib.hid hS
    clear hS h2 h hx
    have hl1 : (1000 : Int) < (S.size : Int) := by omega
    go_enter Tryd.func36, Tryd.ntmps36
    go_wp2_with (go_at_call 43; refine hw.mono ?_; rintro e w' ⟨rfl, hg⟩)
    go_ret2
    exact ⟨by rw [HL.out]; rfl, ‹_›⟩

theorem maxLen_ok {s : ByteArray} (h : numB s = true) : s.size ≤ maxLen := by have := (num_size s h).2; unfold maxLen; omega
theorem lim_form (n : Nat) : ∃ S E, limV n = .tuple #[.string S, .int .i64 E] := by unfold limV; split <;> exact ⟨_, _, rfl⟩
theorem len_le (xs ys : List Nat) (hx : ∀ x ∈ xs, x < 1000000000) (hyt : topOk ys) (h : vl 1000000000 ys ≤ vl 1000000000 xs) : ys.length ≤ xs.length := by
  by_cases h0 : ys = []
  · subst h0; simp
  · have h1 := vl_top 1000000000 ys h0 hyt
    have h2 := vl_lt 1000000000 xs hx
    rcases Nat.lt_or_ge xs.length ys.length with h3 | h3
    · have h4 : (1000000000 : Nat) ^ xs.length ≤ 1000000000 ^ (ys.length - 1) := Nat.pow_le_pow_right (by decide) (by omega)
      omega
    · exact h3
theorem sub_math (xs ys : List Nat) (hx : ∀ x ∈ xs, x < 1000000000) (hy : ∀ y ∈ ys, y < 1000000000) (hyt : topOk ys) (h : vl 1000000000 ys ≤ vl 1000000000 xs) :
    (∀ z ∈ (comb (subT 1) xs ys 0 xs.length).1, z < 1000000000) ∧ True ∧ vl 1000000000 (comb (subT 1) xs ys 0 xs.length).1 = vl 1000000000 xs - vl 1000000000 ys := by
  obtain ⟨h1, h2, h3⟩ := comb_sub 1 xs ys (by decide) hx hy 0 (by decide) xs.length
  have hl := len_le xs ys hx hyt h
  rw [List.take_length, List.take_of_length_le hl, Nat.one_mul, Nat.add_zero] at h3
  have hz := vl_lt 1000000000 _ h1
  rw [comb_length] at hz
  refine ⟨h1, trivial, ?_⟩
  rcases Nat.eq_zero_or_pos (comb (subT 1) xs ys 0 xs.length).2 with e | e
  · rw [e, Nat.mul_zero] at h3; omega
  · have : 1000000000 ^ xs.length * 1 ≤ 1000000000 ^ xs.length * (comb (subT 1) xs ys 0 xs.length).2 := Nat.mul_le_mul_left _ e
    omega

set_option maxHeartbeats 1000000 in
theorem add_any (a b : ByteArray) (w : World) (ha : a.size ≤ maxLen) (hb : b.size ≤ maxLen) :
    Calls Tryd.prog 20 #[.string a, .string b] w (ValPost (addV a b) w) := by
  have va := fun w => valid_any a w ha
  have vb := fun w => valid_any b w hb
  unfold maxLen at ha hb
  cases hna : numB a
  · have HV := Lib.hid (show addV a b = badV by unfold addV; rw [hna]; rfl)
    simp only [hna] at va
    clear vb hna
    go_enter Tryd.func20, Tryd.ntmps20
    go_wp2_with (go_at_call 12; refine (va _).mono ?_; rintro e w' ⟨rfl, rfl⟩)
    go_ret2
    exact ⟨by rw [HV.out]; rfl, grown_refl _ _⟩
  cases hnb : numB b
  · have HV := Lib.hid (show addV a b = badV by unfold addV; rw [hnb, Bool.and_false]; rfl)
    simp only [hna] at va
    simp only [hnb] at vb
    clear hna hnb
    go_enter Tryd.func20, Tryd.ntmps20
    go_wp2_with fail
    refine (va _).mono ?_
    rintro e w' ⟨rfl, rfl⟩
    go_wp2_with fail
    refine (vb _).mono ?_
    rintro e w' ⟨rfl, rfl⟩
    go_wp2
    go_ret2
    exact ⟨by rw [HV.out]; rfl, grown_refl _ _⟩
  have HV := Lib.hid (show addV a b = limV (nv a + nv b) by unfold addV; rw [hna, hnb]; rfl)
  have ra := fun w => read_any a w hna
  have rb := fun w => read_any b w hnb
  simp only [hna] at va
  simp only [hnb] at vb
  clear hna hnb
  go_enter Tryd.func20, Tryd.ntmps20
  go_wp2_with fail
  refine (va _).mono ?_
  rintro e w' ⟨rfl, rfl⟩
  go_wp2_with fail
  refine (vb _).mono ?_
  rintro e w' ⟨rfl, rfl⟩
  go_wp2_with fail
  refine (ra _).mono ?_
  rintro e w1 ⟨gx, cx, xs, rfl, hbx, hgx, hxl, hxv, hxt, hxn, hg1⟩
  have HBX := Lib.hid hbx; have HXL := Lib.hid hxl; have HXV := Lib.hid hxv; have HG1 := Lib.hid hg1; have HXT := Lib.hid hxt
  clear hbx hxl hxv hxt hg1 ra va vb
  go_wp2_with fail
  refine (rb _).mono ?_
  rintro e w2 ⟨gy, cy, ys, rfl, hby, hgy, hyl, hyv, hyt, hyn, hg2⟩
  have hs := sum_any gx cx xs ys _ w2 ((HBX.out.grown hg2 (by simp)).base (Nat.zero_le _)) (hby.base (Nat.zero_le _)) HXL.out hyl (by omega) (by omega)
  rw [HXV.out, hyv] at hs
  have HS := Lib.hid hs; have HG2 := Lib.hid hg2
  clear hby hyl hyv hyt hg2 hs rb
  go_wp2_with fail
  refine HS.out.mono ?_
  rintro e w3 ⟨g, zs, rfl, hbz, hzl, hzv, hzn, hg3⟩
  have hw := within_any _ zs w3 (hbz.base (Nat.zero_le _)) hzl (by omega)
  rw [hzv] at hw
  obtain ⟨S, E, hE⟩ := lim_form (nv a + nv b)
  rw [hE] at hw
  have HE := Lib.hid hE; have HW := Lib.hid hw; have HG3 := Lib.hid hg3
  clear hbz hzl hzv hg3 hw hE HS
  go_wp2_with fail
  refine HW.out.mono ?_
  rintro e w4 ⟨rfl, hg4⟩
  have HG4 := Lib.hid hg4
  clear hg4 HW
  go_wp2
  go_ret2
  exact ⟨by rw [HV.out, HE.out]; rfl, grown_trans HG1.out (grown_none (grown_trans HG2.out (grown_none (grown_trans HG3.out (grown_none HG4.out)))))⟩

set_option maxHeartbeats 1000000 in
theorem mul_any (a b : ByteArray) (w : World) (ha : a.size ≤ maxLen) (hb : b.size ≤ maxLen) :
    Calls Tryd.prog 24 #[.string a, .string b] w (ValPost (mulV a b) w) := by
  have va := fun w => valid_any a w ha
  have vb := fun w => valid_any b w hb
  unfold maxLen at ha hb
  cases hna : numB a
  · have HV := Lib.hid (show mulV a b = badV by unfold mulV; rw [hna]; rfl)
    simp only [hna] at va
    clear vb hna
    go_enter Tryd.func24, Tryd.ntmps24
    go_wp2_with (go_at_call 12; refine (va _).mono ?_; rintro e w' ⟨rfl, rfl⟩)
    go_ret2
    exact ⟨by rw [HV.out]; rfl, grown_refl _ _⟩
  cases hnb : numB b
  · have HV := Lib.hid (show mulV a b = badV by unfold mulV; rw [hnb, Bool.and_false]; rfl)
    simp only [hna] at va
    simp only [hnb] at vb
    clear hna hnb
    go_enter Tryd.func24, Tryd.ntmps24
    go_wp2_with fail
    refine (va _).mono ?_
    rintro e w' ⟨rfl, rfl⟩
    go_wp2_with fail
    refine (vb _).mono ?_
    rintro e w' ⟨rfl, rfl⟩
    go_wp2
    go_ret2
    exact ⟨by rw [HV.out]; rfl, grown_refl _ _⟩
  have HV := Lib.hid (show mulV a b = limV (nv a * nv b) by unfold mulV; rw [hna, hnb]; rfl)
  have ra := fun w => read_any a w hna
  have rb := fun w => read_any b w hnb
  simp only [hna] at va
  simp only [hnb] at vb
  clear hna hnb
  go_enter Tryd.func24, Tryd.ntmps24
  go_wp2_with fail
  refine (va _).mono ?_
  rintro e w' ⟨rfl, rfl⟩
  go_wp2_with fail
  refine (vb _).mono ?_
  rintro e w' ⟨rfl, rfl⟩
  go_wp2_with fail
  refine (ra _).mono ?_
  rintro e w1 ⟨gx, cx, xs, rfl, hbx, hgx, hxl, hxv, hxt, hxn, hg1⟩
  have HBX := Lib.hid hbx; have HXL := Lib.hid hxl; have HXV := Lib.hid hxv; have HG1 := Lib.hid hg1; have HXT := Lib.hid hxt
  clear hbx hxl hxv hxt hg1 ra va vb
  go_wp2_with fail
  refine (rb _).mono ?_
  rintro e w2 ⟨gy, cy, ys, rfl, hby, hgy, hyl, hyv, hyt, hyn, hg2⟩
  have hs := product_any _ _ xs ys w2 ((HBX.out.grown hg2 (by simp)).base (Nat.zero_le _)) (hby.base (Nat.zero_le _)) HXL.out hyl (by omega) (by omega)
  rw [HXV.out, hyv] at hs
  have HS := Lib.hid hs; have HG2 := Lib.hid hg2
  clear hby hyl hyv hyt hg2 hs rb
  go_wp2_with fail
  refine HS.out.mono ?_
  rintro e w3 ⟨g, zs, rfl, hbz, hzl, hzv, hzn, hg3⟩
  have hw := within_any _ zs w3 (hbz.base (Nat.zero_le _)) hzl (by omega)
  rw [hzv] at hw
  obtain ⟨S, E, hE⟩ := lim_form (nv a * nv b)
  rw [hE] at hw
  have HE := Lib.hid hE; have HW := Lib.hid hw; have HG3 := Lib.hid hg3
  clear hbz hzl hzv hg3 hw hE HS
  go_wp2_with fail
  refine HW.out.mono ?_
  rintro e w4 ⟨rfl, hg4⟩
  have HG4 := Lib.hid hg4
  clear hg4 HW
  go_wp2
  go_ret2
  exact ⟨by rw [HV.out, HE.out]; rfl, grown_trans HG1.out (grown_none (grown_trans HG2.out (grown_none (grown_trans HG3.out (grown_none HG4.out)))))⟩

set_option maxHeartbeats 1000000 in
theorem sub_any (a b : ByteArray) (w : World) (ha : a.size ≤ maxLen) (hb : b.size ≤ maxLen) :
    Calls Tryd.prog 22 #[.string a, .string b] w (ValPost (subV a b) w) := by
  have va := fun w => valid_any a w ha
  have vb := fun w => valid_any b w hb
  unfold maxLen at ha hb
  cases hna : numB a
  · have HV := Lib.hid (show subV a b = badV by unfold subV; rw [hna]; rfl)
    simp only [hna] at va
    clear vb hna
    go_enter Tryd.func22, Tryd.ntmps22
    go_wp2_with (go_at_call 12; refine (va _).mono ?_; rintro e w' ⟨rfl, rfl⟩)
    go_ret2
    exact ⟨by rw [HV.out]; rfl, grown_refl _ _⟩
  cases hnb : numB b
  · have HV := Lib.hid (show subV a b = badV by unfold subV; rw [hnb, Bool.and_false]; rfl)
    simp only [hna] at va
    simp only [hnb] at vb
    clear hna hnb
    go_enter Tryd.func22, Tryd.ntmps22
    go_wp2_with fail
    refine (va _).mono ?_
    rintro e w' ⟨rfl, rfl⟩
    go_wp2_with fail
    refine (vb _).mono ?_
    rintro e w' ⟨rfl, rfl⟩
    go_wp2
    go_ret2
    exact ⟨by rw [HV.out]; rfl, grown_refl _ _⟩
  have hcm := fun w => cmp_any a b w (maxLen_ok hna) (maxLen_ok hnb)
  have hce : cmpV a b = cmpN (nv a) (nv b) := by unfold cmpV; rw [hna, hnb]; rfl
  simp only [hce] at hcm
  clear hce
  by_cases hlt : nv a < nv b
  · have HV := Lib.hid (show subV a b = .tuple #[.string ⟨#[]⟩, .int .i64 4] by unfold subV; rw [hna, hnb]; simp only [Bool.and_self, if_true]; rw [if_pos hlt])
    have hc : cmpN (nv a) (nv b) = -1 := by unfold cmpN; rw [if_pos hlt]
    simp only [hc] at hcm
    simp only [hna] at va
    simp only [hnb] at vb
    clear hna hnb hc hlt
    go_enter Tryd.func22, Tryd.ntmps22
    go_wp2_with fail
    refine (va _).mono ?_
    rintro e w' ⟨rfl, rfl⟩
    go_wp2_with fail
    refine (vb _).mono ?_
    rintro e w' ⟨rfl, rfl⟩
    go_wp2_with fail
    refine (hcm _).mono ?_
    rintro e w1 ⟨rfl, hg1⟩
    go_wp2
    go_ret2
    exact ⟨by rw [HV.out]; rfl, hg1⟩
  · have HV := Lib.hid (show subV a b = .tuple #[.string (decS (nv a - nv b)), .int .i64 0] by unfold subV; rw [hna, hnb]; simp only [Bool.and_self, if_true]; rw [if_neg hlt])
    obtain ⟨c, hc, hc0⟩ : ∃ c : Int, cmpN (nv a) (nv b) = c ∧ 0 ≤ c := ⟨_, rfl, by have := cmpN_lt (nv a) (nv b); omega⟩
    simp only [hc] at hcm
    have HLT := Lib.hid hlt
    clear hc hlt
    have ra := fun w => read_any a w hna
    have rb := fun w => read_any b w hnb
    simp only [hna] at va
    simp only [hnb] at vb
    clear hna hnb
    go_enter Tryd.func22, Tryd.ntmps22
    go_wp2_with fail
    refine (va _).mono ?_
    rintro e w' ⟨rfl, rfl⟩
    go_wp2_with fail
    refine (vb _).mono ?_
    rintro e w' ⟨rfl, rfl⟩
    go_wp2_with fail
    refine (hcm _).mono ?_
    rintro e w0 ⟨rfl, hg0⟩
    have HG0 := Lib.hid hg0
    clear hcm va vb hg0
    go_wp2_with fail
    refine (ra _).mono ?_
    rintro e w1 ⟨gx, cx, xs, rfl, hbx, hgx, hxl, hxv, hxt, hxn, hg1⟩
    have HBX := Lib.hid hbx; have HXL := Lib.hid hxl; have HXV := Lib.hid hxv; have HG1 := Lib.hid hg1; have HXT := Lib.hid hxt
    clear hbx hxl hxv hxt hg1 ra
    go_wp2_with fail
    refine (rb _).mono ?_
    rintro e w2 ⟨gy, cy, ys, rfl, hby, hgy, hyl, hyv, hyt, hyn, hg2⟩
    have hbx2 := HBX.out.grown hg2 (by simp)
    obtain ⟨_, hgB, hcx1, hcx2, post, hcells, hpost⟩ := hbx2.cells
    have hst := subTimes_any 1 gx cx [] post xs ys _ w2 (by decide) HXL.out hyl (by omega) (by simp) (by omega) hcx2 (by simpa using hcells) (hby.base (Nat.zero_le _)) (by simp [Value.ownBlock]; have := (HBX.out.lt gx rfl).2; omega)
    have hmath := sub_math xs ys HXL.out hyl hyt (by rw [HXV.out, hyv]; have := HLT.out; omega)
    have hql := comb_length (subT 1) xs ys 0 xs.length
    generalize comb (subT 1) xs ys 0 xs.length = q at *
    obtain ⟨hm1, hm2, hm3⟩ := hmath
    rw [HXV.out, hyv] at hm3
    have HST := Lib.hid hst; have HG2 := Lib.hid hg2; have HM1 := Lib.hid hm1; have HM3 := Lib.hid hm3; have HQL := Lib.hid hql; have HPO := Lib.hid hpost; have HCX1 := Lib.hid hcx1; have HCX2 := Lib.hid hcx2
    clear hby hyl hyv hyt hg2 rb hbx2 hcells hst hm1 hm2 hm3 hql hpost hcx1 hcx2
    unfold TimesPost at HST
    go_wp2_with fail
    refine HST.out.mono ?_
    rintro e w3 ⟨rfl, hc3, hg3⟩
    have hb3 : Blks 0 w3 (.slice (some ⟨gx, 0, none⟩) q.1.length cx) q.1 := Blks.of_cells hc3 (Nat.zero_le _) (by have := HPO.out; have := HQL.out; have := HCX1.out; simp only [List.nil_append, List.length_append, uv_length]; omega) HCX2.out (by simp [uv_length]) (by rw [HQL.out]; exact HCX1.out)
    have hwr := write_any _ q.1 w3 hb3 HM1.out (by rw [HQL.out]; omega)
    rw [HM3.out, HQL.out] at hwr
    have HWR := Lib.hid hwr; have HG3 := Lib.hid hg3
    clear hc3 hg3 hb3 hwr HST
    go_wp2_with fail
    refine HWR.out.mono ?_
    rintro e w4 ⟨rfl, hg4⟩
    have HG4 := Lib.hid hg4
    clear hg4 HWR
    go_wp2
    go_ret2
    have hz := HG0.out.size
    exact ⟨by rw [HV.out]; rfl, grown_trans HG0.out (grown_none (grown_step (g := gx) (grown_trans HG1.out (grown_none HG2.out)) (grown_trans HG3.out (grown_none HG4.out)) hgx))⟩
end Go.Proofs.YtlkjfhidicgjiaaDoor
