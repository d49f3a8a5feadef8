/- The program's Div and Gcd. -/
import Derived.Test.YtlkjfhidicgjiaaDoorWn
set_option linter.unusedVariables false
set_option linter.unusedSimpArgs false
namespace Go.Proofs.YtlkjfhidicgjiaaDoor
open Go.RowKit
open Go.Lib (nDigits)

set_option maxHeartbeats 1000000 in
theorem div_any (a b : ByteArray) (w : World) (ha : a.size ≤ maxLen) (hb : b.size ≤ maxLen) :
    Calls Tryd.prog 26 #[.string a, .string b] w (ValPost (divV a b) w) := by
  have va := fun w => valid_any a w ha
  have vb := fun w => valid_any b w hb
  unfold maxLen at ha hb
  cases hna : numB a
  · have HV := Lib.hid (show divV a b = .tuple #[.string ⟨#[]⟩, .string ⟨#[]⟩, .int .i64 1] by unfold divV; rw [hna]; rfl)
    simp only [hna] at va
    clear vb hna
    go_enter Tryd.func26, Tryd.ntmps26
    go_wp2_with (go_at_call 12; refine (va _).mono ?_; rintro e w' ⟨rfl, rfl⟩)
    go_ret3
    exact ⟨by rw [HV.out]; rfl, grown_refl _ _⟩
  cases hnb : numB b
  · have HV := Lib.hid (show divV a b = .tuple #[.string ⟨#[]⟩, .string ⟨#[]⟩, .int .i64 1] by unfold divV; rw [hnb, Bool.and_false]; rfl)
    simp only [hna] at va
    simp only [hnb] at vb
    clear hna hnb
    go_enter Tryd.func26, Tryd.ntmps26
    go_wp2_with fail
    refine (va _).mono ?_
    rintro e w' ⟨rfl, rfl⟩
    go_wp2_with fail
    refine (vb _).mono ?_
    rintro e w' ⟨rfl, rfl⟩
    go_wp2
    go_ret3
    exact ⟨by rw [HV.out]; rfl, grown_refl _ _⟩
  have hzs := zero_str b hnb
  by_cases hz : nv b = 0
  · have HV := Lib.hid (show divV a b = .tuple #[.string ⟨#[]⟩, .string ⟨#[]⟩, .int .i64 4] by unfold divV; rw [hna, hnb]; simp only [Bool.and_self, if_true]; rw [if_pos hz])
    have f1 : (b.toList == [48]) = true := by rw [hzs]; simp [hz]
    simp only [hna] at va
    simp only [hnb] at vb
    clear hna hnb hz hzs
    go_enter Tryd.func26, Tryd.ntmps26
    go_wp2_with fail
    refine (va _).mono ?_
    rintro e w' ⟨rfl, rfl⟩
    go_wp2_with fail
    refine (vb _).mono ?_
    rintro e w' ⟨rfl, rfl⟩
    go_wp2
    go_ret3
    exact ⟨by rw [HV.out]; rfl, grown_refl _ _⟩
  have HV := Lib.hid (show divV a b = .tuple #[.string (decS (nv a / nv b)), .string (decS (nv a % nv b)), .int .i64 0] by unfold divV; rw [hna, hnb]; simp only [Bool.and_self, if_true]; rw [if_neg hz])
  have f1 : (b.toList == [48]) = false := by rw [hzs]; simp [hz]
  have HZ := Lib.hid hz
  clear hz hzs
  have ra := fun w => read_any a w hna
  have rb := fun w => read_any b w hnb
  simp only [hna] at va
  simp only [hnb] at vb
  clear hna hnb
  go_enter Tryd.func26, Tryd.ntmps26
  go_wp2_with fail
  refine (va _).mono ?_
  rintro e w' ⟨rfl, rfl⟩
  go_wp2_with fail
  refine (vb _).mono ?_
  rintro e w' ⟨rfl, rfl⟩
  go_wp2_with fail
  refine (ra _).mono ?_
  rintro e w1 ⟨gx, cx, xs, rfl, hbx, hgx, hxl, hxv, hxt, hxn, hg1⟩
  have HBX := Lib.hid hbx; have HXL := Lib.hid hxl; have HXV := Lib.hid hxv; have HG1 := Lib.hid hg1; have HXT := Lib.hid hxt
  clear hbx hxl hxv hxt hg1 ra va vb
  go_wp2_with fail
  refine (rb _).mono ?_
  rintro e w2 ⟨gy, cy, ys, rfl, hby, hgy, hyl, hyv, hyt, hyn, hg2⟩
  have hne : gx ≠ gy := by have := (HBX.out.lt gx rfl).2; omega
  have hy0 : ys ≠ [] := by
    intro e
    have := (nil_of_zero hyt).1 e
    rw [hyv] at this
    exact HZ.out this
  have hsz := hg2.size
  have hsz1 := HG1.out.size
  have hd := divide_any w.heap.size gx cx gy cy xs ys w2 (HBX.out.grown hg2 (by simp)) (hby.base (by omega)) hne HXL.out hyl HXT.out hyt hy0 (by omega) (by omega)
  have HD := Lib.hid hd; have HG2 := Lib.hid hg2; have HYV := Lib.hid hyv
  clear hby hyl hyv hyt hg2 hd rb hy0
  go_wp2_with fail
  refine HD.out.mono ?_
  rintro e w3 ⟨qv, qs, gr, cr, rs, rfl, hok⟩
  have hw1 := write_any qv qs w3 hok.qb hok.qlt (by have := hok.qn; omega)
  have hrb := hok.rb
  have hrl := hok.rlt
  have hrn := hok.rn
  have e1 := hok.qv
  have e2 := hok.rv
  have hg3 := hok.gr
  rw [HXV.out, HYV.out] at e1 e2
  rw [e1] at hw1
  have hw2 := fun (w' : World) (h : w3.grownBy w' none) => write_any _ rs w' ((hrb.base (Nat.zero_le _)).grown h (by simp)) hrl (by omega)
  rw [e2] at hw2
  have HW1 := Lib.hid hw1; have HW2 := Lib.hid hw2; have HG3 := Lib.hid hg3
  clear hok hw1 hw2 hrb hrl e1 e2 hg3 HD
  go_wp2_with fail
  refine HW1.out.mono ?_
  rintro e w4 ⟨rfl, hg4⟩
  have HG4 := Lib.hid hg4
  clear hg4
  go_wp2_with fail
  refine (HW2.out _ HG4.out).mono ?_
  rintro e w5 ⟨rfl, hg5⟩
  have HG5 := Lib.hid hg5
  clear hg5
  go_wp2
  go_ret3
  exact ⟨by rw [HV.out]; rfl, grown_step (g := gx) (grown_trans HG1.out (grown_none HG2.out)) (grown_trans HG3.out (grown_none (grown_trans HG4.out (grown_none HG5.out)))) hgx⟩

set_option maxHeartbeats 1000000 in
theorem gcd_any (a b : ByteArray) (w : World) (ha : a.size ≤ maxLen) (hb : b.size ≤ maxLen) :
    Calls Tryd.prog 28 #[.string a, .string b] w (ValPost (gcdV a b) w) := by
  have va := fun w => valid_any a w ha
  have vb := fun w => valid_any b w hb
  unfold maxLen at ha hb
  cases hna : numB a
  · have HV := Lib.hid (show gcdV a b = badV by unfold gcdV; rw [hna]; rfl)
    simp only [hna] at va
    clear vb hna
    go_enter Tryd.func28, Tryd.ntmps28
    go_wp2_with (go_at_call 12; refine (va _).mono ?_; rintro e w' ⟨rfl, rfl⟩)
    go_ret2
    exact ⟨by rw [HV.out]; rfl, grown_refl _ _⟩
  cases hnb : numB b
  · have HV := Lib.hid (show gcdV a b = badV by unfold gcdV; rw [hnb, Bool.and_false]; rfl)
    simp only [hna] at va
    simp only [hnb] at vb
    clear hna hnb
    go_enter Tryd.func28, Tryd.ntmps28
    go_wp2_with fail
    refine (va _).mono ?_
    rintro e w' ⟨rfl, rfl⟩
    go_wp2_with fail
    refine (vb _).mono ?_
    rintro e w' ⟨rfl, rfl⟩
    go_wp2
    go_ret2
    exact ⟨by rw [HV.out]; rfl, grown_refl _ _⟩
  have HV := Lib.hid (show gcdV a b = .tuple #[.string (decS (Nat.gcd (nv a) (nv b))), .int .i64 0] by unfold gcdV; rw [hna, hnb]; rfl)
  have ra := fun w => read_any a w hna
  have rb := fun w => read_any b w hnb
  simp only [hna] at va
  simp only [hnb] at vb
  clear hna hnb
  go_enter Tryd.func28, Tryd.ntmps28
  go_wp2_with fail
  refine (va _).mono ?_
  rintro e w' ⟨rfl, rfl⟩
  go_wp2_with fail
  refine (vb _).mono ?_
  rintro e w' ⟨rfl, rfl⟩
  go_wp2_with fail
  refine (ra _).mono ?_
  rintro e w1 ⟨gx, cx, xs, rfl, hbx, hgx, hxl, hxv, hxt, hxn, hg1⟩
  have HBX := Lib.hid hbx; have HXL := Lib.hid hxl; have HXV := Lib.hid hxv; have HG1 := Lib.hid hg1; have HXT := Lib.hid hxt
  clear hbx hxl hxv hxt hg1 ra va vb
  go_wp2_with fail
  refine (rb _).mono ?_
  rintro e w2 ⟨gy, cy, ys, rfl, hby, hgy, hyl, hyv, hyt, hyn, hg2⟩
  have hne : gx ≠ gy := by have := (HBX.out.lt gx rfl).2; omega
  have hsz := hg2.size
  have hsz1 := HG1.out.size
  have hg12 := grown_trans HG1.out (grown_none hg2 (r := none))
  have hd := divisor_any w.heap.size gx cx gy cy (Nat.gcd (nv a) (nv b)) xs ys w2 ⟨HBX.out.grown hg2 (by simp), hby.base (by omega), hne, HXL.out, hyl, HXT.out, hyt, by rw [HXV.out, hyv], by omega, by omega, Below.refl _ _, by omega⟩
  have HD := Lib.hid hd; have HG12 := Lib.hid hg12
  clear hby hyl hyv hyt hg2 hd rb hg12
  go_wp2_with fail
  refine HD.out.mono ?_
  rintro e w3 ⟨g, c, zs, rfl, hzb, hzl, hzv, hzn, hbel⟩
  have hw1 := write_any _ zs w3 (hzb.base (Nat.zero_le _)) hzl hzn
  rw [hzv] at hw1
  have HW1 := Lib.hid hw1; have HB := Lib.hid hbel
  clear hzb hzl hzv hbel hw1 HD
  go_wp2_with fail
  refine HW1.out.mono ?_
  rintro e w4 ⟨rfl, hg4⟩
  have HG4 := Lib.hid hg4
  clear hg4
  go_wp2
  go_ret2
  have hb := HB.out
  have hg3 : w.grownBy w3 none := ⟨hb.os.trans HG12.out.os, hb.tape.trans HG12.out.tape, hb.output.trans HG12.out.output, Nat.le_trans HG12.out.size hb.size, fun i hi _ => (hb.block i hi).trans (HG12.out.block i hi (by simp))⟩
  exact ⟨by rw [HV.out]; rfl, grown_trans hg3 (grown_none HG4.out)⟩
end Go.Proofs.YtlkjfhidicgjiaaDoor
