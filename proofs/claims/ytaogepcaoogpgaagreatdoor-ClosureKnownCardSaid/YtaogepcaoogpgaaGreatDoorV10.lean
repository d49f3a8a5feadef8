/- U10 -/
import Derived.Test.YtaogepcaoogpgaaGreatDoorV09
import Derived.Test.YtaogepcaoogpgaaGreatDoorV01
import Derived.Lib.TrimByte
import Derived.BigQuiet
set_option linter.unusedVariables false
set_option linter.unusedSimpArgs false
namespace Go.Proofs.YtaogepcaoogpgaaGreatDoor
open Go.RowKit
open Go.Lib (nDigits decDigits)
def Fun (w : World) (g F : Nat) : Prop := w.heap[g]? = some (.cells #[.func (.func F) #[] #[]] 147 (0, 0))
theorem Fun.grown {w w' : World} {g F : Nat} (h : Fun w g F) (hg : w.grownBy w' none) : Fun w' g F := (hg.block _ (lt_of_block h) (by simp)).trans h
set_option maxRecDepth 100000 in
set_option maxHeartbeats 1000000 in
theorem op1_ret (F g0 g1 g2 : Nat) (b1 b2 : Bool) (A B C D S : ByteArray) (N : Value) (w : World) (hE : Enters F) (h0 : Fun w g0 F) (h1 : Num w g1 b1 A B) (h2 : Num w g2 b2 C D)
  (M : Hid (∀ w, Calls Tryz.prog F #[.agg #[.bool b1, .string A, .string B], .agg #[.bool b2, .string C, .string D]] w (ValPost N w)))
  (X : Hid (∀ w, Calls Tryz.prog 199 #[N] w (ValPost (.string S) w))) :
  Calls Tryz.prog 198 #[.pointer (some ⟨g0, 0, none⟩), .pointer (some ⟨g1, 0, none⟩), .pointer (some ⟨g2, 0, none⟩)] w (ValPost (.string S) w) := by
 have c0 := cell_of_one h0
 obtain ⟨x0, x1, x2, _⟩ := h1.cells
 obtain ⟨y0, y1, y2, _⟩ := h2.cells
 have HE := Lib.hid hE
 clear h0 h1 h2 hE
 go_enter Tryz.func198, Tryz.ntmps198
 go_wp2_with fail
 rw [HE.out]
 refine (M.out _).mono ?_
 rintro e w1 ⟨rfl, hg⟩
 have G1 := Lib.hid hg
 clear hg
 go_wp2_with fail
 refine (X.out _).mono ?_
 rintro e w2 ⟨rfl, hg⟩
 have G2 := Lib.hid (grown_trans G1.out hg)
 clear hg
 go_wp2
 go_ret
 exact ⟨rfl, G2.out⟩
set_option maxRecDepth 100000 in
set_option maxHeartbeats 1000000 in
theorem op1_long (F g0 g1 g2 : Nat) (b1 b2 : Bool) (A B C D : ByteArray) (N : Value) (w : World) (hE : Enters F) (h0 : Fun w g0 F) (h1 : Num w g1 b1 A B) (h2 : Num w g2 b2 C D)
  (M : Hid (∀ w, Calls Tryz.prog F #[.agg #[.bool b1, .string A, .string B], .agg #[.bool b2, .string C, .string D]] w (ValPost N w)))
  (X : Hid (∀ w, Calls Tryz.prog 199 #[N] w (DiePost 2 w))) :
  Calls Tryz.prog 198 #[.pointer (some ⟨g0, 0, none⟩), .pointer (some ⟨g1, 0, none⟩), .pointer (some ⟨g2, 0, none⟩)] w (DiePost 2 w) := by
 have c0 := cell_of_one h0
 obtain ⟨x0, x1, x2, _⟩ := h1.cells
 obtain ⟨y0, y1, y2, _⟩ := h2.cells
 have HE := Lib.hid hE
 clear h0 h1 h2 hE
 go_enter Tryz.func198, Tryz.ntmps198
 go_wp2_with fail
 rw [HE.out]
 refine (M.out _).mono ?_
 rintro e w1 ⟨rfl, hg⟩
 have G1 := Lib.hid hg
 clear hg
 go_wp2_with fail
 refine (X.out _).mono ?_
 rintro e w2 ⟨rfl, hg⟩
 exact ⟨rfl, rfl, grown_trans G1.out hg⟩
theorem enters_op1 : Enters 198 := enters_of Tryz.func198 (by kernel_rfl) rfl
def FinOk (F : Nat) (b1 b2 : Bool) (A B C D S : ByteArray) (E : Int) : Prop := ∀ (g0 g1 g2 : Nat) (w : World), Fun w g0 F → Num w g1 b1 A B → Num w g2 b2 C D →
  Calls Tryz.prog 197 #[.func (.func 198) #[] #[.pointer (some ⟨g0, 0, none⟩), .pointer (some ⟨g1, 0, none⟩), .pointer (some ⟨g2, 0, none⟩)]] w (ValPost (.tuple #[.string S, .int .i64 E]) w)
set_option maxRecDepth 100000 in
set_option maxHeartbeats 2000000 in
theorem operate_ok (F : Nat) (a b : ByteArray) (b1 b2 : Bool) (A B C D S : ByteArray) (E : Int) (w : World)
  (R1 : Hid (∀ w, Calls Tryz.prog 152 #[.string a] w (ValPost (.tuple #[.agg #[.bool b1, .string A, .string B], .bool true]) w)))
  (R2 : Hid (∀ w, Calls Tryz.prog 152 #[.string b] w (ValPost (.tuple #[.agg #[.bool b2, .string C, .string D], .bool true]) w)))
  (K : Hid (FinOk F b1 b2 A B C D S E)) :
  Calls Tryz.prog 159 #[.string a, .string b, .func (.func F) #[] #[]] w (ValPost (.tuple #[.string S, .int .i64 E]) w) := by
 have hmf : ∀ (fn : Fn) (first cap : Array Value) (w : World), (Instr.makeFunc fn first cap).run Tryz.prog w = .ok (.func fn first cap) w := fun _ _ _ _ => rfl
 go_enter Tryz.func159, Tryz.ntmps159
 go_wp2_with fail
 refine (R1.out _).mono ?_
 rintro e w1 ⟨rfl, hg⟩
 have hb := alloc_old hg
 have F1 := Lib.hid (show Fun w1 w.heap.size F from hb)
 have G1 := Lib.hid (grown_trans (World.grownBy_alloc _ _ none) hg)
 clear hg hb
 go_wp2_with fail
 refine (R2.out _).mono ?_
 rintro e w2 ⟨rfl, hg⟩
 have hb := alloc_old hg
 have N1 := Lib.hid (show Num w2 w1.heap.size b1 A B from hb)
 have hgg := grown_trans (World.grownBy_alloc _ _ none) hg
 have F2 := Lib.hid (F1.out.grown hgg)
 have G2 := Lib.hid (grown_trans G1.out hgg)
 clear hg hb hgg F1 G1
 go_wp2_with fail
 refine (K.out _ _ _ _ (F2.out.grown (World.grownBy_alloc _ _ none)) (N1.out.grown (World.grownBy_alloc _ _ none)) (new_block _ _)).mono ?_
 rintro e w3 ⟨rfl, hg⟩
 have G3 := Lib.hid (grown_trans G2.out (grown_trans (World.grownBy_alloc _ _ none) hg))
 clear hg
 go_wp2
 go_ret2
 exact ⟨rfl, G3.out⟩
def Makes (F : Nat) (x y r : Rat) : Prop := ∀ w, Calls Tryz.prog F #[ratV x, ratV y] w (ValPost (ratV r) w)
theorem operate_makes {F : Nat} {a b : ByteArray} {x y r : Rat} (hE : Enters F) (ha : IsRat a x) (hb : IsRat b y) (M : Makes F x y r) (w : World) :
  Calls Tryz.prog 159 #[.string a, .string b, .func (.func F) #[] #[]] w (ValPost (finV r) w) := by
 have r1 := fun w => read_yes ha w (rat_len ha)
 have r2 := fun w => read_yes hb w (rat_len hb)
 by_cases h : Short r
 ·rw [finV_ok h]
  refine operate_ok F a b _ _ _ _ _ _ _ _ w (Lib.hid r1) (Lib.hid r2) (Lib.hid fun g0 g1 g2 w f n1 n2 => ?_)
  have k := World.grownBy_alloc w (.cells #[.int .i64 0] 24) none
  exact finish_ret _ enters_op1 #[] _ _ w (op1_ret F g0 g1 g2 _ _ _ _ _ _ _ _ _ hE (f.grown k) (n1.grown k) (n2.grown k) (Lib.hid M) (Lib.hid fun w => text_ok r w h))
 ·rw [finV_long h]
  refine operate_ok F a b _ _ _ _ _ _ _ _ w (Lib.hid r1) (Lib.hid r2) (Lib.hid fun g0 g1 g2 w f n1 n2 => ?_)
  have k := World.grownBy_alloc w (.cells #[.int .i64 0] 24) none
  exact finish_die _ enters_op1 #[] _ _ w (op1_long F g0 g1 g2 _ _ _ _ _ _ _ _ hE (f.grown k) (n1.grown k) (n2.grown k) (Lib.hid M) (Lib.hid fun w => text_die r w h))
def notRat (a : ByteArray) : Prop := ∀ x, ¬ IsRat a x
theorem rat_or (a : ByteArray) : (∃ x, IsRat a x) ∨ notRat a := by
 by_cases h : ∃ x, IsRat a x
 ·exact .inl h
 ·exact .inr fun x k => h ⟨x, k⟩
theorem read_cases (a : ByteArray) (ha : a.size ≤ maxLen) : ∃ b A B k, (∀ w, Calls Tryz.prog 152 #[.string a] w (ValPost (.tuple #[.agg #[.bool b, .string A, .string B], .bool k]) w)) ∧ (notRat a → k = false) := by
 rcases rat_or a with ⟨x, h⟩ | h
 ·exact ⟨_, _, _, true, fun w => read_yes h w ha, fun n => absurd h (n x)⟩
 ·exact ⟨_, _, _, false, fun w => read_no h w ha, fun _ => rfl⟩
open Go.RowKit
open Go.Lib (nDigits decDigits)
theorem dig_mul {x y : Nat} (hx : nDigits x ≤ 400) (hy : nDigits y ≤ 400) : nDigits (x * y) ≤ 800 := by have := nDigits_mul x y; omega
theorem timesOk (m n : Nat) (hm : nDigits m ≤ 400) (hn : nDigits n ≤ 400) : TimesOk (decS m) (decS n) := fun w => by
 have := dig_mul hm hn
 unfold mulS
 rw [nv_dec, nv_dec]
 exact times_any m n w (by omega) (by omega) (by omega)
theorem mulS_dec (m n : Nat) : mulS (decS m) (decS n) = decS (m * n) := by unfold mulS; rw [nv_dec, nv_dec]
theorem reduce_hid (neg : Bool) (n d : Nat) (hd : d ≠ 0) (hn : nDigits n ≤ 1000) (hdd : nDigits d ≤ 1000) {r : Rat} (hr : mkRat (sg neg n) d = r) :
  Hid (∀ w, Calls Tryz.prog 200 #[.bool neg, .string (decS n), .string (decS d)] w (ValPost (ratV r) w)) :=
 Lib.hid fun w => by rw [← hr]; exact reduce_any neg n d w hd hn hdd
theorem den_mul_ne (x y : Rat) : x.den * y.den ≠ 0 := Nat.mul_ne_zero x.den_nz y.den_nz
theorem makes_product (x y : Rat) (hx : Short x) (hy : Short y) : Makes 161 x y (x * y) := fun w => by
 have d1 := dig_mul hx.1 hy.1
 have d2 := dig_mul hx.2 hy.2
 have R := reduce_hid (sgn x != sgn y) _ _ (den_mul_ne x y) (by omega) (by omega) (mul_parts x y)
 rw [← mulS_dec, ← mulS_dec] at R
 exact product_walk _ _ _ _ _ _ _ _ _ w (timesOk _ _ hx.1 hy.1) (timesOk _ _ hx.2 hy.2) R
theorem product_div (x y : Rat) (hx : Short x) (hy : Short y) (h : y.num ≠ 0) (w : World) :
  Calls Tryz.prog 161 #[ratV x, .agg #[.bool (sgn y), .string (decS y.den), .string (decS y.num.natAbs)]] w (ValPost (ratV (x / y)) w) := by
 have d1 := dig_mul hx.1 hy.2
 have d2 := dig_mul hx.2 hy.1
 have R := reduce_hid (sgn x != sgn y) _ _ (Nat.mul_ne_zero x.den_nz (show y.num.natAbs ≠ 0 by omega)) (by omega) (by omega) (div_parts x y h)
 rw [← mulS_dec, ← mulS_dec] at R
 exact product_walk _ _ _ _ _ _ _ _ _ w (timesOk _ _ hx.1 hy.2) (timesOk _ _ hx.2 hy.1) R
theorem makes_sum (x y : Rat) (hx : Short x) (hy : Short y) : Makes 192 x y (x + y) := fun w => by
 have d1 := dig_mul hx.1 hy.2
 have d2 := dig_mul hy.1 hx.2
 have d3 := dig_mul hx.2 hy.2
 have t1 := timesOk _ _ hx.1 hy.2
 have t2 := timesOk _ _ hy.1 hx.2
 have t3 := timesOk _ _ hx.2 hy.2
 by_cases hs : sgn x = sgn y
 ·have d4 := nDigits_add _ _ _ d1 d2
  have R := reduce_hid (sgn x) (x.num.natAbs * y.den + y.num.natAbs * x.den) _ (den_mul_ne x y) (by omega) (by omega) (add_parts x y _ (by rw [← hs, sg_same]))
  have ad := fun w => add_any (decS (x.num.natAbs * y.den)) (decS (y.num.natAbs * x.den)) w (big_len _ (by omega)) (big_len _ (by omega))
  rw [addV_lit _ _ (decS (x.num.natAbs * y.den + y.num.natAbs * x.den)) (num_short _ (by omega)) (num_short _ (by omega)) (num_short _ (by omega)) (by rw [nv_dec, nv_dec, nv_dec])] at ad
  rw [← mulS_dec x.den] at R
  rw [← mulS_dec x.num.natAbs y.den, ← mulS_dec y.num.natAbs x.den] at ad
  have := sum_same (sgn x) _ _ _ _ _ _ _ _ w t1 t2 t3 (Lib.hid ad) R
  unfold ratV
  rw [show decide (y.num < 0) = sgn x from hs.symm]
  exact this
 ·by_cases hl : x.num.natAbs * y.den < y.num.natAbs * x.den
  ·have d4 := nDigits_mono (Nat.sub_le (y.num.natAbs * x.den) (x.num.natAbs * y.den))
   have R := reduce_hid (sgn y) (y.num.natAbs * x.den - x.num.natAbs * y.den) _ (den_mul_ne x y) (by omega) (by omega) (add_parts x y _ (by rw [sg_less _ _ _ _ hs hl]))
   have cm := fun w => cmp_any (decS (x.num.natAbs * y.den)) (decS (y.num.natAbs * x.den)) w (big_len _ (by omega)) (big_len _ (by omega))
   have su := fun w => sub_any (decS (y.num.natAbs * x.den)) (decS (x.num.natAbs * y.den)) w (big_len _ (by omega)) (big_len _ (by omega))
   rw [sub_dec _ _ (by omega) (by omega) (by omega)] at su
   obtain ⟨c, hc, hc0⟩ : ∃ c : Int, cmpV (decS (x.num.natAbs * y.den)) (decS (y.num.natAbs * x.den)) = c ∧ c < 0 := ⟨_, rfl, by rw [cmp_dec _ _ (by omega) (by omega)]; exact (cmpN_lt _ _).2 hl⟩
   rw [hc] at cm
   rw [← mulS_dec x.den] at R
   rw [← mulS_dec x.num.natAbs y.den, ← mulS_dec y.num.natAbs x.den] at su cm
   exact sum_less _ _ _ _ _ _ _ _ _ _ c w hs hc0 t1 t2 t3 (Lib.hid cm) (Lib.hid su) R
  ·have d4 := nDigits_mono (Nat.sub_le (x.num.natAbs * y.den) (y.num.natAbs * x.den))
   have R := reduce_hid (sgn x) (x.num.natAbs * y.den - y.num.natAbs * x.den) _ (den_mul_ne x y) (by omega) (by omega) (add_parts x y _ (by rw [sg_more _ _ _ _ hs hl]))
   have cm := fun w => cmp_any (decS (x.num.natAbs * y.den)) (decS (y.num.natAbs * x.den)) w (big_len _ (by omega)) (big_len _ (by omega))
   have su := fun w => sub_any (decS (x.num.natAbs * y.den)) (decS (y.num.natAbs * x.den)) w (big_len _ (by omega)) (big_len _ (by omega))
   rw [sub_dec _ _ (by omega) (by omega) (by omega)] at su
   obtain ⟨c, hc, hc0⟩ : ∃ c : Int, cmpV (decS (x.num.natAbs * y.den)) (decS (y.num.natAbs * x.den)) = c ∧ ¬ c < 0 := ⟨_, rfl, by rw [cmp_dec _ _ (by omega) (by omega), cmpN_lt]; exact hl⟩
   rw [hc] at cm
   rw [← mulS_dec x.den] at R
   rw [← mulS_dec x.num.natAbs y.den, ← mulS_dec y.num.natAbs x.den] at su cm
   exact sum_more _ _ _ _ _ _ _ _ _ _ c w hs hc0 t1 t2 t3 (Lib.hid cm) (Lib.hid su) R
set_option maxRecDepth 100000 in
set_option maxHeartbeats 4000000 in
theorem sub1_walk (b1 b2 b3 b : Bool) (A B C D C3 D3 S T : ByteArray) (w : World)
  (NG : Hid (∀ w, Calls Tryz.prog 194 #[.agg #[.bool b2, .string C, .string D]] w (ValPost (.agg #[.bool b3, .string C3, .string D3]) w)))
  (SM : Hid (∀ w, Calls Tryz.prog 192 #[.agg #[.bool b1, .string A, .string B], .agg #[.bool b3, .string C3, .string D3]] w (ValPost (.agg #[.bool b, .string S, .string T]) w))) :
  Calls Tryz.prog 193 #[.agg #[.bool b1, .string A, .string B], .agg #[.bool b2, .string C, .string D]] w (ValPost (.agg #[.bool b, .string S, .string T]) w) := by
 have h0 := held_start w b1 b2 A B C D
 obtain ⟨W0, hW0⟩ : ∃ W0, W0 = (((w.alloc (.cells #[.bool b1, .string A, .string B] 142)).alloc (.cells #[.bool b2, .string C, .string D] 142)).alloc (.cells #[.bool false, .string ⟨#[]⟩, .string ⟨#[]⟩] 142)) := ⟨_, rfl⟩
 rw [← hW0] at h0
 have H0 := Lib.hid h0; have HW0 := Lib.hid hW0
 clear h0 hW0
 go_enter Tryz.func193, Tryz.ntmps193
 go_wp2_with fail
 rw [← HW0.out]
 have hs := H0.out.drew.seen
 unfold Seen at hs
 have hh := Lib.hid H0.out.drew
 clear HW0
 go_region_held3 (fun W' => (W'.cell? ⟨w.heap.size, 0, none⟩ = some (.bool b1) ∧ W'.cell? ⟨w.heap.size, 1, none⟩ = some (.string A) ∧ W'.cell? ⟨w.heap.size, 2, none⟩ = some (.string B) ∧
   W'.cell? ⟨w.heap.size + 1, 0, none⟩ = some (.bool b2) ∧ W'.cell? ⟨w.heap.size + 1, 1, none⟩ = some (.string C) ∧ W'.cell? ⟨w.heap.size + 1, 2, none⟩ = some (.string D)) ∧ Hid (Held w W' b1 b2 A B C D))
  (first
   | exact ⟨hs, hh⟩
   | assumption
   | exact s1
   | exact s3
   | exact held_store w b1 b2 A B C D _ _ _ s3
   | go_keep)
  (first
   | (go_at_call 194; refine (NG.out _).mono ?_; rintro e w5 ⟨rfl, hg5⟩; have s1 := held_next w b1 b2 A B C D hg5 ‹_›)
   | (go_at_call 192; refine (SM.out _).mono ?_; rintro e w7 ⟨rfl, hg7⟩; have s3 := held_next w b1 b2 A B C D hg7 ‹_›; obtain ⟨zb, zS, zT, z0, z1, z2, z3, z4, z5⟩ := held_room w b1 b2 A B C D s3))
 have hend := grown3 (a := .bool b) (b := .string S) (c := .string T) s3.2.out.g (show w.heap.size ≤ w.heap.size + 1 + 1 by omega)
 have HE := Lib.hid hend
 clear hend s3 s1 hs hh
 go_wp2
 exact bodyPost_ret (v := .agg #[.bool _, .string _, .string _]) (by simp [results, Tryz.results193, go_sem, z0, z1, z2, z3, z4, z5]) rfl ⟨rfl, HE.out⟩
set_option maxRecDepth 100000 in
set_option maxHeartbeats 1000000 in
theorem div1_walk (b1 b2 b : Bool) (A B C D S T : ByteArray) (w : World) (f1 : (C.toList == [48]) = false)
  (PR : Hid (∀ w, Calls Tryz.prog 161 #[.agg #[.bool b1, .string A, .string B], .agg #[.bool b2, .string D, .string C]] w (ValPost (.agg #[.bool b, .string S, .string T]) w))) :
  Calls Tryz.prog 160 #[.agg #[.bool b1, .string A, .string B], .agg #[.bool b2, .string C, .string D]] w (ValPost (.agg #[.bool b, .string S, .string T]) w) := by
 have h0 := held_start w b1 b2 A B C D
 have H0 := Lib.hid h0
 clear h0
 go_enter Tryz.func160, Tryz.ntmps160
 go_wp2_with fail
 refine (PR.out _).mono ?_
 rintro e w1 ⟨rfl, hg⟩
 have k := H0.out.next hg
 obtain ⟨zb, zS, zT, z0, z1, z2, z3, z4, z5⟩ := k.room
 have hend := grown3 (a := .bool b) (b := .string S) (c := .string T) k.g (show w.heap.size ≤ w.heap.size + 1 + 1 by omega)
 have HE := Lib.hid hend
 clear hend k hg H0
 go_wp2
 exact bodyPost_ret (v := .agg #[.bool _, .string _, .string _]) (by simp [results, Tryz.results160, go_sem, z0, z1, z2, z3, z4, z5]) rfl ⟨rfl, HE.out⟩
theorem makes_sub (x y : Rat) (hx : Short x) (hy : Short y) : Makes 193 x y (x - y) := fun w => by
 rw [Rat.sub_eq_add_neg]
 exact sub1_walk _ _ _ _ _ _ _ _ _ _ _ _ w (Lib.hid fun w => negated_any y w) (Lib.hid fun w => makes_sum x (-y) hx (neg_short hy) w)
theorem makes_div (x y : Rat) (hx : Short x) (hy : Short y) (h : y.num ≠ 0) : Makes 160 x y (x / y) := fun w =>
 div1_walk _ _ _ _ _ _ _ _ _ w (by rw [(zero_str' _).1]; simpa using h) (Lib.hid fun w => product_div x y hx hy h w)
theorem enters_sum : Enters 192 := enters_of Tryz.func192 (by kernel_rfl) rfl
theorem enters_product : Enters 161 := enters_of Tryz.func161 (by kernel_rfl) rfl
theorem enters_sub : Enters 193 := enters_of Tryz.func193 (by kernel_rfl) rfl
theorem enters_div : Enters 160 := enters_of Tryz.func160 (by kernel_rfl) rfl
set_option maxRecDepth 100000 in
theorem add_walk (a b S : ByteArray) (E : Int) (w : World) (O : Hid (∀ w, Calls Tryz.prog 159 #[.string a, .string b, .func (.func 192) #[] #[]] w (ValPost (.tuple #[.string S, .int .i64 E]) w))) :
  Calls Tryz.prog 153 #[.string a, .string b] w (ValPost (.tuple #[.string S, .int .i64 E]) w) := by
 go_enter Tryz.func153, Tryz.ntmps153
 go_wp2_with fail
 refine (O.out _).mono ?_
 rintro e w1 ⟨rfl, hg⟩
 have G1 := Lib.hid hg
 clear hg
 go_wp2
 go_ret2
 exact ⟨rfl, G1.out⟩
theorem add_rat {a b : ByteArray} {x y : Rat} (ha : IsRat a x) (hb : IsRat b y) (w : World) :
  Calls Tryz.prog 153 #[.string a, .string b] w (ValPost (finV (x + y)) w) := by
 obtain ⟨S, E, e⟩ := finV_form (x + y)
 have O := fun w => operate_makes enters_sum ha hb (makes_sum x y ha.short hb.short) w
 rw [e] at O ⊢
 exact add_walk a b S E w (Lib.hid O)
set_option maxRecDepth 100000 in
theorem sub_walk (a b S : ByteArray) (E : Int) (w : World) (O : Hid (∀ w, Calls Tryz.prog 159 #[.string a, .string b, .func (.func 193) #[] #[]] w (ValPost (.tuple #[.string S, .int .i64 E]) w))) :
  Calls Tryz.prog 154 #[.string a, .string b] w (ValPost (.tuple #[.string S, .int .i64 E]) w) := by
 go_enter Tryz.func154, Tryz.ntmps154
 go_wp2_with fail
 refine (O.out _).mono ?_
 rintro e w1 ⟨rfl, hg⟩
 have G1 := Lib.hid hg
 clear hg
 go_wp2
 go_ret2
 exact ⟨rfl, G1.out⟩
theorem sub_rat {a b : ByteArray} {x y : Rat} (ha : IsRat a x) (hb : IsRat b y) (w : World) :
  Calls Tryz.prog 154 #[.string a, .string b] w (ValPost (finV (x - y)) w) := by
 obtain ⟨S, E, e⟩ := finV_form (x - y)
 have O := fun w => operate_makes enters_sub ha hb (makes_sub x y ha.short hb.short) w
 rw [e] at O ⊢
 exact sub_walk a b S E w (Lib.hid O)
set_option maxRecDepth 100000 in
theorem mul_walk (a b S : ByteArray) (E : Int) (w : World) (O : Hid (∀ w, Calls Tryz.prog 159 #[.string a, .string b, .func (.func 161) #[] #[]] w (ValPost (.tuple #[.string S, .int .i64 E]) w))) :
  Calls Tryz.prog 158 #[.string a, .string b] w (ValPost (.tuple #[.string S, .int .i64 E]) w) := by
 go_enter Tryz.func158, Tryz.ntmps158
 go_wp2_with fail
 refine (O.out _).mono ?_
 rintro e w1 ⟨rfl, hg⟩
 have G1 := Lib.hid hg
 clear hg
 go_wp2
 go_ret2
 exact ⟨rfl, G1.out⟩
theorem mul_rat {a b : ByteArray} {x y : Rat} (ha : IsRat a x) (hb : IsRat b y) (w : World) :
  Calls Tryz.prog 158 #[.string a, .string b] w (ValPost (finV (x * y)) w) := by
 obtain ⟨S, E, e⟩ := finV_form (x * y)
 have O := fun w => operate_makes enters_product ha hb (makes_product x y ha.short hb.short) w
 rw [e] at O ⊢
 exact mul_walk a b S E w (Lib.hid O)
set_option maxRecDepth 100000 in
theorem div_walk (a b S : ByteArray) (E : Int) (w : World) (O : Hid (∀ w, Calls Tryz.prog 159 #[.string a, .string b, .func (.func 160) #[] #[]] w (ValPost (.tuple #[.string S, .int .i64 E]) w))) :
  Calls Tryz.prog 120 #[.string a, .string b] w (ValPost (.tuple #[.string S, .int .i64 E]) w) := by
 go_enter Tryz.func120, Tryz.ntmps120
 go_wp2_with fail
 refine (O.out _).mono ?_
 rintro e w1 ⟨rfl, hg⟩
 have G1 := Lib.hid hg
 clear hg
 go_wp2
 go_ret2
 exact ⟨rfl, G1.out⟩
theorem div_rat {a b : ByteArray} {x y : Rat} (ha : IsRat a x) (hb : IsRat b y) (h : y.num ≠ 0) (w : World) :
  Calls Tryz.prog 120 #[.string a, .string b] w (ValPost (finV (x / y)) w) := by
 obtain ⟨S, E, e⟩ := finV_form (x / y)
 have O := fun w => operate_makes enters_div ha hb (makes_div x y ha.short hb.short h) w
 rw [e] at O ⊢
 exact div_walk a b S E w (Lib.hid O)
open Go.RowKit
open Go.Lib (nDigits decDigits)
open Go.RowKit
open Go.Lib (nDigits decDigits)
def ReadsTo (a : ByteArray) (b : Bool) (A B : ByteArray) (k : Bool) : Prop := ∀ w, Calls Tryz.prog 152 #[.string a] w (ValPost (.tuple #[.agg #[.bool b, .string A, .string B], .bool k]) w)
set_option maxRecDepth 100000 in
set_option maxHeartbeats 1000000 in
theorem valid_walk (a : ByteArray) (b : Bool) (A B : ByteArray) (k : Bool) (w : World) (R : Hid (ReadsTo a b A B k)) :
  Calls Tryz.prog 109 #[.string a] w (ValPost (.bool k) w) := by
 go_enter Tryz.func109, Tryz.ntmps109
 go_wp2_with fail
 refine (R.out _).mono ?_
 rintro e w1 ⟨rfl, hg⟩
 have G1 := Lib.hid hg
 clear hg
 go_wp2
 go_ret
 exact ⟨rfl, G1.out⟩
set_option maxRecDepth 100000 in
set_option maxHeartbeats 1000000 in
theorem parts_walk (a : ByteArray) (b : Bool) (A B : ByteArray) (k : Bool) (w : World) (R : Hid (ReadsTo a b A B k)) :
  Calls Tryz.prog 157 #[.string a] w (ValPost (.tuple #[.bool b, .string A, .string B, .bool k]) w) := by
 go_enter Tryz.func157, Tryz.ntmps157
 go_wp2_with fail
 refine (R.out _).mono ?_
 rintro e w1 ⟨rfl, hg⟩
 have G1 := Lib.hid hg
 clear hg
 go_wp2_with fail
 go_quiet (fail)
 go_wp2
 exact bodyPost_ret (v := .tuple #[.bool _, .string _, .string _, .bool _]) (by simp [results, Tryz.results157, go_sem]) rfl ⟨rfl, grown_trans G1.out (grown_trans (World.grownBy_alloc _ _ none) (grown_drewN _ _ _))⟩
set_option maxRecDepth 100000 in
set_option maxHeartbeats 1000000 in
theorem cmp_no (a b : ByteArray) (b1 b2 k1 k2 : Bool) (A B C D : ByteArray) (w : World) (hk : (k1 && k2) = false) (R1 : Hid (ReadsTo a b1 A B k1)) (R2 : Hid (ReadsTo b b2 C D k2)) :
  Calls Tryz.prog 156 #[.string a, .string b] w (ValPost (.int .i64 0) w) := by
 cases k1 <;> cases k2 <;> simp only [Bool.and_self, Bool.and_true, Bool.true_and, Bool.true_eq_false] at hk
 all_goals
  go_enter Tryz.func156, Tryz.ntmps156
  go_wp2_with fail
  refine (R1.out _).mono ?_
  rintro e w1 ⟨rfl, hg⟩
  have G1 := Lib.hid hg
  clear hg
  go_wp2_with fail
  refine (R2.out _).mono ?_
  rintro e w2 ⟨rfl, hg⟩
  have G2 := Lib.hid (grown_trans G1.out (grown_trans (World.grownBy_alloc _ _ none) hg))
  clear hg
  go_wp2
  go_ret
  exact ⟨rfl, grown_trans G2.out (World.grownBy_alloc _ _ none)⟩
set_option maxRecDepth 100000 in
set_option maxHeartbeats 1000000 in
theorem cmp_yes (a b : ByteArray) (b1 b2 : Bool) (A B C D : ByteArray) (c : Int) (w : World) (R1 : Hid (ReadsTo a b1 A B true)) (R2 : Hid (ReadsTo b b2 C D true))
  (CP : Hid (∀ w, Calls Tryz.prog 196 #[.agg #[.bool b1, .string A, .string B], .agg #[.bool b2, .string C, .string D]] w (ValPost (.int .i64 c) w))) :
  Calls Tryz.prog 156 #[.string a, .string b] w (ValPost (.int .i64 c) w) := by
 go_enter Tryz.func156, Tryz.ntmps156
 go_wp2_with fail
 refine (R1.out _).mono ?_
 rintro e w1 ⟨rfl, hg⟩
 have G1 := Lib.hid hg
 clear hg
 go_wp2_with fail
 refine (R2.out _).mono ?_
 rintro e w2 ⟨rfl, hg⟩
 have hb := alloc_old hg
 have N1 := (show Num w2 w1.heap.size b1 A B from hb).grown (World.grownBy_alloc w2 (.cells #[.bool b2, .string C, .string D] 142) none)
 obtain ⟨x0, x1, x2, _⟩ := N1.cells
 have G2 := Lib.hid (grown_trans G1.out (grown_trans (World.grownBy_alloc _ _ none) hg))
 clear hg hb N1
 go_wp2_with fail
 refine (CP.out _).mono ?_
 rintro e w3 ⟨rfl, hg⟩
 have G3 := Lib.hid (grown_trans G2.out (grown_trans (World.grownBy_alloc _ _ none) hg))
 clear hg x0 x1 x2
 go_wp2
 go_ret
 exact ⟨rfl, G3.out⟩
theorem reads_yes {a : ByteArray} {x : Rat} (h : IsRat a x) : ReadsTo a (sgn x) (decS x.num.natAbs) (decS x.den) true := fun w => read_yes h w (rat_len h)
theorem reads_no {a : ByteArray} (h : notRat a) (ha : a.size ≤ maxLen) : ReadsTo a false ⟨#[]⟩ ⟨#[]⟩ false := fun w => read_no h w ha
theorem ratvalid_yes {a : ByteArray} {x : Rat} (h : IsRat a x) (w : World) : Calls Tryz.prog 109 #[.string a] w (ValPost (.bool true) w) := valid_walk a _ _ _ _ w (Lib.hid (reads_yes h))
theorem ratvalid_no {a : ByteArray} (h : notRat a) (ha : a.size ≤ maxLen) (w : World) : Calls Tryz.prog 109 #[.string a] w (ValPost (.bool false) w) := valid_walk a _ _ _ _ w (Lib.hid (reads_no h ha))
def partsV (x : Rat) : Value := .tuple #[.bool (sgn x), .string (decS x.num.natAbs), .string (decS x.den), .bool true]
def noParts : Value := .tuple #[.bool false, .string ⟨#[]⟩, .string ⟨#[]⟩, .bool false]
theorem parts_yes {a : ByteArray} {x : Rat} (h : IsRat a x) (w : World) : Calls Tryz.prog 157 #[.string a] w (ValPost (partsV x) w) := parts_walk a _ _ _ _ w (Lib.hid (reads_yes h))
theorem parts_no {a : ByteArray} (h : notRat a) (ha : a.size ≤ maxLen) (w : World) : Calls Tryz.prog 157 #[.string a] w (ValPost noParts w) := parts_walk a _ _ _ _ w (Lib.hid (reads_no h ha))
theorem cmpCall (m n : Nat) (hm : nDigits m ≤ 1000) (hn : nDigits n ≤ 1000) : ∀ w, Calls Tryz.prog 227 #[.string (decS m), .string (decS n)] w fun e w' => e = .returned (.int .i64 (cmpN m n)) ∧ w.grownBy w' none := fun w => by
 have := cmp_any (decS m) (decS n) w (big_len m hm) (big_len n hn)
 rw [cmp_dec m n hm hn] at this
 exact this
theorem compare_any (x y : Rat) (hx : Short x) (hy : Short y) (w : World) : Calls Tryz.prog 196 #[ratV x, ratV y] w (ValPost (.int .i64 (cmpQ x y)) w) := by
 have d1 := dig_mul hx.1 hy.2
 have d2 := dig_mul hy.1 hx.2
 have t1 := timesOk _ _ hx.1 hy.2
 have t2 := timesOk _ _ hy.1 hx.2
 unfold ratV
 rw [show decide (x.num < 0) = sgn x from rfl, show decide (y.num < 0) = sgn y from rfl]
 cases h1 : sgn x <;> cases h2 : sgn y
 ·rw [cmp_plus x y h1 h2]
  have cm := cmpCall (x.num.natAbs * y.den) (y.num.natAbs * x.den) (by omega) (by omega)
  rw [← mulS_dec x.num.natAbs y.den, ← mulS_dec y.num.natAbs x.den] at cm
  exact compare_plus _ _ _ _ _ w t1 t2 (Lib.hid cm)
 ·rw [cmp_sign2 x y h1 h2]; exact compare_part false true _ _ _ _ w (by decide)
 ·rw [cmp_sign1 x y h1 h2]; exact compare_part true false _ _ _ _ w (by decide)
 ·rw [cmp_minus x y h1 h2]
  have cm := cmpCall (y.num.natAbs * x.den) (x.num.natAbs * y.den) (by omega) (by omega)
  rw [← mulS_dec x.num.natAbs y.den, ← mulS_dec y.num.natAbs x.den] at cm
  exact compare_minus _ _ _ _ _ w t2 t1 (Lib.hid cm)
theorem ratcmp_yes {a b : ByteArray} {x y : Rat} (ha : IsRat a x) (hb : IsRat b y) (w : World) : Calls Tryz.prog 156 #[.string a, .string b] w (ValPost (.int .i64 (cmpQ x y)) w) :=
 cmp_yes a b _ _ _ _ _ _ _ w (Lib.hid (reads_yes ha)) (Lib.hid (reads_yes hb)) (Lib.hid fun w => compare_any x y ha.short hb.short w)
theorem ratcmp_no {a b : ByteArray} (ha : a.size ≤ maxLen) (hb : b.size ≤ maxLen) (h : notRat a ∨ notRat b) (w : World) : Calls Tryz.prog 156 #[.string a, .string b] w (ValPost (.int .i64 0) w) := by
 obtain ⟨b1, A, B, k1, r1, n1⟩ := read_cases a ha
 obtain ⟨b2, C, D, k2, r2, n2⟩ := read_cases b hb
 refine cmp_no a b _ _ k1 k2 _ _ _ _ w ?_ (Lib.hid r1) (Lib.hid r2)
 rcases h with h | h
 ·rw [n1 h]; rfl
 ·rw [n2 h, Bool.and_false]
open Go.RowKit
open Go.Lib (nDigits decDigits)
end Go.Proofs.YtaogepcaoogpgaaGreatDoor
