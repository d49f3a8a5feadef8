/- The reference's Mul. -/
import Derived.Test.YtlkjfhidicgjiaaDoorYg
set_option linter.unusedVariables false
set_option linter.unusedSimpArgs false
namespace Go.Proofs.YtlkjfhidicgjiaaDoor
open Go.RowKit
open Go.Lib (nDigits decDigits)

def CellsI (w : World) (g : Nat) (l : List Value) : Prop := w.heap[g]? = some (.cells l.toArray 3 (0, 0))
theorem CellsI.cell {w : World} {g : Nat} {l : List Value} (h : CellsI w g l) (k : Nat) : w.cell? ⟨g, k, none⟩ = l[k]? := by
  rw [cell_row h]; simp
theorem CellsI.free {w : World} {g : Nat} {l : List Value} (h : CellsI w g l) (k : Nat) : w.frozen? ⟨g, k, none⟩ = false := frozen_of_row w g k _ _ h
theorem CellsI.set {w : World} {g : Nat} {l : List Value} (h : CellsI w g l) (k : Nat) (u : Value) : CellsI (w.setCell ⟨g, k, none⟩ u) g (l.set k u) := by
  unfold CellsI
  rw [heap_setCell_same w g k _ _ u h]
  simp
theorem CellsI.lt {w : World} {g : Nat} {l : List Value} (h : CellsI w g l) : g < w.heap.size := lt_of_block h
theorem CellsI.of_full {w : World} {B g n : Nat} {l : List Value} (h : w.ownsRow B 3 1 (.slice (some ⟨g, 0, none⟩) n n) n l) : CellsI w g l := by
  rcases h.2 with ⟨h', _⟩ | ⟨g', cap', cur, h', hb, hg, _, _, hs, ht⟩
  · simp at h'
  · simp only [Value.slice.injEq, Option.some.injEq, Addr.mk.injEq, and_true, true_and] at h'
    obtain ⟨rfl, rfl⟩ := h'
    rw [List.take_of_length_le (by rw [Array.length_toList, hs]; exact Nat.le_refl _)] at ht
    subst ht
    unfold CellsI; rw [hg]
theorem iv_replicate (n : Nat) : (madeCells #[Value.int .i64 0] n).toList = iv (List.replicate n 0) := by
  rw [toList_madeCells_one]
  simp [iv]
theorem iv_get (zs : List Nat) (k : Nat) (h : k < zs.length) : (iv zs)[k]? = some (.int .i64 (zs.getD k 0 : Nat)) := by
  simp [iv, List.getD_eq_getElem?_getD, List.getElem?_eq_getElem h]
theorem iv_set (zs : List Nat) (i n : Nat) : (iv zs).set i (.int .i64 (n : Int)) = iv (zs.set i n) := by simp [iv, List.map_set]
theorem CellsI.digs {w : World} {g : Nat} {zs : List Nat} (h : CellsI w g (iv zs)) (h0 : zs ≠ []) : Digs w (.slice (some ⟨g, 0, none⟩) zs.length zs.length) zs :=
  .inr ⟨g, _, rfl, h0, h.lt, fun k hk => by rw [h.cell, iv_get zs k hk]⟩

theorem vl_set : ∀ (zs : List Nat) (k v : Nat), k < zs.length → vl 10 (zs.set k v) + 10 ^ k * zs.getD k 0 = vl 10 zs + 10 ^ k * v
  | [], k, v, h => by simp at h
  | z :: zs, 0, v, h => by simp [vl]; omega
  | z :: zs, k + 1, v, h => by
    have ih := vl_set zs k v (by simpa using h)
    simp only [List.set_cons_succ, vl, List.getD_cons_succ, Nat.pow_succ]
    rw [Nat.mul_comm (10 ^ k) 10, Nat.mul_assoc, Nat.mul_assoc]
    omega

structure MulOut (xs ys : List Nat) (i : Nat) (zs : List Nat) : Prop where
  len : zs.length = xs.length + ys.length + 1
  lt : ∀ d ∈ zs, d < 10
  val : vl 10 zs = vl 10 (xs.take i) * vl 10 ys
structure MulIn (z0 : Nat) (N x : Nat) (ys : List Nat) (i j c : Nat) (zs : List Nat) : Prop where
  len : zs.length = N
  lt : ∀ d ∈ zs, d < 10
  carry : c ≤ 9
  val : vl 10 zs + 10 ^ (i + j) * c = z0 + 10 ^ i * (x * vl 10 (ys.take j))
theorem MulOut.start (xs ys : List Nat) : MulOut xs ys 0 (List.replicate (xs.length + ys.length + 1) 0) :=
  ⟨by simp, fun d h => by rw [(List.mem_replicate.1 h).2]; decide, by rw [vl_zeros]; simp [vl]⟩
theorem MulIn.start {xs ys zs : List Nat} {i x : Nat} (h : MulOut xs ys i zs) : MulIn (vl 10 zs) (xs.length + ys.length + 1) x ys i 0 0 zs :=
  ⟨h.len, h.lt, by omega, by simp [vl]⟩
theorem MulIn.step {z0 N x i j c : Nat} {ys zs : List Nat} (h : MulIn z0 N x ys i j c zs) (hij : i + j < N) (hx : x < 10) (hy : ∀ d ∈ ys, d < 10) :
    MulIn z0 N x ys i (j + 1) ((zs.getD (i + j) 0 + x * ys.getD j 0 + c) / 10) (zs.set (i + j) ((zs.getD (i + j) 0 + x * ys.getD j 0 + c) % 10)) := by
  have h1 := getD_lt zs h.lt (i + j)
  have h2 := getD_lt ys hy j
  have h3 := h.carry
  have hm : x * ys.getD j 0 ≤ 9 * 9 := Nat.mul_le_mul (by omega) (by omega)
  refine ⟨by rw [List.length_set, h.len], fun d hd => ?_, by omega, ?_⟩
  · rcases List.mem_or_eq_of_mem_set hd with hd | hd
    · exact h.lt d hd
    · rw [hd]; omega
  · have e := h.val
    have s := vl_set zs (i + j) ((zs.getD (i + j) 0 + x * ys.getD j 0 + c) % 10) (by rw [h.len]; exact hij)
    rw [vl_take_succ]
    have hd := Nat.div_add_mod (zs.getD (i + j) 0 + x * ys.getD j 0 + c) 10
    have e2 : 10 ^ i * (x * (vl 10 (ys.take j) + 10 ^ j * ys.getD j 0)) = 10 ^ i * (x * vl 10 (ys.take j)) + 10 ^ (i + j) * (x * ys.getD j 0) := by
      rw [Nat.mul_add, Nat.mul_add, Nat.pow_add, Nat.mul_assoc (10 ^ i), Nat.mul_left_comm x]
    rw [e2, show i + (j + 1) = i + j + 1 from rfl, Nat.pow_succ]
    generalize vl 10 (zs.set (i + j) ((zs.getD (i + j) 0 + x * ys.getD j 0 + c) % 10)) = V at *
    generalize zs.getD (i + j) 0 = p at *
    generalize x * ys.getD j 0 = q at *
    generalize 10 ^ i * (x * vl 10 (ys.take j)) = W at *
    generalize 10 ^ (i + j) = P at *
    generalize (p + q + c) / 10 = u at *
    generalize (p + q + c) % 10 = v at *
    have e1 : P * 10 * u + P * v = P * (p + q + c) := by rw [← hd, Nat.mul_add, Nat.mul_assoc]
    rw [Nat.mul_add, Nat.mul_add] at e1
    omega
theorem MulIn.fin {xs ys zs ws : List Nat} {i c : Nat} (h0 : MulOut xs ys i zs) (hi : i < xs.length) (h : MulIn (vl 10 zs) (xs.length + ys.length + 1) (xs.getD i 0) ys i (ys.length + 1) c ws) (hx : ∀ d ∈ xs, d < 10) (hy : ∀ d ∈ ys, d < 10) : MulOut xs ys (i + 1) ws := by
  refine ⟨h.len, h.lt, ?_⟩
  have e := h.val
  rw [h0.val, List.take_of_length_le (l := ys) (by omega)] at e
  have e2 : vl 10 (xs.take (i + 1)) * vl 10 ys = vl 10 (xs.take i) * vl 10 ys + 10 ^ i * (xs.getD i 0 * vl 10 ys) := by
    rw [vl_take_succ, Nat.add_mul, Nat.mul_assoc]
  rw [← e2] at e
  have a1 := vl_lt 10 (xs.take (i + 1)) (fun d hd => hx d (List.mem_of_mem_take hd))
  have a2 := vl_lt 10 ys hy
  rw [List.length_take, Nat.min_eq_left (by omega)] at a1
  have a3 : vl 10 (xs.take (i + 1)) * vl 10 ys < 10 ^ (i + (ys.length + 1)) := by
    have h1 : vl 10 (xs.take (i + 1)) * vl 10 ys ≤ 10 ^ (i + 1) * vl 10 ys := Nat.mul_le_mul_right _ (Nat.le_of_lt a1)
    have h2 : 10 ^ (i + 1) * vl 10 ys < 10 ^ (i + 1) * 10 ^ ys.length := Nat.mul_lt_mul_of_pos_left a2 (Nat.pow_pos (by decide))
    rw [← Nat.pow_add, show i + 1 + ys.length = i + (ys.length + 1) by omega] at h2
    omega
  have : c = 0 := by
    rcases Nat.eq_zero_or_pos c with h0 | h0
    · exact h0
    · have := Nat.mul_le_mul_left (10 ^ (i + (ys.length + 1))) h0
      omega
  subst this
  omega

set_option maxRecDepth 100000 in
set_option maxHeartbeats 4000000 in
theorem rmul_num (a b : ByteArray) (w : World) (na : numB a = true) (nb : numB b = true) :
    Calls Tryd.prog 25 #[.string a, .string b] w (ValPost (mulV a b) w) := by
  obtain ⟨i0, hi, hz0, hz1, hz2⟩ := info_parts info_int
  have va := rvalid_any a w (maxLen_ok na)
  have vb := rvalid_any b w (maxLen_ok nb)
  rw [na] at va
  rw [nb] at vb
  have VA := Lib.hid va; have VB := Lib.hid vb
  have D1 := Lib.hid (fun w => digits_any a w na)
  have D2 := Lib.hid (fun w => digits_any b w nb)
  have HV := Lib.hid (show mulV a b = limV (vl 10 (dg10 a) * vl 10 (dg10 b)) by unfold mulV; rw [na, nb, dg10_val, dg10_val]; rfl)
  have hx := dg10_lt a na
  have hy := dg10_lt b nb
  have sa := num_size a na
  have sb := num_size b nb
  have la := dg10_len a
  have lb := dg10_len b
  clear va vb na nb
  generalize dg10 a = xs at *
  generalize dg10 b = ys at *
  have HX := Lib.hid hx; have HY := Lib.hid hy
  have lx1 : 1 ≤ xs.length := by omega
  have lx2 : xs.length ≤ 1000 := by omega
  have ly1 : 1 ≤ ys.length := by omega
  have ly2 : ys.length ≤ 1000 := by omega
  clear hx hy sa sb la lb
  go_enter Tryd.func25, Tryd.ntmps25
  go_wp2_with fail
  refine VA.out.mono ?_
  rintro e w' ⟨rfl, rfl⟩
  go_wp2_with fail
  refine VB.out.mono ?_
  rintro e w' ⟨rfl, rfl⟩
  go_wp2_with fail
  refine (D1.out _).mono ?_
  rintro e w1 ⟨v1, rfl, hr1, hb1⟩
  obtain ⟨g1, c1, rfl⟩ := hr1.form
  have R1 := Lib.hid hr1; have B1 := Lib.hid hb1
  clear hr1 hb1
  go_wp2_with fail
  refine (D2.out _).mono ?_
  rintro e w2 ⟨v2, rfl, hr2, hb2⟩
  obtain ⟨g2, c2, rfl⟩ := hr2.form
  have R1' := Lib.hid (R1.out.below hb2)
  have R2 := Lib.hid hr2
  have B2 := Lib.hid (B1.out.trans (hb2.mono B1.out.size))
  clear hr2 hb2 R1 B1 VA VB D1 D2
  go_wp2_with (at_make; refine wpList_make_full _ rfl _ _ 38 rfl w2.heap.size 3 i0 (.int .i64 0) 1 Tryd.underlying38 hi hz0 hz1 _ _ _ _ (xs.length + ys.length + 1) rfl rfl ?c0 ?c1 ?c2 (by unfold maxLen; omega) (Nat.le_refl _) ?_)
  case c0 => omega
  case c1 => omega
  case c2 => first | omega | (rw [hz2]; omega)
  intro w3 hown hgr
  rw [iv_replicate] at hown
  have HC0 := Lib.hid (CellsI.of_full hown)
  have HG := Lib.hid hgr
  clear hown hgr
  go_wp2
  go_loopw [9] (fun i wr => ∃ (k : Nat) (zs : List Nat), i = .int .i64 k ∧ k ≤ xs.length ∧ MulOut xs ys k zs ∧ CellsI wr w2.heap.size (iv zs) ∧ w2.grownBy wr none) (fun i _ => xs.length - (intOf i).toNat)
  case atStart => exact ⟨0, _, rfl, by omega, MulOut.start xs ys, HC0.out, HG.out⟩
  case round =>
    obtain ⟨k, zs, rfl, hk, hinv, hcr, hgr⟩ := hrel
    have HINV := Lib.hid hinv; have HCR := Lib.hid hcr; have HGR := Lib.hid hgr
    clear hinv hcr hgr
    by_cases hlt : k < xs.length
    · generalize wr = w4 at *
      go_wp2
      go_loopw [10, 11] (fun cc jj wr => ∃ (j c : Nat) (ws : List Nat), jj = .int .i64 j ∧ cc = .int .i64 c ∧ j ≤ ys.length + 1 ∧ MulIn (vl 10 zs) (xs.length + ys.length + 1) (xs.getD k 0) ys k j c ws ∧ CellsI wr w2.heap.size (iv ws) ∧ w2.grownBy wr none) (fun _ jj _ => ys.length + 1 - (intOf jj).toNat)
      case atStart => exact ⟨0, 0, zs, rfl, rfl, by omega, MulIn.start HINV.out, HCR.out, HGR.out⟩
      case round =>
        obtain ⟨j, c, ws, rfl, rfl, hj, hin, hcr, hgr⟩ := hrel
        by_cases hlj : j ≤ ys.length
        · have hwl := hin.len
          have hcell : wr.cell? ⟨w2.heap.size, k + j, none⟩ = some (.int .i64 (ws.getD (k + j) 0 : Nat)) := by rw [hcr.cell, iv_get _ _ (by omega)]
          have hfree := hcr.free (k + j)
          have hdx : wr.cell? ⟨g1, k, none⟩ = some (.int .i64 (xs.getD k 0 : Nat)) := by
            rcases R1'.out.1 with ⟨_, h0⟩ | ⟨g, cap, hv, _, hg, hc⟩
            · exact absurd h0 R1'.out.2
            · simp only [Value.slice.injEq, Option.some.injEq, Addr.mk.injEq, and_true, true_and] at hv
              obtain ⟨rfl, _⟩ := hv
              have := hc k hlt
              rw [← this]
              exact World.cell?_of_block (hgr.block g1 hg (by simp))
          have hat := fun n => at_any (.slice (some ⟨g2, 0, none⟩) ys.length c2) ys j (wr.drewN n) (by
            refine ⟨?_, R2.out.2⟩
            rcases R2.out.1 with ⟨_, h0⟩ | ⟨g, cap, hv, h0, hg, hc⟩
            · exact absurd h0 R2.out.2
            · exact .inr ⟨g, cap, hv, h0, Nat.lt_of_lt_of_le hg hgr.size, fun q hq => (World.cell?_of_block (hgr.block g hg (by simp))).trans (hc q hq)⟩) (by omega)
          have hx10 := getD_lt xs HX.out k
          have hy10 := getD_lt ys HY.out j
          have hw10 := getD_lt ws hin.lt (k + j)
          have hc9 := hin.carry
          have hm81 : xs.getD k 0 * ys.getD j 0 ≤ 9 * 9 := Nat.mul_le_mul (by omega) (by omega)
          have hstep := hin.step (by omega) hx10 HY.out
          have hset := hcr.set (k + j) (.int .i64 ((ws.getD (k + j) 0 + xs.getD k 0 * ys.getD j 0 + c) % 10 : Nat))
          rw [iv_set] at hset
          generalize ws.getD (k + j) 0 = p at *
          generalize xs.getD k 0 = x at *
          generalize ys.getD j 0 = y at *
          have hmul : IntKind.i64.wrap ((x : Int) * (y : Int)) = ((x * y : Nat) : Int) := by
            rw [← Int.natCast_mul]
            exact IntWalk.i64_in _ ⟨by omega, by omega⟩
          generalize x * y = m at *
          rw [show (((p + m + c) % 10 : Nat) : Int) = ((p : Int) + m + c) % 10 by omega] at hset
          have HE2 := Lib.hid (show ((p : Int) + m + c) / 10 = (((p + m + c) / 10 : Nat) : Int) by omega)
          have HST := Lib.hid hstep; have HSET := Lib.hid hset; have HGR2 := Lib.hid hgr; have HAT := Lib.hid hat
          clear hin hcr hgr hstep hset hat hwl
          have p0 : (0 : Int) ≤ (p : Int) := by omega
          have p1 : (p : Int) < 10 := by omega
          have m0 : (0 : Int) ≤ (m : Int) := by omega
          have m1 : (m : Int) ≤ 81 := by omega
          have c0 : (0 : Int) ≤ (c : Int) := by omega
          have c9 : (c : Int) ≤ 9 := by omega
          have i0 : (0 : Int) ≤ (k : Int) + (j : Int) := by omega
          have i1 : (k : Int) + (j : Int) < ((xs.length + ys.length + 1 : Nat) : Int) := by omega
          have i2 : (0 : Int) ≤ (k : Int) := by omega
          have i3 : (k : Int) < (xs.length : Int) := by omega
          have i4 : IntKind.i64.wrap ((k : Int) + (j : Int)) = (k : Int) + (j : Int) := IntWalk.i64_in _ ⟨by omega, by omega⟩
          clear hx10 hy10 hw10 hc9 hm81
          go_wp2
          go_quiet ((go_at_call 40; exact Calls.quiet_of_same ((HAT.out _).mono fun _ _ h => ⟨h.1, h.2.symm⟩)))
          go_wp2
          go_roundw
          case rel => exact ⟨j + 1, (p + m + c) / 10, _, by go_num, congrArg (Value.int .i64) HE2.out, by omega, HST.out, HSET.out, grown_step (g := w2.heap.size) HGR2.out (grown_trans (grown_drewN wr _ nq) (grown_setCell (wr.drewN nq) ⟨w2.heap.size, k + j, none⟩ _)) (Nat.le_refl _)⟩
          case measure => simp [intOf]; omega
        · obtain rfl : j = ys.length + 1 := by omega
          have HN := Lib.hid (MulIn.fin HINV.out hlt hin HX.out HY.out)
          have HC1 := Lib.hid hcr
          have HG1 := Lib.hid hgr
          clear hin hcr hgr
          go_wp2
          go_roundw
          case rel => exact ⟨k + 1, ws, by go_num, by omega, HN.out, HC1.out, HG1.out⟩
          case measure => simp [intOf]; omega
    · obtain rfl : k = xs.length := by omega
      have hne : zs ≠ [] := by intro e; have := HINV.out.len; rw [e] at this; simp at this
      have hl := HINV.out.len
      have HT0 := text_any _ zs wr (HCR.out.digs hne) HINV.out.lt (by omega)
      rw [hl, HINV.out.val, List.take_of_length_le (Nat.le_refl _)] at HT0
      have hnd := vl_digits zs HINV.out.lt
      rw [HINV.out.val, List.take_of_length_le (Nat.le_refl _)] at hnd
      have HT := Lib.hid HT0
      have HL := Lib.hid (fun w => limited_any (vl 10 xs * vl 10 ys) w (by omega))
      clear HT0 hnd hne hl
      go_wp2_with fail
      refine HT.out.mono ?_
      rintro e w5 ⟨rfl, hb3⟩
      have BB := Lib.hid (grown_trans (grown_trans (grown_below B2.out) (show w2.grownBy wr none from HGR.out) |> fun h => h) (grown_below hb3))
      clear hb3
      go_wp2_with fail
      refine (HL.out _).mono ?_
      rintro e w' ⟨he, rfl⟩
      rcases limV_form (vl 10 xs * vl 10 ys) with ⟨S, E, hS⟩
      have hav : mulV a b = .tuple #[.string S, .int .i64 E] := by rw [HV.out, hS]
      rw [hS] at he
      subst he
      have HAV := Lib.hid hav
      clear hav hS
      go_wp2
      go_ret2
      rw [HAV.out]
      exact ⟨rfl, BB.out⟩

theorem rmul_bad_a (a b : ByteArray) (w : World) (ha : a.size ≤ maxLen) (hb : b.size ≤ maxLen) (na : numB a = false) :
    Calls Tryd.prog 25 #[.string a, .string b] w (ValPost (mulV a b) w) := by
  have HV := Lib.hid (show mulV a b = .tuple #[.string ⟨#[]⟩, .int .i64 1] by unfold mulV; rw [na]; rfl)
  have va := rvalid_any a w ha
  have vb := rvalid_any b w hb
  rw [na] at va
  have VA := Lib.hid va; have VB := Lib.hid vb
  clear va vb ha hb na
  go_enter Tryd.func25, Tryd.ntmps25
  go_wp2_with fail
  refine VA.out.mono ?_
  rintro e w' ⟨rfl, rfl⟩
  go_wp2
  go_ret2
  rw [HV.out]
  exact ⟨rfl, grown_refl _ _⟩

theorem rmul_bad_b (a b : ByteArray) (w : World) (ha : a.size ≤ maxLen) (hb : b.size ≤ maxLen) (na : numB a = true) (nb : numB b = false) :
    Calls Tryd.prog 25 #[.string a, .string b] w (ValPost (mulV a b) w) := by
  have HV := Lib.hid (show mulV a b = .tuple #[.string ⟨#[]⟩, .int .i64 1] by unfold mulV; rw [na, nb]; rfl)
  have va := rvalid_any a w ha
  have vb := rvalid_any b w hb
  rw [na] at va
  rw [nb] at vb
  have VA := Lib.hid va; have VB := Lib.hid vb
  clear va vb ha hb na nb
  go_enter Tryd.func25, Tryd.ntmps25
  go_wp2_with fail
  refine VA.out.mono ?_
  rintro e w' ⟨rfl, rfl⟩
  go_wp2_with fail
  refine VB.out.mono ?_
  rintro e w' ⟨rfl, rfl⟩
  go_wp2
  go_ret2
  rw [HV.out]
  exact ⟨rfl, grown_refl _ _⟩

theorem rmul_any (a b : ByteArray) (w : World) (ha : a.size ≤ maxLen) (hb : b.size ≤ maxLen) :
    Calls Tryd.prog 25 #[.string a, .string b] w (ValPost (mulV a b) w) := by
  cases na : numB a
  · exact rmul_bad_a a b w ha hb na
  cases nb : numB b
  · exact rmul_bad_b a b w ha hb na nb
  exact rmul_num a b w na nb

end Go.Proofs.YtlkjfhidicgjiaaDoor
