/- sum, product. -/
import Derived.Test.YtlkjfhidicgjiaaDoorWe
import Derived.Laws.CopyOwn
set_option linter.unusedVariables false
set_option linter.unusedSimpArgs false
namespace Go.Proofs.YtlkjfhidicgjiaaDoor
open Go.RowKit

theorem no_carry (P z c S : Nat) (h : z + P * c = S) (hS : S < P) : c = 0 ∧ z = S := by
  rcases Nat.eq_zero_or_pos c with rfl | hc
  · simp at h; exact ⟨rfl, h⟩
  · have : P * 1 ≤ P * c := Nat.mul_le_mul_left _ hc
    omega
theorem vl_pad (B : Nat) (xs : List Nat) (n : Nat) : vl B (xs ++ List.replicate n 0) = vl B xs := by rw [vl_append, vl_zeros]; simp
theorem mem_pad {B n : Nat} {xs : List Nat} (hB : 0 < B) (hx : ∀ x ∈ xs, x < B) : ∀ x ∈ xs ++ List.replicate n 0, x < B := by
  intro x h
  rcases List.mem_append.1 h with h | h
  · exact hx x h
  · rw [(List.mem_replicate.1 h).2]; exact hB

/-- A fresh row of blocks with this value. -/
def NumPost (n m : Nat) (w : World) (e : Ending) (w' : World) : Prop :=
  ∃ g zs, e = .returned (.slice (some ⟨g, 0, none⟩) zs.length zs.length) ∧ Blks w.heap.size w' (.slice (some ⟨g, 0, none⟩) zs.length zs.length) zs ∧
    (∀ z ∈ zs, z < 1000000000) ∧ vl 1000000000 zs = n ∧ zs.length ≤ m ∧ w.grownBy w' none

theorem sum_math (xs ys : List Nat) (hx : ∀ x ∈ xs, x < 1000000000) (hy : ∀ y ∈ ys, y < 1000000000) (n : Nat) (hn : n = max xs.length ys.length + 1) :
    (∀ z ∈ (comb (addT 1) (xs ++ List.replicate (n - xs.length) 0) ys 0 n).1, z < 1000000000) ∧ vl 1000000000 (comb (addT 1) (xs ++ List.replicate (n - xs.length) 0) ys 0 n).1 = vl 1000000000 xs + vl 1000000000 ys := by
  obtain ⟨h1, h2, h3⟩ := comb_add 1 (xs ++ List.replicate (n - xs.length) 0) ys (by decide) (mem_pad (by decide) hx) hy 0 (by decide) n
  refine ⟨h1, ?_⟩
  rw [List.take_of_length_le (by simp; omega), List.take_of_length_le (by omega), vl_pad, Nat.one_mul, Nat.add_zero] at h3
  have a1 := vl_lt 1000000000 xs hx
  have a2 := vl_lt 1000000000 ys hy
  have b1 : (1000000000 : Nat) ^ xs.length ≤ 1000000000 ^ (n - 1) := Nat.pow_le_pow_right (by decide) (by omega)
  have b2 : (1000000000 : Nat) ^ ys.length ≤ 1000000000 ^ (n - 1) := Nat.pow_le_pow_right (by decide) (by omega)
  have b3 : (1000000000 : Nat) ^ n = 1000000000 ^ (n - 1) * 1000000000 := by rw [← Nat.pow_succ]; congr 1; omega
  exact (no_carry _ _ _ _ h3 (by omega)).2

theorem splice_pad (xs : List Nat) (n : Nat) (h : xs.length ≤ n) : splice (uv (List.replicate n 0)) 0 (uv xs) = uv (xs ++ List.replicate (n - xs.length) 0) := by
  unfold splice
  rw [uv_append]
  simp [uv, h]

theorem add_plain (g j : Nat) : (⟨g, 0, none⟩ : Addr).add j = ⟨g, j, none⟩ := by unfold Addr.add; split <;> simp_all
theorem uv_one (xs : List Nat) : ∀ v ∈ uv xs, v.oneCell' = true := by
  intro v hv
  unfold uv at hv
  obtain ⟨n, _, rfl⟩ := List.mem_map.1 hv
  rfl

theorem copy_run (w : World) (g gx cx m : Nat) (xs : List Nat) (post : List Value) (hg : Cells w g (uv (List.replicate m 0))) (hx : Cells w gx (uv xs ++ post)) (hle : xs.length ≤ m) :
    ∃ w', (Builtin.copy_ #[43, 43] 3 #[.slice (some ⟨g, 0, none⟩) m m, .slice (some ⟨gx, 0, none⟩) xs.length cx]).run Tryd.prog w = .ok (.int .i64 (xs.length : Nat)) w' ∧ Cells w' g (uv (xs ++ List.replicate (m - xs.length) 0)) ∧ w.grownBy w' (some g) := by
  have hrun := run_copy_row (P := Tryd.prog) w 43 43 3 22 g 0 m m ⟨gx, 0, none⟩ xs.length cx (uv (List.replicate m 0)).toArray 22 (uv xs) Tryd.underlying43 (by kernel_rfl) hg
      (by rw [uv_length]; exact (Nat.min_eq_left (by omega)).symm) (fun j v hj => by
        rw [add_plain, hx.cell, List.getElem?_append_left (List.getElem?_eq_some_iff.1 hj).1]; exact hj) (by simp [uv]; omega) (uv_one xs)
  rw [uv_length] at hrun
  refine ⟨w.setRow g _, hrun, ?_, ⟨rfl, rfl, rfl, by simp [World.setRow], fun k hk hne => setRow_other w g k _ (fun e => hne (by rw [e]))⟩⟩
  unfold Cells
  rw [setRow_heap w g _ _ _ _ hg]
  have := splice_pad xs m hle
  unfold splice at this
  rw [← this]
  simp [uv]

set_option maxRecDepth 20000 in
set_option maxHeartbeats 1000000 in
theorem sum_any (gx cx : Nat) (xs ys : List Nat) (vy : Value) (w : World) (hxb : Blks 0 w (.slice (some ⟨gx, 0, none⟩) xs.length cx) xs) (hyb : Blks 0 w vy ys)
    (hx : ∀ x ∈ xs, x < 1000000000) (hy : ∀ y ∈ ys, y < 1000000000) (hnx : xs.length ≤ 10000) (hny : ys.length ≤ 10000) :
    Calls Tryd.prog 37 #[.slice (some ⟨gx, 0, none⟩) xs.length cx, vy] w (NumPost (vl 1000000000 xs + vl 1000000000 ys) (max xs.length ys.length + 1) w) := by
  obtain ⟨i0, hi, hz0, hz1, hz2⟩ := info_parts info_u64
  obtain ⟨A, capy, hvy, hrdy⟩ := blks_shape hyb
  obtain ⟨_, _, _, hcx, post, hcells, _⟩ := hxb.cells
  obtain ⟨m, hm⟩ : ∃ m, max xs.length ys.length = m := ⟨_, rfl⟩
  have hmx : xs.length ≤ m := by omega
  have hmy : ys.length ≤ m := by omega
  have hm2 : m ≤ 10000 := by omega
  have hsm := sum_math xs ys hx hy (m + 1) (by rw [hm])
  have hgx := hcells.lt
  rw [hm]
  have hlen : (xs ++ List.replicate (m + 1 - xs.length) 0).length = m + 1 := by rw [List.length_append, List.length_replicate]; omega
  have hadd := fun (w' : World) (hg : Cells w' w.heap.size (uv (xs ++ List.replicate (m + 1 - xs.length) 0))) (hb : Blks 0 w' (.slice A ys.length capy) ys) =>
    addTimes_any 1 w.heap.size (m + 1) [] [] (xs ++ List.replicate (m + 1 - xs.length) 0) ys (.slice A ys.length capy) w' (by decide) (mem_pad (by decide) hx) hy (by omega) (by simp) (by omega) (by unfold maxLen; omega) (by simpa using hg) hb
      (fun e => by have := (hyb.lt w.heap.size (by rw [hvy]; exact e)).2; omega)
  rw [hlen] at hadd
  have hcl := comb_length (addT 1) (xs ++ List.replicate (m + 1 - xs.length) 0) ys 0 (m + 1)
  have hsp : xs ++ List.replicate (m + 1 - xs.length) 0 = xs ++ List.replicate (m + 1 - xs.length) 0 := rfl
  generalize comb (addT 1) (xs ++ List.replicate (m + 1 - xs.length) 0) ys 0 (m + 1) = q at *
  obtain ⟨xp, hxp⟩ : ∃ xp, xs ++ List.replicate (m + 1 - xs.length) 0 = xp := ⟨_, rfl⟩
  clear hsp
  have hsp := hxp
  rw [hxp] at hlen
  simp only [hxp] at hadd
  clear hxp
  subst hvy
  have hsz : (Tryd.prog.info? 22).map (·.size) = some 1 := by kernel_rfl
  have huvl := uv_length xs
  have HM := Lib.hid hm; have HS := Lib.hid hsm; have HX := Lib.hid hx; have HY := Lib.hid hy; have HYB := Lib.hid hyb; have HC := Lib.hid hcells; have HLEN := Lib.hid hlen; have HADD := Lib.hid hadd; have HCL := Lib.hid hcl; have HSP := Lib.hid hsp; have HUL := Lib.hid huvl
  clear hm hsm hx hy hyb hcells hxb hlen hadd hcl hsp huvl
  unfold maxLen at hcx
  rcases Nat.lt_or_ge xs.length ys.length with hxy | hxy
  all_goals
    go_enter Tryd.func37, Tryd.ntmps37
    go_wp2_with (at_make; refine wpList_make_full _ rfl _ _ 43 rfl w.heap.size 22 i0 (.int .u64 0) 1 Tryd.underlying43 hi hz0 hz1 _ _ _ _ (m + 1) rfl rfl ?c0 ?c1 ?c2 (by unfold maxLen; omega) (Nat.le_refl _) ?_)
    case c0 => have := HM.out; omega
    case c1 => have := HM.out; omega
    case c2 => first | omega | (rw [hz2]; omega)
    intro w1 hown hgr
    rw [uv_replicate] at hown
    have hc0 := (Cells.of_full hown).1
    have hcx1 : Cells w1 gx (uv xs ++ post) := HC.out.grown hgr (by simp)
    have HG := Lib.hid hgr; have HC0 := Lib.hid hc0; have HCX := Lib.hid hcx1
    clear hown hgr hc0 hcx1
    obtain ⟨w2, hrun, hc2, hg2⟩ := copy_run w1 w.heap.size gx cx (m + 1) xs post HC0.out HCX.out (by omega)
    have h9 := HADD.out w2 (by rw [← HSP.out]; exact hc2) ((HYB.out.grown HG.out (by simp)).grown hg2 (fun g e => by have := (HYB.out.lt g e).2; simp; omega))
    have H9 := Lib.hid h9; have HG2 := Lib.hid hg2
    clear hc2 hg2 h9
    go_wp2_with fail
    refine H9.out.mono ?_
    rintro e w3 ⟨rfl, hc3, hg3⟩
    have HC3 := Lib.hid hc3; have HG3 := Lib.hid hg3
    clear hc3 hg3
    go_wp2
    go_ret
    have hcl := HCL.out
    obtain ⟨hs1, hs2⟩ := HS.out
    have hc3 := HC3.out
    simp only [List.nil_append, List.append_nil] at hc3
    refine ⟨w.heap.size, q.1, by rw [hcl]; rfl, Blks.of_cells hc3 (Nat.le_refl _) (uv_length _) (by rw [hcl]; unfold maxLen; omega) (by rw [List.take_of_length_le (by rw [uv_length]; exact Nat.le_refl _)]) (Nat.le_refl _), hs1, hs2, by rw [hcl]; exact Nat.le_refl _, grown_step (g := w.heap.size) (grown_step (g := w.heap.size) HG.out HG2.out (Nat.le_refl _)) HG3.out (Nat.le_refl _)⟩

theorem vl_zero_above (xs : List Nat) (k : Nat) (hk : k ≤ xs.length) (hz : ∀ j, k ≤ j → xs.getD j 0 = 0) : vl 1000000000 (xs.drop k) = 0 := by
  have e : xs.drop k = List.replicate (xs.length - k) 0 := by
    apply List.ext_getElem?
    intro j
    rw [List.getElem?_drop, List.getElem?_replicate]
    by_cases hj : j < xs.length - k
    · rw [if_pos hj]
      have := hz (k + j) (by omega)
      rw [List.getD_eq_getElem?_getD, List.getElem?_eq_getElem (by omega)] at this
      rw [List.getElem?_eq_getElem (by omega)]
      exact congrArg some this
    · rw [if_neg hj, List.getElem?_eq_none (by omega)]
  rw [e, vl_zeros]

/-- One round of the product: x_k times y added at place k. -/
structure ProdInv (xs ys : List Nat) (k : Nat) (zs : List Nat) : Prop where
  length : zs.length = xs.length + ys.length
  lt : ∀ z ∈ zs, z < 1000000000
  val : vl 1000000000 zs = vl 1000000000 (xs.take k) * vl 1000000000 ys
  zero : ∀ j, k + ys.length ≤ j → zs.getD j 0 = 0
theorem ProdInv.start (xs ys : List Nat) : ProdInv xs ys 0 (List.replicate (xs.length + ys.length) 0) :=
  ⟨by simp, fun z hz => by rw [(List.mem_replicate.1 hz).2]; decide, by rw [vl_zeros]; simp [vl], fun j _ => getD_replicate _ _⟩

theorem ProdInv.step {xs ys zs : List Nat} {k : Nat} (h : ProdInv xs ys k zs) (hk : k < xs.length) (hx : ∀ x ∈ xs, x < 1000000000) (hy : ∀ y ∈ ys, y < 1000000000) (q : List Nat × Nat)
    (hq : q = comb (addT (xs.getD k 0)) ((zs.drop k).take (ys.length + 1)) ys 0 (ys.length + 1)) :
    ProdInv xs ys (k + 1) (zs.take k ++ q.1 ++ zs.drop (k + (ys.length + 1))) := by
  have hl := h.length
  have hxk := getD_mem_lt 1000000000 (by decide) xs hx k
  have hpl : ((zs.drop k).take (ys.length + 1)).length = ys.length + 1 := by rw [List.length_take, List.length_drop]; omega
  have hpm : ∀ z ∈ (zs.drop k).take (ys.length + 1), z < 1000000000 := fun z hz => h.lt z (List.mem_of_mem_drop (List.mem_of_mem_take hz))
  obtain ⟨c1, c2, c3⟩ := comb_add (xs.getD k 0) ((zs.drop k).take (ys.length + 1)) ys (by omega) hpm hy 0 (by decide) (ys.length + 1)
  have c4 := comb_length (addT (xs.getD k 0)) ((zs.drop k).take (ys.length + 1)) ys 0 (ys.length + 1)
  rw [← hq] at c1 c2 c3 c4
  rw [List.take_of_length_le (by rw [hpl]; exact Nat.le_refl _), List.take_of_length_le (by omega : ys.length ≤ ys.length + 1), Nat.add_zero] at c3
  -- the part's highest block is 0
  have htop : ((zs.drop k).take (ys.length + 1)).getD ys.length 0 = 0 := by
    rw [List.getD_eq_getElem?_getD, List.getElem?_take, if_pos (by omega), List.getElem?_drop, ← List.getD_eq_getElem?_getD]
    exact h.zero _ (by omega)
  have hpv : vl 1000000000 ((zs.drop k).take (ys.length + 1)) < 1000000000 ^ ys.length := by
    have e := vl_take_succ 1000000000 ((zs.drop k).take (ys.length + 1)) ys.length
    rw [htop, List.take_of_length_le (by rw [hpl]; exact Nat.le_refl _), Nat.mul_zero] at e
    have h2 := vl_lt 1000000000 (((zs.drop k).take (ys.length + 1)).take ys.length) (fun z hz => hpm z (List.mem_of_mem_take hz))
    rw [List.length_take, Nat.min_eq_left (by omega)] at h2
    omega
  have hyv := vl_lt 1000000000 ys hy
  have hxy : xs.getD k 0 * vl 1000000000 ys ≤ 999999999 * vl 1000000000 ys := Nat.mul_le_mul_right _ (by omega)
  obtain ⟨_, c5⟩ := no_carry _ _ _ _ c3 (by rw [Nat.pow_succ]; omega)
  simp only [Nat.add_zero] at c5
  have hdr : vl 1000000000 (zs.drop (k + (ys.length + 1))) = 0 := vl_zero_above zs _ (by omega) (fun j hj => h.zero j (by omega))
  have hsp1 := vl_split 1000000000 zs k (by omega)
  have hsp2 := vl_split 1000000000 (zs.drop k) (ys.length + 1) (by rw [List.length_drop]; omega)
  rw [List.drop_drop, hdr, Nat.mul_zero, Nat.add_zero] at hsp2
  refine ⟨?_, ?_, ?_, fun j hj => ?_⟩
  · rw [List.length_append, List.length_append, List.length_take, List.length_drop, c4]; omega
  · intro z hz
    rcases List.mem_append.1 hz with hz | hz
    · rcases List.mem_append.1 hz with hz | hz
      · exact h.lt z (List.mem_of_mem_take hz)
      · exact c1 z hz
    · exact h.lt z (List.mem_of_mem_drop hz)
  · rw [vl_append, vl_append, hdr, Nat.mul_zero, Nat.add_zero, c5, List.length_take, Nat.min_eq_left (by omega), ← hsp2, Nat.mul_add, ← Nat.add_assoc, ← hsp1, h.val, vl_take_succ, Nat.add_mul, Nat.mul_assoc]
  · rw [List.getD_eq_getElem?_getD, List.getElem?_append_right (by rw [List.length_append, List.length_take, c4]; omega), List.getElem?_drop, ← List.getD_eq_getElem?_getD]
    apply h.zero
    rw [List.length_append, List.length_take, c4]
    omega
theorem ProdInv.fin {xs ys zs : List Nat} (h : ProdInv xs ys xs.length zs) : vl 1000000000 zs = vl 1000000000 xs * vl 1000000000 ys := by
  have := h.val
  rw [List.take_length] at this
  exact this

set_option maxRecDepth 20000 in
set_option maxHeartbeats 2000000 in
theorem product_any (vx vy : Value) (xs ys : List Nat) (w : World) (hxb : Blks 0 w vx xs) (hyb : Blks 0 w vy ys)
    (hx : ∀ x ∈ xs, x < 1000000000) (hy : ∀ y ∈ ys, y < 1000000000) (hnx : xs.length ≤ 10000) (hny : ys.length ≤ 10000) :
    Calls Tryd.prog 45 #[vx, vy] w (NumPost (vl 1000000000 xs * vl 1000000000 ys) (xs.length + ys.length) w) := by
  obtain ⟨i0, hi, hz0, hz1, hz2⟩ := info_parts info_u64
  obtain ⟨A, capy, hvy, _⟩ := blks_shape hyb
  obtain ⟨Ax, capx, hvx, hrx⟩ := blks_read hxb
  subst hvx
  subst hvy
  have HX := Lib.hid hx; have HY := Lib.hid hy; have HYB := Lib.hid hyb; have HRX := Lib.hid hrx
  clear hx hy hyb hrx hxb
  go_enter Tryd.func45, Tryd.ntmps45
  go_wp2_with (at_make; refine wpList_make_full _ rfl _ _ 43 rfl w.heap.size 22 i0 (.int .u64 0) 1 Tryd.underlying43 hi hz0 hz1 _ _ _ _ (xs.length + ys.length) rfl rfl ?c0 ?c1 ?c2 (by unfold maxLen; omega) (Nat.le_refl _) ?_)
  case c0 => omega
  case c1 => omega
  case c2 => first | omega | (rw [hz2]; omega)
  intro w1 hown hgr
  rw [uv_replicate] at hown
  have hc0 := (Cells.of_full hown).1
  have HG := Lib.hid hgr; have HC0 := Lib.hid hc0
  clear hown hgr hc0
  go_wp2
  go_loopw [15] (fun i wr => ∃ (k : Nat) (zs : List Nat), i = .int .i64 k ∧ k ≤ xs.length ∧ ProdInv xs ys k zs ∧ Cells wr w.heap.size (uv zs) ∧ w.grownBy wr none) (fun i _ => xs.length - (intOf i).toNat)
  case atStart => exact ⟨0, _, rfl, by omega, ProdInv.start xs ys, HC0.out, HG.out⟩
  case round =>
    obtain ⟨k, zs, rfl, hk, hinv, hcr, hgr⟩ := hrel
    have hzl := hinv.length
    by_cases hlt : k < xs.length
    · obtain ⟨gx, rfl, hcell⟩ := HRX.out wr (fun i hi => hgr.block i hi (by simp)) k hlt
      have hyr : Blks 0 wr (.slice A ys.length capy) ys := HYB.out.grown hgr (by simp)
      have hstep := hinv.step hlt HX.out HY.out _ rfl
      have hxk := getD_mem_lt 1000000000 (by decide) xs HX.out k
      have hpl : ((zs.drop k).take (ys.length + 1)).length = ys.length + 1 := by rw [List.length_take, List.length_drop]; omega
      have hpr : (uv (zs.take k)).length = k := by rw [uv_length, List.length_take]; omega
      have hsplit : uv zs = uv (zs.take k) ++ uv ((zs.drop k).take (ys.length + 1)) ++ uv (zs.drop (k + (ys.length + 1))) := by
        rw [← uv_append, ← uv_append, ← List.drop_drop, List.append_assoc, List.take_append_drop, List.take_append_drop]
      have hcr2 := hcr
      rw [hsplit] at hcr2
      have hadd := addTimes_any (xs.getD k 0) w.heap.size (xs.length + ys.length - k) (uv (zs.take k)) (uv (zs.drop (k + (ys.length + 1)))) ((zs.drop k).take (ys.length + 1)) ys (.slice A ys.length capy) wr.drew (by omega)
        (fun z hz => hinv.lt z (List.mem_of_mem_drop (List.mem_of_mem_take hz))) HY.out (by omega) (by omega) (by omega) (by unfold maxLen; omega) hcr2 hyr (fun e => by have := (HYB.out.lt w.heap.size e).2; omega)
      rw [hpl, hpr] at hadd
      have HADD := Lib.hid hadd; have HST := Lib.hid hstep; have HGR := Lib.hid hgr; have HZL := Lib.hid hzl
      generalize comb (addT (xs.getD k 0)) ((zs.drop k).take (ys.length + 1)) ys 0 (ys.length + 1) = q at *
      generalize xs.getD k 0 = x at *
      clear hinv hcr hgr hyr hstep hpl hpr hsplit hcr2 hadd hzl
      have i1 : (0 : Int) ≤ (k : Int) := by omega
      have i2 : (k : Int) ≤ (k : Int) + (ys.length : Int) + 1 := by omega
      have i3 : (k : Int) + (ys.length : Int) + 1 ≤ ((xs.length + ys.length : Nat) : Int) := by omega
      have i4 : (k : Int) < (xs.length : Int) := by omega
      have i5 : decide (xs.length + ys.length = k) = false := by simp; omega
      have i6 : ¬ (xs.length + ys.length = k) := by omega
      have j1 : IntKind.i64.wrap ((k : Int) + (ys.length : Int)) = (k : Int) + (ys.length : Int) := IntWalk.i64_in _ (by omega)
      have j2 : IntKind.i64.wrap ((k : Int) + (ys.length : Int) + 1) = (k : Int) + (ys.length : Int) + 1 := IntWalk.i64_in _ (by omega)
      have j3 : k + ys.length + 1 - k = ys.length + 1 := by omega
      go_wp2
      go_region_with (go_at_call 51; refine HADD.out.mono ?_; rintro e w' ⟨rfl, hcg, hgg⟩; have HCG := Lib.hid hcg; have HGG := Lib.hid hgg; clear hcg hgg)
      all_goals
        clear j1 j2 j3 i5
        have hcg := HCG.out
        rw [← uv_append, ← uv_append] at hcg
        have HC2 := Lib.hid hcg
        clear hcg
        go_wp2
        go_roundw
        case rel => exact ⟨k + 1, _, by go_num, by omega, HST.out, HC2.out, grown_step (g := w.heap.size) HGR.out (grown_trans (grown_drew wr _) HGG.out) (Nat.le_refl _)⟩
        case measure => simp [intOf]; omega
    · have e : k = xs.length := by omega
      subst e
      have hf := hinv.fin
      have hl := hinv.lt
      have hb : Blks w.heap.size wr (.slice (some ⟨w.heap.size, 0, none⟩) zs.length zs.length) zs := Blks.of_cells hcr (Nat.le_refl _) (uv_length _) (by unfold maxLen; omega) (by rw [List.take_of_length_le (by rw [uv_length]; exact Nat.le_refl _)]) (Nat.le_refl _)
      have HF := Lib.hid hf; have HL := Lib.hid hl; have HB := Lib.hid hb; have HGR := Lib.hid hgr; have HZL := Lib.hid hzl
      clear hinv hf hl hb hgr hcr hzl
      go_wp2
      go_ret
      exact ⟨w.heap.size, zs, by rw [HZL.out]; rfl, HB.out, HL.out, HF.out, by rw [HZL.out]; exact Nat.le_refl _, HGR.out⟩
end Go.Proofs.YtlkjfhidicgjiaaDoor
