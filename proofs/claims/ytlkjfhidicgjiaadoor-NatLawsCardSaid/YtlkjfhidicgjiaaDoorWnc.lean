/- difference, later. -/
import Derived.Test.YtlkjfhidicgjiaaDoorWnb
set_option linter.unusedVariables false
set_option linter.unusedSimpArgs false
namespace Go.Proofs.YtlkjfhidicgjiaaDoor
open Go.RowKit

/-- A fresh row of blocks with this value, without a zero on top. -/
def DifPost (R n : Nat) (w : World) (e : Ending) (w' : World) : Prop :=
  ∃ g zs, e = .returned (.slice (some ⟨g, 0, none⟩) zs.length n) ∧ Blks w.heap.size w' (.slice (some ⟨g, 0, none⟩) zs.length n) zs ∧
    (∀ z ∈ zs, z < 1000000000) ∧ vl 1000000000 zs = R ∧ topOk zs ∧ zs.length ≤ n ∧ w.grownBy w' none
/-- The row while it is filled. -/
structure DifRow (f g : Nat) (xs ys : List Nat) (n k : Nat) (w wr : World) : Prop where
  row : Cells wr w.heap.size (uv ((dif f g xs ys k).1 ++ List.replicate (n - k) 0))
  gr : w.grownBy wr none
theorem DifRow.put {f g : Nat} {xs ys : List Nat} {n k : Nat} {w wr : World} (h : DifRow f g xs ys n k w wr) (hk : k < n) (hl : (dif f g xs ys k).1.length = k) {z : Nat} (hz : (dif f g xs ys (k + 1)).1 = (dif f g xs ys k).1 ++ [z]) :
    DifRow f g xs ys n (k + 1) w (wr.setCell ⟨w.heap.size, k, none⟩ (.int .u64 (z : Int))) := by
  refine ⟨?_, grown_step h.gr (grown_setCell _ _ _) (Nat.le_refl _)⟩
  have h1 := h.row.set k (.int .u64 (z : Int))
  rw [uv_set] at h1
  have e : ((dif f g xs ys k).1 ++ List.replicate (n - k) 0).set k z = (dif f g xs ys (k + 1)).1 ++ List.replicate (n - (k + 1)) 0 := by
    rw [hz, List.set_append_right _ _ (by omega), hl, Nat.sub_self, show n - k = (n - (k + 1)) + 1 by omega, List.replicate_succ, List.set_cons_zero, List.append_assoc]
    rfl
  rw [e] at h1
  exact h1

set_option maxRecDepth 20000 in
set_option maxHeartbeats 4000000 in
theorem difference_any (f g n R : Nat) (A1 A2 : Option Addr) (c1 c2 : Nat) (xs ys : List Nat) (w : World) (hsx : ∀ w1, w.grownBy w1 none → Sees w1 (.slice A1 xs.length c1) xs) (hsy : ∀ w1, w.grownBy w1 none → Sees w1 (.slice A2 ys.length c2) ys)
    (hf : f ≤ 1000000000) (hg : g ≤ 1000000000) (hx : ∀ x ∈ xs, x < 1000000000) (hy : ∀ y ∈ ys, y < 1000000000) (hm : max xs.length ys.length = n) (hn : n ≤ 10000)
    (hR : R + g * vl 1000000000 ys = f * vl 1000000000 xs) (hlt : R < 1000000000 ^ n) :
    Calls Tryd.prog 74 #[.slice A1 xs.length c1, .int .u64 (f : Int), .slice A2 ys.length c2, .int .u64 (g : Int)] w (DifPost R n w) := by
  obtain ⟨i0, hi, hz0, hz1, hz2⟩ := info_parts info_u64
  have hend := dif_end (n := n) hf hg hx hy (by omega) (by omega) hR hlt
  have hb1 := fun (w1 : World) (k : Nat) (hk : k < n) (h : w.grownBy w1 none) => block_any w1 _ xs (k : Int) (hsx w1 h) (by omega) (by omega) (by omega)
  have hb2 := fun (w1 : World) (k : Nat) (hk : k < n) (h : w.grownBy w1 none) => block_any w1 _ ys (k : Int) (hsy w1 h) (by omega) (by omega) (by omega)
  have hd := dif_is hf hg hx hy
  have hrange := fun k => difS_range hf hg hx hy k (hd k).lo (hd k).hi
  have HE := Lib.hid hend; have HB1 := Lib.hid hb1; have HB2 := Lib.hid hb2; have HD := Lib.hid hd; have HR := Lib.hid hrange; have HM := Lib.hid hm; have HN := Lib.hid hn; have HF := Lib.hid (And.intro hf hg)
  clear hend hb1 hb2 hd hrange hsx hsy hx hy hR hlt hm hn hf hg
  rcases Nat.lt_or_ge xs.length ys.length with hxy | hxy
  all_goals
    go_enter Tryd.func74, Tryd.ntmps74
    go_wp2_with (at_make; refine wpList_make_full _ rfl _ _ 43 rfl w.heap.size 22 i0 (.int .u64 0) 1 Tryd.underlying43 hi hz0 hz1 _ _ _ _ n rfl rfl ?c0 ?c1 ?c2 (by have := HN.out; unfold maxLen; omega) (Nat.le_refl _) ?_)
    case c0 => have := HM.out; omega
    case c1 => have := HM.out; omega
    case c2 => have := HN.out; first | omega | (rw [hz2]; omega)
    intro w1 hown hgr
    rw [uv_replicate] at hown
    have hc0 := (Cells.of_full hown).1
    have HG := Lib.hid hgr; have HC0 := Lib.hid hc0
    clear hown hgr hc0
    go_wp2
    go_loopw [10, 21] (fun cv iv wr => ∃ k : Nat, cv = .int .i64 (dif f g xs ys k).2 ∧ iv = .int .i64 (k : Int) ∧ k ≤ n ∧ DifRow f g xs ys n k w wr) (fun _ iv _ => n - (intOf iv).toNat)
    case atStart => exact ⟨0, rfl, rfl, Nat.zero_le _, ⟨by simpa [dif] using HC0.out, HG.out⟩⟩
    case round =>
      obtain ⟨k, rfl, rfl, hk, hrow⟩ := hrel
      by_cases hkn : k < n
      · have t1 : decide (k < n) = true := by simpa using hkn
        have t1' : decide ((k : Int) < (n : Int)) = true := by simpa using hkn
        obtain ⟨r1, r2, r3, r4⟩ := HR.out k
        have hb1 := HB1.out wr k hkn hrow.gr
        have hb2 := HB2.out wr k hkn hrow.gr
        have ea : blkAt xs (k : Int) = xs.getD k 0 := by unfold blkAt; rw [if_neg (by omega)]; rfl
        have eb : blkAt ys (k : Int) = ys.getD k 0 := by unfold blkAt; rw [if_neg (by omega)]; rfl
        rw [ea] at hb1
        rw [eb] at hb2
        have hS : difS f g xs ys k (dif f g xs ys k).2 = (dif f g xs ys k).2 + (((f * xs.getD k 0 : Nat) : Int) - ((g * ys.getD k 0 : Nat) : Int)) := rfl
        have hnext : (dif f g xs ys (k + 1)).1 = (dif f g xs ys k).1 ++ [(difS f g xs ys k (dif f g xs ys k).2 % 1000000000).toNat] := rfl
        have hnext2 : (dif f g xs ys (k + 1)).2 = difS f g xs ys k (dif f g xs ys k).2 / 1000000000 := rfl
        have hlow := low_cases (difS f g xs ys k (dif f g xs ys k).2)
        have hlen := (HD.out k).len
        have hlo := (HD.out k).lo
        have hhi := (HD.out k).hi
        have hm0 := Int.emod_nonneg (difS f g xs ys k (dif f g xs ys k).2) (show (1000000000 : Int) ≠ 0 by decide)
        have hm1 := Int.emod_lt_of_pos (difS f g xs ys k (dif f g xs ys k).2) (show (0 : Int) < 1000000000 by decide)
        generalize difS f g xs ys k (dif f g xs ys k).2 = S at *
        obtain ⟨c, hc⟩ : ∃ c, (dif f g xs ys k).2 = c := ⟨_, rfl⟩
        rw [hc] at hS hlo hhi ⊢
        generalize xs.getD k 0 = x at *
        generalize ys.getD k 0 = y at *
        obtain ⟨p, hp⟩ : ∃ p, f * x = p := ⟨_, rfl⟩
        obtain ⟨q, hq⟩ : ∃ q, g * y = q := ⟨_, rfl⟩
        rw [hp] at r1 hS
        rw [hq] at r2 hS
        have n1 : IntKind.u64.wrap ((f : Int) * (x : Int)) = (p : Int) := by rw [← Int.natCast_mul, hp, IntKind.wrap_u64]; omega
        have n2 : IntKind.u64.wrap ((g : Int) * (y : Int)) = (q : Int) := by rw [← Int.natCast_mul, hq, IntKind.wrap_u64]; omega
        have n3 : IntKind.i64.wrap (p : Int) = (p : Int) := by rw [IntKind.wrap_i64]; omega
        have n4 : IntKind.i64.wrap (q : Int) = (q : Int) := by rw [IntKind.wrap_i64]; omega
        obtain ⟨u, hu⟩ : ∃ u : Int, (p : Int) - (q : Int) = u := ⟨_, rfl⟩
        have n5 : IntKind.i64.wrap ((p : Int) - (q : Int)) = u := by rw [IntKind.wrap_i64]; omega
        have n6 : IntKind.i64.wrap (c + u) = S := by rw [IntKind.wrap_i64]; omega
        have n7 : IntKind.i64.wrap ((k : Int) + 1) = ((k + 1 : Nat) : Int) := by have := HN.out; rw [IntKind.wrap_i64]; omega
        have hik : (k : Int) < (n : Int) := by omega
        have hfree := hrow.row.free k
        have hcell : wr.cell? ⟨w.heap.size, k, none⟩ = some (.int .u64 0) := by
          rw [hrow.row.cell, uv_append, List.getElem?_append_right (by rw [uv_length]; omega), uv_length, hlen, Nat.sub_self, show n - k = (n - (k + 1)) + 1 by omega]
          rfl
        have HROW := Lib.hid hrow; have HX := Lib.hid (And.intro hlow (And.intro hlen (And.intro hm0 hm1))); have HNX := Lib.hid (And.intro hnext hnext2); have HS := Lib.hid (And.intro r3 (And.intro r4 (And.intro hkn hk)))
        clear hrow hnext hnext2 hlen hm0 hm1 r1 r2 r3 r4 hS hlo hhi hp hq hu ea eb hkn hk hc
        rcases hlow with ⟨l1, l2, l3⟩ | ⟨l1, l2, l3⟩
        · obtain ⟨L, hL⟩ : ∃ L, Int.tmod S 1000000000 = L := ⟨_, rfl⟩
          obtain ⟨Q, hQ⟩ : ∃ Q, Int.tdiv S 1000000000 = Q := ⟨_, rfl⟩
          obtain ⟨r3, r4, hkn, hk⟩ := HS.out
          obtain ⟨_, hlen, hm0, hm1⟩ := HX.out
          rw [hL] at l1 l2
          rw [hQ] at l3
          obtain ⟨z, hz⟩ : ∃ z : Nat, S % 1000000000 = (z : Int) := ⟨(S % 1000000000).toNat, (Int.toNat_of_nonneg hm0).symm⟩
          have m1 : IntKind.i64.wrap (Int.tmod S 1000000000) = L := by rw [hL, IntKind.wrap_i64]; omega
          have m2 : IntKind.i64.wrap (Int.tdiv S 1000000000) = Q := by rw [hQ, IntKind.wrap_i64]; omega
          have m3 : IntKind.i64.wrap (L + 1000000000) = (z : Int) := by rw [IntKind.wrap_i64]; omega
          have m4 : IntKind.i64.wrap (Q - 1) = S / 1000000000 := by rw [IntKind.wrap_i64]; omega
          have m5 : IntKind.u64.wrap (z : Int) = (z : Int) := by rw [IntKind.wrap_u64]; omega
          have t2 : decide (L < 0) = true := by simpa using l1
          have t2' : decide (S.tmod 1000000000 < 0) = true := by rw [hL]; exact t2
          have HZ := Lib.hid hz
          clear r3 r4 hkn hk hlen hm0 hm1 l1 l2 l3 hL hQ hz
          go_wp2_with fail
          refine hb1.mono ?_
          rintro e w' ⟨rfl, rfl⟩
          go_wp2_with fail
          refine hb2.mono ?_
          rintro e w' ⟨rfl, rfl⟩
          clear hb1 hb2
          go_wp2
          have ez : S.tmod 1000000000 + 1000000000 = (z : Int) := by have := HX.out.1; have := HZ.out; have := of_decide_eq_true t2'; omega
          obtain ⟨_, _, hkn, hk⟩ := HS.out
          refine ⟨⟨k + 1, by rw [HNX.out.2], rfl, hkn, ?_⟩, by simp [intOf]; omega⟩
          rw [ez]
          exact HROW.out.put hkn (HX.out.2.1) (by rw [HNX.out.1, HZ.out]; rfl)
        · obtain ⟨L, hL⟩ : ∃ L, Int.tmod S 1000000000 = L := ⟨_, rfl⟩
          obtain ⟨Q, hQ⟩ : ∃ Q, Int.tdiv S 1000000000 = Q := ⟨_, rfl⟩
          obtain ⟨r3, r4, hkn, hk⟩ := HS.out
          obtain ⟨_, hlen, hm0, hm1⟩ := HX.out
          rw [hL] at l1 l2
          rw [hQ] at l3
          obtain ⟨z, hz⟩ : ∃ z : Nat, S % 1000000000 = (z : Int) := ⟨(S % 1000000000).toNat, (Int.toNat_of_nonneg hm0).symm⟩
          have m1 : IntKind.i64.wrap (Int.tmod S 1000000000) = L := by rw [hL, IntKind.wrap_i64]; omega
          have m2 : IntKind.i64.wrap (Int.tdiv S 1000000000) = Q := by rw [hQ, IntKind.wrap_i64]; omega
          have m5 : IntKind.u64.wrap L = L := by rw [IntKind.wrap_u64]; omega
          have t2 : decide (L < 0) = false := by simpa using l1
          have t2' : decide (S.tmod 1000000000 < 0) = false := by rw [hL]; exact t2
          have eQ : Q = S / 1000000000 := l3.symm
          have eL : L = (z : Int) := by omega
          have HZ := Lib.hid (And.intro hz (And.intro eQ (And.intro eL (And.intro hL hQ))))
          clear r3 r4 hkn hk hlen hm0 hm1 l1 l2 l3 hL hQ hz eQ eL
          go_wp2_with fail
          refine hb1.mono ?_
          rintro e w' ⟨rfl, rfl⟩
          go_wp2_with fail
          refine hb2.mono ?_
          rintro e w' ⟨rfl, rfl⟩
          clear hb1 hb2
          go_wp2
          obtain ⟨hz, eQ, eL, hL, hQ⟩ := HZ.out
          have ez : S.tmod 1000000000 = (z : Int) := by rw [hL, eL]
          have ez2 : IntKind.u64.wrap (S.tmod 1000000000) = (z : Int) := by rw [hL, m5, eL]
          obtain ⟨_, _, hkn, hk⟩ := HS.out
          refine ⟨⟨k + 1, by rw [HNX.out.2, eQ], rfl, hkn, ?_⟩, by simp [intOf]; omega⟩
          first | rw [ez2] | rw [ez]
          exact HROW.out.put hkn (HX.out.2.1) (by rw [HNX.out.1, hz]; rfl)
      · obtain rfl : k = n := by omega
        have t1 : decide (k < k) = false := by simp
        have t1' : decide ((k : Int) < (k : Int)) = false := by simp
        have hc := hrow.row
        rw [Nat.sub_self, List.replicate_zero, List.append_nil] at hc
        have hlen := (HD.out k).len
        have hblk : Blks w.heap.size wr (.slice (some ⟨w.heap.size, 0, none⟩) (dif f g xs ys k).1.length k) (dif f g xs ys k).1 :=
          Blks.of_cells hc (Nat.le_refl _) (by rw [uv_length, hlen]) (by have := HN.out; unfold maxLen; omega) (by rw [List.take_of_length_le (by rw [uv_length]; exact Nat.le_refl _)]) (by omega)
        have htr := trim_any w.heap.size w.heap.size k (dif f g xs ys k).1 wr hblk (by have := HN.out; omega)
        rw [hlen] at htr
        have HROW := Lib.hid hrow; have HBLK := Lib.hid hblk; have HL := Lib.hid hlen; have HTR := Lib.hid htr
        clear hrow hblk hlen hc hk hkn htr
        go_wp2_with fail
        refine HTR.out.mono ?_
        rintro e w' ⟨m, hm, rfl, rfl, hv, ht⟩
        have HP := Lib.hid (And.intro hm (And.intro hv ht))
        clear hm hv ht
        go_wp2
        go_ret
        obtain ⟨hm, hv, ht⟩ := HP.out
        have hlen := HL.out
        have hl2 : ((dif f g xs ys k).1.take m).length = m := by rw [List.length_take]; omega
        refine ⟨w.heap.size, (dif f g xs ys k).1.take m, by rw [hl2]; rfl, ?_, fun z hz => (HD.out k).lt z (List.mem_of_mem_take hz), by rw [hv]; exact HE.out, ht, by rw [hl2, ← hlen]; exact hm, HROW.out.gr⟩
        have hc := HROW.out.row
        rw [Nat.sub_self, List.replicate_zero, List.append_nil] at hc
        exact Blks.of_cells hc (Nat.le_refl _) (by rw [uv_length, hlen]) (by have := HN.out; unfold maxLen; omega) (by rw [uv_take, hl2]) (by rw [hl2, ← hlen]; exact hm)

end Go.Proofs.YtlkjfhidicgjiaaDoor
