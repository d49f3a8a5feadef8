/- trim, read. -/
import Derived.Test.YtlkjfhidicgjiaaDoorWc
set_option linter.unusedVariables false
set_option linter.unusedSimpArgs false
namespace Go.Proofs.YtlkjfhidicgjiaaDoor
open Go.RowKit

theorem info_u64 : (Tryd.prog.info? 22).map (fun i => (i.zero, i.size, i.bytes)) = some (some (.int .u64 0), 1, 8) := by kernel_rfl
theorem Cells.of_full {w : World} {B g n : Nat} {l : List Value} (h : w.ownsRow B 22 1 (.slice (some ⟨g, 0, none⟩) n n) n l) : Cells w g l ∧ B ≤ g := by
  rcases h.2 with ⟨h', _⟩ | ⟨g', cap', cur, h', hb, hg, _, _, hs, ht⟩
  · simp at h'
  · simp only [Value.slice.injEq, Option.some.injEq, Addr.mk.injEq, and_true, true_and] at h'
    obtain ⟨rfl, rfl⟩ := h'
    rw [List.take_of_length_le (by rw [Array.length_toList, hs]; exact Nat.le_refl _)] at ht
    subst ht
    exact ⟨by unfold Cells; rw [hg], hb⟩
theorem uv_replicate (n : Nat) : (madeCells #[Value.int .u64 0] n).toList = uv (List.replicate n 0) := by
  rw [toList_madeCells_one]
  simp [uv]
theorem Blks.of_cells {w : World} {B g cap : Nat} {l : List Value} {xs : List Nat} (h : Cells w g l) (hB : B ≤ g) (hl : l.length = cap) (hm : cap ≤ maxLen) (hx : l.take xs.length = uv xs) (hle : xs.length ≤ cap) : Blks B w (.slice (some ⟨g, 0, none⟩) xs.length cap) xs :=
  Blks.mk hB h hle hm (by simpa using hl) (by simpa using hx)
theorem Blks.cells {w : World} {B g n cap : Nat} {xs : List Nat} (h : Blks B w (.slice (some ⟨g, 0, none⟩) n cap) xs) : n = xs.length ∧ B ≤ g ∧ xs.length ≤ cap ∧ cap ≤ maxLen ∧ ∃ post, Cells w g (uv xs ++ post) ∧ post.length = cap - xs.length := by
  rcases h.form with ⟨h', _⟩ | ⟨g', cap', cur, h', hb, hg, hc, hm, hs, ht⟩
  · simp at h'
  · simp only [Value.slice.injEq, Option.some.injEq, Addr.mk.injEq, and_true, true_and] at h'
    obtain ⟨rfl, rfl, rfl⟩ := h'
    refine ⟨rfl, hb, hc, hm, cur.toList.drop xs.length, ?_, by simp [hs]⟩
    rw [← ht, List.take_append_drop]
    unfold Cells
    rw [hg]

theorem uv_set (xs : List Nat) (i n : Nat) : (uv xs).set i (.int .u64 (n : Int)) = uv (xs.set i n) := by simp [uv, List.map_set]
theorem uv_take (xs : List Nat) (m : Nat) : (uv xs).take m = uv (xs.take m) := by simp [uv, List.map_take]

def TrimPost (g cap : Nat) (xs : List Nat) (w : World) (e : Ending) (w' : World) : Prop :=
  ∃ m, m ≤ xs.length ∧ e = .returned (.slice (some ⟨g, 0, none⟩) m cap) ∧ w = w' ∧ vl 1000000000 (xs.take m) = vl 1000000000 xs ∧ topOk (xs.take m)

set_option maxHeartbeats 400000 in
theorem trim_any (B g cap : Nat) (xs : List Nat) (w : World) (h : Blks B w (.slice (some ⟨g, 0, none⟩) xs.length cap) xs) (hn : xs.length ≤ 1000000) :
    Calls Tryd.prog 52 #[.slice (some ⟨g, 0, none⟩) xs.length cap] w (TrimPost g cap xs w) := by
  obtain ⟨_, hb, hle, hm, post, hcs, _⟩ := h.cells
  unfold maxLen at hm
  have hcell : ∀ k, k < xs.length → w.cell? ⟨g, k, none⟩ = some (.int .u64 (xs.getD k 0 : Nat)) := fun k hk => by
    rw [hcs.cell, List.getElem?_append_left (by rw [uv_length]; exact hk), uv_get xs k hk]
  have HC := Lib.hid hcell
  clear hcell hcs h
  go_enter Tryd.func52, Tryd.ntmps52
  go_wp2
  go_loop [0] (fun v => ∃ m, v = .slice (some ⟨g, 0, none⟩) m cap ∧ m ≤ xs.length ∧ vl 1000000000 (xs.take m) = vl 1000000000 xs) (fun v => match v with | .slice _ m _ => m | _ => 0)
  case atStart => exact ⟨xs.length, rfl, Nat.le_refl _, by rw [List.take_length]⟩
  case round =>
    obtain ⟨m, rfl, hmx, hv⟩ := hrel
    have HV := Lib.hid hv
    clear hv
    by_cases h0 : m = 0
    · subst h0
      go_wp2
      go_ret
      exact ⟨0, by omega, rfl, rfl, HV.out, by rw [List.take_zero]; exact topOk_nil⟩
    · obtain ⟨k, rfl⟩ : ∃ k, m = k + 1 := ⟨m - 1, by omega⟩
      have hcell := HC.out k (by omega)
      by_cases hz : xs.getD k 0 = 0
      · rw [hz] at hcell
        have HZ := Lib.hid hz
        clear hz
        go_wp2
        go_round
        case rel => exact ⟨k, by simp, by omega, by
          have e := vl_take_succ 1000000000 xs k
          rw [HZ.out, Nat.mul_zero] at e
          have := HV.out
          omega⟩
        case measure => simp
      · have hz' : ((xs.getD k 0 : Nat) : Int) ≠ 0 := by omega
        have HZ := Lib.hid hz
        clear hz
        generalize hxk : xs.getD k 0 = x at *
        have HX := Lib.hid hxk
        clear hxk
        have f1 : ((x : Int) == 0) = false := by simpa using hz'
        go_wp2
        go_ret
        refine ⟨k + 1, hmx, rfl, rfl, HV.out, topOk_of_getD _ ?_⟩
        have hlen : (xs.take (k + 1)).length = k + 1 := by rw [List.length_take]; omega
        rw [hlen, Nat.add_sub_cancel]
        rw [List.getD_eq_getElem?_getD, List.getElem?_take, if_pos (by omega), ← List.getD_eq_getElem?_getD]
        rw [HX.out]
        exact HZ.out

theorem take_snocB (s : ByteArray) (k : Nat) (h : k < s.size) : s.data.toList.take (k + 1) = s.data.toList.take k ++ [s[k]] := by
  rw [List.take_succ_eq_append_getElem (by simpa using h)]; rfl
theorem num_dig (s : ByteArray) (h : numB s = true) (k : Nat) (hk : k < s.size) : 48 ≤ s[k].toNat ∧ s[k].toNat ≤ 57 := by
  unfold numB numL at h
  simp only [Bool.and_eq_true, List.all_eq_true] at h
  have := h.1.2 s[k] (by show s.data[k] ∈ _; simp)
  unfold isDg at this
  simpa using this
theorem num_size (s : ByteArray) (h : numB s = true) : 1 ≤ s.size ∧ s.size ≤ 1000 := by
  unfold numB numL at h
  simp only [Bool.and_eq_true, decide_eq_true_eq] at h
  have e : s.data.toList.length = s.size := by simp
  rw [e] at h
  exact ⟨h.1.1.1, h.1.1.2⟩
theorem nv_pos_top (xs : List Nat) (n : Nat) (h : vl 1000000000 xs = n) : True := trivial

def ReadPost (n B : Nat) (w : World) (e : Ending) (w' : World) : Prop :=
  ∃ g cap xs, e = .returned (.slice (some ⟨g, 0, none⟩) xs.length cap) ∧ Blks B w' (.slice (some ⟨g, 0, none⟩) xs.length cap) xs ∧ w.heap.size ≤ g ∧
    (∀ x ∈ xs, x < 1000000000) ∧ vl 1000000000 xs = n ∧ topOk xs ∧ xs.length ≤ 112 ∧ w.grownBy w' none

set_option maxHeartbeats 1000000 in
theorem read_any (s : ByteArray) (w : World) (hs : numB s = true) :
    Calls Tryd.prog 38 #[.string s] w (ReadPost (nv s) w.heap.size w) := by
  obtain ⟨i0, hi, hz0, hz1, hz2⟩ := info_parts info_u64
  obtain ⟨hs1, hs2⟩ := num_size s hs
  have hdg := num_dig s hs
  have HD := Lib.hid hdg
  clear hdg hs
  go_enter Tryd.func38, Tryd.ntmps38
  go_wp2_with (at_make; refine wpList_make_full _ rfl _ _ 43 rfl w.heap.size 22 i0 (.int .u64 0) 1 Tryd.underlying43 hi hz0 hz1 _ _ _ _ ((s.size + 8) / 9) rfl rfl ?c0 ?c1 ?c2 ?c3 ?c4 ?_)
  case c0 => omega
  case c1 => omega
  case c2 => rw [hz2]; omega
  case c3 => unfold maxLen; omega
  case c4 => omega
  intro w1 hown hgr
  rw [uv_replicate] at hown
  have hc0 := (Cells.of_full hown).1
  have HG := Lib.hid hgr
  clear hown hgr
  go_wp2
  go_loopw [14] (fun i wr => ∃ (k : Nat) (xs : List Nat), i = .int .i64 k ∧ k ≤ s.size ∧ RdInv s.size k (dval (s.data.toList.take k)) xs ∧ Cells wr w.heap.size (uv xs) ∧ w.grownBy wr none) (fun i _ => s.size - (intOf i).toNat)
  case atStart => exact ⟨0, _, rfl, by omega, RdInv.start s.size, hc0, HG.out⟩
  case round =>
    obtain ⟨k, xs, rfl, hk, hinv, hcr, hgr⟩ := hrel
    have hxl := hinv.length
    by_cases hlt : k < s.size
    · have hd := HD.out k hlt
      have hbd := hinv.bound hlt
      have hlx : (s.size - 1 - k) / 9 < xs.length := by omega
      have hcell : wr.cell? ⟨w.heap.size, (s.size - 1 - k) / 9, none⟩ = some (.int .u64 (xs.getD ((s.size - 1 - k) / 9) 0 : Nat)) := by rw [hcr.cell, uv_get _ _ hlx]
      have hfree := hcr.free ((s.size - 1 - k) / 9)
      have hstep := hinv.step hlt (s[k].toNat - 48) (by omega)
      have hset := hcr.set ((s.size - 1 - k) / 9) (.int .u64 ((xs.getD ((s.size - 1 - k) / 9) 0 * 10 + (s[k].toNat - 48) : Nat) : Int))
      rw [uv_set, show ((xs.getD ((s.size - 1 - k) / 9) 0 * 10 + (s[k].toNat - 48) : Nat) : Int) = (xs.getD ((s.size - 1 - k) / 9) 0 : Nat) * 10 + ((s[k].toNat : Int) - 48) by omega] at hset
      rw [← dval_snoc, ← take_snocB s k hlt] at hstep
      have HST := Lib.hid hstep; have HSET := Lib.hid hset; have HTS := Lib.hid (take_snocB s k hlt); have HGR := Lib.hid hgr
      clear hinv hcr hstep hset hgr
      have hd1 : (48 : Int) ≤ (s[k].toNat : Int) := by omega
      have hd2 : (s[k].toNat : Int) ≤ 57 := by omega
      generalize hxv : xs.getD ((s.size - 1 - k) / 9) 0 = x at *
      clear hxv
      have hi1 : (0 : Int) ≤ ((s.size : Int) - 1 - k) / 9 := by omega
      have hi2 : ((s.size : Int) - 1 - k) / 9 < (((s.size + 8) / 9 : Nat) : Int) := by omega
      go_wp2
      go_region
      go_wp2
      go_roundw
      case rel => exact ⟨k + 1, _, by go_num, by omega, HST.out, HSET.out, grown_step (g := w.heap.size) HGR.out (grown_trans (grown_setCell wr ⟨w.heap.size, (s.size - 1 - k) / 9, none⟩ _) (grown_drew _ _)) (Nat.le_refl _)⟩
      case measure => simp [intOf]; omega
    · have e : k = s.size := by omega
      subst e
      rw [List.take_of_length_le (by simp)] at hinv
      have hfin := hinv.fin
      have hlt9 := hinv.lt
      have hbk : Blks w.heap.size wr (.slice (some ⟨w.heap.size, 0, none⟩) xs.length xs.length) xs := Blks.of_cells hcr (Nat.le_refl _) (uv_length xs) (by unfold maxLen; omega) (by rw [List.take_of_length_le (by rw [uv_length]; exact Nat.le_refl _)]) (Nat.le_refl _)
      have htr := trim_any w.heap.size w.heap.size xs.length xs wr hbk (by omega)
      rw [hxl] at htr
      have HT := Lib.hid htr; have HF := Lib.hid hfin; have HL := Lib.hid hlt9; have HCR := Lib.hid hcr; have HGR := Lib.hid hgr; have HXL := Lib.hid hxl
      clear hinv hfin hlt9 hbk htr hcr hgr hxl
      go_wp2_with fail
      refine HT.out.mono ?_
      rintro e w' ⟨m, hm, rfl, rfl, hv, ht⟩
      have HV := Lib.hid hv; have HTT := Lib.hid ht
      clear hv ht
      go_wp2
      go_ret
      have hxl := HXL.out
      have hml : (xs.take m).length = m := by rw [List.length_take]; omega
      refine ⟨w.heap.size, (s.size + 8) / 9, xs.take m, by rw [hml]; rfl, ?_, Nat.le_refl _, fun x hx => HL.out x (List.mem_of_mem_take hx), by rw [HV.out, ← HF.out]; rfl, HTT.out, by rw [hml]; omega, HGR.out⟩
      exact Blks.of_cells HCR.out (Nat.le_refl _) (by rw [uv_length, hxl]) (by unfold maxLen; omega) (by rw [hml]; exact uv_take xs m) (by rw [hml]; omega)
end Go.Proofs.YtlkjfhidicgjiaaDoor
