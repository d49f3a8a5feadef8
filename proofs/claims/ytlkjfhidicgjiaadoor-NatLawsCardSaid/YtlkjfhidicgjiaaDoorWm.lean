/- divide. -/
import Derived.Test.YtlkjfhidicgjiaaDoorWk
import Derived.Test.YtlkjfhidicgjiaaDoorWi
import Derived.Test.YtlkjfhidicgjiaaDoorPe
set_option linter.unusedVariables false
set_option linter.unusedSimpArgs false
namespace Go.Proofs.YtlkjfhidicgjiaaDoor
open Go.RowKit

structure DivOk (B gx gy : Nat) (xs ys : List Nat) (w w' : World) (qv : Value) (qs : List Nat) (gr cr : Nat) (rs : List Nat) : Prop where
  qb : Blks 0 w' qv qs
  qlt : ∀ z ∈ qs, z < 1000000000
  qv : vl 1000000000 qs = vl 1000000000 xs / vl 1000000000 ys
  qn : qs.length ≤ xs.length + 1
  rb : Blks B w' (.slice (some ⟨gr, 0, none⟩) rs.length cr) rs
  rne : gr ≠ gy
  rlt : ∀ z ∈ rs, z < 1000000000
  rv : vl 1000000000 rs = vl 1000000000 xs % vl 1000000000 ys
  rt : topOk rs
  rn : rs.length ≤ xs.length + 1
  gr : w.grownBy w' (some gx)
def DivPost (B gx gy : Nat) (xs ys : List Nat) (w : World) (e : Ending) (w' : World) : Prop :=
  ∃ qv qs gr cr rs, e = .returned (.tuple #[qv, .slice (some ⟨gr, 0, none⟩) rs.length cr]) ∧ DivOk B gx gy xs ys w w' qv qs gr cr rs

theorem grown_either {a b c : World} {g h : Nat} (k : a.grownBy b (some g)) (m : b.grownBy c (some h)) (e : h = g ∨ a.heap.size ≤ h) : a.grownBy c (some g) := by
  rcases e with rfl | e
  · exact grown_trans k m
  · exact grown_step k m e
theorem short_lt (xs ys : List Nat) (hx : ∀ x ∈ xs, x < 1000000000) (hyt : topOk ys) (h : xs.length < ys.length) : vl 1000000000 xs < vl 1000000000 ys := by
  have h1 := vl_top 1000000000 ys (by intro e; rw [e] at h; simp at h) hyt
  have h2 := vl_lt 1000000000 xs hx
  have h4 : (1000000000 : Nat) ^ xs.length ≤ 1000000000 ^ (ys.length - 1) := Nat.pow_le_pow_right (by decide) (by omega)
  omega

set_option maxRecDepth 20000 in
set_option maxHeartbeats 400000 in
theorem divide_short (B gx cx gy cy : Nat) (xs ys : List Nat) (w : World) (hxb : Blks B w (.slice (some ⟨gx, 0, none⟩) xs.length cx) xs) (hne : gx ≠ gy)
    (hx : ∀ x ∈ xs, x < 1000000000) (hxt : topOk xs) (hyt : topOk ys) (h : xs.length < ys.length) :
    Calls Tryd.prog 46 #[.slice (some ⟨gx, 0, none⟩) xs.length cx, .slice (some ⟨gy, 0, none⟩) ys.length cy] w (DivPost B gx gy xs ys w) := by
  have hlt := short_lt xs ys hx hyt h
  have HP : Hid (DivOk B gx gy xs ys w w (.slice none 0 0) [] gx cx xs) := ⟨World.ownsRow_nil _ _ _ _, by simp, by rw [Nat.div_eq_of_lt hlt]; rfl, by simp, hxb, hne, hx, (Nat.mod_eq_of_lt hlt).symm, hxt, by omega, grown_refl _ _⟩
  clear hlt hxb hx hxt hyt
  have h' : (xs.length : Int) < (ys.length : Int) := by omega
  go_enter Tryd.func46, Tryd.ntmps46
  go_wp2
  go_ret2
  exact ⟨_, _, _, _, _, rfl, HP.out⟩

theorem part_split (zs : List Nat) (k n : Nat) : uv zs = uv (zs.take k) ++ uv ((zs.drop k).take n) ++ uv (zs.drop (k + n)) := by
  rw [← uv_append, ← uv_append, ← List.drop_drop, List.append_assoc, List.take_append_drop, List.take_append_drop]
theorem part_getD (zs : List Nat) (k n t : Nat) (ht : t < n) : ((zs.drop k).take n).getD t 0 = zs.getD (k + t) 0 := by
  rw [List.getD_eq_getElem?_getD, List.getElem?_take, if_pos ht, List.getElem?_drop, ← List.getD_eq_getElem?_getD]

set_option maxRecDepth 100000 in
set_option maxHeartbeats 4000000 in
theorem divide_long (B gx cx gy cy m : Nat) (xs ys : List Nat) (w : World) (hxb : Blks B w (.slice (some ⟨gx, 0, none⟩) xs.length cx) xs) (hyb : Blks B w (.slice (some ⟨gy, 0, none⟩) ys.length cy) ys) (hne : gx ≠ gy)
    (hx : ∀ x ∈ xs, x < 1000000000) (hy : ∀ y ∈ ys, y < 1000000000) (hyt : topOk ys) (hym : ys.length = m + 1) (hle : ys.length ≤ xs.length) (hn : xs.length ≤ 10000) (hBw : B ≤ w.heap.size) :
    Calls Tryd.prog 46 #[.slice (some ⟨gx, 0, none⟩) xs.length cx, .slice (some ⟨gy, 0, none⟩) ys.length cy] w (DivPost B gx gy xs ys w) := by
  obtain ⟨i0, hi, hz0, hz1, hz2⟩ := info_parts info_u64
  have h0 : ys ≠ [] := by intro e; rw [e] at hym; simp at hym
  have hst := DivInv.start hx hyt h0 hle
  have hv : 0 < vl 1000000000 ys := by
    have := vl_top 1000000000 ys h0 hyt
    have : 0 < (1000000000 : Nat) ^ (ys.length - 1) := Nat.pow_pos (by decide)
    omega
  obtain ⟨n, hnn⟩ : ∃ n, xs.length - ys.length + 1 = n := ⟨_, rfl⟩
  rw [hnn] at hst
  have en : (xs.length : Int) - (ys.length : Int) + 1 = (n : Int) := by omega
  have hn1 : n ≤ 10001 := by omega
  have hgx := hxb.lt gx rfl
  have hgy := hyb.lt gy rfl
  have HST := Lib.hid hst; have HX := Lib.hid hx; have HY := Lib.hid hy; have HXB := Lib.hid hxb; have HYB := Lib.hid hyb; have HNN := Lib.hid hnn; have HYM := Lib.hid hym; have HYT := Lib.hid hyt
  clear hst hx hy hxb hyb hnn hym hyt h0
  have hge : ¬ (xs.length : Int) < (ys.length : Int) := by omega
  go_enter Tryd.func46, Tryd.ntmps46
  go_wp2_with (at_make; refine wpList_make_full _ rfl _ _ 43 rfl w.heap.size 22 i0 (.int .u64 0) 1 Tryd.underlying43 hi hz0 hz1 _ _ _ _ n rfl rfl ?c0 ?c1 ?c2 (by unfold maxLen; omega) (Nat.le_refl _) ?_)
  case c0 => omega
  case c1 => omega
  case c2 => first | omega | (rw [hz2]; omega)
  intro w1 hown hgr
  rw [uv_replicate] at hown
  have hcq := (Cells.of_full hown).1
  have hs1 := hcq.lt
  have hxb1 : Blks B (w1.alloc (.cells #[.int .u64 0] 22)) (.slice (some ⟨gx, 0, none⟩) xs.length cx) xs := (HXB.out.grown hgr (by simp)).grown (World.grownBy_alloc _ _ none) (by simp)
  have hcq1 : Cells (w1.alloc (.cells #[.int .u64 0] 22)) w.heap.size (uv (List.replicate n 0)) := hcq.grown (World.grownBy_alloc _ _ none) (by simp)
  have hg1 : w.grownBy (w1.alloc (.cells #[.int .u64 0] 22)) none := grown_trans hgr (World.grownBy_alloc _ _ none)
  have hnew : ∀ j u, [Value.int .u64 0][j]? = some u → (w1.alloc (.cells #[.int .u64 0] 22)).cell? ((⟨w1.heap.size, 0, none⟩ : Addr).add j) = some u := by
    intro j u hu
    match j, hu with
    | 0, hu =>
      simp at hu
      subst hu
      rw [add_plain, World.cell?_alloc_at _ _ _ _ rfl]; rfl
  have HG1 := Lib.hid hg1; have HCQ := Lib.hid hcq1; have HXB1 := Lib.hid hxb1; have HNEW := Lib.hid hnew
  have hsz1 : w.heap.size < w1.heap.size := hs1
  clear hown hgr hcq hxb1 hcq1 hg1 hnew hs1
  go_wp2_with (at_builtin; refine wpList_append_lies _ rfl _ _ _ rfl B 22 i0 (.int .u64 0) 1 8 Tryd.underlying43 hi hz0 hz1 hz2 rfl (by omega) _ xs.length (uv xs) rfl HXB1.out ⟨w1.heap.size, 0, none⟩ 1 1 [Value.int .u64 0] rfl rfl HNEW.out ?h1 ?h2 ?h3 ?h4 ?h5 (w1.heap.size + 1) ?h6 ?_)
  case h1 => intro u hu; simp at hu; subst hu; rfl
  case h2 => decide
  case h3 => unfold maxLen; omega
  case h4 => omega
  case h5 => simp; omega
  case h6 => simp
  intro gz cap w2 hown2 hg2 hat hlt2
  have hgz : gz = gx ∨ gz = w1.heap.size + 1 := by
    rcases hat with hat | hat
    · simp [Value.ownBlock] at hat; exact .inl hat.symm
    · exact .inr hat
  have hgz2 : gz ≠ gy := by rcases hgz with h | h <;> omega
  have hgz3 : gz ≠ w.heap.size := by rcases hgz with h | h <;> omega
  have hgz4 : gz = gx ∨ w.heap.size ≤ gz := by rcases hgz with h | h <;> omega
  have hgzB : B ≤ gz := by rcases hgz with h | h <;> omega
  have hb2 : Blks B w2 (.slice (some ⟨gz, 0, none⟩) (xs ++ [0]).length cap) (xs ++ [0]) := by
    have e : (xs ++ [0]).length = xs.length + 1 := by simp
    unfold Blks
    rw [e, uv_append]
    exact hown2
  obtain ⟨_, _, hcap1, hcap2, spare, hcz, hspl⟩ := hb2.cells
  have hcq2 : Cells w2 w.heap.size (uv (List.replicate n 0)) := HCQ.out.grown hg2 (by simp [Value.ownBlock]; omega)
  have hg02 : w.grownBy w2 (some gx) := grown_trans (grown_none HG1.out) hg2
  have hcap3 : xs.length + 1 ≤ cap := by simpa using hcap1
  unfold maxLen at hcap2
  have hspl2 : spare.length = cap - (xs.length + 1) := by simpa using hspl
  have HCZ := Lib.hid hcz; have HCQ2 := Lib.hid hcq2; have HG02 := Lib.hid hg02; have HSPL := Lib.hid hspl2
  clear hown2 hg2 hat hlt2 hgz hb2 hcap1 hspl hcz hcq2 hg02 hspl2 HCQ HXB1 HNEW HG1
  go_wp2
  go_loopw [28] (fun i wr => ∃ (j k : Nat) (zs qs : List Nat), i = .int .i64 j ∧ j + k = n ∧ DivInv xs ys k zs qs ∧ Cells wr gz (uv zs ++ spare) ∧ Cells wr w.heap.size (uv qs) ∧ w.grownBy wr (some gx)) (fun i _ => n - (intOf i).toNat)
  case atStart => exact ⟨0, n, _, _, rfl, by omega, HST.out, HCZ.out, HCQ2.out, HG02.out⟩
  case round =>
    obtain ⟨j, k, zs, qs, rfl, hjk, hinv, hcz, hcq, hgr⟩ := hrel
    have hzl := hinv.zlen
    have hql := hinv.qlen
    cases k with
    | succ k =>
      have hk1 : k + 1 ≤ xs.length - ys.length + 1 := by have := HNN.out; omega
      obtain ⟨a1, a2, a3, a4, a5⟩ := hinv.part hk1 hle HY.out
      have hyr : Blks B wr (.slice (some ⟨gy, 0, none⟩) ys.length cy) ys := HYB.out.grown hgr (by simp [Value.ownBlock]; omega)
      have hpr : (uv (zs.take k)).length = k := by rw [uv_length, List.length_take]; have := HNN.out; omega
      have hcz2 := hcz
      rw [part_split zs k (ys.length + 1), List.append_assoc] at hcz2
      obtain ⟨part, hpart⟩ : ∃ part, (zs.drop k).take (ys.length + 1) = part := ⟨_, rfl⟩
      have hpc : ∀ t, t < part.length → wr.cell? ⟨gz, k + t, none⟩ = some (.int .u64 (part.getD t 0 : Nat)) := by
        intro t ht
        have ht' : t < ys.length + 1 := by rw [← hpart, a2] at ht; exact ht
        have hkt : k + t < zs.length := by have := HNN.out; omega
        rw [hcz.cell, List.getElem?_append_left (by rw [uv_length]; exact hkt), uv_get _ _ hkt, ← hpart, part_getD _ _ _ _ ht']
      have hyc : ∀ t, t < ys.length → wr.cell? ⟨gy, 0 + t, none⟩ = some (.int .u64 (ys.getD t 0 : Nat)) := by
        intro t ht
        obtain ⟨_, _, _, _, py, hcy, _⟩ := hyr.cells
        rw [hcy.cell, Nat.zero_add, List.getElem?_append_left (by rw [uv_length]; exact ht), uv_get _ _ ht]
      rw [hpart] at a2 a3 a4 a5 hcz2
      have hgu := guess_any wr gz k (cap - k) gy 0 cy m (ys.length + 1) ys.length part ys (by rw [HYM.out]) HYM.out (by rw [a2, HYM.out]) HYM.out a3 HY.out HYT.out a4 (by have := HYM.out; omega) hpc hyc
      have hgok := guess_ok part ys m HYM.out (by rw [a2, HYM.out]) a3 HY.out HYT.out a4
      have hg1 := hgok.lo
      have hg2 := hgok.hi
      have hg3 := hgok.le
      clear hgok hpc hyc
      generalize (1000000000 * (1000000000 * part.getD (m + 1) 0 + part.getD m 0) + bAt part ((m : Int) - 1)) / (1000000000 * ys.getD m 0 + bAt ys ((m : Int) - 1)) = qh at *
      have hro := round_ok part ys qh a3 HY.out a2 hv hg1 hg2 hg3
      obtain ⟨q1, hq1⟩ : ∃ q1, comb (subT qh) part ys 0 (ys.length + 1) = q1 := ⟨_, rfl⟩
      obtain ⟨q2, hq2⟩ : ∃ q2, comb (addT 1) q1.1 ys 0 (ys.length + 1) = q2 := ⟨_, rfl⟩
      have hl1 : q1.1.length = ys.length + 1 := by rw [← hq1, comb_length]
      have hl2 : q2.1.length = ys.length + 1 := by rw [← hq2, comb_length]
      rw [hq1, hq2] at hro
      obtain ⟨hp1, hp2, hro1, hro2⟩ := hro
      have hcap : cap - k ≤ maxLen := by unfold maxLen; omega
      have hsub : ∀ n', Calls Tryd.prog 42 #[.slice (some ⟨gz, k, none⟩) (ys.length + 1) (cap - k), .slice (some ⟨gy, 0, none⟩) ys.length cy, .int .u64 (qh : Nat)] ((wr.setCell ⟨w.heap.size, k, none⟩ (.int .u64 (qh : Nat))).drewN n')
          (TimesPost q1 (uv (zs.take k)) (uv (zs.drop (k + (ys.length + 1))) ++ spare) gz ((wr.setCell ⟨w.heap.size, k, none⟩ (.int .u64 (qh : Nat))).drewN n')) := by
        intro n'
        have hg' : wr.grownBy ((wr.setCell ⟨w.heap.size, k, none⟩ (.int .u64 (qh : Nat))).drewN n') (some w.heap.size) := grown_trans (grown_setCell _ _ _) (grown_drewN _ _ _)
        have h := subTimes_any qh gz (cap - k) (uv (zs.take k)) (uv (zs.drop (k + (ys.length + 1))) ++ spare) part ys (.slice (some ⟨gy, 0, none⟩) ys.length cy) ((wr.setCell ⟨w.heap.size, k, none⟩ (.int .u64 (qh : Nat))).drewN n') hg3 a3 HY.out (by omega) (by omega) (by omega) hcap
          (hcz2.grown hg' (by simp; omega)) ((hyr.base (Nat.zero_le _)).grown hg' (by simp [Value.ownBlock]; omega)) (by simp [Value.ownBlock]; omega)
        rw [a2, hpr, hq1] at h
        exact h
      have hcqs : ∀ n' x, Cells ((wr.setCell ⟨w.heap.size, k, none⟩ (.int .u64 (x : Nat))).drewN n') w.heap.size (uv (qs.set k x)) := fun n' x => by
        have := hcq.set k (.int .u64 (x : Nat))
        rw [uv_set] at this
        exact this
      have hgq : ∀ n', w.grownBy ((wr.setCell ⟨w.heap.size, k, none⟩ (.int .u64 (qh : Nat))).drewN n') (some gx) := fun n' => grown_step (g := w.heap.size) hgr (grown_trans (grown_setCell _ _ _) (grown_drewN _ _ _)) (Nat.le_refl _)
      have hkq : k < qs.length := by omega
      have hqcell : ∃ old : Nat, wr.cell? ⟨w.heap.size, k, none⟩ = some (.int .u64 old) := ⟨_, by rw [hcq.cell, uv_get _ _ hkq]⟩
      obtain ⟨old, hqcell⟩ := hqcell
      have hqfree := hcq.free k
      have HGU := Lib.hid hgu; have HSUB := Lib.hid hsub; have HCQS := Lib.hid hcqs; have HGQ := Lib.hid hgq; have HINV := Lib.hid hinv; have HP1 := Lib.hid hp1; have HP2 := Lib.hid hp2; have HR1 := Lib.hid hro1; have HR2 := Lib.hid hro2; have HQ2 := Lib.hid hq2; have HL1 := Lib.hid hl1; have HL2 := Lib.hid hl2; have HPR := Lib.hid hpr; have HYR := Lib.hid hyr; have HKQ := Lib.hid hkq; have HPART := Lib.hid hpart; have HK1 := Lib.hid hk1; have HJK := Lib.hid hjk
      have hjn : j < n := by omega
      have hkc : k + ys.length + 1 ≤ cap := by have := HNN.out; omega
      have eat : (n : Int) - 1 - (j : Int) = (k : Int) := by omega
      have el : k + ys.length + 1 - k = ys.length + 1 := by omega
      have i6 : ¬ cap = k := by omega
      have i5 : decide (cap = k) = false := by simp; omega
      have hkn : k < n := by omega
      clear hgu hsub hcqs hgq hinv hp1 hp2 hro1 hro2 hq1 hq2 hl1 hl2 hpr hyr hkq hpart hk1 hjk a1 a2 a3 a4 a5 hcz hcq hgr hcz2 hzl hql hg1 hg2 hcap
      clear HST HCZ HCQ2 HG02
      go_wp2_with fail
      refine HGU.out.mono ?_
      rintro e wg ⟨rfl, nn, rfl⟩
      go_wp2_with fail
      refine (HSUB.out nn).mono ?_
      rintro e w3 ⟨rfl, hc3, hg3'⟩
      have hcq3 : Cells w3 w.heap.size (uv (qs.set k qh)) := (HCQS.out nn qh).grown hg3' (by simp; omega)
      have hgr3 : w.grownBy w3 (some gx) := grown_either (HGQ.out nn) hg3' hgz4
      by_cases hc : q1.2 = 0
      · have hst := HINV.out.step HK1.out hle HY.out hv q1.1 qh HL1.out HP1.out (by rw [HPART.out]; exact (HR1.out hc).1) (by rw [HPART.out]; exact (HR1.out hc).2)
        have hcz3 : Cells w3 gz (uv (zs.take k ++ q1.1 ++ zs.drop (k + (ys.length + 1))) ++ spare) := by
          rw [uv_append, uv_append, List.append_assoc (uv (zs.take k) ++ uv q1.1)]; exact hc3
        have HST := Lib.hid hst; have HCZ := Lib.hid hcz3; have HCQ := Lib.hid hcq3; have HGR := Lib.hid hgr3
        clear hst hcz3 hcq3 hgr3 hc3 hg3'
        rw [hc]
        go_wp2
        go_roundw
        case rel => exact ⟨j + 1, k, _, _, by go_num, by have := HJK.out; omega, HST.out, HCZ.out, HCQ.out, HGR.out⟩
        case measure => simp [intOf]; omega
      · have hc' : (0 : Int) < (q1.2 : Int) := by omega
        obtain ⟨hr1, hr2⟩ := HR2.out (by omega)
        have hq1p : 1 ≤ qh := by rw [hr1]; exact Nat.succ_le_succ (Nat.zero_le _)
        have eq1 : (qh : Int) - 1 = ((qh - 1 : Nat) : Int) := by omega
        have hst := HINV.out.step HK1.out hle HY.out hv q2.1 (qh - 1) HL2.out HP2.out (by rw [HPART.out, hr1]; simp) (by rw [HPART.out]; exact hr2)
        have hkl : k < (qs.set k qh).length := by rw [List.length_set]; exact HKQ.out
        have hcell3 : w3.cell? ⟨w.heap.size, k, none⟩ = some (.int .u64 (qh : Nat)) := by
          rw [hcq3.cell, uv_get _ _ hkl, getD_set _ _ _ _ HKQ.out, if_pos rfl]
        have hfree3 := hcq3.free k
        have hcq4 : Cells (w3.setCell ⟨w.heap.size, k, none⟩ (.int .u64 ((qh - 1 : Nat) : Int))) w.heap.size (uv (qs.set k (qh - 1))) := by
          have := hcq3.set k (.int .u64 ((qh - 1 : Nat) : Int))
          rw [uv_set, List.set_set] at this
          exact this
        have hgr4 : w.grownBy (w3.setCell ⟨w.heap.size, k, none⟩ (.int .u64 ((qh - 1 : Nat) : Int))) (some gx) := grown_step (g := w.heap.size) hgr3 (grown_setCell _ _ _) (Nat.le_refl _)
        have hg34 : w3.grownBy (w3.setCell ⟨w.heap.size, k, none⟩ (.int .u64 ((qh - 1 : Nat) : Int))) (some w.heap.size) := grown_setCell _ _ _
        have hyr4 : Blks 0 (w3.setCell ⟨w.heap.size, k, none⟩ (.int .u64 ((qh - 1 : Nat) : Int))) (.slice (some ⟨gy, 0, none⟩) ys.length cy) ys :=
          ((((HYB.out.base (Nat.zero_le _)).grown hgr4 (by simp [Value.ownBlock]; omega))))
        have hadd := addTimes_any 1 gz (cap - k) (uv (zs.take k)) (uv (zs.drop (k + (ys.length + 1))) ++ spare) q1.1 ys (.slice (some ⟨gy, 0, none⟩) ys.length cy) (w3.setCell ⟨w.heap.size, k, none⟩ (.int .u64 ((qh - 1 : Nat) : Int))) (by decide) HP1.out HY.out (by rw [HL1.out]; omega) (by rw [HPR.out]; omega) (by omega) (by unfold maxLen; omega)
          (hc3.grown hg34 (by simp; omega)) hyr4 (by simp [Value.ownBlock]; omega)
        rw [HL1.out, HPR.out, HQ2.out] at hadd
        have HADD := Lib.hid hadd; have HST := Lib.hid hst; have HCQ4 := Lib.hid hcq4; have HGR4 := Lib.hid hgr4
        clear hadd hst hcq4 hgr4 hg34 hyr4 hcq3 hgr3 hc3 hg3' hr1 hr2 hkl
        generalize ((qh - 1 : Nat) : Int) = qm at *
        go_wp2_with fail
        refine HADD.out.mono ?_
        rintro e w4 ⟨rfl, hc4, hg4⟩
        have hcz4 : Cells w4 gz (uv (zs.take k ++ q2.1 ++ zs.drop (k + (ys.length + 1))) ++ spare) := by
          rw [uv_append, uv_append, List.append_assoc (uv (zs.take k) ++ uv q2.1)]; exact hc4
        have hcq5 : Cells w4 w.heap.size (uv (qs.set k (qh - 1))) := HCQ4.out.grown hg4 (by simp; omega)
        have hgr5 : w.grownBy w4 (some gx) := grown_either HGR4.out hg4 hgz4
        have HCZ := Lib.hid hcz4; have HCQ := Lib.hid hcq5; have HGR := Lib.hid hgr5
        clear hcz4 hcq5 hgr5 hc4 hg4 hcell3 hfree3
        go_wp2
        go_roundw
        case rel => exact ⟨j + 1, k, _, _, by go_num, by have := HJK.out; omega, HST.out, HCZ.out, HCQ.out, HGR.out⟩
        case measure => simp [intOf]; omega
    | zero =>
      obtain ⟨hf1, hf2⟩ := hinv.fin
      have hzb : Blks B wr (.slice (some ⟨gz, 0, none⟩) zs.length cap) zs := Blks.of_cells hcz hgzB (by rw [List.length_append, uv_length]; have := HSPL.out; omega) (by unfold maxLen; omega) (by rw [List.take_append_of_le_length (by rw [uv_length]; exact Nat.le_refl _), List.take_of_length_le (by rw [uv_length]; exact Nat.le_refl _)]) (by omega)
      have htr := trim_any B gz cap zs wr hzb (by omega)
      rw [hzl] at htr
      have hqb : Blks 0 wr (.slice (some ⟨w.heap.size, 0, none⟩) qs.length n) qs := Blks.of_cells hcq (Nat.zero_le _) (by rw [uv_length, hql]; exact HNN.out) (by unfold maxLen; omega) (by rw [List.take_of_length_le (by rw [uv_length]; exact Nat.le_refl _)]) (by have := HNN.out; omega)
      have HT := Lib.hid htr; have HF1 := Lib.hid hf1; have HF2 := Lib.hid hf2; have HZB := Lib.hid hzb; have HQB := Lib.hid hqb; have HGR := Lib.hid hgr; have HINV := Lib.hid hinv; have HZL := Lib.hid hzl; have HCZ := Lib.hid hcz
      have hjn : ¬ ((j : Int) < (n : Int)) := by omega
      have hqln : qs.length = n := by rw [hql]; exact HNN.out
      have HQL := Lib.hid hqln
      clear hf1 hf2 hzb htr hqb hgr hinv hcz hcq hzl hql hqln hjk
      go_wp2_with fail
      refine HT.out.mono ?_
      rintro e w3 ⟨t, ht, rfl, rfl, hv', ht'⟩
      have htl : (zs.take t).length = t := by rw [List.length_take]; omega
      have HOK : Hid (DivOk B gx gy xs ys w wr (.slice (some ⟨w.heap.size, 0, none⟩) n n) qs gz cap (zs.take t)) := by
        have hzl := HZL.out
        refine ⟨by have := HQB.out; rw [HQL.out] at this; exact this, HINV.out.qlt, HF1.out, by rw [HQL.out]; have := HNN.out; omega, ?_, hgz2, fun z hz => HINV.out.zlt z (List.mem_of_mem_take hz), by rw [hv']; exact HF2.out, ht', by rw [htl]; omega, HGR.out⟩
        refine Blks.of_cells HCZ.out hgzB (by rw [List.length_append, uv_length]; have := HSPL.out; omega) (by unfold maxLen; omega) ?_ (by rw [htl]; omega)
        rw [htl, List.take_append_of_le_length (by rw [uv_length]; exact ht), uv_take]
      have HTL := Lib.hid htl
      clear hv' ht' htl
      go_wp2
      go_ret2
      exact ⟨_, qs, gz, cap, zs.take t, by rw [HTL.out]; rfl, HOK.out⟩
end Go.Proofs.YtlkjfhidicgjiaaDoor
