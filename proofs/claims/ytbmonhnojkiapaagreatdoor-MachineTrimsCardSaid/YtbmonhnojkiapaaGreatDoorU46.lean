/- The reference's Sorted. -/
import Derived.Test.YtbmonhnojkiapaaGreatDoorU45
import Derived.Test.YtbmonhnojkiapaaGreatDoorU38
import Derived.Test.YtbmonhnojkiapaaGreatDoorU32
import Derived.Deep.CutBlock
import Derived.Deep.RegionLaw
set_option linter.unusedVariables false
set_option linter.unusedSimpArgs false
namespace Go.Proofs.YtbmonhnojkiapaaGreatDoor
open Go.RowKit

/-- The call yields a row of its own with just these arcs. -/
def RowPost (l : List MArc) (w : World) (e : Ending) (w' : World) : Prop := ∃ v, e = .returned v ∧ w'.ownsRow w.heap.size 35 4 v l.length (l.flatMap arcC) ∧ w.grownBy w' none
/-- copy into a row of one's own, elements of more cells, perhaps none. -/
theorem step_copy_any {P : Program} {ops : Array Oper} {o : Oper} {a : Act} {w : World} {K : Act → World → Prop} {Q : Exit → Act → World → Prop} {E : Prop} (hgd : o.guard = none) (d s : Operand) (dT sT : TypeId)
    (ho : o.op = .call { callee := .builtin .copy, args := #[d, s], argTypes := #[dT, sT] }) (elem : TypeId) (k : Nat) (hu : P.underlying dT = some (.slice elem)) (hsz : (P.info? elem).map (·.size) = some k)
    (dp sp : Option Addr) (dLen dCap sLen sCap m : Nat) (hd : a.eval d = .slice dp dLen dCap) (hs : a.eval s = .slice sp sLen sCap)
    (g off : Nat) (cur : List Value) (t : TypeId) (hg : w.heap[g]? = some (.cells cur.toArray t (0, 0))) (cs : List Value) (hm : Nat.min sLen dLen = m) (hn : cs.length = m * k)
    (hpos : 0 < m → dp = some ⟨g, off, none⟩ ∧ ∃ ad, sp = some ad ∧ ∀ j v, cs[j]? = some v → w.cell? (ad.add j) = some v)
    (hfit : off + cs.length ≤ cur.length) (h1 : ∀ v ∈ cs, v.oneCell' = true)
    (h : ∀ w', Hid (w'.heap[g]? = some (.cells (splice cur off cs).toArray t (0, 0)) ∧ w.grownBy w' (some g)) → K (a.put o.dst (goInt m)) w') :
    if Region.wanted o (yielded ops a.tmps) = true then Oper.wp P o a w K Q else E := by
  by_cases h0 : m = 0
  · have hw : Region.wanted o (yielded ops a.tmps) = true := by simp [Region.wanted, hgd]
    rw [if_pos hw]
    have hcs : cs = [] := List.eq_nil_of_length_eq_zero (by rw [hn, h0, Nat.zero_mul])
    have hrun := run_copy_zero P w dT sT o.type elem dp sp dLen dCap sLen sCap hu (by cases hq : P.info? elem with
      | none => rw [hq] at hsz; simp at hsz
      | some i => rfl) (hm.trans h0)
    have hK := h w (Lib.hid ⟨by rw [hcs]; simpa [splice] using hg, World.grownBy.refl _ _⟩)
    rw [h0] at hK
    unfold Oper.wp
    simp [execOp, ho, resolve, invoke, builtin, hd, hs, hrun, Result.andThen]
    exact hK
  · obtain ⟨rfl, ad, rfl, hsrc⟩ := hpos (by omega)
    refine step_copy_k hgd d s dT sT ho elem k hu hsz g off ad dLen dCap sLen sCap m hd hs cur t hg cs hm hn hsrc hfit h1 (h _ (Lib.hid ⟨setRow_heap w g _ _ t _ hg, ⟨rfl, rfl, rfl, by simp, fun k _ hk => setRow_other w g k _ (fun e => hk (by rw [e]))⟩⟩))
theorem set4 {X T : List Value} {p0 p1 p2 p3 v0 v1 v2 v3 : Value} : ((((X ++ p0 :: p1 :: p2 :: p3 :: T).set X.length v0).set (X.length + 1) v1).set (X.length + 2) v2).set (X.length + 3) v3 = X ++ v0 :: v1 :: v2 :: v3 :: T := by
  simp [List.set_append]
theorem shift_row {cur : List Value} {o : List MArc} {z : List Value} {j : Nat} (hz : z.length = 4) (hj : j ≤ o.length) (ht : cur.take ((o.length + 1) * 4) = o.flatMap arcC ++ z) :
    ∃ p0 p1 p2 p3 R, splice cur ((j + 1) * 4) ((o.drop j).flatMap arcC) = (o.take j).flatMap arcC ++ p0 :: p1 :: p2 :: p3 :: ((o.drop j).flatMap arcC ++ R) := by
  have hx : ((o.take j).flatMap arcC).length = j * 4 := by rw [flat_len arcC 4 arcC_len, List.length_take, Nat.min_eq_left hj]
  have ho : o.flatMap arcC = (o.take j).flatMap arcC ++ (o.drop j).flatMap arcC := by rw [← List.flatMap_append, List.take_append_drop]
  have hc : cur = (o.take j).flatMap arcC ++ (((o.drop j).flatMap arcC ++ z) ++ cur.drop ((o.length + 1) * 4)) := by
    have h := (List.take_append_drop ((o.length + 1) * 4) cur).symm
    rw [ht, ho] at h
    simpa [List.append_assoc] using h
  have hl : 4 ≤ (((o.drop j).flatMap arcC ++ z) ++ cur.drop ((o.length + 1) * 4)).length := by simp; omega
  generalize hY : ((o.drop j).flatMap arcC ++ z) ++ cur.drop ((o.length + 1) * 4) = Y at hc hl
  match Y, hl, hc with
  | p0 :: p1 :: p2 :: p3 :: T, _, hc =>
    refine ⟨p0, p1, p2, p3, cur.drop ((j + 1) * 4 + ((o.drop j).flatMap arcC).length), ?_⟩
    unfold splice
    have e : cur.take ((j + 1) * 4) = (o.take j).flatMap arcC ++ [p0, p1, p2, p3] := by
      rw [hc, List.take_append, List.take_of_length_le (by omega), hx, show (j + 1) * 4 - j * 4 = 4 by omega]
      rfl
    rw [e]
    simp
/-- An arc put into a row one place of which is free at its end: what is behind goes one place to the right. -/
theorem put_arc {W : World} {B gg cc j : Nat} {o : List MArc} {z : List Value} (a : MArc) (h : W.ownsRow B 35 4 (.slice (some ⟨gg, 0, none⟩) (o.length + 1) cc) (o.length + 1) (o.flatMap arcC ++ z)) (hj : j ≤ o.length) :
    ∃ cur : List Value, W.heap[gg]? = some (.cells cur.toArray 35 (0, 0)) ∧ (j + 1) * 4 + ((o.drop j).flatMap arcC).length ≤ cur.length ∧ (∀ i v, ((o.drop j).flatMap arcC)[i]? = some v → W.cell? ((⟨gg, j * 4, none⟩ : Addr).add i) = some v) ∧ o.length + 1 ≤ cc ∧
      (∀ W1 : World, W1.heap[gg]? = some (.cells (splice cur ((j + 1) * 4) ((o.drop j).flatMap arcC)).toArray 35 (0, 0)) → ∃ p0 p1 p2 p3, W1.cell? ⟨gg, j * 4, none⟩ = some p0 ∧ W1.cell? ⟨gg, j * 4 + 1, none⟩ = some p1 ∧ W1.cell? ⟨gg, j * 4 + 2, none⟩ = some p2 ∧ W1.cell? ⟨gg, j * 4 + 3, none⟩ = some p3) ∧
      ∀ W1 : World, W1.heap[gg]? = some (.cells (splice cur ((j + 1) * 4) ((o.drop j).flatMap arcC)).toArray 35 (0, 0)) → World.ownsRow ((((W1.setCell ⟨gg, j * 4, none⟩ (.int .i64 a.i)).setCell ⟨gg, j * 4 + 1, none⟩ (.int .i64 a.o)).setCell ⟨gg, j * 4 + 2, none⟩ (.string a.w)).setCell ⟨gg, j * 4 + 3, none⟩ (.int .i64 a.t)) B 35 4 (.slice (some ⟨gg, 0, none⟩) (o.length + 1) cc) (o.length + 1) ((o.take j ++ a :: o.drop j).flatMap arcC) := by
  rcases h.2 with ⟨h', _⟩ | ⟨g', cap', cur, h', hb, hg, hnc, hcm, hcs, htake⟩
  · simp at h'
  simp only [Value.slice.injEq, Option.some.injEq, Addr.mk.injEq, and_true, true_and] at h'
  obtain ⟨rfl, rfl⟩ := h'
  have hz : z.length = 4 := by have := h.1; rw [List.length_append, flat_len arcC 4 arcC_len] at this; omega
  have hyl : ((o.drop j).flatMap arcC).length = (o.length - j) * 4 := by rw [flat_len arcC 4 arcC_len, List.length_drop]
  have hx : ((o.take j).flatMap arcC).length = j * 4 := by rw [flat_len arcC 4 arcC_len, List.length_take, Nat.min_eq_left hj]
  have hcl : cur.toList.length = cc * 4 := by rw [Array.length_toList, hcs]
  have hmul : (o.length + 1) * 4 ≤ cc * 4 := Nat.mul_le_mul_right 4 hnc
  have hfit : (j + 1) * 4 + ((o.drop j).flatMap arcC).length ≤ cur.toList.length := by omega
  refine ⟨cur.toList, hg, hfit, fun i v hv => ?_, hnc, fun W1 hW => ?_, fun W1 hW => ?_⟩
  · have hi := (List.getElem?_eq_some_iff.1 hv).1
    have hadd : (⟨gg, j * 4, none⟩ : Addr).add i = ⟨gg, j * 4 + i, none⟩ := by unfold Addr.add; split <;> simp_all
    rw [hadd, h.cellAt (j * 4 + i) (by omega)]
    have ho : o.flatMap arcC = (o.take j).flatMap arcC ++ (o.drop j).flatMap arcC := by rw [← List.flatMap_append, List.take_append_drop]
    rw [ho, List.append_assoc, List.getElem?_append_right (by omega), hx, show j * 4 + i - j * 4 = i by omega, List.getElem?_append_left hi]
    exact hv
  · obtain ⟨p0, p1, p2, p3, R, hs⟩ := shift_row hz hj htake
    rw [hs] at hW
    refine ⟨p0, p1, p2, p3, ?_, ?_, ?_, ?_⟩
    · rw [cell_of_row W1 gg _ _ _ (0, 0) hW, List.getElem?_toArray, ← hx, List.getElem?_append_right (Nat.le_refl _), Nat.sub_self]; rfl
    · rw [cell_of_row W1 gg _ _ _ (0, 0) hW, List.getElem?_toArray, ← hx, List.getElem?_append_right (by omega), Nat.add_sub_cancel_left]; rfl
    · rw [cell_of_row W1 gg _ _ _ (0, 0) hW, List.getElem?_toArray, ← hx, List.getElem?_append_right (by omega), Nat.add_sub_cancel_left]; rfl
    · rw [cell_of_row W1 gg _ _ _ (0, 0) hW, List.getElem?_toArray, ← hx, List.getElem?_append_right (by omega), Nat.add_sub_cancel_left]; rfl
  · obtain ⟨p0, p1, p2, p3, R, hs⟩ := shift_row hz hj htake
    have hsl : (splice cur.toList ((j + 1) * 4) ((o.drop j).flatMap arcC)).length = cc * 4 := by rw [length_splice _ _ _ hfit, hcl]
    rw [hs] at hW hsl
    have h1 := heap_setCell_same W1 gg (j * 4) _ _ (.int .i64 a.i) hW
    have h2 := heap_setCell_same _ gg (j * 4 + 1) _ _ (.int .i64 a.o) h1
    have h3 := heap_setCell_same _ gg (j * 4 + 2) _ _ (.string a.w) h2
    have h4 := heap_setCell_same _ gg (j * 4 + 3) _ _ (.int .i64 a.t) h3
    simp only [List.setIfInBounds_toArray] at h4
    rw [← hx, set4] at h4
    rw [hx] at h4
    have hfin : (o.take j).flatMap arcC ++ Value.int .i64 a.i :: .int .i64 a.o :: .string a.w :: .int .i64 a.t :: ((o.drop j).flatMap arcC ++ R) = (o.take j ++ a :: o.drop j).flatMap arcC ++ R := by
      rw [List.flatMap_append, List.flatMap_cons]
      simp [arcC]
    have hfl : ((o.take j ++ a :: o.drop j).flatMap arcC).length = (o.length + 1) * 4 := by
      rw [flat_len arcC 4 arcC_len]; simp; omega
    rw [hfin] at h4
    refine ⟨hfl, .inr ⟨gg, cc, _, rfl, hb, h4, hnc, hcm, ?_, ?_⟩⟩
    · rw [List.size_toArray, ← hfin]
      rw [List.length_append] at hsl ⊢
      simpa using hsl
    · rw [List.take_append_of_le_length (by omega), List.take_of_length_le (by omega)]
theorem grown_set4 {W : World} {gg j : Nat} {v0 v1 v2 v3 : Value} : W.grownBy ((((W.setCell ⟨gg, j, none⟩ v0).setCell ⟨gg, j + 1, none⟩ v1).setCell ⟨gg, j + 2, none⟩ v2).setCell ⟨gg, j + 3, none⟩ v3) (some gg) :=
  World.grownBy.trans (World.grownBy.trans (World.grownBy.trans (grown_setCell W ⟨gg, j, none⟩ v0) (grown_setCell _ ⟨gg, j + 1, none⟩ v1)) (grown_setCell _ ⟨gg, j + 2, none⟩ v2)) (grown_setCell _ ⟨gg, j + 3, none⟩ v3)
/-- The cells of an arc in a row of one's own. -/
theorem own_arc {W : World} {B gg cc n j : Nat} {o : List MArc} {a : MArc} (h : W.ownsRow B 35 4 (.slice (some ⟨gg, 0, none⟩) n cc) n (o.flatMap arcC)) (hn : o.length = n) (ha : o[j]? = some a) :
    W.cell? ⟨gg, j * 4, none⟩ = some (.int .i64 a.i) ∧ W.cell? ⟨gg, j * 4 + 1, none⟩ = some (.int .i64 a.o) ∧ W.cell? ⟨gg, j * 4 + 2, none⟩ = some (.string a.w) ∧ W.cell? ⟨gg, j * 4 + 3, none⟩ = some (.int .i64 a.t) := by
  have hj := (List.getElem?_eq_some_iff.1 ha).1
  exact ⟨(h.cellAt _ (by omega)).trans (by have := flat_get arcC 4 arcC_len o j 0 a ha (by omega); rw [Nat.add_zero] at this; exact this), (h.cellAt _ (by omega)).trans (flat_get arcC 4 arcC_len o j 1 a ha (by omega)), (h.cellAt _ (by omega)).trans (flat_get arcC 4 arcC_len o j 2 a ha (by omega)), (h.cellAt _ (by omega)).trans (flat_get arcC 4 arcC_len o j 3 a ha (by omega))⟩
set_option maxRecDepth 20000 in
set_option maxHeartbeats 8000000 in
theorem rsorted_any {w : World} {v : Value} {l : List MArc} (hv : ArcsSl w v l) (hl : l.length ≤ 3000000) : Calls Tryz.prog 52 #[v] w (RowPost (sortA l) w) := by
  obtain ⟨A, cap, rfl, hr⟩ := hv
  have HR := Lib.hid hr
  obtain ⟨i1, hi, hz0, hz1, hz2⟩ := info_parts6 info_arc
  clear hr
  go_enter Tryz.func52, Tryz.ntmps52
  go_wp2
  go_loopw [3, 4] (fun o i wr => ∃ k : Nat, i = .int .i64 k ∧ k ≤ l.length ∧ wr.ownsRow w.heap.size 35 4 o k ((sortA (l.take k)).flatMap arcC) ∧ w.grownBy wr none) (fun _ i _ => l.length - (intOf i).toNat)
  case atStart => exact ⟨0, rfl, by omega, by have := World.ownsRow_nil w w.heap.size 35 4; simpa [sortA] using this, World.grownBy.refl _ _⟩
  case round =>
    obtain ⟨k, rfl, hk, hown, hgr⟩ := hrel
    obtain ⟨Ao, co, rfl, _⟩ := reads_of_own hown
    have HOWN := Lib.hid hown; have HGR := Lib.hid hgr
    have hsz := hgr.size
    by_cases hlt : k < l.length
    · obtain ⟨ad, a, hA, hab, ha, hat⟩ := row_arc HR.out hlt
      subst hA
      have HA := Lib.hid ha; have HAT := Lib.hid hat
      have hol : (sortA (l.take k)).length = k := by rw [sortA_len, List.length_take]; omega
      generalize ho' : sortA (l.take k) = o' at *
      have HO := Lib.hid ho'; have HOL := Lib.hid hol
      have n1 : (k : Int) < (l.length : Int) := by omega
      have n2 : IntKind.i64.wrap ((k : Int) + 1) = (k : Int) + 1 := by rw [IntKind.wrap_i64]; omega
      have n3 : (0 : Int) ≤ (k : Int) := by omega
      clear hown hgr ha hat hol ho'
      generalize wr = wv at *
      go_upto_block 2 with (fail)
      go_cut [5] from 14 to 29 (fun t wx => ∃ j : Nat, t = .int .i64 j ∧ j ≤ k ∧ (j = 0 ∨ ∃ y, o'[j - 1]? = some y ∧ ltA a y = false) ∧ (∀ y ∈ o'.drop j, ltA a y = true) ∧ wv.grownBy wx none)
      case first =>
        go_wp2_with fail
        go_loopw [5] (fun t wr => ∃ j : Nat, t = .int .i64 j ∧ j ≤ k ∧ (∀ y ∈ o'.drop j, ltA a y = true) ∧ wv.grownBy wr none) (fun t _ => (intOf t).toNat)
        case atStart => exact ⟨k, rfl, by omega, by rw [List.drop_of_length_le (by rw [HOL.out]; omega)]; simp, World.grownBy.refl _ _⟩
        case round =>
          obtain ⟨j, rfl, hj, hall, hgi⟩ := hrel
          have HALL := Lib.hid hall; have HGi := Lib.hid hgi
          clear hall
          cases j with
          | zero =>
            clear hgi
            go_upto_region 6 with (fail)
            refine wp_region_held_drew (S := fun _ => True) (by kernel_rfl) trivial (fun hHeld => ?_)
            refine wpAnyH_take (i := 0) (v := .int .i64 0) rfl (by kernel_rfl) (by kernel_rfl) (by kernel_rfl) (fun _ _ _ h => h) (Or.inl ⟨by rfl, ?_⟩) hHeld ?_
            · intro W hSw
              (try dsimp only at hSw)
              first | (go_simp; done) | (go_simp; rfl)
            (try simp only [List.getElem_toArray, List.getElem_cons_succ, List.getElem_cons_zero, Act.put, List.setIfInBounds_toArray, List.set_cons_zero, List.set_cons_succ])
            refine wpAnyH_take (i := 1) (v := .bool false) rfl (by kernel_rfl) (by kernel_rfl) (by kernel_rfl) (fun _ _ _ h => h) (Or.inl ⟨by rfl, ?_⟩) hHeld ?_
            · intro W hSw
              (try dsimp only at hSw)
              first | (go_simp; done) | (go_simp; rfl)
            (try simp only [List.getElem_toArray, List.getElem_cons_succ, List.getElem_cons_zero, Act.put, List.setIfInBounds_toArray, List.set_cons_zero, List.set_cons_succ])
            refine wpAnyH_take (i := 2) (v := .bool false) rfl (by kernel_rfl) (by kernel_rfl) (by kernel_rfl) (fun _ _ _ h => h) (Or.inl ⟨by rfl, ?_⟩) hHeld ?_
            · intro W hSw
              (try dsimp only at hSw)
              first | (go_simp; done) | (go_simp; rfl)
            (try simp only [List.getElem_toArray, List.getElem_cons_succ, List.getElem_cons_zero, Act.put, List.setIfInBounds_toArray, List.set_cons_zero, List.set_cons_succ])
            refine wpAnyH_take (i := 3) (v := undef) rfl (by kernel_rfl) (by kernel_rfl) (by kernel_rfl) (fun _ _ _ h => h) (Or.inr ⟨by rfl, rfl⟩) hHeld ?_
            (try simp only [List.getElem_toArray, List.getElem_cons_succ, List.getElem_cons_zero, Act.put, List.setIfInBounds_toArray, List.set_cons_zero, List.set_cons_succ])
            refine wpAnyH_take (i := 4) (v := undef) rfl (by kernel_rfl) (by kernel_rfl) (by kernel_rfl) (fun _ _ _ h => h) (Or.inr ⟨by rfl, rfl⟩) hHeld ?_
            (try simp only [List.getElem_toArray, List.getElem_cons_succ, List.getElem_cons_zero, Act.put, List.setIfInBounds_toArray, List.set_cons_zero, List.set_cons_succ])
            refine wpAnyH_take (i := 5) (v := undef) rfl (by kernel_rfl) (by kernel_rfl) (by kernel_rfl) (fun _ _ _ h => h) (Or.inr ⟨by rfl, rfl⟩) hHeld ?_
            (try simp only [List.getElem_toArray, List.getElem_cons_succ, List.getElem_cons_zero, Act.put, List.setIfInBounds_toArray, List.set_cons_zero, List.set_cons_succ])
            refine wpAnyH_take (i := 6) (v := undef) rfl (by kernel_rfl) (by kernel_rfl) (by kernel_rfl) (fun _ _ _ h => h) (Or.inr ⟨by rfl, rfl⟩) hHeld ?_
            (try simp only [List.getElem_toArray, List.getElem_cons_succ, List.getElem_cons_zero, Act.put, List.setIfInBounds_toArray, List.set_cons_zero, List.set_cons_succ])
            refine wpAnyH_take (i := 7) (v := undef) rfl (by kernel_rfl) (by kernel_rfl) (by kernel_rfl) (fun _ _ _ h => h) (Or.inr ⟨by rfl, rfl⟩) hHeld ?_
            (try simp only [List.getElem_toArray, List.getElem_cons_succ, List.getElem_cons_zero, Act.put, List.setIfInBounds_toArray, List.set_cons_zero, List.set_cons_succ])
            refine wpAnyH_take (i := 8) (v := undef) rfl (by kernel_rfl) (by kernel_rfl) (by kernel_rfl) (fun _ _ _ h => h) (Or.inr ⟨by rfl, rfl⟩) hHeld ?_
            (try simp only [List.getElem_toArray, List.getElem_cons_succ, List.getElem_cons_zero, Act.put, List.setIfInBounds_toArray, List.set_cons_zero, List.set_cons_succ])
            refine wpAnyH_take (i := 9) (v := undef) rfl (by kernel_rfl) (by kernel_rfl) (by kernel_rfl) (fun _ _ _ h => h) (Or.inr ⟨by rfl, rfl⟩) hHeld ?_
            (try simp only [List.getElem_toArray, List.getElem_cons_succ, List.getElem_cons_zero, Act.put, List.setIfInBounds_toArray, List.set_cons_zero, List.set_cons_succ])
            refine wpAnyH_take (i := 10) (v := undef) rfl (by kernel_rfl) (by kernel_rfl) (by kernel_rfl) (fun _ _ _ h => h) (Or.inr ⟨by rfl, rfl⟩) hHeld ?_
            (try simp only [List.getElem_toArray, List.getElem_cons_succ, List.getElem_cons_zero, Act.put, List.setIfInBounds_toArray, List.set_cons_zero, List.set_cons_succ])
            refine wpAnyH_take (i := 11) (v := undef) rfl (by kernel_rfl) (by kernel_rfl) (by kernel_rfl) (fun _ _ _ h => h) (Or.inr ⟨by rfl, rfl⟩) hHeld ?_
            (try simp only [List.getElem_toArray, List.getElem_cons_succ, List.getElem_cons_zero, Act.put, List.setIfInBounds_toArray, List.set_cons_zero, List.set_cons_succ])
            refine wpAnyH_take (i := 12) (v := undef) rfl (by kernel_rfl) (by kernel_rfl) (by kernel_rfl) (fun _ _ _ h => h) (Or.inr ⟨by rfl, rfl⟩) hHeld ?_
            (try simp only [List.getElem_toArray, List.getElem_cons_succ, List.getElem_cons_zero, Act.put, List.setIfInBounds_toArray, List.set_cons_zero, List.set_cons_succ])
            refine wpAnyH_take (i := 13) (v := .bool false) rfl (by kernel_rfl) (by kernel_rfl) (by kernel_rfl) (fun _ _ _ h => h) (Or.inl ⟨by rfl, ?_⟩) hHeld ?_
            · intro W hSw
              (try dsimp only at hSw)
              first | (go_simp; done) | (go_simp; rfl)
            (try simp only [List.getElem_toArray, List.getElem_cons_succ, List.getElem_cons_zero, Act.put, List.setIfInBounds_toArray, List.set_cons_zero, List.set_cons_succ])
            refine wpAnyH_done (by kernel_rfl) ?_ _
            have HGd := Lib.hid (grown_trans HGi.out (grown_drew wr none))
            go_wp2_with (fail)
            go_meet
            case rel => exact ⟨0, rfl, by omega, .inl rfl, HALL.out, HGd.out⟩
          | succ q =>
            obtain ⟨b, hb⟩ : ∃ b, o'[q]? = some b := ⟨_, List.getElem?_eq_getElem (by rw [HOL.out]; omega)⟩
            obtain ⟨gg, cc, hform, hgg, _⟩ := HOWN.out.form (by omega)
            cases hform
            obtain ⟨z0, z1, z2, z3⟩ := own_arc HOWN.out HOL.out hb
            have y0 := hgi.cell z0 (by simp); have y1 := hgi.cell z1 (by simp); have y2 := hgi.cell z2 (by simp); have y3 := hgi.cell z3 (by simp)
            obtain ⟨x0, x1, x2, x3⟩ := HAT.out.grown (grown_trans HGR.out hgi) (by rw [block_of_add]; exact hab)
            have m1 : (0 : Int) < (q : Int) + 1 := by omega
            have m2 : IntKind.i64.wrap ((q : Int) + 1 - 1) = (q : Int) := by rw [IntKind.wrap_i64]; omega
            have m5 : IntKind.i64.wrap (q : Int) = (q : Int) := by rw [IntKind.wrap_i64]; omega
            have m3 : (0 : Int) ≤ (q : Int) := by omega
            have m4 : (q : Int) < (k : Int) := by omega
            have HB := Lib.hid hb
            clear z0 z1 z2 z3 hb hgi
            go_upto_region 6 with (fail)
            have d0 : wr.drew.cell? (ad.add (k * 4)) = some (.int .i64 a.i) := x0
            have d1 : wr.drew.cell? { block := (ad.add (k * 4)).block, off := (ad.add (k * 4)).off + 1, spot := none } = some (.int .i64 a.o) := x1
            have d2 : wr.drew.cell? { block := (ad.add (k * 4)).block, off := (ad.add (k * 4)).off + 2, spot := none } = some (.string a.w) := x2
            have d3 : wr.drew.cell? { block := (ad.add (k * 4)).block, off := (ad.add (k * 4)).off + 3, spot := none } = some (.int .i64 a.t) := x3
            have e0 : wr.drew.cell? ⟨gg, q * 4, none⟩ = some (.int .i64 b.i) := y0
            have e1 : wr.drew.cell? ⟨gg, q * 4 + 1, none⟩ = some (.int .i64 b.o) := y1
            have e2 : wr.drew.cell? ⟨gg, q * 4 + 2, none⟩ = some (.string b.w) := y2
            have e3 : wr.drew.cell? ⟨gg, q * 4 + 3, none⟩ = some (.int .i64 b.t) := y3
            by_cases hlb : ltA a b = true
            · have HC := Lib.hid (rbefore_any a b wr.drew)
              have HD : Hid (∀ y ∈ o'.drop q, ltA a y = true) := Lib.hid (by
                have hq := (List.getElem?_eq_some_iff.1 HB.out).1
                rw [List.drop_eq_getElem_cons hq, (List.getElem?_eq_some_iff.1 HB.out).2]
                intro y hy
                rcases List.mem_cons.1 hy with rfl | hy
                · exact hlb
                · exact HALL.out y hy)
              rw [hlb] at HC
              clear hlb
              go_region_held3 (fun W' : World => W'.cell? (ad.add (k * 4)) = some (.int .i64 a.i) ∧ W'.cell? { block := (ad.add (k * 4)).block, off := (ad.add (k * 4)).off + 1, spot := none } = some (.int .i64 a.o) ∧ W'.cell? { block := (ad.add (k * 4)).block, off := (ad.add (k * 4)).off + 2, spot := none } = some (.string a.w) ∧ W'.cell? { block := (ad.add (k * 4)).block, off := (ad.add (k * 4)).off + 3, spot := none } = some (.int .i64 a.t) ∧ W'.cell? ⟨gg, q * 4, none⟩ = some (.int .i64 b.i) ∧ W'.cell? ⟨gg, q * 4 + 1, none⟩ = some (.int .i64 b.o) ∧ W'.cell? ⟨gg, q * 4 + 2, none⟩ = some (.string b.w) ∧ W'.cell? ⟨gg, q * 4 + 3, none⟩ = some (.int .i64 b.t)) (go_keep)
                ((go_at_call 74; refine HC.out.mono ?_; rintro e w6 ⟨rfl, hg6⟩; have s0 := hg6.cell d0 (by simp); have s1 := hg6.cell d1 (by simp); have s2 := hg6.cell d2 (by simp); have s3 := hg6.cell d3 (by simp); have t0 := hg6.cell e0 (by simp); have t1 := hg6.cell e1 (by simp); have t2 := hg6.cell e2 (by simp); have t3 := hg6.cell e3 (by simp); have HG6 := Lib.hid (grown_trans (grown_trans HGi.out (grown_drew wr none)) hg6); clear hg6))
              clear s0 s1 s2 s3 t0 t1 t2 t3 d0 d1 d2 d3 e0 e1 e2 e3 x0 x1 x2 x3 y0 y1 y2 y3
              go_wp2
              go_roundw
              case rel => exact ⟨q, by go_num, by omega, HD.out, HG6.out⟩
              case measure => simp [intOf]
            · have hlf : ltA a b = false := by simpa using hlb
              have HC := Lib.hid (rbefore_any a b wr.drew)
              have HLF := Lib.hid hlf
              rw [hlf] at HC
              clear hlb hlf
              go_region_held3 (fun W' : World => W'.cell? (ad.add (k * 4)) = some (.int .i64 a.i) ∧ W'.cell? { block := (ad.add (k * 4)).block, off := (ad.add (k * 4)).off + 1, spot := none } = some (.int .i64 a.o) ∧ W'.cell? { block := (ad.add (k * 4)).block, off := (ad.add (k * 4)).off + 2, spot := none } = some (.string a.w) ∧ W'.cell? { block := (ad.add (k * 4)).block, off := (ad.add (k * 4)).off + 3, spot := none } = some (.int .i64 a.t) ∧ W'.cell? ⟨gg, q * 4, none⟩ = some (.int .i64 b.i) ∧ W'.cell? ⟨gg, q * 4 + 1, none⟩ = some (.int .i64 b.o) ∧ W'.cell? ⟨gg, q * 4 + 2, none⟩ = some (.string b.w) ∧ W'.cell? ⟨gg, q * 4 + 3, none⟩ = some (.int .i64 b.t)) (go_keep)
                ((go_at_call 74; refine HC.out.mono ?_; rintro e w6 ⟨rfl, hg6⟩; have s0 := hg6.cell d0 (by simp); have s1 := hg6.cell d1 (by simp); have s2 := hg6.cell d2 (by simp); have s3 := hg6.cell d3 (by simp); have t0 := hg6.cell e0 (by simp); have t1 := hg6.cell e1 (by simp); have t2 := hg6.cell e2 (by simp); have t3 := hg6.cell e3 (by simp); have HG6 := Lib.hid (grown_trans (grown_trans HGi.out (grown_drew wr none)) hg6); clear hg6))
              clear s0 s1 s2 s3 t0 t1 t2 t3 d0 d1 d2 d3 e0 e1 e2 e3 x0 x1 x2 x3 y0 y1 y2 y3
              go_wp2_with (fail)
              go_meet
              case rel => exact ⟨q + 1, by go_num, by omega, .inr ⟨b, HB.out, HLF.out⟩, HALL.out, HG6.out⟩
      case rest =>
        obtain ⟨j, rfl, hj, hb, hall, hgx⟩ := hcut
        generalize wc = wx at *
        have hown := HOWN.out.kept hgx (by cases Value.ownBlock (.slice Ao k co) <;> simp)
        have hga := World.grownBy_alloc wx (.cells #[.int .i64 0, .int .i64 0, .string ⟨#[]⟩, .int .i64 0] 35) none
        have HOWN2 := Lib.hid (hown.kept hga (by cases Value.ownBlock (.slice Ao k co) <;> simp))
        have HBLK := Lib.hid (block_new6 wx #[.int .i64 0, .int .i64 0, .string ⟨#[]⟩, .int .i64 0] 35)
        have HINS : Hid (o'.take j ++ a :: o'.drop j = sortA (l.take (k + 1))) := Lib.hid (insert_is HO.out.symm HA.out (by rw [HOL.out]; exact hj) hb hall)
        have HGX := Lib.hid (grown_trans (grown_trans HGR.out hgx) hga)
        have hszx := hgx.size
        clear hown hga hb hall hgx
        go_wp2_with (at_builtin; refine wpList_append_own_at _ rfl _ _ 27 rfl w.heap.size 35 i1 (.agg #[.int .i64 0, .int .i64 0, .string ByteArray.empty, .int .i64 0]) 4 40 Tryz.underlying27 hi hz0 hz1 hz2 rfl (by omega) (.slice Ao k co) k _ rfl HOWN2.out ⟨wx.heap.size, 0, none⟩ 1 1 [.int .i64 0, .int .i64 0, .string ⟨#[]⟩, .int .i64 0] rfl rfl (World.news_of_block HBLK.out) (by simp [Value.oneCell']) (by unfold maxLen; omega) (by omega) (by simp; omega) ?_)
        intro v' w5 k1 k2 _ k4
        obtain ⟨gg, cc, rfl, hgg, _⟩ := k1.form (by omega)
        have hoj : j ≤ o'.length := by rw [HOL.out]; exact hj
        have hk1 := k1
        rw [← HOL.out] at hk1
        obtain ⟨cur, hcur, hfit, hcells, hcc, hput0, hput⟩ := put_arc a hk1 hoj
        have HC5 := Lib.hid hcur; have HP0 := Lib.hid hput0; have HP := Lib.hid hput
        have HCE := Lib.hid hcells; have HK2 := Lib.hid k2
        have hlo : ∀ b, Value.ownBlock (.slice Ao k co) = some b → w.heap.size ≤ b := fun b e => (HOWN.out.lt b e).1
        have HG5 := Lib.hid (grown_many HGX.out k2 (fun b e => hlo b e))
        clear k1 k2 k4 hk1 hcur hcells hput0 hput hlo
        have e1 : IntKind.i64.wrap ((j : Int) + 1) = (j : Int) + 1 := by rw [IntKind.wrap_i64]; omega
        have e2 : (0 : Int) ≤ (j : Int) + 1 := by omega
        have e3 : ((j : Int) + 1).toNat = j + 1 := by omega
        have e4 : j + 1 ≤ k + 1 := by omega
        have e5 : j ≤ k + 1 := by omega
        have e6 : k + 1 ≤ cc := by have := HOL.out; omega
        have e7 : j + 1 ≤ cc := by have := HOL.out; omega
        have e8 : j ≤ cc := by have := HOL.out; omega
        have e10 : (j : Int) ≤ (k : Int) + 1 := by omega
        have e9 : ¬ cc = j := by have := HOL.out; omega
        have hdl : ((o'.drop j).flatMap arcC).length = (k - j) * 4 := by rw [flat_len arcC 4 arcC_len, List.length_drop, HOL.out]
        have HDL := Lib.hid hdl
        clear hdl
        go_upto_region 9 with (fail)
        go_cut [41] from 34 to 41 (fun c wx' => Hid (wx'.heap[gg]? = some (.cells (splice cur ((j + 1) * 4) ((o'.drop j).flatMap arcC)).toArray 35 (0, 0)) ∧ w5.grownBy wx' (some gg)))
        case first =>
          by_cases hc : cc = j + 1
          · obtain rfl : cc = j + 1 := hc
            go_region_law ((refine step_copy_any rfl (.tmp 37) (.tmp 40) 27 27 rfl 35 4 Tryz.underlying27 (by kernel_rfl) (some ⟨gg, 0, none⟩) (some ⟨gg, j * 4, none⟩) 0 0 (k + 1 - j) 1 0 (by simp [Act.eval, Act.put]) (by simp [Act.eval, Act.put]) gg ((j + 1) * 4) cur 35 HC5.out ((o'.drop j).flatMap arcC) (Nat.min_zero _) (by rw [HDL.out, show k - j = 0 by omega]) (fun h => absurd h (Nat.lt_irrefl 0)) hfit (arcC_one _) ?_; intro w6 h6))
            go_wp2_with (fail)
            go_meet
            case rel => exact Lib.hid ⟨h6.out.1, World.grownBy.trans (grown_drew w5 (some gg)) h6.out.2⟩
          · go_region_law ((refine step_copy_any rfl (.tmp 37) (.tmp 40) 27 27 rfl 35 4 Tryz.underlying27 (by kernel_rfl) (some ⟨gg, (j + 1) * 4, none⟩) (some ⟨gg, j * 4, none⟩) (k - j) (cc - (j + 1)) (k + 1 - j) (cc - j) (k - j) (by simp [Act.eval, Act.put]) (by simp [Act.eval, Act.put]) gg ((j + 1) * 4) cur 35 HC5.out ((o'.drop j).flatMap arcC) (by simp [Nat.min_def]; omega) HDL.out (fun h => ⟨rfl, _, rfl, HCE.out⟩) hfit (arcC_one _) ?_; intro w6 h6))
            go_wp2_with (fail)
            go_meet
            case rel => exact Lib.hid ⟨h6.out.1, World.grownBy.trans (grown_drew w5 (some gg)) h6.out.2⟩
        case rest =>
          obtain ⟨hw6, hg6⟩ := hcut.out
          generalize wc = w6 at *
          obtain ⟨p0, p1, p2, p3, c0, c1, c2, c3⟩ := HP0.out w6 hw6
          have hown6 := HP.out w6 hw6
          rw [HINS.out, HOL.out] at hown6
          have HOWN6 := Lib.hid hown6
          have hg5 := HG5.out
          have HG6 := Lib.hid (grown_step (g := gg) (grown_step (g := gg) hg5 hg6 (by omega)) (grown_set4 (gg := gg) (j := j * 4) (v0 := .int .i64 a.i) (v1 := .int .i64 a.o) (v2 := .string a.w) (v3 := .int .i64 a.t)) (by omega))
          obtain ⟨x0, x1, x2, x3⟩ := HAT.out.grown (grown_step (g := gg) hg5 hg6 (by omega)) (by rw [block_of_add]; exact hab)
          have f0 := frozen_of_row w6 gg (j * 4) _ _ hw6; have f1 := frozen_of_row w6 gg (j * 4 + 1) _ _ hw6; have f2 := frozen_of_row w6 gg (j * 4 + 2) _ _ hw6; have f3 := frozen_of_row w6 gg (j * 4 + 3) _ _ hw6
          have m1 : (j : Int) < (k : Int) + 1 := by omega
          have m2 : (0 : Int) ≤ (j : Int) := by omega
          clear hown6 hg5 hg6 hw6 e1 e2 e3 e4 e5 e6 e7 e8 e9 e10 hfit
          go_wp2
          go_roundw
          case rel => exact ⟨k + 1, by go_num, by omega, HOWN6.out, HG6.out⟩
          case measure => simp [intOf]; omega
    · have n1 : ¬ (k : Int) < (l.length : Int) := by omega
      have hke : k = l.length := by omega
      subst hke
      rw [List.take_of_length_le (Nat.le_refl _)] at hown
      have hsl := sortA_len l
      rw [← hsl] at hown
      have HOWN3 := Lib.hid hown
      have HSL := Lib.hid hsl
      clear hown hgr hsl HOWN
      go_wp2
      rw [← HSL.out]
      go_ret
      exact ⟨_, rfl, HOWN3.out, HGR.out⟩
end Go.Proofs.YtbmonhnojkiapaaGreatDoor
