/- The reference's Sigma. · The program's Acceptor, Quiet, Deterministic, Sigma. · The program's Deterministic, Sigma. -/
import Derived.Test.YtbmonhnojkiapaaGreatDoorV21
import Derived.Test.YtbmonhnojkiapaaGreatDoorV26
import Derived.Test.YtbmonhnojkiapaaGreatDoorV22
set_option linter.unusedVariables false
set_option linter.unusedSimpArgs false
namespace Go.Proofs.YtbmonhnojkiapaaGreatDoor
open Go.RowKit

/-- The greatest symbol. -/
def maxArc (n : Int) (a : MArc) : Int := if (if n < a.i then a.i else n) < a.o then a.o else if n < a.i then a.i else n
def maxSt (n : Int) (s : MState) : Int := s.arcs.foldl maxArc n
def sigmaV (l : List MState) : Int := l.foldl maxSt 0
noncomputable def sigV (m : Mach) : Int := if validB m = true then sigmaV m.states else 0
theorem foldl_next {α β : Type} (f : β → α → β) (b : β) {l : List α} {k : Nat} {x : α} (h : l[k]? = some x) : (l.take (k + 1)).foldl f b = f ((l.take k).foldl f b) x := by
  rw [take_one h, List.foldl_append]; rfl

end Go.Proofs.YtbmonhnojkiapaaGreatDoor
set_option linter.unusedVariables false
set_option linter.unusedSimpArgs false
namespace Go.Proofs.YtbmonhnojkiapaaGreatDoor
open Go.RowKit Go.Maps

theorem every_split (P : MArc → Bool) (m : Mach) : everyB P m = (validB m && allB P m) := rfl
theorem enters_copies : Enters 44 := enters_of Tryz.func44 (by kernel_rfl) rfl
theorem enters_speaks : Enters 45 := enters_of Tryz.func45 (by kernel_rfl) rfl
set_option maxHeartbeats 1000000 in
theorem copies_any (a : MArc) (W : World) : Calls Tryz.prog 44 #[.agg #[.int .i64 a.i, .int .i64 a.o, .string a.w, .int .i64 a.t]] W (ValPost (.bool (accP a)) W) := by
  have hg := World.grownBy_alloc W (.cells #[.int .i64 a.i, .int .i64 a.o, .string a.w, .int .i64 a.t] 35) none
  have HG := Lib.hid hg
  clear hg
  by_cases h : a.i = a.o
  · have HE : Hid (accP a = true) := Lib.hid (by unfold accP; simp [h])
    have b1 : (a.i == a.o) = true := by simp [h]
    clear h
    go_enter Tryz.func44, Tryz.ntmps44
    go_wp2
    go_ret
    exact ⟨by rw [HE.out]; simp, HG.out⟩
  · have HE : Hid (accP a = false) := Lib.hid (by unfold accP; simp [h])
    have b1 : (a.i == a.o) = false := by simp [h]
    clear h
    go_enter Tryz.func44, Tryz.ntmps44
    go_wp2
    go_ret
    exact ⟨by rw [HE.out]; simp, HG.out⟩
set_option maxHeartbeats 1000000 in
theorem speaks_any (a : MArc) (W : World) : Calls Tryz.prog 45 #[.agg #[.int .i64 a.i, .int .i64 a.o, .string a.w, .int .i64 a.t]] W (ValPost (.bool (quietP a)) W) := by
  have hg := World.grownBy_alloc W (.cells #[.int .i64 a.i, .int .i64 a.o, .string a.w, .int .i64 a.t] 35) none
  have HG := Lib.hid hg
  clear hg
  by_cases h : a.i = 0
  · have b1 : (a.i != 0) = false := by simp [h]
    by_cases h2 : a.o = 0
    · have HE : Hid (quietP a = false) := Lib.hid (by unfold quietP; simp [h, h2])
      have b2 : (a.o != 0) = false := by simp [h2]
      clear h h2
      go_enter Tryz.func45, Tryz.ntmps45
      go_wp2
      go_ret
      exact ⟨by rw [HE.out]; rfl, HG.out⟩
    · have HE : Hid (quietP a = true) := Lib.hid (by unfold quietP; simp [h, h2])
      have b2 : (a.o != 0) = true := by simp [h2]
      clear h h2
      go_enter Tryz.func45, Tryz.ntmps45
      go_wp2
      go_ret
      exact ⟨by rw [HE.out]; rfl, HG.out⟩
  · have b1 : (a.i != 0) = true := by simp [h]
    have HE : Hid (quietP a = true) := Lib.hid (by unfold quietP; simp [h])
    clear h
    go_enter Tryz.func45, Tryz.ntmps45
    go_wp2
    go_ret
    exact ⟨by rw [HE.out]; rfl, HG.out⟩
/-- all, where the function value only adds memory. -/
theorem all_quiet {w : World} {A : Option Addr} {cap : Nat} {us : List Value} {m : Mach} {F : Nat} {P : MArc → Bool} (hE : Enters F) (hS : StAt w A us m.states) (hf : ∀ (a : MArc) (W : World), Calls Tryz.prog F #[.agg #[.int .i64 a.i, .int .i64 a.o, .string a.w, .int .i64 a.t]] W (ValPost (.bool (P a)) W)) (hF : Fits m) :
    Calls Tryz.prog 43 #[.agg #[.int .i64 m.kind, .int .i64 m.start, .string m.lead, .slice A m.states.length cap], .func (.func F) #[] #[]] w (ValPost (.bool (allB P m)) w) :=
  (all_any (w := w) (A := A) (cap := cap) (us := us) (m := m) (Inv := fun W' => w.grownBy W' none) (r := none) (F := F) (lb := #[]) (P := P) hE (fun W1 W2 h1 h2 => grown_trans h1 h2) (fun W1 h1 => hS.grown h1) (fun k e => by cases e) (grown_refl _ _)
    (says_grown (fun W1 s a hI hs ha => hf a W1)) hF.n hF.arcs).mono fun e w' ⟨h1, _, h3⟩ => ⟨h1, h3⟩
set_option maxRecDepth 20000 in
set_option maxHeartbeats 2000000 in
theorem acceptor_any {w : World} {v : Value} {m : Mach} (hv : MachV w v m) (hf : Fits m) : Calls Tryz.prog 16 #[v] w (ValPost (.bool (everyB accP m)) w) := by
  have hval := fun w' (h : w.grownBy w' none) => pvalid_any (hv.grown h) hf
  obtain ⟨u, rfl, hst0⟩ := hv
  obtain ⟨A, cap, us, rfl, hS0⟩ := StAt.of hst0
  have hg : w.grownBy (w.alloc (.cells #[.int .i64 m.kind, .int .i64 m.start, .string m.lead, .slice A m.states.length cap] 24)) none := World.grownBy_alloc _ _ _
  have hbx := BoxAt.new w m (.slice A m.states.length cap)
  have HV := Lib.hid hval; have HBX := Lib.hid hbx; have HG := Lib.hid hg; have HS := Lib.hid hS0; have HF := Lib.hid hf
  obtain ⟨x0, x1, x2, x3⟩ := hbx.cells
  clear hval hbx hg hst0 hS0
  go_enter Tryz.func16, Tryz.ntmps16
  go_wp2_with fail
  refine (HV.out _ HG.out).mono ?_
  rintro e w1 ⟨rfl, hg1⟩
  generalize hW : w.alloc (.cells #[.int .i64 m.kind, .int .i64 m.start, .string m.lead, .slice A m.states.length cap] 24) = W at *
  clear hW x0 x1 x2 x3
  have HG1 := Lib.hid (grown_trans HG.out hg1)
  obtain ⟨x0, x1, x2, x3⟩ := (HBX.out.grown hg1).cells
  clear hg1
  cases hB : validB m
  · have HN : Hid (everyB accP m = false) := Lib.hid (by rw [every_split, hB]; rfl)
    clear hB
    go_wp2
    go_ret
    exact ⟨by rw [HN.out]; rfl, HG1.out⟩
  · have HE : Hid (everyB accP m = allB accP m) := Lib.hid (by rw [every_split, hB]; rfl)
    have HA := Lib.hid (all_quiet (cap := cap) (P := accP) enters_copies (HS.out.grown HG1.out) copies_any HF.out)
    clear hB
    go_wp2_with fail
    refine HA.out.mono ?_
    rintro e w2 ⟨rfl, hg2⟩
    have HG2 := Lib.hid (grown_trans HG1.out hg2)
    clear hg2
    cases hB : allB accP m
    all_goals
      rw [hB] at HE
      clear hB
      go_wp2
      go_ret
      exact ⟨by rw [HE.out]; rfl, HG2.out⟩
set_option maxRecDepth 20000 in
set_option maxHeartbeats 2000000 in
theorem quiet_any {w : World} {v : Value} {m : Mach} (hv : MachV w v m) (hf : Fits m) : Calls Tryz.prog 17 #[v] w (ValPost (.bool (everyB quietP m)) w) := by
  have hval := fun w' (h : w.grownBy w' none) => pvalid_any (hv.grown h) hf
  obtain ⟨u, rfl, hst0⟩ := hv
  obtain ⟨A, cap, us, rfl, hS0⟩ := StAt.of hst0
  have hg : w.grownBy (w.alloc (.cells #[.int .i64 m.kind, .int .i64 m.start, .string m.lead, .slice A m.states.length cap] 24)) none := World.grownBy_alloc _ _ _
  have hbx := BoxAt.new w m (.slice A m.states.length cap)
  have HV := Lib.hid hval; have HBX := Lib.hid hbx; have HG := Lib.hid hg; have HS := Lib.hid hS0; have HF := Lib.hid hf
  obtain ⟨x0, x1, x2, x3⟩ := hbx.cells
  clear hval hbx hg hst0 hS0
  go_enter Tryz.func17, Tryz.ntmps17
  go_wp2_with fail
  refine (HV.out _ HG.out).mono ?_
  rintro e w1 ⟨rfl, hg1⟩
  generalize hW : w.alloc (.cells #[.int .i64 m.kind, .int .i64 m.start, .string m.lead, .slice A m.states.length cap] 24) = W at *
  clear hW x0 x1 x2 x3
  have HG1 := Lib.hid (grown_trans HG.out hg1)
  obtain ⟨x0, x1, x2, x3⟩ := (HBX.out.grown hg1).cells
  clear hg1
  cases hB : validB m
  · have HN : Hid (everyB quietP m = false) := Lib.hid (by rw [every_split, hB]; rfl)
    clear hB
    go_wp2
    go_ret
    exact ⟨by rw [HN.out]; rfl, HG1.out⟩
  · have HE : Hid (everyB quietP m = allB quietP m) := Lib.hid (by rw [every_split, hB]; rfl)
    have HA := Lib.hid (all_quiet (cap := cap) (P := quietP) enters_speaks (HS.out.grown HG1.out) speaks_any HF.out)
    clear hB
    go_wp2_with fail
    refine HA.out.mono ?_
    rintro e w2 ⟨rfl, hg2⟩
    have HG2 := Lib.hid (grown_trans HG1.out hg2)
    clear hg2
    cases hB : allB quietP m
    all_goals
      rw [hB] at HE
      clear hB
      go_wp2
      go_ret
      exact ⟨by rw [HE.out]; rfl, HG2.out⟩
/-- A row of integers. -/
def zv (zs : List Int) : List Value := zs.map (fun x => Value.int .i64 x)
def CellsZ (w : World) (g : Nat) (t : TypeId) (zs : List Int) : Prop := w.heap[g]? = some (.cells (zv zs).toArray t (0, 0))
theorem CellsZ.cell {w : World} {g : Nat} {t : TypeId} {zs : List Int} (h : CellsZ w g t zs) {k : Nat} {x : Int} (hx : zs[k]? = some x) : w.cell? ⟨g, k, none⟩ = some (.int .i64 x) := by
  rw [cell_of_row w g k _ _ (0, 0) h]; simp [zv, hx]
theorem CellsZ.free {w : World} {g : Nat} {t : TypeId} {zs : List Int} (h : CellsZ w g t zs) (k : Nat) : w.frozen? ⟨g, k, none⟩ = false := frozen_of_row w g k _ _ h
theorem CellsZ.set {w : World} {g : Nat} {t : TypeId} {zs : List Int} (h : CellsZ w g t zs) (k : Nat) (x : Int) : CellsZ (w.setCell ⟨g, k, none⟩ (.int .i64 x)) g t (zs.set k x) := by
  unfold CellsZ
  rw [heap_setCell_same w g k _ _ _ h]
  simp [zv, List.map_set]
theorem CellsZ.lt {w : World} {g : Nat} {t : TypeId} {zs : List Int} (h : CellsZ w g t zs) : g < w.heap.size := lt_of_block h
theorem CellsZ.grown {w w' : World} {g : Nat} {t : TypeId} {zs : List Int} {r : Option Nat} (h : CellsZ w g t zs) (hg : w.grownBy w' r) (hr : some g ≠ r) : CellsZ w' g t zs := (hg.block g h.lt hr).trans h
theorem zero_last : Tryz.zeroCells67 = (zv (List.replicate 501 0)).toArray := by kernel_rfl
end Go.Proofs.YtbmonhnojkiapaaGreatDoor
set_option linter.unusedVariables false
set_option linter.unusedSimpArgs false
namespace Go.Proofs.YtbmonhnojkiapaaGreatDoor
open Go.RowKit Go.Maps

/-- What the row of the last states says of a state's first arcs. -/
structure LIn (s : MState) (k j : Nat) (zs : List Int) : Prop where
  d : DIn s j (zs.map (fun v => decide (v = (k : Int) + 1)))
  le : ∀ v ∈ zs, v ≤ (k : Int) + 1
theorem LIn.start (s : MState) {k : Nat} {zs : List Int} (hl : zs.length = 501) (h : ∀ v ∈ zs, v ≤ (k : Int)) : LIn s k 0 zs := by
  refine ⟨?_, fun v hv => by have := h v hv; omega⟩
  have e : zs.map (fun v => decide (v = (k : Int) + 1)) = List.replicate 501 false := by
    rw [← hl]
    apply List.ext_getElem?
    intro i
    rw [List.getElem?_map, List.getElem?_replicate]
    by_cases hi : i < zs.length
    · rw [List.getElem?_eq_getElem hi, if_pos hi]
      have := h _ (List.getElem_mem hi)
      simp; omega
    · rw [List.getElem?_eq_none (by omega), if_neg hi]; rfl
  rw [e]; exact DIn.start s
theorem LIn.len {s : MState} {k j : Nat} {zs : List Int} (h : LIn s k j zs) : zs.length = 501 := by have := h.d.len; rwa [List.length_map] at this
theorem LIn.no {s : MState} {k j x : Nat} {zs : List Int} {a : MArc} (h : LIn s k j zs) (ha : s.arcs[j]? = some a) (hx : a.i = (x : Int)) (hz : zs[x]? = some ((k : Int) + 1)) : oneSym s = false :=
  h.d.no ha hx (by rw [List.getElem?_map, hz]; simp)
theorem LIn.next {s : MState} {k j x : Nat} {zs : List Int} {a : MArc} {v : Int} (h : LIn s k j zs) (ha : s.arcs[j]? = some a) (hx : a.i = (x : Int)) (hz : zs[x]? = some v) (hv : v ≠ (k : Int) + 1) : LIn s k (j + 1) (zs.set x ((k : Int) + 1)) := by
  have h1 := h.d.next ha hx (by rw [List.getElem?_map, hz]; simpa using hv)
  refine ⟨?_, fun u hu => ?_⟩
  · rw [List.map_set, show decide ((k : Int) + 1 = (k : Int) + 1) = true by simp]; exact h1
  · rcases List.mem_or_eq_of_mem_set hu with h2 | h2
    · exact h.le u h2
    · omega
theorem all_sym {m : Mach} {k : Nat} (h : DOut m k) (hk : ¬ k < m.states.length) : m.states.all oneSym = true := by
  rw [List.all_eq_true]
  intro s hs
  obtain ⟨j, hj⟩ := List.mem_iff_getElem?.1 hs
  exact h.hs j s (by have := (List.getElem?_eq_some_iff.1 hj).1; omega) hj
theorem sym_not {m : Mach} {k : Nat} {s : MState} (hs : m.states[k]? = some s) (h : oneSym s = false) : m.states.all oneSym = false := by
  cases hx : m.states.all oneSym
  · rfl
  · rw [List.all_eq_true.1 hx s (List.mem_of_getElem? hs)] at h; cases h
set_option maxRecDepth 20000 in
set_option maxHeartbeats 4000000 in
theorem different_any {w : World} {v : Value} {m : Mach} (hv : MachV w v m) (hB : validB m = true) : Calls Tryz.prog 46 #[v] w (ValPost (.bool (m.states.all oneSym)) w) := by
  obtain ⟨u, rfl, hst0⟩ := hv
  obtain ⟨A, cap, us, rfl, hS0⟩ := StAt.of hst0
  have hg1 : w.grownBy (w.alloc (.cells #[.int .i64 m.kind, .int .i64 m.start, .string m.lead, .slice A m.states.length cap] 24)) none := World.grownBy_alloc _ _ _
  have hg2 := World.grownBy_alloc (w.alloc (.cells #[.int .i64 m.kind, .int .i64 m.start, .string m.lead, .slice A m.states.length cap] 24)) (.cells Tryz.zeroCells67 67) none
  have hbx := (BoxAt.new w m (.slice A m.states.length cap)).grown hg2
  have hrow := block_new6 (w.alloc (.cells #[.int .i64 m.kind, .int .i64 m.start, .string m.lead, .slice A m.states.length cap] 24)) Tryz.zeroCells67 67
  rw [show (w.alloc (.cells #[.int .i64 m.kind, .int .i64 m.start, .string m.lead, .slice A m.states.length cap] 24)).heap.size = w.heap.size + 1 by simp] at hrow
  have hrow2 : CellsZ ((w.alloc (.cells #[.int .i64 m.kind, .int .i64 m.start, .string m.lead, .slice A m.states.length cap] 24)).alloc (.cells Tryz.zeroCells67 67)) (w.heap.size + 1) 67 (List.replicate 501 0) := by
    unfold CellsZ; rw [← zero_last]; exact hrow
  clear hrow
  have HS := Lib.hid hS0; have HBX := Lib.hid hbx; have HG := Lib.hid (grown_trans hg1 hg2); have HR := Lib.hid hrow2; have HB := Lib.hid hB
  have hl := valid_len hB
  obtain ⟨x0, x1, x2, x3⟩ := hbx.cells
  clear hst0 hS0 hg1 hg2 hbx hrow2 hB
  go_enter Tryz.func46, Tryz.ntmps46
  go_wp2
  generalize hW : (w.alloc (.cells #[.int .i64 m.kind, .int .i64 m.start, .string m.lead, .slice A m.states.length cap] 24)).alloc (.cells Tryz.zeroCells67 67) = W at *
  clear hW x0 x1 x2 x3
  go_loopw [11] (fun i wr => ∃ (k : Nat) (zs : List Int), i = .int .i64 k ∧ DOut m k ∧ CellsZ wr (w.heap.size + 1) 67 zs ∧ zs.length = 501 ∧ (∀ v ∈ zs, v ≤ (k : Int)) ∧ w.grownBy wr none) (fun i _ => m.states.length - (intOf i).toNat)
  case atStart => exact ⟨0, _, rfl, ⟨by omega, fun j s hj => by omega⟩, HR.out, by simp, fun v hv => by have := List.eq_of_mem_replicate hv; omega, HG.out⟩
  case round =>
    obtain ⟨k, zs, rfl, ho, hrow, hzl, hle, hgr⟩ := hrel
    have HO := Lib.hid ho
    have hk := ho.hk
    have HGR := Lib.hid hgr; have HROW := Lib.hid hrow; have HLE := Lib.hid hle
    clear ho hgr hrow hle
    by_cases hlt : k < m.states.length
    · obtain ⟨ad, s, B, cb, hA, hs, hu, hc, hra⟩ := (HS.out.grown HGR.out).at_ hlt
      subst hA
      obtain ⟨z0, z1⟩ := hc
      have hal := valid_row HB.out (List.mem_of_getElem? hs)
      have n1 : (k : Int) < (m.states.length : Int) := by omega
      have n2 : IntKind.i64.wrap ((k : Int) + 1) = (k : Int) + 1 := by rw [IntKind.wrap_i64]; omega
      have hga := World.grownBy_alloc wr (.cells #[.string s.fin, .slice B s.arcs.length cb] 29) none
      have HSS := Lib.hid hs; have HU := Lib.hid hu
      have HG2 := Lib.hid (grown_trans HGR.out hga)
      have HR2 := Lib.hid (HROW.out.grown hga (by simp))
      clear hs hu hra hga
      go_wp2
      generalize hW2 : wr.alloc (.cells #[.string s.fin, .slice B s.arcs.length cb] 29) = W2 at *
      clear hW2 z0 z1
      generalize wr = w4 at *
      go_loopw [19] (fun i wr => ∃ (j : Nat) (zs : List Int), i = .int .i64 j ∧ LIn s k j zs ∧ CellsZ wr (w.heap.size + 1) 67 zs ∧ w.grownBy wr none) (fun i _ => s.arcs.length - (intOf i).toNat)
      case atStart => exact ⟨0, zs, rfl, LIn.start s hzl HLE.out, HR2.out, HG2.out⟩
      case round =>
        obtain ⟨j, ys, rfl, hi, hrow, hgr⟩ := hrel
        have HI := Lib.hid hi
        have hj := hi.d.hj
        have HROW3 := Lib.hid hrow; have HGR3 := Lib.hid hgr
        clear hi hrow hgr
        by_cases hjl : j < s.arcs.length
        · obtain ⟨ad2, a, hB, hab, haj, hat⟩ := row_arc ((HS.out.grown HGR3.out).arcs_at HSS.out HU.out) hjl
          subst hB
          obtain ⟨z0, z1, z2, z3⟩ := hat
          have harc := arc_parts ((state_parts (valid_states HB.out HSS.out)).2 a (List.mem_of_getElem? haj))
          obtain ⟨x, hx⟩ : ∃ x : Nat, a.i = (x : Int) := ⟨a.i.toNat, by omega⟩
          have hx5 : x < 501 := by omega
          obtain ⟨v, hv⟩ : ∃ v, ys[x]? = some v := ⟨_, List.getElem?_eq_getElem (by rw [HI.out.len]; exact hx5)⟩
          have hga := World.grownBy_alloc wr (.cells #[.int .i64 a.i, .int .i64 a.o, .string a.w, .int .i64 a.t] 35) none
          have hrow4 := HROW3.out.grown hga (by simp)
          have HROW4 := Lib.hid hrow4
          have HG4 := Lib.hid (grown_trans HGR3.out hga)
          have s0 := hrow4.cell hv
          have s1 := hrow4.free x
          rw [hx] at z0 s0 s1 HROW4 HG4
          have n3 : (j : Int) < (s.arcs.length : Int) := by omega
          have n4 : IntKind.i64.wrap ((j : Int) + 1) = (j : Int) + 1 := by rw [IntKind.wrap_i64]; omega
          have n5 : (0 : Int) ≤ (x : Int) := by omega
          have n6 : (x : Int) < 501 := by omega
          have HAJ := Lib.hid haj; have HX := Lib.hid hx; have HV := Lib.hid hv
          clear haj harc hx hv hga hrow4
          by_cases hvk : v = (k : Int) + 1
          · subst hvk
            have HNO := Lib.hid (sym_not HSS.out (HI.out.no HAJ.out HX.out HV.out))
            go_wp2
            go_ret
            exact ⟨by rw [HNO.out]; rfl, HG4.out⟩
          · have HN := Lib.hid (HI.out.next HAJ.out HX.out HV.out hvk)
            have b1 : (v == (k : Int) + 1) = false := by simpa using hvk
            have HSET := Lib.hid (HROW4.out.set x ((k : Int) + 1))
            clear hvk
            go_wp2
            go_roundw
            case rel => exact ⟨j + 1, _, by go_num, HN.out, HSET.out, grown_step (g := w.heap.size + 1) HG4.out (grown_setCell _ ⟨w.heap.size + 1, x, none⟩ _) (by omega)⟩
            case measure => simp [intOf]; omega
        · have n3 : ¬ (j : Int) < (s.arcs.length : Int) := by omega
          have HN := Lib.hid (HO.out.next HSS.out (HI.out.d.all hjl))
          go_wp2
          go_roundw
          case rel => exact ⟨k + 1, ys, by go_num, HN.out, HROW3.out, HI.out.len, fun v hv => by have := HI.out.le v hv; omega, HGR3.out⟩
          case measure => simp [intOf]; omega
    · have n1 : ¬ (k : Int) < (m.states.length : Int) := by omega
      have HY := Lib.hid (all_sym HO.out hlt)
      go_wp2
      go_ret
      exact ⟨by rw [HY.out]; rfl, HGR.out⟩
theorem det_split (m : Mach) : detB m = (validB m && (allB accP m && (allB quietP m && m.states.all oneSym))) := by
  unfold detB
  rw [every_split, every_split]
  cases validB m <;> cases allB accP m <;> cases allB quietP m <;> cases m.states.all oneSym <;> rfl
set_option maxRecDepth 20000 in
set_option maxHeartbeats 2000000 in
theorem deterministic_any {w : World} {v : Value} {m : Mach} (hv : MachV w v m) (hf : Fits m) : Calls Tryz.prog 18 #[v] w (ValPost (.bool (detB m)) w) := by
  have hval := fun w' (h : w.grownBy w' none) => pvalid_any (hv.grown h) hf
  have hdif := fun w' (h : w.grownBy w' none) => different_any (hv.grown h)
  have HSP := Lib.hid (det_split m)
  obtain ⟨u, rfl, hst0⟩ := hv
  obtain ⟨A, cap, us, rfl, hS0⟩ := StAt.of hst0
  have hg : w.grownBy (w.alloc (.cells #[.int .i64 m.kind, .int .i64 m.start, .string m.lead, .slice A m.states.length cap] 24)) none := World.grownBy_alloc _ _ _
  have hbx := BoxAt.new w m (.slice A m.states.length cap)
  have HV := Lib.hid hval; have HBX := Lib.hid hbx; have HG := Lib.hid hg; have HS := Lib.hid hS0; have HF := Lib.hid hf; have HD := Lib.hid hdif
  obtain ⟨x0, x1, x2, x3⟩ := hbx.cells
  clear hval hbx hg hst0 hS0 hdif
  go_enter Tryz.func18, Tryz.ntmps18
  go_wp2_with fail
  refine (HV.out _ HG.out).mono ?_
  rintro e w1 ⟨rfl, hg1⟩
  generalize hW : w.alloc (.cells #[.int .i64 m.kind, .int .i64 m.start, .string m.lead, .slice A m.states.length cap] 24) = W at *
  clear hW x0 x1 x2 x3
  have HG1 := Lib.hid (grown_trans HG.out hg1)
  have HB1 := Lib.hid (HBX.out.grown hg1)
  obtain ⟨x0, x1, x2, x3⟩ := HB1.out.cells
  clear hg1
  cases hB : validB m
  · have HN : Hid (detB m = false) := Lib.hid (by rw [HSP.out, hB]; rfl)
    clear hB
    go_wp2
    go_ret
    exact ⟨by rw [HN.out]; rfl, HG1.out⟩
  have HB := Lib.hid hB
  clear hB
  have HA := Lib.hid (all_quiet (cap := cap) (P := accP) enters_copies (HS.out.grown HG1.out) copies_any HF.out)
  go_wp2_with fail
  refine HA.out.mono ?_
  rintro e w2 ⟨rfl, hg2⟩
  have HG2 := Lib.hid (grown_trans HG1.out hg2)
  have HB2 := Lib.hid (HB1.out.grown hg2)
  clear hg2 x0 x1 x2 x3 HA
  obtain ⟨x0, x1, x2, x3⟩ := HB2.out.cells
  cases hC : allB accP m
  · have HN : Hid (detB m = false) := Lib.hid (by rw [HSP.out, HB.out, hC]; rfl)
    clear hC
    go_wp2
    go_ret
    exact ⟨by rw [HN.out]; rfl, HG2.out⟩
  have HC := Lib.hid hC
  clear hC
  have HA := Lib.hid (all_quiet (cap := cap) (P := quietP) enters_speaks (HS.out.grown HG2.out) speaks_any HF.out)
  go_wp2_with fail
  refine HA.out.mono ?_
  rintro e w3 ⟨rfl, hg3⟩
  have HG3 := Lib.hid (grown_trans HG2.out hg3)
  have HB3 := Lib.hid (HB2.out.grown hg3)
  clear hg3 x0 x1 x2 x3 HA
  obtain ⟨x0, x1, x2, x3⟩ := HB3.out.cells
  cases hD : allB quietP m
  · have HN : Hid (detB m = false) := Lib.hid (by rw [HSP.out, HB.out, HC.out, hD]; rfl)
    clear hD
    go_wp2
    go_ret
    exact ⟨by rw [HN.out]; rfl, HG3.out⟩
  have HQ := Lib.hid hD
  clear hD
  have HA := Lib.hid (HD.out _ HG3.out HB.out)
  go_wp2_with fail
  refine HA.out.mono ?_
  rintro e w4 ⟨rfl, hg4⟩
  have HG4 := Lib.hid (grown_trans HG3.out hg4)
  have HE : Hid (detB m = m.states.all oneSym) := Lib.hid (by rw [HSP.out, HB.out, HC.out, HQ.out]; rfl)
  clear hg4 HA
  cases hD : m.states.all oneSym
  all_goals
    rw [hD] at HE
    clear hD
    go_wp2
    go_ret
    exact ⟨by rw [HE.out]; rfl, HG4.out⟩
set_option maxRecDepth 20000 in
set_option maxHeartbeats 4000000 in
theorem sigma_any {w : World} {v : Value} {m : Mach} (hv : MachV w v m) (hf : Fits m) : Calls Tryz.prog 20 #[v] w (ValPost (.int .i64 (sigV m)) w) := by
  have hval := fun w' (h : w.grownBy w' none) => pvalid_any (hv.grown h) hf
  obtain ⟨u, rfl, hst0⟩ := hv
  obtain ⟨A, cap, us, rfl, hS0⟩ := StAt.of hst0
  have hg : w.grownBy (w.alloc (.cells #[.int .i64 m.kind, .int .i64 m.start, .string m.lead, .slice A m.states.length cap] 24)) none := World.grownBy_alloc _ _ _
  have hbx := BoxAt.new w m (.slice A m.states.length cap)
  have HV := Lib.hid hval; have HBX := Lib.hid hbx; have HG := Lib.hid hg; have HS := Lib.hid hS0; have HF := Lib.hid hf
  obtain ⟨x0, x1, x2, x3⟩ := hbx.cells
  clear hval hbx hg hst0 hS0
  go_enter Tryz.func20, Tryz.ntmps20
  go_wp2_with fail
  refine (HV.out _ HG.out).mono ?_
  rintro e w1 ⟨rfl, hg1⟩
  generalize hW : w.alloc (.cells #[.int .i64 m.kind, .int .i64 m.start, .string m.lead, .slice A m.states.length cap] 24) = W at *
  clear hW x0 x1 x2 x3
  have HG1 := Lib.hid (grown_trans HG.out hg1)
  obtain ⟨x0, x1, x2, x3⟩ := (HBX.out.grown hg1).cells
  clear hg1
  cases hB : validB m
  · have HN : Hid (sigV m = 0) := Lib.hid (by unfold sigV; rw [hB]; rfl)
    clear hB
    go_wp2
    go_ret
    exact ⟨by rw [HN.out]; rfl, HG1.out⟩
  · have HB := Lib.hid hB
    have hl := valid_len hB
    clear hB
    go_wp2
    clear x0 x1 x2 x3
    go_loopw [2, 13] (fun n i wr => ∃ k : Nat, i = .int .i64 k ∧ n = .int .i64 ((m.states.take k).foldl maxSt 0) ∧ k ≤ m.states.length ∧ w.grownBy wr none) (fun _ i _ => m.states.length - (intOf i).toNat)
    case atStart => exact ⟨0, rfl, rfl, by omega, HG1.out⟩
    case round =>
      obtain ⟨k, rfl, rfl, hk, hgr⟩ := hrel
      have HGR := Lib.hid hgr
      clear hgr
      by_cases hlt : k < m.states.length
      · obtain ⟨ad, s, B, cb, hA, hs, hu, hc, hra⟩ := (HS.out.grown HGR.out).at_ hlt
        subst hA
        obtain ⟨z0, z1⟩ := hc
        have hal := valid_row HB.out (List.mem_of_getElem? hs)
        have n1 : (k : Int) < (m.states.length : Int) := by omega
        have n2 : IntKind.i64.wrap ((k : Int) + 1) = (k : Int) + 1 := by rw [IntKind.wrap_i64]; omega
        have hga := World.grownBy_alloc wr (.cells #[.string s.fin, .slice B s.arcs.length cb] 29) none
        have HSS := Lib.hid hs; have HU := Lib.hid hu
        have HG2 := Lib.hid (grown_trans HGR.out hga)
        clear hs hu hra hga
        go_wp2
        generalize hW2 : wr.alloc (.cells #[.string s.fin, .slice B s.arcs.length cb] 29) = W2 at *
        clear hW2 z0 z1
        generalize wr = w4 at *
        go_loopw [2, 20] (fun n i wr => ∃ j : Nat, i = .int .i64 j ∧ n = .int .i64 ((s.arcs.take j).foldl maxArc ((m.states.take k).foldl maxSt 0)) ∧ j ≤ s.arcs.length ∧ w.grownBy wr none) (fun _ i _ => s.arcs.length - (intOf i).toNat)
        case atStart => exact ⟨0, rfl, rfl, by omega, HG2.out⟩
        case round =>
          obtain ⟨j, rfl, rfl, hj, hgr⟩ := hrel
          have HGR3 := Lib.hid hgr
          clear hgr
          by_cases hjl : j < s.arcs.length
          · obtain ⟨ad2, a, hB, hab, haj, hat⟩ := row_arc ((HS.out.grown HGR3.out).arcs_at HSS.out HU.out) hjl
            subst hB
            obtain ⟨z0, z1, z2, z3⟩ := hat
            have n3 : (j : Int) < (s.arcs.length : Int) := by omega
            have n4 : IntKind.i64.wrap ((j : Int) + 1) = (j : Int) + 1 := by rw [IntKind.wrap_i64]; omega
            have HAJ := Lib.hid haj
            have HG4 := Lib.hid (grown_trans HGR3.out (World.grownBy_alloc wr (.cells #[.int .i64 a.i, .int .i64 a.o, .string a.w, .int .i64 a.t] 35) none))
            clear haj
            have hx := foldl_next maxArc ((m.states.take k).foldl maxSt 0) HAJ.out
            have HX := Lib.hid hx
            clear hx
            generalize (s.arcs.take j).foldl maxArc ((m.states.take k).foldl maxSt 0) = n at *
            go_wp2
            go_roundw
            case rel => exact ⟨j + 1, by go_num, by rw [HX.out]; rfl, by omega, HG4.out⟩
            case measure => simp [intOf]; omega
          · have n3 : ¬ (j : Int) < (s.arcs.length : Int) := by omega
            rw [List.take_of_length_le (l := s.arcs) (by omega)]
            have hx := foldl_next maxSt 0 HSS.out
            have HX := Lib.hid hx
            clear hx
            go_wp2
            go_roundw
            case rel => exact ⟨k + 1, by go_num, by rw [HX.out]; rfl, by omega, HGR3.out⟩
            case measure => simp [intOf]; omega
      · have n1 : ¬ (k : Int) < (m.states.length : Int) := by omega
        rw [List.take_of_length_le (l := m.states) (by omega)]
        have HE : Hid (sigV m = m.states.foldl maxSt 0) := Lib.hid (by unfold sigV; rw [HB.out]; rfl)
        go_wp2
        go_ret
        exact ⟨by rw [HE.out]; rfl, HGR.out⟩
end Go.Proofs.YtbmonhnojkiapaaGreatDoor
