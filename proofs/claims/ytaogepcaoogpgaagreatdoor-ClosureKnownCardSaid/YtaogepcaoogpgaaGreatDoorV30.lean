/- U74 -/
import Derived.Test.YtaogepcaoogpgaaGreatDoorV29
import Derived.Test.YtaogepcaoogpgaaGreatDoorV22
import Derived.Test.YtaogepcaoogpgaaGreatDoorV19
import Derived.Test.YtaogepcaoogpgaaGreatDoorV08
set_option linter.unusedVariables false
set_option linter.unusedSimpArgs false
namespace Go.Proofs.YtaogepcaoogpgaaGreatDoor
open Go.RowKit
structure StsR (w : World) (l : List MState) (us : List Value) (A : Option Addr) (c : Nat) : Prop where
 len : us.length = l.length
 at_ : ∀ i, i < l.length → ∃ ad s u, A = some ad ∧ ad.block < w.heap.size ∧ l[i]? = some s ∧ us[i]? = some u ∧ StateAt w (ad.add (i * 2)) s.fin u ∧ ArcsSl w u s.arcs
theorem stsR_of {w : World} {v : Value} {l : List MState} (h : StSl w v l) : ∃ A c us, v = .slice A l.length c ∧ StsR w l us A c := by
 obtain ⟨A, c, us, e, hl, hr, ha⟩ := h
 exact ⟨A, c, us, e, hl, fun i hi => by
  obtain ⟨ad, s, u, h1, h2, h3, h4, h5⟩ := row_state hr hl hi
  exact ⟨ad, s, u, h1, h2, h3, h4, h5, ha i s u h3 h4⟩⟩
theorem below_of7 {w w' : World} (h : w.grownBy w' none) : Below w.heap.size w w' := ⟨h.os, h.tape, h.output, h.size, fun i hi => h.block i hi (by simp)⟩
theorem StsR.grown {w w' : World} {l : List MState} {us : List Value} {A : Option Addr} {c : Nat} (h : StsR w l us A c) (hg : w.grownBy w' none) : StsR w' l us A c :=
 ⟨h.len, fun i hi => by
  obtain ⟨ad, s, u, h1, h2, h3, h4, h5, h6⟩ := h.at_ i hi
  exact ⟨ad, s, u, h1, Nat.lt_of_lt_of_le h2 hg.size, h3, h4, h5.below (below_of7 hg) (by rw [add_block7]; exact h2), h6.below (below_of7 hg)⟩⟩
def RowsPostF (P : Prop) (n m : Nat) (A : Nat → Nat → Value) (w : World) (e : Ending) (w' : World) : Prop :=
 OrDieQ P (fun v w' => ∃ zs : List Value, v = .slice (some ⟨w.heap.size, 0, none⟩) n n ∧ RowsAt w' w.heap.size w.heap.size n m zs A ∧ w'.heap[w.heap.size]? = some (.cells zs.toArray 33 (0, 0))) w e w'
set_option maxRecDepth 20000 in
set_option maxHeartbeats 4000000 in
theorem mapped_states (F : Nat) (he : Enters F) (first cap : Array Value) (l : List MState) (us : List Value) (Ad : Option Addr) (c : Nat) (m : Nat) (P : Nat → Prop) (A : Nat → Nat → Value) (w : World) (hn : l.length ≤ 10000) (hl : StsR w l us Ad c)
  (hF : ∀ i s u, l[i]? = some s → us[i]? = some u → ∀ w', w.grownBy w' none → ArcsSl w' u s.arcs → Calls Tryz.prog F (first ++ #[.agg #[.string s.fin, u]] ++ cap) w' (RowPost7 (P i) w.heap.size m (A i) w')) :
  Calls Tryz.prog 94 #[.slice Ad l.length c, .func (.func F) first cap] w (RowsPostF (∀ i, i < l.length → P i) l.length m A w) := by
 obtain ⟨i0, hi, hz0, hz1, hz2⟩ := info_parts info_row
 obtain ⟨n, hne⟩ : ∃ n, l.length = n := ⟨_, rfl⟩
 have HNE := Lib.hid hne
 rw [hne] at hn ⊢
 have HE := Lib.hid he; have HF := Lib.hid hF; have HL := Lib.hid hl; have HN := Lib.hid hn
 clear he hF hl hn hne
 go_enter Tryz.func94, Tryz.ntmps94
 go_wp2_with (at_make; refine wpList_make_full _ rfl _ _ 22 rfl w.heap.size 33 i0 (.slice none 0 0) 1 Tryz.underlying22 hi hz0 hz1 _ _ _ _ n rfl rfl ?c0 ?c1 ?c2 (by have := HN.out; unfold maxLen; omega) (Nat.le_refl _) ?_)
 case c0 => omega
 case c1 => omega
 case c2 => have := HN.out; first | omega | (rw [hz2]; omega)
 intro w1 hown hgr
 have hfill := FillRow.start hown hgr
 have HW := Lib.hid hfill
 clear hown hgr hfill
 go_wp2
 go_loopw [13] (fun iv wr => ∃ zs : List Value, iv = .int .i64 (zs.length : Int) ∧ FillRow 33 (.slice none 0 0) n zs w wr ∧ ∀ i, i < zs.length → ∃ gi off c, zs.getD i (.slice none 0 0) = .slice (some ⟨gi, off, none⟩) m c ∧ m ≤ c ∧ c ≤ maxLen ∧ gi ≠ w.heap.size ∧ RowAt wr gi off m (A i) ∧ P i) (fun iv _ => n - (intOf iv).toNat)
 case atStart => exact ⟨[], rfl, HW.out, fun i hi => absurd hi (by simp)⟩
 case round =>
  obtain ⟨zs, rfl, hfill, hrows⟩ := hrel
  obtain ⟨k, hzk⟩ : ∃ k, zs.length = k := ⟨_, rfl⟩
  have hle := hfill.le
  by_cases hk : k < n
  ·have hgw := hfill.gr
   obtain ⟨ad, s, u, rfl, hb, hs, hu, ⟨hc0, hc1⟩, has⟩ := (HL.out.grown hgw).at_ k (by rw [HNE.out]; exact hk)
   have t1 : decide (k < n) = true := by simpa using hk
   have t1' : decide ((k : Int) < (n : Int)) = true := by simpa using hk
   have hik : (k : Int) < (n : Int) := by omega
   have n1 : IntKind.i64.wrap ((k : Int) + 1) = (k : Int) + 1 := by have := HN.out; rw [IntKind.wrap_i64]; omega
   have hcall := HF.out k s u hs hu (wr.alloc (.cells #[.string s.fin, u] 57)) (grown_trans hgw (World.grownBy_alloc _ _ none)) (has.below (below_of7 (World.grownBy_alloc _ _ none)))
   obtain ⟨Au, cu, hue, _⟩ := has
   rw [hue] at hc1 hcall
   have HFL := Lib.hid hfill; have HK := Lib.hid (And.intro hk (And.intro hzk hle)); have HCALL := Lib.hid hcall
   have HR := Lib.hid hrows
   rw [hzk]
   clear hrows hgw hs hu hcall
   clear hfill hk hle hzk hb
   go_wp2_with fail
   rw [HE.out]
   rw [show first.push (Value.agg #[.string s.fin, .slice Au s.arcs.length cu]) ++ cap = first ++ #[.agg #[.string s.fin, .slice Au s.arcs.length cu]] ++ cap by simp]
   refine HCALL.out.mono ?_
   rintro e w' (⟨hpk, v, rfl, ⟨g, off, c2, rfl, hm1, hm2, hgl, hrow⟩, hg0⟩ | ⟨hnp, rfl, hg0⟩)
   ·have hg := grown_trans (World.grownBy_alloc wr (.cells #[.string s.fin, .slice Au s.arcs.length cu] 57) none) hg0
    have hgl2 : g < w.heap.size ∨ wr.heap.size ≤ g := by
     rcases hgl with h | h
     ·exact .inl h
     ·right; simp at h; omega
    have HPK := Lib.hid hpk
    clear hpk hg0 hgl
    have hf2 := HFL.out.grown hg
    have hcl := hf2.cell (by rw [HK.out.2.1]; exact HK.out.1)
    have hfr := hf2.free k
    rw [HK.out.2.1] at hcl
    have HF2 := Lib.hid hf2; have HG := Lib.hid hg; have HROW := Lib.hid (And.intro hm1 (And.intro hm2 (And.intro hgl2 hrow)))
    clear hf2 hg hm1 hm2 hgl2 hrow
    go_wp2
    obtain ⟨hk, hzk, hle⟩ := HK.out
    have hput := HF2.out.put (by rw [hzk]; exact hk) (.slice (some ⟨g, off, none⟩) m c2)
    rw [hzk] at hput
    obtain ⟨hm1, hm2, hgl, hrow⟩ := HROW.out
    have hne : g ≠ w.heap.size := by
     rcases hgl with h | h
     ·omega
     ·have := (Array.getElem?_eq_some_iff.1 HFL.out.row).1; omega
    refine ⟨⟨zs ++ [.slice (some ⟨g, off, none⟩) m c2], by simp [hzk], hput, fun i hi => ?_⟩, by simp [intOf]; omega⟩
    by_cases hik2 : i < zs.length
    ·obtain ⟨gi, oi, ci, e1, e2, e3, e4, e5, e6⟩ := HR.out i hik2
     refine ⟨gi, oi, ci, ?_, e2, e3, e4, (e5.grown HG.out).grownB (grown_setCell _ _ _) e4, e6⟩
     rw [List.getD_eq_getElem?_getD, List.getElem?_append_left hik2, ← List.getD_eq_getElem?_getD]
     exact e1
    ·have hi2 : i = k := by simp at hi; omega
     subst hi2
     refine ⟨g, off, c2, ?_, hm1, hm2, hne, hrow.grownB (grown_setCell _ _ _) hne, HPK.out⟩
     rw [List.getD_eq_getElem?_getD, List.getElem?_append_right (by omega), hzk, Nat.sub_self]
     rfl
   ·go_wp2
    exact ⟨rfl, .inr ⟨fun h => hnp (h k HK.out.1), rfl, grown_trans (grown_trans HFL.out.gr (World.grownBy_alloc _ _ none)) hg0⟩⟩
  ·have hkn : k = n := by omega
   subst hkn
   have t1 : decide (k < k) = false := by simp
   have t1' : decide ((k : Int) < (k : Int)) = false := by simp
   have HFL := Lib.hid hfill; have HK := Lib.hid hzk
   have HR := Lib.hid hrows
   rw [hzk]
   clear hrows
   clear hfill hk hle hzk
   go_wp2
   go_ret
   have hzk := HK.out
   exact .inl ⟨fun i hi => by obtain ⟨_, _, _, _, _, _, _, _, h⟩ := HR.out i (by omega); exact h, _, rfl, ⟨zs, rfl, ⟨hzk, HFL.out.rowAt hzk, fun i hi => (by obtain ⟨gi, oi, ci, e1, e2, e3, e4, e5, e6⟩ := HR.out i (by omega); exact ⟨gi, oi, ci, e1, e2, e3, e4, e5⟩)⟩, (by have h := HFL.out.row; rw [hzk, Nat.sub_self, List.replicate_zero, List.append_nil] at h; exact h)⟩, HFL.out.gr⟩
open Go.RowKit
section
variable {k : Int}
theorem val_ex (hk : IsKind k) (a : ByteArray) : ∃ x : El k, ∀ v, Val k a v → x.1 = v := by
 by_cases h : ∃ v, Val k a v
 ·obtain ⟨v, hv⟩ := h
  exact ⟨⟨v, hv.has⟩, fun u hu => hv.e.uniq hu.e⟩
 ·exact ⟨(srE k hk).zero, fun v hv => absurd ⟨v, hv⟩ h⟩
noncomputable def vE (hk : IsKind k) (a : ByteArray) : El k := Classical.choose (val_ex hk a)
theorem vE_is (hk : IsKind k) {a : ByteArray} {v : Ext} (h : Val k a v) : (vE hk a).1 = v := Classical.choose_spec (val_ex hk a) v h
theorem vE_tx (hk : IsKind k) {a : ByteArray} (h : ∃ v, Val k a v) : a = tx (vE hk a) ∧ FitE (vE hk a) := by
 obtain ⟨v, hv⟩ := h
 have e := vE_is hk hv
 refine ⟨by unfold tx; rw [e]; exact hv.e.text, ?_⟩
 show Fits (vE hk a).1
 rw [e]
 have e2 := hv.e
 rcases v with (_ | _) | x
 ·trivial
 ·trivial
 ·exact e2.short
def arcK (l : List MArc) (j : Nat) : Nat := (l[j]?.map (fun a => a.t.toNat)).getD 0
noncomputable def arcF (hk : IsKind k) (l : List MArc) (j : Nat) : El k := (l[j]?.map (fun a => vE hk a.w)).getD (srE k hk).zero
theorem arcK_at {l : List MArc} {j : Nat} {a : MArc} (h : l[j]? = some a) : arcK l j = a.t.toNat := by unfold arcK; rw [h]; rfl
theorem arcF_at (hk : IsKind k) {l : List MArc} {j : Nat} {a : MArc} (h : l[j]? = some a) : arcF hk l j = vE hk a.w := by unfold arcF; rw [h]; rfl
def ArcsOk (k : Int) (n : Nat) (l : List MArc) : Prop := ∀ a ∈ l, 0 ≤ a.t ∧ a.t < (n : Int) ∧ ∃ v, Val k a.w v
set_option maxRecDepth 20000 in
set_option maxHeartbeats 4000000 in
theorem steps1_any (hk : IsKind k) (n gc gm cs : Nat) (fin : ByteArray) (u : Value) (l : List MArc) (As : Option Addr) (w : World) (hn : n ≤ 10000) (hl : l.length ≤ 30000) (hok : ArcsOk k n l) (hu : ArcsSl w u l) (hcal : CalAt w gc k) (hst : w.cell? ⟨gm, 3, none⟩ = some (.slice As n cs)) :
  Calls Tryz.prog 143 #[.agg #[.string fin, u], .pointer (some ⟨gc, 0, none⟩), .pointer (some ⟨gm, 0, none⟩)] w (OrDieQ (∀ s, s < l.length → FitE (mrgP hk (arcF hk l) (arcK l) (s + 1) (arcK l s))) (fun v w' => ∃ g, v = .slice (some ⟨g, 0, none⟩) n n ∧ w.heap.size ≤ g ∧ RowAt w' g 0 n (txs (mrgP hk (arcF hk l) (arcK l) l.length))) w) := by
 have hz := fun w' => zeros_any k n w' hn
 obtain ⟨Au, cu, rfl, hr⟩ := hu
 obtain ⟨c0, c1, c2⟩ := hcal
 obtain ⟨q, hq⟩ : ∃ q, l.length = q := ⟨_, rfl⟩
 have HQ := Lib.hid hq
 rw [hq]
 have hr2 := hr
 rw [hq] at hr2 hl
 have HZ := Lib.hid hz; have HU := Lib.hid hr2; have HO := Lib.hid hok; have HN := Lib.hid (And.intro hn hl); have HC := Lib.hid (And.intro c0 (And.intro c1 c2))
 have hW := World.grownBy_alloc w (.cells #[.string fin, .slice Au q cu] 57) none
 have d0 := hW.cell c0 (by simp)
 have d1 := hW.cell c1 (by simp)
 have d2 := hW.cell c2 (by simp)
 have ds := hW.cell hst (by simp)
 have b1 := box_cell w #[.string fin, .slice Au q cu] 57 (j := 1) rfl
 have HW := Lib.hid hW
 clear hz hr hr2 hok hn hl c0 c1 c2 hst hq hW
 unfold calV at *
 go_enter Tryz.func143, Tryz.ntmps143
 go_wp2_with fail
 refine (HZ.out _).mono ?_
 rintro e w1 ⟨g, rfl, hgW, hrow, hg1⟩
 have x0 := hg1.cell d0 (by simp)
 have x1 := hg1.cell d1 (by simp)
 have x2 := hg1.cell d2 (by simp)
 have xb := hg1.cell b1 (by simp)
 have hgb : w.heap.size + 1 ≤ g := by simpa using hgW
 have hgc : gc < w.heap.size := by
  have := HC.out.1
  unfold World.cell? at this
  dsimp only at this
  by_cases h : gc < w.heap.size
  ·exact h
  ·rw [Array.getElem?_eq_none (by omega)] at this; simp at this
 have hinv : MrgInv hk (arcF hk l) (arcK l) q n g w 0 w1 := ⟨Nat.zero_le _, grown_trans HW.out hg1, by omega, by rw [mrgL_zero]; exact hrow, fun s hs => absurd hs (by omega), fun d => fit_zero hk⟩
 have HI := Lib.hid hinv; have HX := Lib.hid (And.intro x0 (And.intro x1 (And.intro x2 (And.intro hgb hgc))))
 clear hgW hrow hg1 x0 x1 x2 hinv hgb hgc d0 d1 d2 ds b1 HC
 go_wp2
 go_loopw [16] (fun iv wr => ∃ t : Nat, iv = .int .i64 (t : Int) ∧ MrgInv hk (arcF hk l) (arcK l) q n g w t wr ∧ wr.cell? ⟨gc, 0, none⟩ = some (.int .i64 k) ∧ wr.cell? ⟨gc, 1, none⟩ = some (.string (zeroT k)) ∧ wr.cell? ⟨gc, 2, none⟩ = some (.string (oneT k))) (fun iv _ => q - (intOf iv).toNat)
 case atStart => exact ⟨0, rfl, HI.out, HX.out.1, HX.out.2.1, HX.out.2.2.1⟩
 case round =>
  obtain ⟨t, rfl, hinv, y0, y1, y2⟩ := hrel
  by_cases ht : t < q
  ·have hrd := (HU.out.below (below_of7 hinv.gr)).more (below_of7 hinv.gr).size
   rw [← HQ.out] at hrd
   obtain ⟨ad, a, rfl, hbl, hla, ⟨a0, a1, a2, a3⟩⟩ := row_arc hrd (by rw [HQ.out]; exact ht)
   obtain ⟨ht0, htn, hwv⟩ := HO.out a (List.mem_of_getElem? hla)
   obtain ⟨hwt, hwf⟩ := vE_tx hk hwv
   obtain ⟨κ, hκ⟩ : ∃ κ : Nat, a.t = (κ : Int) := ⟨a.t.toNat, by omega⟩
   have hκ2 : arcK l t = κ := by rw [arcK_at hla, hκ]; rfl
   have hκn : κ < n := by omega
   have hcall := fun w' => cplus_any hk (hinv.now (arcK l t)) (show FitE (arcF hk l t) by rw [arcF_at hk hla]; exact hwf) w'
   rw [← mrgP_at, hκ2] at hcall
   have hft : tx (arcF hk l t) = a.w := by rw [arcF_at hk hla]; exact hwt.symm
   rw [hft] at hcall
   rw [hκ] at a3
   have r1 : wr.cell? ⟨g, κ, none⟩ = some (.string (tx (mrgP hk (arcF hk l) (arcK l) t κ))) := by
    rw [cell_of_row wr g κ _ _ (0, 0) hinv.row, List.getElem?_toArray, mrgL_get hk _ _ t hκn]
   have t1 : decide (t < q) = true := by simpa using ht
   have t1' : decide ((t : Int) < (q : Int)) = true := by simpa using ht
   have hit : (t : Int) < (q : Int) := by omega
   have i1 : (κ : Int) < (n : Int) := by omega
   have i2 : (0 : Int) ≤ (κ : Int) := by omega
   have n1 : IntKind.i64.wrap ((t : Int) + 1) = (t : Int) + 1 := by have := HN.out.2; rw [IntKind.wrap_i64]; omega
   have hgl : g < wr.heap.size := (Array.getElem?_eq_some_iff.1 hinv.row).1
   have hne1 : ¬ gc = g := by have := HX.out.2.2.2; omega
   have hne2 : ¬ g = gc := by have := HX.out.2.2.2; omega
   have hne3 : ¬ wr.heap.size = g := by omega
   have hne4 : ¬ g = wr.heap.size := by omega
   have HI2 := Lib.hid hinv; have HCALL := Lib.hid hcall; have HT := Lib.hid (And.intro ht (And.intro hκ2 hκn))
   clear hinv hcall ht hbl hla ht0 htn hwv hwt hwf hκ hκ2 hκn hft hrd hgl
   unfold calV at HCALL
   go_upto_region 5 with (fail)
   have hal := World.grownBy_alloc wr (.cells #[.int .i64 a.i, .int .i64 a.o, .string a.w, .int .i64 (κ : Int)] 59) none
   have u2 := box_cell wr #[.int .i64 a.i, .int .i64 a.o, .string a.w, .int .i64 (κ : Int)] 59 (j := 2) rfl
   have u3 := box_cell wr #[.int .i64 a.i, .int .i64 a.o, .string a.w, .int .i64 (κ : Int)] 59 (j := 3) rfl
   have v0 := hal.cell y0 (by simp)
   have v1 := hal.cell y1 (by simp)
   have v2 := hal.cell y2 (by simp)
   have vr := hal.cell r1 (by simp)
   have hrowU := (hal.block g (Array.getElem?_eq_some_iff.1 HI2.out.row).1 (by simp)).trans HI2.out.row
   generalize wr.alloc (.cells #[.int .i64 a.i, .int .i64 a.o, .string a.w, .int .i64 (κ : Int)] 59) = U at *
   have e2 : U.drew.cell? ⟨wr.heap.size, 2, none⟩ = some (.string a.w) := u2
   have e3 : U.drew.cell? ⟨wr.heap.size, 3, none⟩ = some (.int .i64 (κ : Int)) := u3
   have d0 : U.drew.cell? ⟨gc, 0, none⟩ = some (.int .i64 k) := v0
   have d1 : U.drew.cell? ⟨gc, 1, none⟩ = some (.string (zeroT k)) := v1
   have d2 : U.drew.cell? ⟨gc, 2, none⟩ = some (.string (oneT k)) := v2
   have dr : U.drew.cell? ⟨g, κ, none⟩ = some (.string (tx (mrgP hk (arcF hk l) (arcK l) t κ))) := vr
   have HUW := Lib.hid (grown_trans hal (grown_drew U none)); have HROW := Lib.hid (show U.drew.heap[g]? = _ from hrowU)
   clear hal u2 u3 v0 v1 v2 vr hrowU y0 y1 y2 r1 a0 a1 a2 a3
   refine wp_region_last (e := 14) (n := 14) (fun W' : World => W'.cell? ⟨wr.heap.size, 2, none⟩ = some (.string a.w) ∧ W'.cell? ⟨wr.heap.size, 3, none⟩ = some (.int .i64 (κ : Int)) ∧ W'.cell? ⟨gc, 0, none⟩ = some (.int .i64 k) ∧ W'.cell? ⟨gc, 1, none⟩ = some (.string (zeroT k)) ∧ W'.cell? ⟨gc, 2, none⟩ = some (.string (oneT k)) ∧ W'.cell? ⟨g, κ, none⟩ = some (.string (tx (mrgP hk (arcF hk l) (arcK l) t κ)))) (by kernel_rfl) (by kernel_rfl) rfl ?_
   have hS0 : (fun W' : World => W'.cell? ⟨wr.heap.size, 2, none⟩ = some (.string a.w) ∧ W'.cell? ⟨wr.heap.size, 3, none⟩ = some (.int .i64 (κ : Int)) ∧ W'.cell? ⟨gc, 0, none⟩ = some (.int .i64 k) ∧ W'.cell? ⟨gc, 1, none⟩ = some (.string (zeroT k)) ∧ W'.cell? ⟨gc, 2, none⟩ = some (.string (oneT k)) ∧ W'.cell? ⟨g, κ, none⟩ = some (.string (tx (mrgP hk (arcF hk l) (arcK l) t κ)))) U.drew := ⟨e2, e3, d0, d1, d2, dr⟩
   refine wpAnyH_take (i := 0) (v := .slice (some ⟨g, 0, none⟩) n n) rfl (by kernel_rfl) (by kernel_rfl) (by kernel_rfl) (fun _ _ _ h => h) (Or.inl ⟨by rfl, ?_⟩) hS0 ?_
   ·intro W hSw
    (try dsimp only at hSw)
    first | (go_simp; done) | (go_simp; rfl)
   (try simp only [List.getElem_toArray, List.getElem_cons_succ, List.getElem_cons_zero, Act.put, List.setIfInBounds_toArray, List.set_cons_zero, List.set_cons_succ])
   refine wpAnyH_take (i := 1) (v := .pointer (some ⟨wr.heap.size, 3, none⟩)) rfl (by kernel_rfl) (by kernel_rfl) (by kernel_rfl) (fun _ _ _ h => h) (Or.inl ⟨by rfl, ?_⟩) hS0 ?_
   ·intro W hSw
    (try dsimp only at hSw)
    first | (go_simp; done) | (go_simp; rfl)
   (try simp only [List.getElem_toArray, List.getElem_cons_succ, List.getElem_cons_zero, Act.put, List.setIfInBounds_toArray, List.set_cons_zero, List.set_cons_succ])
   refine wpAnyH_take (i := 2) (v := .int .i64 (κ : Int)) rfl (by kernel_rfl) (by kernel_rfl) (by kernel_rfl) (fun _ _ _ h => h) (Or.inl ⟨by rfl, ?_⟩) hS0 ?_
   ·intro W hSw
    (try dsimp only at hSw)
    first | (go_simp; done) | (go_simp; rfl)
   (try simp only [List.getElem_toArray, List.getElem_cons_succ, List.getElem_cons_zero, Act.put, List.setIfInBounds_toArray, List.set_cons_zero, List.set_cons_succ])
   refine wpAnyH_take (i := 3) (v := .pointer (some ⟨gc, 0, none⟩)) rfl (by kernel_rfl) (by kernel_rfl) (by kernel_rfl) (fun _ _ _ h => h) (Or.inl ⟨by rfl, ?_⟩) hS0 ?_
   ·intro W hSw
    (try dsimp only at hSw)
    first | (go_simp; done) | (go_simp; rfl)
   (try simp only [List.getElem_toArray, List.getElem_cons_succ, List.getElem_cons_zero, Act.put, List.setIfInBounds_toArray, List.set_cons_zero, List.set_cons_succ])
   refine wpAnyH_take (i := 4) (v := .agg #[.int .i64 k, .string (zeroT k), .string (oneT k)]) rfl (by kernel_rfl) (by kernel_rfl) (by kernel_rfl) (fun _ _ _ h => h) (Or.inl ⟨by rfl, ?_⟩) hS0 ?_
   ·intro W hSw
    (try dsimp only at hSw)
    first | (go_simp; done) | (go_simp; rfl)
   (try simp only [List.getElem_toArray, List.getElem_cons_succ, List.getElem_cons_zero, Act.put, List.setIfInBounds_toArray, List.set_cons_zero, List.set_cons_succ])
   refine wpAnyH_take (i := 5) (v := .slice (some ⟨g, 0, none⟩) n n) rfl (by kernel_rfl) (by kernel_rfl) (by kernel_rfl) (fun _ _ _ h => h) (Or.inl ⟨by rfl, ?_⟩) hS0 ?_
   ·intro W hSw
    (try dsimp only at hSw)
    first | (go_simp; done) | (go_simp; rfl)
   (try simp only [List.getElem_toArray, List.getElem_cons_succ, List.getElem_cons_zero, Act.put, List.setIfInBounds_toArray, List.set_cons_zero, List.set_cons_succ])
   refine wpAnyH_take (i := 6) (v := .pointer (some ⟨wr.heap.size, 3, none⟩)) rfl (by kernel_rfl) (by kernel_rfl) (by kernel_rfl) (fun _ _ _ h => h) (Or.inl ⟨by rfl, ?_⟩) hS0 ?_
   ·intro W hSw
    (try dsimp only at hSw)
    first | (go_simp; done) | (go_simp; rfl)
   (try simp only [List.getElem_toArray, List.getElem_cons_succ, List.getElem_cons_zero, Act.put, List.setIfInBounds_toArray, List.set_cons_zero, List.set_cons_succ])
   refine wpAnyH_take (i := 7) (v := .int .i64 (κ : Int)) rfl (by kernel_rfl) (by kernel_rfl) (by kernel_rfl) (fun _ _ _ h => h) (Or.inl ⟨by rfl, ?_⟩) hS0 ?_
   ·intro W hSw
    (try dsimp only at hSw)
    first | (go_simp; done) | (go_simp; rfl)
   (try simp only [List.getElem_toArray, List.getElem_cons_succ, List.getElem_cons_zero, Act.put, List.setIfInBounds_toArray, List.set_cons_zero, List.set_cons_succ])
   refine wpAnyH_take (i := 8) (v := .pointer (some ⟨g, κ, none⟩)) rfl (by kernel_rfl) (by kernel_rfl) (by kernel_rfl) (fun _ _ _ h => h) (Or.inl ⟨by rfl, ?_⟩) hS0 ?_
   ·intro W hSw
    (try dsimp only at hSw)
    first | (go_simp; done) | (go_simp; rfl)
   (try simp only [List.getElem_toArray, List.getElem_cons_succ, List.getElem_cons_zero, Act.put, List.setIfInBounds_toArray, List.set_cons_zero, List.set_cons_succ])
   refine wpAnyH_take (i := 9) (v := .string (tx (mrgP hk (arcF hk l) (arcK l) t κ))) rfl (by kernel_rfl) (by kernel_rfl) (by kernel_rfl) (fun _ _ _ h => h) (Or.inl ⟨by rfl, ?_⟩) hS0 ?_
   ·intro W hSw
    (try dsimp only at hSw)
    first | (go_simp; done) | (go_simp; rfl)
   (try simp only [List.getElem_toArray, List.getElem_cons_succ, List.getElem_cons_zero, Act.put, List.setIfInBounds_toArray, List.set_cons_zero, List.set_cons_succ])
   refine wpAnyH_take (i := 10) (v := .pointer (some ⟨wr.heap.size, 2, none⟩)) rfl (by kernel_rfl) (by kernel_rfl) (by kernel_rfl) (fun _ _ _ h => h) (Or.inl ⟨by rfl, ?_⟩) hS0 ?_
   ·intro W hSw
    (try dsimp only at hSw)
    first | (go_simp; done) | (go_simp; rfl)
   (try simp only [List.getElem_toArray, List.getElem_cons_succ, List.getElem_cons_zero, Act.put, List.setIfInBounds_toArray, List.set_cons_zero, List.set_cons_succ])
   refine wpAnyH_take (i := 11) (v := .string a.w) rfl (by kernel_rfl) (by kernel_rfl) (by kernel_rfl) (fun _ _ _ h => h) (Or.inl ⟨by rfl, ?_⟩) hS0 ?_
   ·intro W hSw
    (try dsimp only at hSw)
    first | (go_simp; done) | (go_simp; rfl)
   (try simp only [List.getElem_toArray, List.getElem_cons_succ, List.getElem_cons_zero, Act.put, List.setIfInBounds_toArray, List.set_cons_zero, List.set_cons_succ])
   refine wpAnyH_ready (rs := [12]) (by kernel_rfl) (by simp) ?_
   refine AllReadyH.cons rfl (fun K hK => ?_) AllReadyH.nil
   go_simp
   refine (HCALL.out _).mono ?_
   rintro e w5 (⟨hp, rfl, hg5⟩ | ⟨hn, rfl, hg5⟩)
   rotate_left 1
   ·exact ⟨rfl, .inr ⟨fun h => hn (HT.out.2.1 ▸ h t HT.out.1), rfl, grown_trans (grown_trans HI2.out.gr HUW.out) hg5⟩⟩
   have s0 := hg5.cell d0 (by simp)
   have s1 := hg5.cell d1 (by simp)
   have s2 := hg5.cell d2 (by simp)
   have hr5 := (hg5.block g (Array.getElem?_eq_some_iff.1 HROW.out).1 (by simp)).trans HROW.out
   have z0 := frozen_of_row w5 g κ _ _ hr5
   have q0 := cell_of_row w5 g κ _ _ (0, 0) hr5
   rw [List.getElem?_toArray, mrgL_get hk _ _ t HT.out.2.2] at q0
   refine hK.out _ _ (⟨hg5.cell e2 (by simp), hg5.cell e3 (by simp), s0, s1, s2, q0⟩) (fun hHeld => ?_)
   have H5 := Lib.hid (And.intro hp (And.intro hg5 hr5))
   clear hp hg5 hr5 hS0 hK K
   refine wpAnyH_take (i := 13) (v := .pointer (some ⟨g, κ, none⟩)) rfl (by kernel_rfl) (by kernel_rfl) (by kernel_rfl) (fun _ _ _ h => h) (Or.inl ⟨by rfl, ?_⟩) hHeld ?_
   ·intro W hSw
    (try dsimp only at hSw)
    first | (go_simp; done) | (go_simp; rfl)
   (try simp only [List.getElem_toArray, List.getElem_cons_succ, List.getElem_cons_zero, Act.put, List.setIfInBounds_toArray, List.set_cons_zero, List.set_cons_succ])
   clear hHeld
   refine wpAnyH_done (by kernel_rfl) ?_ _
   refine lastQ_step (by rfl) (fun K hK => ?_)
   go_simp
   refine hK _ _ ?_
   go_wp2
   obtain ⟨hp, hg5, hr5⟩ := H5.out
   have hnx := HI2.out.next HT.out.1 (by rw [HT.out.2.1]; exact HT.out.2.2) (grown_trans HUW.out hg5) hr5 (by rw [HT.out.2.1]; exact hp)
   rw [HT.out.2.1] at hnx
   exact ⟨⟨t + 1, by simp, hnx, set_far hne1 s0, set_far hne1 s1, set_far hne1 s2⟩, by have := HT.out.1; simp [intOf]; omega⟩
  ·have hte : t = q := by have := hinv.le; omega
   subst hte
   have t1 : decide (t < t) = false := by simp
   have t1' : decide ((t : Int) < (t : Int)) = false := by simp
   have HI2 := Lib.hid hinv
   clear hinv ht
   go_wp2
   go_ret
   refine .inl ⟨HI2.out.fit, _, rfl, ⟨g, rfl, HI2.out.hg, (Array.getElem?_eq_some_iff.1 HI2.out.row).1, fun d hd => ?_⟩, HI2.out.gr⟩
   rw [Nat.zero_add, cell_of_row wr g d _ _ (0, 0) HI2.out.row, List.getElem?_toArray, mrgL_get hk _ _ t hd]
   rfl
end
end Go.Proofs.YtaogepcaoogpgaaGreatDoor
