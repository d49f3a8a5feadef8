/- U92 U93 -/
import Derived.Test.YtaogepcaoogpgaaGreatDoorV19
import Derived.Deep.RegionHeld2
import Derived.Defers
import Derived.Recover
set_option linter.unusedVariables false
set_option linter.unusedSimpArgs false
namespace Go.Proofs.YtaogepcaoogpgaaGreatDoor
open Go.RowKit
section
variable {k : Int}
set_option maxRecDepth 20000 in
set_option maxHeartbeats 2000000 in
theorem semi_any7 (k : Int) (w : World) : Calls Tryz.prog 73 #[.int .i64 k] w (ValPost (calV k) w) := by
 have hz := fun w' => szero_any k w'
 have ho := fun w' => sone_any k w'
 have hs0 : ∀ w1 : World, (w.alloc (.cells #[.int .i64 0, .string ⟨#[]⟩, .string ⟨#[]⟩] 62)).grownBy w1 none → w1.heap[w.heap.size]? = some (.cells #[.int .i64 0, .string ⟨#[]⟩, .string ⟨#[]⟩] 62 (0, 0)) := fun w1 h => (h.block w.heap.size (by simp) (by simp)).trans (new_block w _)
 have HZ := Lib.hid hz; have HO := Lib.hid ho; have HS := Lib.hid hs0
 clear hz ho hs0
 unfold calV
 go_enter Tryz.func73, Tryz.ntmps73
 go_wp2_with fail
 refine (HZ.out _).mono ?_
 rintro e w1 ⟨rfl, hg1⟩
 go_wp2_with fail
 refine (HO.out _).mono ?_
 rintro e w2 ⟨rfl, hg2⟩
 have hgA := grown_trans hg1 hg2
 have hb := HS.out w2 hgA
 have q0 := cell_of_row w2 _ 0 _ _ (0, 0) hb
 have q1 := cell_of_row w2 _ 1 _ _ (0, 0) hb
 have q2 := cell_of_row w2 _ 2 _ _ (0, 0) hb
 have z0 := frozen_of_row w2 w.heap.size 0 _ _ hb
 have z1 := frozen_of_row w2 w.heap.size 1 _ _ hb
 have z2 := frozen_of_row w2 w.heap.size 2 _ _ hb
 have HG := Lib.hid (grown_trans (World.grownBy_alloc w _ none) hgA)
 clear hg1 hg2 hgA hb
 go_wp2
 refine bodyPost_ret (v := .agg #[.int .i64 k, .string (zeroT k), .string (oneT k)]) ?_ rfl ⟨rfl, ?_⟩
 ·simp [results, Tryz.results73, go_sem, q0, q1, q2]
 ·exact grown_step (grown_step (grown_step HG.out (grown_setCell _ _ _) (Nat.le_refl _)) (grown_setCell _ _ _) (Nat.le_refl _)) (grown_setCell _ _ _) (Nat.le_refl _)
set_option maxRecDepth 20000 in
set_option maxHeartbeats 2000000 in
theorem of_any7 (k : Int) (w : World) : Calls Tryz.prog 42 #[.int .i64 k] w (ValPost (calV k) w) := by
 have hz := fun w' => semi_any7 k w'
 have hs0 : ∀ w1 : World, (w.alloc (.cells #[.int .i64 0, .string ⟨#[]⟩, .string ⟨#[]⟩] 64)).grownBy w1 none → w1.heap[w.heap.size]? = some (.cells #[.int .i64 0, .string ⟨#[]⟩, .string ⟨#[]⟩] 64 (0, 0)) := fun w1 h => (h.block w.heap.size (by simp) (by simp)).trans (new_block w _)
 have HZ := Lib.hid hz; have HS := Lib.hid hs0
 clear hz hs0
 unfold calV at *
 go_enter Tryz.func42, Tryz.ntmps42
 go_wp2_with fail
 refine (HZ.out _).mono ?_
 rintro e w2 ⟨rfl, hgA⟩
 have hb := HS.out w2 hgA
 have q0 := cell_of_row w2 _ 0 _ _ (0, 0) hb
 have q1 := cell_of_row w2 _ 1 _ _ (0, 0) hb
 have q2 := cell_of_row w2 _ 2 _ _ (0, 0) hb
 have z0 := frozen_of_row w2 w.heap.size 0 _ _ hb
 have z1 := frozen_of_row w2 w.heap.size 1 _ _ hb
 have z2 := frozen_of_row w2 w.heap.size 2 _ _ hb
 have HG := Lib.hid (grown_trans (World.grownBy_alloc w _ none) hgA)
 clear hgA hb
 go_wp2
 refine bodyPost_ret (v := .agg #[.int .i64 k, .string (zeroT k), .string (oneT k)]) ?_ rfl ⟨rfl, ?_⟩
 ·simp [results, Tryz.results42, go_sem, q0, q1, q2]
 ·exact grown_step (grown_step (grown_step HG.out (grown_setCell _ _ _) (Nat.le_refl _)) (grown_setCell _ _ _) (Nat.le_refl _)) (grown_setCell _ _ _) (Nat.le_refl _)
def CalAt (w : World) (g : Nat) (k : Int) : Prop := w.cell? ⟨g, 0, none⟩ = some (.int .i64 k) ∧ w.cell? ⟨g, 1, none⟩ = some (.string (zeroT k)) ∧ w.cell? ⟨g, 2, none⟩ = some (.string (oneT k))
theorem CalAt.grown {w w' : World} {g : Nat} (h : CalAt w g k) (hg : w.grownBy w' none) : CalAt w' g k := ⟨hg.cell h.1 (by simp), hg.cell h.2.1 (by simp), hg.cell h.2.2 (by simp)⟩
set_option maxRecDepth 20000 in
set_option maxHeartbeats 2000000 in
theorem solve1_any (hk : IsKind k) (f : Nat → El k) (κ : Nat → Nat) (n K g1 g2 g3 : Nat) (Ac Ar : Option Addr) (cc cr : Nat) (fv : Value) (w : World) (hn : n ≤ 10000) (hK : K ≤ 10000) (hκ : ∀ j, j < n → κ j < K) (hf : RowR w fv n (fun j => Value.string (tx (f j)))) (hff : ∀ j, j < n → FitE (f j))
  (hcal : CalAt w g1 k) (hcv : w.cell? ⟨g2, 0, none⟩ = some (.slice Ac n cc)) (hrv : w.cell? ⟨g3, 0, none⟩ = some (.slice Ar K cr)) (hc : RowR w (.slice Ac n cc) n (fun j => .int .i64 ((κ j : Nat) : Int))) :
  Calls Tryz.prog 79 #[fv, .pointer (some ⟨g1, 0, none⟩), .pointer (some ⟨g2, 0, none⟩), .pointer (some ⟨g3, 0, none⟩)] w (OrDieQ (∀ s, s < n → FitE (mrgP hk f κ (s + 1) (κ s))) (fun v w' => ∃ g, v = .slice (some ⟨g, 0, none⟩) K K ∧ w.heap.size ≤ g ∧ RowAt w' g 0 K (fun d => .string (tx (mrgP hk f κ n d)))) w) := by
 have h := merged_any hk f κ n K fv (.slice Ac n cc) w hn hK hκ hf hff hc
 obtain ⟨c0, c1, c2⟩ := hcal
 obtain ⟨Af, cf, rfl, -⟩ := hf
 have H := Lib.hid h
 clear h hc hκ hff
 unfold calV at H
 go_enter Tryz.func79, Tryz.ntmps79
 go_wp2_with fail
 refine H.out.mono ?_
 rintro e w1 (⟨hp, v, rfl, ⟨g, rfl, hg, hr⟩, hg1⟩ | ⟨hn, rfl, hg1⟩)
 ·have HP := Lib.hid (And.intro hp (And.intro hg (And.intro hr hg1)))
  clear hp hg hr hg1 H
  go_wp2
  go_ret
  obtain ⟨hp, hg, hr, hg1⟩ := HP.out
  exact .inl ⟨hp, _, rfl, ⟨g, rfl, hg, hr⟩, hg1⟩
 ·exact ⟨rfl, .inr ⟨hn, rfl, hg1⟩⟩
theorem enters_cplus : Enters 87 := enters_of Tryz.func87 (by kernel_rfl) rfl
theorem RowR.at_drew {w : World} {v : Value} {n : Nat} {L : Nat → Value} (h : RowR w v n L) : RowR w.drew v n L := h.grown (grown_drew w none)
set_option maxRecDepth 20000 in
set_option maxHeartbeats 2000000 in
theorem solve3_any (hk : IsKind k) (b : Nat → El k) (Y : Nat → El k) (K m d g1 g2 : Nat) (Ay : Option Addr) (cy : Nat) (ys : Nat → Value) (bv : Value) (w : World) (hm : m ≤ 10000) (hd : d < K) (hb : RowR w bv m (txs b)) (hbf : ∀ j, j < m → FitE (b j))
  (hcal : CalAt w g1 k) (hyv : w.cell? ⟨g2, 0, none⟩ = some (.slice Ay K cy)) (hy : RowR w (.slice Ay K cy) K ys) (hyd : RowR w (ys d) m (txs Y)) (hyf : ∀ j, j < m → FitE (Y j)) :
  Calls Tryz.prog 85 #[bv, .int .i64 (d : Int), .pointer (some ⟨g2, 0, none⟩), .pointer (some ⟨g1, 0, none⟩)] w (StrsPost (∀ j, j < m → FitE ((srE k hk).add (b j) (Y j))) m (fun j => tx ((srE k hk).add (b j) (Y j))) w) := by
 have hmf : ∀ (fn : Fn) (first cap : Array Value) (w : World), (Instr.makeFunc fn first cap).run Tryz.prog w = .ok (.func fn first cap) w := fun _ _ _ _ => rfl
 have hcall := combined_strs 87 enters_cplus #[calV k] #[] m m (txs b) (txs Y) (fun j => FitE ((srE k hk).add (b j) (Y j))) (fun j => tx ((srE k hk).add (b j) (Y j))) bv (ys d) w.drew hm hb.at_drew hyd.at_drew (Nat.le_refl m)
  (fun i hi w' _ => cplus_any hk (hbf i hi) (hyf i hi) w')
 obtain ⟨Ay', cy', e, hy1, hy2, hy3⟩ := hy
 obtain ⟨rfl, rfl⟩ : Ay' = Ay ∧ cy' = cy := by simp at e; exact ⟨e.1.symm, e.2.symm⟩
 obtain ⟨ad, rfl, hbl, hcl⟩ := hy3 d hd
 obtain ⟨c0, c1, c2⟩ := hcal
 have d0 : w.drew.cell? ⟨g1, 0, none⟩ = some (.int .i64 k) := c0
 have d1 : w.drew.cell? ⟨g1, 1, none⟩ = some (.string (zeroT k)) := c1
 have d2 : w.drew.cell? ⟨g1, 2, none⟩ = some (.string (oneT k)) := c2
 have d3 : w.drew.cell? ⟨g2, 0, none⟩ = some (.slice (some ad) K cy') := hyv
 have d4 : w.drew.cell? (ad.add d) = some (ys d) := hcl
 have i1 : (d : Int) < (K : Int) := by omega
 have i2 : (0 : Int) ≤ (d : Int) := by omega
 have HC := Lib.hid hcall
 clear hcall hb hyd hbf hyf hy1 hy2 hy3 hbl hcl c0 c1 c2 e hyv
 unfold calV at HC
 go_enter Tryz.func85, Tryz.ntmps85
 go_upto_region 1 with (fail)
 go_region_held2 (fun W' => W'.cell? ⟨g1, 0, none⟩ = some (.int .i64 k) ∧ W'.cell? ⟨g1, 1, none⟩ = some (.string (zeroT k)) ∧ W'.cell? ⟨g1, 2, none⟩ = some (.string (oneT k)) ∧ W'.cell? ⟨g2, 0, none⟩ = some (.slice (some ad) K cy') ∧ W'.cell? (ad.add d) = some (ys d)) (go_keep)
  (first
  | (go_at_call 86; refine HC.out.mono ?_; rintro e w6 (⟨hp, v, rfl, ⟨rfl, hr6⟩, hg6⟩ | ⟨hn, rfl, hg6⟩); rotate_left 1; (exact ⟨rfl, .inr ⟨hn, rfl, grown_trans (grown_drew w none) hg6⟩⟩); have s0 := hg6.cell d0 (by simp); have s1 := hg6.cell d1 (by simp); have s2 := hg6.cell d2 (by simp); have s3 := hg6.cell d3 (by simp); have s4 := hg6.cell d4 (by simp); have H6 := Lib.hid (And.intro hp (And.intro hr6 hg6)); clear hp hr6 hg6))
 all_goals
  go_wp2
  go_ret
  obtain ⟨hp, hr6, hg6⟩ := H6.out
  exact .inl ⟨hp, _, rfl, ⟨rfl, hr6⟩, grown_trans (grown_drew w none) hg6⟩
theorem add_zero7 (ad : Addr) : ad.add 0 = ad := by unfold Addr.add; rcases ad with ⟨b, o, s⟩; cases s <;> simp
set_option maxRecDepth 20000 in
set_option maxHeartbeats 2000000 in
theorem solve2_any (hk : IsKind k) (f : Nat → El k) (b : Nat → Nat → El k) (n m g1 g2 : Nat) (Ab : Option Addr) (cb : Nat) (bs : Nat → Value) (fv : Value) (w : World) (hn0 : 1 ≤ n) (hn : n ≤ 10000) (hm : m ≤ 10000) (hf : RowR w fv n (txs f)) (hff : ∀ j, j < n → FitE (f j))
  (hcal : CalAt w g1 k) (hbv : w.cell? ⟨g2, 0, none⟩ = some (.slice Ab n cb)) (hb : RowR w (.slice Ab n cb) n bs) (hbs : ∀ i, i < n → RowR w (bs i) m (txs (b i))) (hbf : ∀ i, i < n → ∀ j, j < m → FitE (b i j)) :
  Calls Tryz.prog 81 #[fv, .pointer (some ⟨g1, 0, none⟩), .pointer (some ⟨g2, 0, none⟩)] w (OrDieQ (SumFits (srE k hk) FitE n m (fun _ => (srE k hk).zero) f b) (fun v w' => ∃ g o c, v = .slice (some ⟨g, o, none⟩) m c ∧ m ≤ c ∧ c ≤ maxLen ∧ w.heap.size ≤ g ∧ RowAt w' g o m (txs (sumRow (srE k hk) (fun _ => (srE k hk).zero) f b n))) w) := by
 have hz := fun w' => zeros_any k m w' hm
 have hsum := fun (w5 : World) (h5 : w.grownBy w5 none) (g : Nat) (hr : RowAt w5 g 0 m (fun _ => .string (zeroT k))) => sum_any7 hk n m g 0 m (fun _ => (srE k hk).zero) f b fv (.slice Ab n cb) bs w5 hm hn
  (by have e : txs (fun _ => (srE k hk).zero) = fun _ => Value.string (zeroT k) := funext fun j => by unfold txs; rw [tx_zero]
      rw [e]; exact hr) (Nat.le_refl m) (by unfold maxLen; omega) (hf.grown h5) hff (fun j _ => fit_zero hk) (hb.grown h5) (fun i hi => (hbs i hi).grown h5) hbf
 obtain ⟨Ab', cb', e, hb1, hb2, hb3⟩ := hb
 obtain ⟨rfl, rfl⟩ : Ab' = Ab ∧ cb' = cb := by simp at e; exact ⟨e.1.symm, e.2.symm⟩
 obtain ⟨ad, rfl, hbl, hcl⟩ := hb3 0 (by omega)
 rw [add_zero7] at hcl
 obtain ⟨A0, c00, e0, -⟩ := hbs 0 (by omega)
 rw [e0] at hcl
 obtain ⟨c0, c1, c2⟩ := hcal
 obtain ⟨Af, cf, rfl, -⟩ := hf
 have d0 : w.drew.cell? ⟨g1, 0, none⟩ = some (.int .i64 k) := c0
 have d1 : w.drew.cell? ⟨g1, 1, none⟩ = some (.string (zeroT k)) := c1
 have d2 : w.drew.cell? ⟨g1, 2, none⟩ = some (.string (oneT k)) := c2
 have d3 : w.drew.cell? ⟨g2, 0, none⟩ = some (.slice (some ad) n cb') := hbv
 have d4 : w.drew.cell? ad = some (.slice A0 m c00) := hcl
 have i1 : (0 : Int) < (n : Int) := by omega
 have i3 : 0 < n := by omega
 have i4 : ¬ n = 0 := by omega
 have i5 : (1 : Int) ≤ (n : Int) := by omega
 have HZ := Lib.hid hz; have HS := Lib.hid hsum
 clear hz hsum hbs hbf hff hb1 hb2 hb3 hbl hcl c0 c1 c2 e e0 hbv
 unfold calV at HZ HS
 go_enter Tryz.func81, Tryz.ntmps81
 go_upto_region 1 with (fail)
 go_region_held2 (fun W' => W'.cell? ⟨g1, 0, none⟩ = some (.int .i64 k) ∧ W'.cell? ⟨g1, 1, none⟩ = some (.string (zeroT k)) ∧ W'.cell? ⟨g1, 2, none⟩ = some (.string (oneT k)) ∧ W'.cell? ⟨g2, 0, none⟩ = some (.slice (some ad) n cb') ∧ W'.cell? ad = some (.slice A0 m c00)) (go_keep)
  (first
  | (go_at_call 83; refine (HZ.out _).mono ?_; clear HZ; rintro e w5 ⟨g, rfl, hgW, hrow, hg5⟩; have s0 := hg5.cell d0 (by simp); have s1 := hg5.cell d1 (by simp); have s2 := hg5.cell d2 (by simp); have s3 := hg5.cell d3 (by simp); have s4 := hg5.cell d4 (by simp); have hg5' := grown_trans (grown_drew w none) hg5; have H5 := Lib.hid (And.intro hgW (And.intro hrow hg5')); clear hgW hrow hg5 hg5')
  | (go_at_call 82; refine (HS.out w5 H5.out.2.2 g (rep_row H5.out.2.1)).mono ?_; clear HS; rintro e w6 (⟨hp, v, rfl, ⟨gg, o, c, rfl, hc3, hc4, hgg, hrw⟩, hg6⟩ | ⟨hn, rfl, hg6⟩); rotate_left 1; (exact ⟨rfl, .inr ⟨hn, rfl, grown_trans H5.out.2.2 hg6⟩⟩); have p0 := hg6.cell s0 (by simp); have p1 := hg6.cell s1 (by simp); have p2 := hg6.cell s2 (by simp); have p3 := hg6.cell s3 (by simp); have p4 := hg6.cell s4 (by simp); have H6 := Lib.hid (And.intro hp (And.intro hc3 (And.intro hc4 (And.intro hgg (And.intro hrw hg6))))); clear hp hc3 hc4 hgg hrw hg6))
 all_goals
  go_wp2
  go_ret
  obtain ⟨hp, hc3, hc4, hgg, hrw, hg6⟩ := H6.out
  refine .inl ⟨hp, _, rfl, ⟨gg, o, c, rfl, hc3, hc4, ?_, hrw⟩, grown_trans H5.out.2.2 hg6⟩
  have h1 : w.heap.size ≤ g := H5.out.1
  have h2 := H5.out.2.2.size
  rcases hgg with h | h <;> omega
end
open Go.RowKit
def TryPost (P : Prop) (Q : Value → World → Prop) (z : Value) (w : World) (e : Ending) (w' : World) : Prop :=
 (P ∧ ∃ v, e = .returned (.tuple #[v, .int .i64 0]) ∧ Q v w' ∧ w.grownBy w' none) ∨ (¬ P ∧ e = .returned (.tuple #[z, .int .i64 2]) ∧ w.grownBy w' none)
section
variable {WB : Nat}
set_option maxRecDepth 20000 in
theorem caught_rows (p : Addr) (x E : Int) (older : List PanicEntry) (w : World) (hc : w.cell? p = some (.int .i64 x)) (hz : w.frozen? p = false) :
  CallsD Tryz.prog 72 #[.pointer (some p)] (.panicking ({ v := .iface 24 (.int .i64 E), recovered := false } :: older)) w fun e u' w' =>
   e = .returned (.tuple #[]) ∧ u' = .panicking ({ v := .iface 24 (.int .i64 E), recovered := true } :: older) ∧ w' = w.setCell p (.int .i64 E) := by
 refine callsD_of_wpS Tryz.func72 rfl fun c₀ cs hu => ?_
 apply wpS_seq
 apply wpS_region
 simp [wpOpsS, go_sem, recoverD, hu, Tryz.ntmps72, Exit.thenS]
 clear hu
 obtain ⟨fs, hfs⟩ : ∃ fs : List Frame, fs = { c₀ with mode := .panicking ({ v := .iface 24 (.int .i64 E), recovered := true } :: older) } :: cs := ⟨_, rfl⟩
 have HFS := Lib.hid hfs
 rw [← hfs]
 clear hfs
 have h1 : ∀ w : World, (binOp .neq 20 (.iface 24 (.int .i64 E)) .nilIface).run Tryz.prog w = .ok (.bool true) w := fun w => run_neq_held_nil _ _ _ _ (by kernel_rfl)
 have h2 : ∀ w : World, (Instr.typeAssert (.iface 24 (.int .i64 E)) 20 24 false).run Tryz.prog w = .ok (.int .i64 E) w := fun w => by kernel_rfl
 refine wpS_of_wp ?_
 go_wp2_with fail
 clear h1 h2 hc hz
 rw [HFS.out]
 exact ⟨rfl, _, rfl, .tuple #[], by simp [results, Tryz.results72], rfl, rfl, rfl⟩
theorem idle_rows (p : Addr) (w : World) :
  CallsD Tryz.prog 72 #[.pointer (some p)] .returning w fun e u' w' => e = .returned (.tuple #[]) ∧ u' = .returning ∧ w' = w := by
 refine callsD_of_wpS Tryz.func72 rfl fun c₀ cs hu => ?_
 apply wpS_seq
 apply wpS_region
 simp [wpOpsS, go_sem, recoverD, hu, Tryz.ntmps72, Exit.thenS]
 refine wpS_of_wp ?_
 go_wp2
 cases c₀
 simp_all [bodyPostS, results, Tryz.results72]
theorem door_ret_rows (A : Option Addr) (n c : Nat) (P : Prop) (Q : Value → World → Prop) (hP : P) (w w2 : World) (tmps : Array Value) (ht : tmps = #[tmps.getD 0 undef, tmps.getD 1 undef, (.slice A n c), .pointer (some ⟨w.heap.size, 0, none⟩), tmps.getD 4 undef, tmps.getD 5 undef, tmps.getD 6 undef])
  (hq : Q (.slice A n c) w2) (hb : w2.heap[w.heap.size]? = some (.cells #[.int .i64 0] 24 (0, 0))) (hg : w.grownBy w2 none) :
  Leaves Tryz.prog Tryz.f40 tmps (TryPost P Q (.slice none 0 0) w) [{ target := .fn (.func 72) #[.pointer (some ⟨w.heap.size, 0, none⟩)], args := #[] }] .returning w2 := by
 have hcell := cell_of_one hb
 refine leaves_cons (f := 72) (args := #[.pointer (some ⟨w.heap.size, 0, none⟩)]) (by simp) (by simp [go_sem]) ?_
 refine (idle_rows ⟨w.heap.size, 0, none⟩ _).mono ?_
 rintro e u' w'' ⟨rfl, rfl, rfl⟩
 rw [ht]
 refine ⟨.tuple #[(.slice A n c), .int .i64 0], by simp [results, Tryz.results40, go_sem, hcell], .inl ⟨hP, _, rfl, hq, hg⟩⟩
theorem door_die_rows (P : Prop) (Q : Value → World → Prop) (hP : ¬ P) (w w2 : World) (tmps : Array Value) (ht : tmps = #[tmps.getD 0 undef, tmps.getD 1 undef, (.slice none 0 0), .pointer (some ⟨w.heap.size, 0, none⟩), tmps.getD 4 undef, tmps.getD 5 undef, tmps.getD 6 undef])
  (hb : w2.heap[w.heap.size]? = some (.cells #[.int .i64 0] 24 (0, 0))) (hg : w.grownBy w2 none) :
  Leaves Tryz.prog Tryz.f40 tmps (TryPost P Q (.slice none 0 0) w) [{ target := .fn (.func 72) #[.pointer (some ⟨w.heap.size, 0, none⟩)], args := #[] }] (.panicking [{ v := .iface 24 (.int .i64 2), recovered := false }]) w2 := by
 have hcell := cell_of_one (one_setCell (u := .int .i64 2) hb)
 refine leaves_cons (f := 72) (args := #[.pointer (some ⟨w.heap.size, 0, none⟩)]) (by simp) (by simp [go_sem]) ?_
 refine (caught_rows ⟨w.heap.size, 0, none⟩ 0 2 [] _ (cell_of_one hb) (free_of_one hb)).mono ?_
 rintro e u' w'' ⟨rfl, rfl, rfl⟩
 rw [ht]
 refine ⟨.tuple #[(.slice none 0 0), .int .i64 2], by simp [results, Tryz.results40, go_sem, hcell], .inr ⟨hP, rfl, ?_⟩⟩
 exact grown_step hg (grown_setCell w2 ⟨w.heap.size, 0, none⟩ _) (Nat.le_refl _)
set_option maxRecDepth 20000 in
theorem attempt_rows (F : Nat) (he : Enters F) (first cap : Array Value) (P : Prop) (Q : Value → World → Prop) (hmono : ∀ v w1 w2 b, b < w1.heap.size → w1.grownBy w2 (some b) → b = WB → Q v w1 → Q v w2) (w : World) (hWB : WB = w.heap.size)
  (h : Calls Tryz.prog F (first ++ cap) (w.alloc (.cells #[.int .i64 0] 24)) (OrDieQ P (fun v w' => (∃ A n c, v = (.slice A n c)) ∧ Q v w') (w.alloc (.cells #[.int .i64 0] 24)))) :
  Calls Tryz.prog 40 #[.func (.func F) first cap] w (TryPost P Q (.slice none 0 0) w) := by
 have hmf : ∀ (fn : Fn) (first cap : Array Value) (w : World), (Instr.makeFunc fn first cap).run Tryz.prog w = .ok (.func fn first cap) w := fun _ _ _ _ => rfl
 have H := Lib.hid h
 have HE := Lib.hid he
 have HMO := Lib.hid hmono
 clear h he hmono
 go_enter_defers Tryz.func40, Tryz.ntmps40
 go_wp2_with fail
 rw [HE.out]
 refine H.out.mono ?_
 rintro e w2 (⟨hp, v, rfl, ⟨⟨A, n, c, rfl⟩, hq⟩, hg⟩ | ⟨hn, rfl, hg⟩)
 ·have hb := alloc_old hg
  have hcell := cell_of_one hb
  have hfree := free_of_one hb
  have HB := Lib.hid hb; have HG := Lib.hid hg; have HQ := Lib.hid (And.intro hp hq)
  clear hb hg H HE hq hp
  go_wp2
  exact door_ret_rows A n c P Q HQ.out.1 w _ _ rfl (HMO.out _ _ _ _ (Array.getElem?_eq_some_iff.1 HB.out).1 (grown_setCell w2 ⟨w.heap.size, 0, none⟩ _) hWB.symm HQ.out.2) (one_setCell HB.out) (grown_step (grown_trans (World.grownBy_alloc _ _ none) HG.out) (grown_setCell w2 ⟨w.heap.size, 0, none⟩ _) (Nat.le_refl _))
 ·have hb := alloc_old hg
  have HB := Lib.hid hb; have HG := Lib.hid hg
  clear hb hg H HE
  exact door_die_rows P Q hn w _ _ rfl HB.out (grown_trans (World.grownBy_alloc _ _ none) HG.out)
set_option maxRecDepth 20000 in
theorem caught_row (p : Addr) (x E : Int) (older : List PanicEntry) (w : World) (hc : w.cell? p = some (.int .i64 x)) (hz : w.frozen? p = false) :
  CallsD Tryz.prog 93 #[.pointer (some p)] (.panicking ({ v := .iface 24 (.int .i64 E), recovered := false } :: older)) w fun e u' w' =>
   e = .returned (.tuple #[]) ∧ u' = .panicking ({ v := .iface 24 (.int .i64 E), recovered := true } :: older) ∧ w' = w.setCell p (.int .i64 E) := by
 refine callsD_of_wpS Tryz.func93 rfl fun c₀ cs hu => ?_
 apply wpS_seq
 apply wpS_region
 simp [wpOpsS, go_sem, recoverD, hu, Tryz.ntmps93, Exit.thenS]
 clear hu
 obtain ⟨fs, hfs⟩ : ∃ fs : List Frame, fs = { c₀ with mode := .panicking ({ v := .iface 24 (.int .i64 E), recovered := true } :: older) } :: cs := ⟨_, rfl⟩
 have HFS := Lib.hid hfs
 rw [← hfs]
 clear hfs
 have h1 : ∀ w : World, (binOp .neq 20 (.iface 24 (.int .i64 E)) .nilIface).run Tryz.prog w = .ok (.bool true) w := fun w => run_neq_held_nil _ _ _ _ (by kernel_rfl)
 have h2 : ∀ w : World, (Instr.typeAssert (.iface 24 (.int .i64 E)) 20 24 false).run Tryz.prog w = .ok (.int .i64 E) w := fun w => by kernel_rfl
 refine wpS_of_wp ?_
 go_wp2_with fail
 clear h1 h2 hc hz
 rw [HFS.out]
 exact ⟨rfl, _, rfl, .tuple #[], by simp [results, Tryz.results93], rfl, rfl, rfl⟩
theorem idle_row (p : Addr) (w : World) :
  CallsD Tryz.prog 93 #[.pointer (some p)] .returning w fun e u' w' => e = .returned (.tuple #[]) ∧ u' = .returning ∧ w' = w := by
 refine callsD_of_wpS Tryz.func93 rfl fun c₀ cs hu => ?_
 apply wpS_seq
 apply wpS_region
 simp [wpOpsS, go_sem, recoverD, hu, Tryz.ntmps93, Exit.thenS]
 refine wpS_of_wp ?_
 go_wp2
 cases c₀
 simp_all [bodyPostS, results, Tryz.results93]
theorem door_ret_row (A : Option Addr) (n c : Nat) (P : Prop) (Q : Value → World → Prop) (hP : P) (w w2 : World) (tmps : Array Value) (ht : tmps = #[tmps.getD 0 undef, tmps.getD 1 undef, (.slice A n c), .pointer (some ⟨w.heap.size, 0, none⟩), tmps.getD 4 undef, tmps.getD 5 undef, tmps.getD 6 undef])
  (hq : Q (.slice A n c) w2) (hb : w2.heap[w.heap.size]? = some (.cells #[.int .i64 0] 24 (0, 0))) (hg : w.grownBy w2 none) :
  Leaves Tryz.prog Tryz.f51 tmps (TryPost P Q (.slice none 0 0) w) [{ target := .fn (.func 93) #[.pointer (some ⟨w.heap.size, 0, none⟩)], args := #[] }] .returning w2 := by
 have hcell := cell_of_one hb
 refine leaves_cons (f := 93) (args := #[.pointer (some ⟨w.heap.size, 0, none⟩)]) (by simp) (by simp [go_sem]) ?_
 refine (idle_row ⟨w.heap.size, 0, none⟩ _).mono ?_
 rintro e u' w'' ⟨rfl, rfl, rfl⟩
 rw [ht]
 refine ⟨.tuple #[(.slice A n c), .int .i64 0], by simp [results, Tryz.results51, go_sem, hcell], .inl ⟨hP, _, rfl, hq, hg⟩⟩
theorem door_die_row (P : Prop) (Q : Value → World → Prop) (hP : ¬ P) (w w2 : World) (tmps : Array Value) (ht : tmps = #[tmps.getD 0 undef, tmps.getD 1 undef, (.slice none 0 0), .pointer (some ⟨w.heap.size, 0, none⟩), tmps.getD 4 undef, tmps.getD 5 undef, tmps.getD 6 undef])
  (hb : w2.heap[w.heap.size]? = some (.cells #[.int .i64 0] 24 (0, 0))) (hg : w.grownBy w2 none) :
  Leaves Tryz.prog Tryz.f51 tmps (TryPost P Q (.slice none 0 0) w) [{ target := .fn (.func 93) #[.pointer (some ⟨w.heap.size, 0, none⟩)], args := #[] }] (.panicking [{ v := .iface 24 (.int .i64 2), recovered := false }]) w2 := by
 have hcell := cell_of_one (one_setCell (u := .int .i64 2) hb)
 refine leaves_cons (f := 93) (args := #[.pointer (some ⟨w.heap.size, 0, none⟩)]) (by simp) (by simp [go_sem]) ?_
 refine (caught_row ⟨w.heap.size, 0, none⟩ 0 2 [] _ (cell_of_one hb) (free_of_one hb)).mono ?_
 rintro e u' w'' ⟨rfl, rfl, rfl⟩
 rw [ht]
 refine ⟨.tuple #[(.slice none 0 0), .int .i64 2], by simp [results, Tryz.results51, go_sem, hcell], .inr ⟨hP, rfl, ?_⟩⟩
 exact grown_step hg (grown_setCell w2 ⟨w.heap.size, 0, none⟩ _) (Nat.le_refl _)
set_option maxRecDepth 20000 in
theorem attempt_row (F : Nat) (he : Enters F) (first cap : Array Value) (P : Prop) (Q : Value → World → Prop) (hmono : ∀ v w1 w2 b, b < w1.heap.size → w1.grownBy w2 (some b) → b = WB → Q v w1 → Q v w2) (w : World) (hWB : WB = w.heap.size)
  (h : Calls Tryz.prog F (first ++ cap) (w.alloc (.cells #[.int .i64 0] 24)) (OrDieQ P (fun v w' => (∃ A n c, v = (.slice A n c)) ∧ Q v w') (w.alloc (.cells #[.int .i64 0] 24)))) :
  Calls Tryz.prog 51 #[.func (.func F) first cap] w (TryPost P Q (.slice none 0 0) w) := by
 have hmf : ∀ (fn : Fn) (first cap : Array Value) (w : World), (Instr.makeFunc fn first cap).run Tryz.prog w = .ok (.func fn first cap) w := fun _ _ _ _ => rfl
 have H := Lib.hid h
 have HE := Lib.hid he
 have HMO := Lib.hid hmono
 clear h he hmono
 go_enter_defers Tryz.func51, Tryz.ntmps51
 go_wp2_with fail
 rw [HE.out]
 refine H.out.mono ?_
 rintro e w2 (⟨hp, v, rfl, ⟨⟨A, n, c, rfl⟩, hq⟩, hg⟩ | ⟨hn, rfl, hg⟩)
 ·have hb := alloc_old hg
  have hcell := cell_of_one hb
  have hfree := free_of_one hb
  have HB := Lib.hid hb; have HG := Lib.hid hg; have HQ := Lib.hid (And.intro hp hq)
  clear hb hg H HE hq hp
  go_wp2
  exact door_ret_row A n c P Q HQ.out.1 w _ _ rfl (HMO.out _ _ _ _ (Array.getElem?_eq_some_iff.1 HB.out).1 (grown_setCell w2 ⟨w.heap.size, 0, none⟩ _) hWB.symm HQ.out.2) (one_setCell HB.out) (grown_step (grown_trans (World.grownBy_alloc _ _ none) HG.out) (grown_setCell w2 ⟨w.heap.size, 0, none⟩ _) (Nat.le_refl _))
 ·have hb := alloc_old hg
  have HB := Lib.hid hb; have HG := Lib.hid hg
  clear hb hg H HE
  exact door_die_row P Q hn w _ _ rfl HB.out (grown_trans (World.grownBy_alloc _ _ none) HG.out)
set_option maxRecDepth 20000 in
theorem caught_str (p : Addr) (x E : Int) (older : List PanicEntry) (w : World) (hc : w.cell? p = some (.int .i64 x)) (hz : w.frozen? p = false) :
  CallsD Tryz.prog 101 #[.pointer (some p)] (.panicking ({ v := .iface 24 (.int .i64 E), recovered := false } :: older)) w fun e u' w' =>
   e = .returned (.tuple #[]) ∧ u' = .panicking ({ v := .iface 24 (.int .i64 E), recovered := true } :: older) ∧ w' = w.setCell p (.int .i64 E) := by
 refine callsD_of_wpS Tryz.func101 rfl fun c₀ cs hu => ?_
 apply wpS_seq
 apply wpS_region
 simp [wpOpsS, go_sem, recoverD, hu, Tryz.ntmps101, Exit.thenS]
 clear hu
 obtain ⟨fs, hfs⟩ : ∃ fs : List Frame, fs = { c₀ with mode := .panicking ({ v := .iface 24 (.int .i64 E), recovered := true } :: older) } :: cs := ⟨_, rfl⟩
 have HFS := Lib.hid hfs
 rw [← hfs]
 clear hfs
 have h1 : ∀ w : World, (binOp .neq 20 (.iface 24 (.int .i64 E)) .nilIface).run Tryz.prog w = .ok (.bool true) w := fun w => run_neq_held_nil _ _ _ _ (by kernel_rfl)
 have h2 : ∀ w : World, (Instr.typeAssert (.iface 24 (.int .i64 E)) 20 24 false).run Tryz.prog w = .ok (.int .i64 E) w := fun w => by kernel_rfl
 refine wpS_of_wp ?_
 go_wp2_with fail
 clear h1 h2 hc hz
 rw [HFS.out]
 exact ⟨rfl, _, rfl, .tuple #[], by simp [results, Tryz.results101], rfl, rfl, rfl⟩
theorem idle_str (p : Addr) (w : World) :
  CallsD Tryz.prog 101 #[.pointer (some p)] .returning w fun e u' w' => e = .returned (.tuple #[]) ∧ u' = .returning ∧ w' = w := by
 refine callsD_of_wpS Tryz.func101 rfl fun c₀ cs hu => ?_
 apply wpS_seq
 apply wpS_region
 simp [wpOpsS, go_sem, recoverD, hu, Tryz.ntmps101, Exit.thenS]
 refine wpS_of_wp ?_
 go_wp2
 cases c₀
 simp_all [bodyPostS, results, Tryz.results101]
theorem door_ret_str (s : ByteArray) (P : Prop) (Q : Value → World → Prop) (hP : P) (w w2 : World) (tmps : Array Value) (ht : tmps = #[tmps.getD 0 undef, tmps.getD 1 undef, (.string s), .pointer (some ⟨w.heap.size, 0, none⟩), tmps.getD 4 undef, tmps.getD 5 undef, tmps.getD 6 undef])
  (hq : Q (.string s) w2) (hb : w2.heap[w.heap.size]? = some (.cells #[.int .i64 0] 24 (0, 0))) (hg : w.grownBy w2 none) :
  Leaves Tryz.prog Tryz.f57 tmps (TryPost P Q (.string ⟨#[]⟩) w) [{ target := .fn (.func 101) #[.pointer (some ⟨w.heap.size, 0, none⟩)], args := #[] }] .returning w2 := by
 have hcell := cell_of_one hb
 refine leaves_cons (f := 101) (args := #[.pointer (some ⟨w.heap.size, 0, none⟩)]) (by simp) (by simp [go_sem]) ?_
 refine (idle_str ⟨w.heap.size, 0, none⟩ _).mono ?_
 rintro e u' w'' ⟨rfl, rfl, rfl⟩
 rw [ht]
 refine ⟨.tuple #[(.string s), .int .i64 0], by simp [results, Tryz.results57, go_sem, hcell], .inl ⟨hP, _, rfl, hq, hg⟩⟩
theorem door_die_str (P : Prop) (Q : Value → World → Prop) (hP : ¬ P) (w w2 : World) (tmps : Array Value) (ht : tmps = #[tmps.getD 0 undef, tmps.getD 1 undef, (.string ⟨#[]⟩), .pointer (some ⟨w.heap.size, 0, none⟩), tmps.getD 4 undef, tmps.getD 5 undef, tmps.getD 6 undef])
  (hb : w2.heap[w.heap.size]? = some (.cells #[.int .i64 0] 24 (0, 0))) (hg : w.grownBy w2 none) :
  Leaves Tryz.prog Tryz.f57 tmps (TryPost P Q (.string ⟨#[]⟩) w) [{ target := .fn (.func 101) #[.pointer (some ⟨w.heap.size, 0, none⟩)], args := #[] }] (.panicking [{ v := .iface 24 (.int .i64 2), recovered := false }]) w2 := by
 have hcell := cell_of_one (one_setCell (u := .int .i64 2) hb)
 refine leaves_cons (f := 101) (args := #[.pointer (some ⟨w.heap.size, 0, none⟩)]) (by simp) (by simp [go_sem]) ?_
 refine (caught_str ⟨w.heap.size, 0, none⟩ 0 2 [] _ (cell_of_one hb) (free_of_one hb)).mono ?_
 rintro e u' w'' ⟨rfl, rfl, rfl⟩
 rw [ht]
 refine ⟨.tuple #[(.string ⟨#[]⟩), .int .i64 2], by simp [results, Tryz.results57, go_sem, hcell], .inr ⟨hP, rfl, ?_⟩⟩
 exact grown_step hg (grown_setCell w2 ⟨w.heap.size, 0, none⟩ _) (Nat.le_refl _)
set_option maxRecDepth 20000 in
theorem attempt_str (F : Nat) (he : Enters F) (first cap : Array Value) (P : Prop) (Q : Value → World → Prop) (hmono : ∀ v w1 w2 b, b < w1.heap.size → w1.grownBy w2 (some b) → b = WB → Q v w1 → Q v w2) (w : World) (hWB : WB = w.heap.size)
  (h : Calls Tryz.prog F (first ++ cap) (w.alloc (.cells #[.int .i64 0] 24)) (OrDieQ P (fun v w' => (∃ s, v = (.string s)) ∧ Q v w') (w.alloc (.cells #[.int .i64 0] 24)))) :
  Calls Tryz.prog 57 #[.func (.func F) first cap] w (TryPost P Q (.string ⟨#[]⟩) w) := by
 have hmf : ∀ (fn : Fn) (first cap : Array Value) (w : World), (Instr.makeFunc fn first cap).run Tryz.prog w = .ok (.func fn first cap) w := fun _ _ _ _ => rfl
 have H := Lib.hid h
 have HE := Lib.hid he
 have HMO := Lib.hid hmono
 clear h he hmono
 go_enter_defers Tryz.func57, Tryz.ntmps57
 go_wp2_with fail
 rw [HE.out]
 refine H.out.mono ?_
 rintro e w2 (⟨hp, v, rfl, ⟨⟨s, rfl⟩, hq⟩, hg⟩ | ⟨hn, rfl, hg⟩)
 ·have hb := alloc_old hg
  have hcell := cell_of_one hb
  have hfree := free_of_one hb
  have HB := Lib.hid hb; have HG := Lib.hid hg; have HQ := Lib.hid (And.intro hp hq)
  clear hb hg H HE hq hp
  go_wp2
  exact door_ret_str s P Q HQ.out.1 w _ _ rfl (HMO.out _ _ _ _ (Array.getElem?_eq_some_iff.1 HB.out).1 (grown_setCell w2 ⟨w.heap.size, 0, none⟩ _) hWB.symm HQ.out.2) (one_setCell HB.out) (grown_step (grown_trans (World.grownBy_alloc _ _ none) HG.out) (grown_setCell w2 ⟨w.heap.size, 0, none⟩ _) (Nat.le_refl _))
 ·have hb := alloc_old hg
  have HB := Lib.hid hb; have HG := Lib.hid hg
  clear hb hg H HE
  exact door_die_str P Q hn w _ _ rfl HB.out (grown_trans (World.grownBy_alloc _ _ none) HG.out)
end
end Go.Proofs.YtaogepcaoogpgaaGreatDoor
