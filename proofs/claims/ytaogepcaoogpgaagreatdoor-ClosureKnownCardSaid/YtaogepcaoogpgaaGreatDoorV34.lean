/- U24 U31 U37 UA2 -/
import Derived.Test.YtaogepcaoogpgaaGreatDoorV32
import Derived.Test.YtaogepcaoogpgaaGreatDoorV31
import Derived.Test.YtaogepcaoogpgaaGreatDoorV02
import Derived.Deep.AppendLies
import Derived.Laws.CopyRow
import Derived.Laws.OwnMore
import Derived.Deep.RegionHeld3
import Derived.Sort.Grow
import Derived.Test.YtaogepcaoogpgaaGreatDoorV22
import Derived.Shelf.SlSortCmp.NoneTotal
import Derived.Shelf.Lay
import Derived.Shelf.SlGeneric
import Derived.Ground.SlsfProg
import Derived.Sort.Walk0
import Derived.Test.YtaogepcaoogpgaaGreatDoorV08
import Derived.Test.YtaogepcaoogpgaaGreatDoorV33
import Derived.WalkKit
import Derived.ProofKit
import Derived.OpenShut
import Derived.SliceStrings
import Derived.SizedLaws
import Derived.Carry
import Derived.Lib.SmallJoins
import Derived.ChangeOld
import Derived.Test.YtaogepcaoogpgaaGreatDoorV07
import Derived.Test.YtaogepcaoogpgaaGreatDoorTie
import Derived.Test.YtaogepcaoogpgaaGreatDoorCards
import Derived.Deep.DeepHandedRow
import Derived.Lib.LaidTab
import Derived.Lib.LaidU8
import Derived.MakeChecks
import Derived.ChangeSlices
import Derived.Test.YtaogepcaoogpgaaGreatDoorV29
set_option linter.unusedVariables false
set_option linter.unusedSimpArgs false
namespace Go.Proofs.YtaogepcaoogpgaaGreatDoor
open Go.RowKit
theorem reads_of_own {w : World} {B n k : Nat} {e : TypeId} {v : Value} {xs : List Value} (h : w.ownsRow B e k v n xs) : ∃ A cap, v = .slice A n cap ∧ Reads w w.heap.size k A n xs := by
 have hlt := h.lt
 rcases h.2 with ⟨rfl, rfl⟩ | ⟨g, cap, cur, rfl, hb, hg, hnc, hcm, hcs, ht⟩
 ·exact ⟨none, 0, rfl, h.1, fun h0 => absurd h0 (by omega)⟩
 ·exact ⟨_, cap, rfl, h.1, fun h0 => ⟨_, rfl, (hlt g rfl).2, fun j u hu => h.cells (g := g) rfl j u hu⟩⟩
theorem arcs_of_own {w : World} {B : Nat} {v : Value} {l : List MArc} (h : w.ownsRow B 59 4 v l.length (l.flatMap arcC)) : ArcsSl w v l := by
 obtain ⟨A, cap, hv, hr⟩ := reads_of_own h
 exact ⟨A, cap, hv, hr⟩
theorem flat_set {α β : Type} (f : α → List β) (n : Nat) (hn : ∀ a, (f a).length = n) : ∀ (l : List α) (k j : Nat) (a a' : α) (b : β), l[k]? = some a → j < n → f a' = (f a).set j b → (l.set k a').flatMap f = (l.flatMap f).set (k * n + j) b
 | [], k, j, a, a', b, h, _, _ => by simp at h
 | x :: l, 0, j, a, a', b, h, hj, hf => by
  simp only [List.getElem?_cons_zero, Option.some.injEq] at h
  subst h
  rw [List.set_cons_zero, List.flatMap_cons, List.flatMap_cons, Nat.zero_mul, Nat.zero_add, hf, List.set_append_left _ _ (by rw [hn]; exact hj)]
 | x :: l, k + 1, j, a, a', b, h, hj, hf => by
  rw [List.getElem?_cons_succ] at h
  rw [List.set_cons_succ, List.flatMap_cons, List.flatMap_cons, List.set_append_right _ _ (by rw [hn, Nat.succ_mul]; omega), hn, show (k + 1) * n + j - n = k * n + j by rw [Nat.succ_mul]; omega]
  rw [flat_set f n hn l k j a a' b h hj hf]
theorem zip_set {α β : Type} : ∀ (l : List α) (us : List β) (k : Nat) (a : α) (b : β), (l.set k a).zip (us.set k b) = (l.zip us).set k (a, b)
 | [], us, k, a, b => by simp
 | x :: l, [], k, a, b => by cases k <;> simp
 | x :: l, u :: us, 0, a, b => by simp
 | x :: l, u :: us, k + 1, a, b => by simp [zip_set l us k a b]
theorem info_arc : (Tryz.prog.info? 59).map (fun i => (i.zero, i.size, i.bytes)) = some (some (.agg #[.int .i64 0, .int .i64 0, .string ByteArray.empty, .int .i64 0]), 4, 40) := by kernel_rfl
open Go.RowKit
open Go.ChangeShapes Go.WideShapes Go.ChangeAt Go.RowKit Go.Lib Go.Joins
section
variable {H : Type} {enc : TypeId × Value → H} {w : World}
end
open Go.RowKit
instance : Inhabited MArc := ⟨⟨0, 0, ByteArray.empty, 0⟩⟩
theorem grown_putRow {α : Type} [Inhabited α] (enc : α → Value) (w : World) (blk off n : Nat) (d : Array α) (os : Array Obj) : w.grownBy (Go.Sort.grow (Go.Sort.putRow enc (Go.Sort.ahead w n) blk off d) os) (some blk) := by
 refine ⟨rfl, rfl, rfl, by simp, fun k hk hne => ?_⟩
 rw [Go.Sort.heap_grow_old _ _ (by simpa using hk)]
 show ((Go.Sort.ahead w n).heap.modify blk _)[k]? = w.heap[k]?
 rw [Array.getElem?_modify, if_neg (fun e => hne (by rw [e]))]
 rfl
open Go.RowKit
theorem box_fill {W : World} {g : Nat} {m n : Mach} {u v : Value} (h : BoxAt W g m u) :
  BoxAt ((((W.setCell ⟨g, 0, none⟩ (.int .i64 n.kind)).setCell ⟨g, 1, none⟩ (.int .i64 n.start)).setCell ⟨g, 2, none⟩ (.string n.lead)).setCell ⟨g, 3, none⟩ v) g n v ∧
  W.grownBy ((((W.setCell ⟨g, 0, none⟩ (.int .i64 n.kind)).setCell ⟨g, 1, none⟩ (.int .i64 n.start)).setCell ⟨g, 2, none⟩ (.string n.lead)).setCell ⟨g, 3, none⟩ v) (some g) := by
 have g1 := grown_setCell W ⟨g, 0, none⟩ (.int .i64 n.kind)
 have g2 := grown_setCell (W.setCell ⟨g, 0, none⟩ (.int .i64 n.kind)) ⟨g, 1, none⟩ (.int .i64 n.start)
 have g3 := grown_setCell ((W.setCell ⟨g, 0, none⟩ (.int .i64 n.kind)).setCell ⟨g, 1, none⟩ (.int .i64 n.start)) ⟨g, 2, none⟩ (.string n.lead)
 have g4 := grown_setCell (((W.setCell ⟨g, 0, none⟩ (.int .i64 n.kind)).setCell ⟨g, 1, none⟩ (.int .i64 n.start)).setCell ⟨g, 2, none⟩ (.string n.lead)) ⟨g, 3, none⟩ v
 exact ⟨h.set, World.grownBy.trans g1 (World.grownBy.trans g2 (World.grownBy.trans g3 g4))⟩
open Go.RowKit
open Go.ChangeShapes Go.WideShapes Go.ChangeAt Go.RowKit Go.Lib
theorem own : ownKnob Tryz.prog.godebug = none := by kernel_rfl
def putCells (cs : Array Value) : Obj → Obj
 | .cells _ t frozen => .cells cs t frozen
 | o => o
mutual
def cellsD : DataW Unit → List Value
 | .lit (.int k n) => [.int k n]
 | .agg parts => cellsDs parts
 | _ => []
def cellsDs : List (DataW Unit) → List Value
 | [] => []
 | d :: r => cellsD d ++ cellsDs r
end
noncomputable def laidWorld (os : Os) : World :=
 { World.holding Tryz.prog os ⟨#[], #[], []⟩ with heap := ((World.holding Tryz.prog os ⟨#[], #[], []⟩).heap.modify 3 (putCells (cellsD Rows.laid_unicode_utf8_first).toArray)).modify 4 (putCells (cellsD Rows.laid_unicode_utf8_acceptRanges).toArray) }
theorem post_below {H : Type} {enc : TypeId × Value → H} {P : Program} {f : Func} {s : ChangeSpec} {apart fresh handsOn : Bool} {W W' : World} {args : Array Value} {v : Value} {ds gs : List (DataW H)} {before pa pv : List MemPlace}
  (hW : DataW.Whole enc P f.params.toList s.vars apart W args.toList ds gs before)
  (hres : ∀ (b : Nat) (sp : Nat → Bool) (hd : Bool), DataW.TrodAll enc P W' b sp hd f.resultTypes.toList (v.resultList f.resultTypes.size) (s.fn H (ds ++ gs)).results [])
  (hargs : DataW.TrodAll enc P W' 0 (fun b => decide (b < W.heap.size)) true f.params.toList args.toList (s.fn H (ds ++ gs)).args pa)
  (hvars : DataW.TrodVars enc P W' (fun b => decide (b < W.heap.size)) s.vars (s.fn H (ds ++ gs)).vars pv)
  (hb : Below W.heap.size W W') : s.post enc P f apart fresh handsOn false W args v W' :=
 ⟨ds, gs, before, [], pa, pv, hW, hres _ _ _, hargs, hvars, hb.frame _, fun h => by cases h⟩
open Go.ChangeShapes Go.WideShapes Go.ChangeAt Go.RowKit Go.Lib
open Go.RowKit
def SameB (n m : Nat) (X Y : Nat → ByteArray) : Prop := n = m ∧ ∀ i, i < n → X i = Y i
set_option maxRecDepth 20000 in
set_option maxHeartbeats 2000000 in
theorem same7_any (n m : Nat) (X Y : Nat → ByteArray) (av bv : Value) (w : World) (hn : n ≤ 10000) (hm : m ≤ 10000) (ha : RowR w av n (fun i => .string (X i))) (hb : RowR w bv m (fun i => .string (Y i))) :
  Calls Tryz.prog 27 #[av, bv] w (BoolIs7 (SameB n m X Y) w) := by
 obtain ⟨Aa, ca, rfl, _, _, ha3⟩ := ha
 obtain ⟨Ab, cb, rfl, _, _, hb3⟩ := hb
 have HA := Lib.hid ha3; have HB := Lib.hid hb3; have HN := Lib.hid (And.intro hn hm)
 clear ha3 hb3
 by_cases hnm : n = m
 ·subst hnm
  have t1 : ((n : Int) == (n : Int)) = true := by simp
  have t2 : ((n : Int) != (n : Int)) = false := by simp
  clear hn hm
  go_enter Tryz.func27, Tryz.ntmps27
  go_wp2
  go_loopw [5] (fun iv wr => ∃ i : Nat, i ≤ n ∧ iv = .int .i64 (i : Int) ∧ w.grownBy wr none ∧ ∀ x, x < i → X x = Y x) (fun iv _ => n - (intOf iv).toNat)
  case atStart => exact ⟨0, Nat.zero_le _, rfl, World.grownBy.refl _ _, fun x hx => absurd hx (by omega)⟩
  case round =>
   obtain ⟨i, hi, rfl, hg, hx⟩ := hrel
   by_cases hin : i < n
   ·obtain ⟨ad, rfl, hbl, hca⟩ := HA.out i hin
    obtain ⟨bd, rfl, hbl2, hcb⟩ := HB.out i hin
    have q1 : wr.drew.cell? (ad.add i) = some (.string (X i)) := (cell_same (w := w) (w' := wr) (ad := ad.add i) (by rw [add_block7]; exact hg.block _ hbl (by simp))).trans hca
    have q2 : wr.drew.cell? (bd.add i) = some (.string (Y i)) := (cell_same (w := w) (w' := wr) (ad := bd.add i) (by rw [add_block7]; exact hg.block _ hbl2 (by simp))).trans hcb
    have u1 : decide (i < n) = true := by simpa using hin
    have u1' : decide ((i : Int) < (n : Int)) = true := by simpa using hin
    have hit : (i : Int) < (n : Int) := by omega
    have hi0 : (0 : Int) ≤ (i : Int) := by omega
    have n1 : IntKind.i64.wrap ((i : Int) + 1) = (i : Int) + 1 := by have := HN.out; rw [IntKind.wrap_i64]; omega
    have HI := Lib.hid (And.intro hin (And.intro hg hx))
    clear hi hin hg hx hbl hbl2 hca hcb
    rcases str_facts7 (X i) (Y i) with ⟨f1, e1⟩ | ⟨f1, e1⟩
    ·have f2 : ((X i).toList != (Y i).toList) = false := by simp [bne, f1]
     have HE := Lib.hid e1
     clear e1
     go_upto_region 6 with (fail)
     go_region_held2 (fun W' => W'.cell? (ad.add i) = some (.string (X i)) ∧ W'.cell? (bd.add i) = some (.string (Y i))) (first | exact ⟨q1, q2⟩ | go_keep) (fail)
     all_goals
      go_wp2
      refine ⟨⟨i + 1, HI.out.1, by simp, grown_trans HI.out.2.1 (grown_drew wr none), fun x hx => ?_⟩, by have := HI.out.1; simp [intOf]; omega⟩
      by_cases e : x < i
      ·exact HI.out.2.2 x e
      ·rw [show x = i by omega]; exact HE.out
    ·have f2 : ((X i).toList != (Y i).toList) = true := by simp [bne, f1]
     have HE := Lib.hid e1
     clear e1
     go_upto_region 6 with (fail)
     go_region_held2 (fun W' => W'.cell? (ad.add i) = some (.string (X i)) ∧ W'.cell? (bd.add i) = some (.string (Y i))) (first | exact ⟨q1, q2⟩ | go_keep) (fail)
     all_goals
      go_wp2
      go_ret
      exact BoolIs7.no (fun h => HE.out (h.2 i HI.out.1)) (grown_trans HI.out.2.1 (grown_drew wr none))
   ·obtain rfl : i = n := by omega
    have u1 : decide (i < i) = false := by simp
    have u1' : decide ((i : Int) < (i : Int)) = false := by simp
    have HI := Lib.hid (And.intro hg hx)
    clear hi hin hg hx
    go_wp2
    go_ret
    exact BoolIs7.yes ⟨rfl, HI.out.2⟩ HI.out.1
 ·have t1 : ((n : Int) == (m : Int)) = false := by simp; omega
  have t2 : ((n : Int) != (m : Int)) = true := by simp [bne]; omega
  have HE := Lib.hid hnm
  clear hnm hn hm
  go_enter Tryz.func27, Tryz.ntmps27
  go_wp2
  go_ret
  exact BoolIs7.no (fun h => HE.out h.1) (World.grownBy.refl _ _)
def SameMB (n m : Nat) (la lb : Nat → Nat) (X Y : Nat → Nat → ByteArray) : Prop := n = m ∧ ∀ i, i < n → SameB (la i) (lb i) (X i) (Y i)
set_option maxRecDepth 20000 in
set_option maxHeartbeats 2000000 in
theorem sameMatrix_any (n m : Nat) (la lb : Nat → Nat) (X Y : Nat → Nat → ByteArray) (av bv : Value) (w : World) (hn : n ≤ 10000) (hm : m ≤ 10000) (hla : ∀ i, i < n → la i ≤ 10000) (hlb : ∀ i, i < m → lb i ≤ 10000) (ha : MatA w av n la X) (hb : MatA w bv m lb Y) :
  Calls Tryz.prog 16 #[av, bv] w (BoolIs7 (SameMB n m la lb X Y) w) := by
 obtain ⟨ra, ⟨Aa, ca, rfl, _, _, ha3⟩, ha4⟩ := ha
 obtain ⟨rb, ⟨Ab, cb, rfl, _, _, hb3⟩, hb4⟩ := hb
 have hsame := fun (i : Nat) (hi : i < n) (hi2 : i < m) (w' : World) (hg : w.grownBy w' none) => same7_any (la i) (lb i) (X i) (Y i) (ra i) (rb i) w' (hla i hi) (hlb i hi2) ((ha4 i hi).grown hg) ((hb4 i hi2).grown hg)
 have hra : ∀ i, i < n → ∃ A c, ra i = .slice A (la i) c := fun i hi => by obtain ⟨A, c, e, _⟩ := ha4 i hi; exact ⟨A, c, e⟩
 have hrb : ∀ i, i < m → ∃ A c, rb i = .slice A (lb i) c := fun i hi => by obtain ⟨A, c, e, _⟩ := hb4 i hi; exact ⟨A, c, e⟩
 have HA := Lib.hid ha3; have HB := Lib.hid hb3; have HN := Lib.hid (And.intro hn hm); have HS := Lib.hid hsame; have HRA := Lib.hid hra; have HRB := Lib.hid hrb
 clear ha3 hb3 ha4 hb4 hsame hra hrb hla hlb
 by_cases hnm : n = m
 ·subst hnm
  have t1 : ((n : Int) == (n : Int)) = true := by simp
  have t2 : ((n : Int) != (n : Int)) = false := by simp
  clear hn hm
  go_enter Tryz.func16, Tryz.ntmps16
  go_wp2
  go_loopw [5] (fun iv wr => ∃ i : Nat, i ≤ n ∧ iv = .int .i64 (i : Int) ∧ w.grownBy wr none ∧ ∀ x, x < i → SameB (la x) (lb x) (X x) (Y x)) (fun iv _ => n - (intOf iv).toNat)
  case atStart => exact ⟨0, Nat.zero_le _, rfl, World.grownBy.refl _ _, fun x hx => absurd hx (by omega)⟩
  case round =>
   obtain ⟨i, hi, rfl, hg, hx⟩ := hrel
   by_cases hin : i < n
   ·obtain ⟨ad, rfl, hbl, hca⟩ := HA.out i hin
    obtain ⟨bd, rfl, hbl2, hcb⟩ := HB.out i hin
    obtain ⟨A1, c1, e1⟩ := HRA.out i hin
    obtain ⟨A2, c2, e2⟩ := HRB.out i hin
    have q1 : wr.drew.cell? (ad.add i) = some (ra i) := (cell_same (w := w) (w' := wr) (ad := ad.add i) (by rw [add_block7]; exact hg.block _ hbl (by simp))).trans hca
    have q2 : wr.drew.cell? (bd.add i) = some (rb i) := (cell_same (w := w) (w' := wr) (ad := bd.add i) (by rw [add_block7]; exact hg.block _ hbl2 (by simp))).trans hcb
    have hcall := HS.out i hin hin wr.drew (grown_trans hg (grown_drew wr none))
    rw [e1, e2] at hcall
    rw [e1] at q1
    rw [e2] at q2
    have u1 : decide (i < n) = true := by simpa using hin
    have u1' : decide ((i : Int) < (n : Int)) = true := by simpa using hin
    have hit : (i : Int) < (n : Int) := by omega
    have hi0 : (0 : Int) ≤ (i : Int) := by omega
    have n1 : IntKind.i64.wrap ((i : Int) + 1) = (i : Int) + 1 := by have := HN.out; rw [IntKind.wrap_i64]; omega
    have HI := Lib.hid (And.intro hin (And.intro hg hx)); have HC := Lib.hid hcall
    clear hi hin hg hx hbl hbl2 hca hcb hcall e1 e2
    go_upto_region 6 with (fail)
    go_region_held2 (fun W' => W'.cell? (ad.add i) = some (.slice A1 (la i) c1) ∧ W'.cell? (bd.add i) = some (.slice A2 (lb i) c2)) (first | exact ⟨q1, q2⟩ | exact S5 | go_keep)
     (first | (go_at_call 27; refine HC.out.mono ?_; rintro e w5 ⟨b, rfl, hb, hg5⟩; have S5 : (fun W' : World => W'.cell? (ad.add i) = some (.slice A1 (la i) c1) ∧ W'.cell? (bd.add i) = some (.slice A2 (lb i) c2)) w5 := ⟨hg5.cell q1 (by simp), hg5.cell q2 (by simp)⟩; have H5 := Lib.hid (And.intro hb (grown_trans HI.out.2.1 (grown_trans (grown_drew wr none) hg5))); clear hb hg5))
    all_goals
     cases b
     ·go_wp2
      go_ret
      refine BoolIs7.no (fun h => ?_) H5.out.2
      have := H5.out.1.2 (h.2 i HI.out.1)
      cases this
     ·go_wp2
      refine ⟨⟨i + 1, HI.out.1, by simp, H5.out.2, fun x hx => ?_⟩, by have := HI.out.1; simp [intOf]; omega⟩
      by_cases e : x < i
      ·exact HI.out.2.2 x e
      ·rw [show x = i by omega]; exact H5.out.1.1 rfl
   ·obtain rfl : i = n := by omega
    have u1 : decide (i < i) = false := by simp
    have u1' : decide ((i : Int) < (i : Int)) = false := by simp
    have HI := Lib.hid (And.intro hg hx)
    clear hi hin hg hx
    go_wp2
    go_ret
    exact BoolIs7.yes ⟨rfl, HI.out.2⟩ HI.out.1
 ·have t1 : ((n : Int) == (m : Int)) = false := by simp; omega
  have t2 : ((n : Int) != (m : Int)) = true := by simp [bne]; omega
  have HE := Lib.hid hnm
  clear hnm hn hm
  go_enter Tryz.func16, Tryz.ntmps16
  go_wp2
  go_ret
  exact BoolIs7.no (fun h => HE.out h.1) (World.grownBy.refl _ _)
theorem MatV.texts {k : Int} {w : World} {v : Value} {n m : Nat} {F : Nat → Nat → El k} (h : MatV w v n m F) : MatA w v n (fun _ => m) (fun i j => tx (F i j)) := by
 obtain ⟨rs, h1, h2⟩ := h
 exact ⟨rs, h1, fun i hi => (h2 i hi).row⟩
end Go.Proofs.YtaogepcaoogpgaaGreatDoor
