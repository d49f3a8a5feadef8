/- U17 U18 U60 U89 U94 -/
import Derived.Test.YtaogepcaoogpgaaGreatDoorV10
import Derived.Test.YtaogepcaoogpgaaGreatDoorV08
import Derived.Test.YtaogepcaoogpgaaGreatDoorV01
import Derived.Test.YtaogepcaoogpgaaGreatDoorV13
import Derived.Test.YtaogepcaoogpgaaGreatDoorRows
import Derived.Below
import Derived.Laws.OwnMore
import Derived.Deep.AppendLies
import Derived.Deep.Draws
import Derived.WalkKit
import Derived.Shelf.Strings.OnBuilder
import Derived.Test.YtaogepcaoogpgaaGreatDoorProg
import Derived.Test.YtaogepcaoogpgaaGreatDoorV19
import Derived.StillTailTactics
import Derived.Test.YtaogepcaoogpgaaGreatDoorV20
import Derived.Deep.RegionHeld2
set_option linter.unusedVariables false
set_option linter.unusedSimpArgs false
namespace Go.Proofs.YtaogepcaoogpgaaGreatDoor
open Go.RowKit
open Go.Lib (nDigits decDigits)
theorem flip_t {l m : List UInt8} (h : (l == m) = true) : (l != m) = false := by rw [bne, h]; rfl
theorem flip_f {l m : List UInt8} (h : (l == m) = false) : (l != m) = true := by rw [bne, h]; rfl
open Go.RowKit
open Go.Lib (nDigits decDigits)
open Go.RowKit
theorem block_of_add (a : Addr) (n : Nat) : (a.add n).block = a.block := by unfold Addr.add; split <;> rfl
def Reads (w : World) (B size : Nat) (A : Option Addr) (n : Nat) (xs : List Value) : Prop :=
 xs.length = n * size ∧ (0 < n → ∃ ad, A = some ad ∧ ad.block < B ∧ ∀ j u, xs[j]? = some u → w.cell? (ad.add j) = some u)
section
variable {w w' : World} {B B' size n : Nat} {A : Option Addr} {xs : List Value}
theorem Reads.none_ : Reads w B size A 0 [] := ⟨by simp, fun h => absurd h (by omega)⟩
theorem Reads.keep (h : Reads w B size A n xs) (hk : ∀ p : Addr, p.block < B → w'.cell? p = w.cell? p) : Reads w' B size A n xs :=
 ⟨h.1, fun hn => by
  obtain ⟨ad, e, hb, hc⟩ := h.2 hn
  exact ⟨ad, e, hb, fun j u hu => (hk _ (by rw [block_of_add]; exact hb)).trans (hc j u hu)⟩⟩
theorem Reads.more (h : Reads w B size A n xs) (hB : B ≤ B') : Reads w B' size A n xs :=
 ⟨h.1, fun hn => by
  obtain ⟨ad, e, hb, hc⟩ := h.2 hn
  exact ⟨ad, e, by omega, hc⟩⟩
theorem Reads.below (h : Reads w B size A n xs) (hb : Below B w w') : Reads w' B size A n xs := h.keep fun _ hp => hb.cell hp
end
end Go.Proofs.YtaogepcaoogpgaaGreatDoor
namespace Go.Proofs
open Go.Shelf Go.RowKit
def Tryz.lays156_ren : Go.Shelf.Ren := ⟨fun | 156 => 130 | 165 => 162 | 166 => 163 | 169 => 164 | 240 => 202 | 241 => 203 | 276 => 233 | 277 => 234 | n => n, fun | 0 => 0 | 3 => 3 | 4 => 4 | 5 => 5 | 9 => 9 | 20 => 20 | 31 => 33 | 37 => 149 | 70 => 148 | 72 => 151 | 75 => 154 | 76 => 155 | 80 => 81 | 127 => 177 | 164 => 193 | n => n, fun | n => n⟩
theorem Tryz.lays156 : Go.Proofs.Lays.n156 Tryz.prog Tryz.lays156_ren := {
 mixed := by kernel_rfl
 f156 := Tryz.func130.trans (congrArg some (by kernel_rfl))
 f165 := Tryz.func162.trans (congrArg some (by kernel_rfl))
 f166 := Tryz.func163.trans (congrArg some (by kernel_rfl))
 f169 := Tryz.func164.trans (congrArg some (by kernel_rfl))
 f240 := Tryz.func202.trans (congrArg some (by kernel_rfl))
 f241 := Tryz.func203.trans (congrArg some (by kernel_rfl))
 f276 := Tryz.func233.trans (congrArg some (by kernel_rfl))
 f277 := Tryz.func234.trans (congrArg some (by kernel_rfl))
 t0 := Tryz.underlying0
 a0 := Tryz.isAgg0
 z0 := Tryz.sizeOf0
 v0 := Tryz.zeroValue0
 t3 := Tryz.underlying3
 a3 := Tryz.isAgg3
 z3 := Tryz.sizeOf3
 v3 := Tryz.zeroValue3
 t4 := Tryz.underlying4
 a4 := Tryz.isAgg4
 z4 := Tryz.sizeOf4
 v4 := Tryz.zeroValue4
 t9 := Tryz.underlying9
 a9 := Tryz.isAgg9
 z9 := Tryz.sizeOf9
 v9 := Tryz.zeroValue9
 t20 := Tryz.underlying20
 a20 := Tryz.isAgg20
 z20 := Tryz.sizeOf20
 v20 := Tryz.zeroValue20
 t31 := Tryz.underlying33
 a31 := Tryz.isAgg33
 z31 := Tryz.sizeOf33
 v31 := Tryz.zeroValue33
 t37 := Tryz.underlying149
 a37 := Tryz.isAgg149
 z37 := Tryz.sizeOf149
 v37 := Tryz.zeroValue149
 t70 := Tryz.underlying148
 a70 := Tryz.isAgg148
 z70 := Tryz.sizeOf148
 v70 := Tryz.zeroValue148
 t72 := Tryz.underlying151
 a72 := Tryz.isAgg151
 z72 := Tryz.sizeOf151
 v72 := Tryz.zeroValue151
 t75 := Tryz.underlying154
 a75 := Tryz.isAgg154
 z75 := Tryz.sizeOf154
 v75 := Tryz.zeroValue154
 t76 := Tryz.underlying155
 a76 := Tryz.isAgg155
 z76 := Tryz.sizeOf155
 v76 := Tryz.zeroValue155
 t127 := Tryz.underlying177
 a127 := Tryz.isAgg177
 z127 := Tryz.sizeOf177
 v127 := Tryz.zeroValue177
 t164 := Tryz.underlying193
 a164 := Tryz.isAgg193
 z164 := Tryz.sizeOf193
 v164 := Tryz.zeroValue193 }
theorem Tryz.Builder_Extra_156 : Builder.Extra Tryz.prog Tryz.lays156_ren := {
 sizeBuilder := by kernel_rfl
 liesBuilder := by kernel_rfl
 t5 := Tryz.underlying5
 a5 := Tryz.isAgg5
 z5 := Tryz.sizeOf5
 v5 := Tryz.zeroValue5
 infoByte := by kernel_rfl
 cellsByte := by kernel_rfl
 sizeByte := by kernel_rfl
 neB5 := by decide }
theorem Tryz.sh_Join (bk o c : Nat) (xs : List ByteArray) (sep : ByteArray) (w : World) (hcells : ∀ (j : Nat) x, xs[j]? = some x → w.cell? ⟨bk, o + j, none⟩ = some (.string x))
  (hbk : bk < w.heap.size) (hN : xs.length ≤ 140737488355328) (hcap : xs.length ≤ c) (hlen : (Lib.join (xs.map (·.data.toList)) sep.data.toList).length ≤ 140737488355328) :
  Calls Tryz.prog 130 #[.slice (some ⟨bk, o, none⟩) xs.length c, .string sep] w fun e w' => e = .returned (.string ⟨(Lib.join (xs.map (·.data.toList)) sep.data.toList).toArray⟩) ∧ Below w.heap.size w w' := Any.strings_Join Tryz.lays156 Tryz.Builder_Extra_156 bk o c xs sep w hcells hbk hN hcap hlen
end Go.Proofs
namespace Go.Proofs.YtaogepcaoogpgaaGreatDoor
open Go.RowKit
section
variable {k : Int}
def solV (k : Int) (g o n c : Nat) : Value := .agg #[.int .i64 k, .string (zeroT k), .string (oneT k), .slice (some ⟨g, o, none⟩) n c]
def putF (hk : IsKind k) (A F : Nat → El k) (j : Nat) : El k := sumRow (srE k hk) (fun j => A (j + 1)) (fun _ => A 0) (fun _ => F) 1 j
def PutFits (hk : IsKind k) (m : Nat) (A F : Nat → El k) : Prop := SumFits (srE k hk) FitE 1 m (fun j => A (j + 1)) (fun _ => A 0) (fun _ => F)
theorem RowAt.tail {w : World} {g o n : Nat} {L : Nat → Value} (h : RowAt w g o (n + 1) L) : RowAt w g (o + 1) n (fun j => L (j + 1)) :=
 ⟨h.1, fun j hj => by rw [Nat.add_assoc, Nat.add_comm 1 j]; exact h.2 (j + 1) (by omega)⟩
theorem RowAt.head {w : World} {g o n m : Nat} {L : Nat → Value} (h : RowAt w g o n L) (hm : m ≤ n) : RowAt w g o m L := ⟨h.1, fun j hj => h.2 j (by omega)⟩
theorem new_row (w : World) (u : Value) (T : TypeId) : RowAt (w.alloc (.cells #[u] T)) w.heap.size 0 1 (fun _ => u) := by
 refine ⟨by simp, fun j hj => ?_⟩
 obtain rfl : j = 0 := by omega
 exact box_cell w #[u] T rfl
set_option maxRecDepth 20000 in
set_option maxHeartbeats 4000000 in
theorem putInto_any (hk : IsKind k) (m g0 off c0 gs os cs : Nat) (A F : Nat → El k) (w : World) (hm0 : 1 ≤ m) (hm : m ≤ 10000) (hA : RowAt w g0 off (m + 1) (txs A)) (hc1 : m + 1 ≤ c0) (hc2 : c0 ≤ maxLen)
  (hF : RowAt w gs os m (txs F)) (hs1 : m ≤ cs) (hs2 : cs ≤ maxLen) (hAf : ∀ j, j < m + 1 → FitE (A j)) (hFf : ∀ j, j < m → FitE (F j)) :
  Calls Tryz.prog 132 #[solV k gs os m cs, .slice (some ⟨g0, off, none⟩) (m + 1) c0] w (OrDieQ (PutFits hk m A F) (fun v w' => ∃ g o c, v = .slice (some ⟨g, o, none⟩) m c ∧ m ≤ c ∧ c ≤ maxLen ∧ (g = g0 ∨ w.heap.size ≤ g) ∧ RowAt w' g o m (txs (putF hk A F))) w) := by
 have hW : w.grownBy (w.alloc (.cells #[.int .i64 k, .string (zeroT k), .string (oneT k), .slice (some ⟨gs, os, none⟩) m cs] 124)) none := World.grownBy_alloc _ _ none
 have x0 := box_cell w #[.int .i64 k, .string (zeroT k), .string (oneT k), .slice (some ⟨gs, os, none⟩) m cs] 124 (j := 0) rfl
 have x1 := box_cell w #[.int .i64 k, .string (zeroT k), .string (oneT k), .slice (some ⟨gs, os, none⟩) m cs] 124 (j := 1) rfl
 have x2 := box_cell w #[.int .i64 k, .string (zeroT k), .string (oneT k), .slice (some ⟨gs, os, none⟩) m cs] 124 (j := 2) rfl
 have x3 := box_cell w #[.int .i64 k, .string (zeroT k), .string (oneT k), .slice (some ⟨gs, os, none⟩) m cs] 124 (j := 3) rfl
 have hsum := fun (Z : World) (hZ : w.grownBy Z none) (gz : Nat) (hz : RowAt Z gz 0 1 (fun _ => .slice (some ⟨gs, os, none⟩) m cs)) =>
  sum_any7 hk 1 m g0 (off + 1) (c0 - 1) (fun j => A (j + 1)) (fun _ => A 0) (fun _ => F) (.slice (some ⟨g0, off, none⟩) 1 c0) (.slice (some ⟨gz, 0, none⟩) 1 1) (fun _ => .slice (some ⟨gs, os, none⟩) m cs) Z hm (by omega)
   ((hA.grown hZ).tail) (by omega) (by omega) (((hA.grown hZ).head (m := 1) (by omega)).row (by omega) hc2 |> fun h => by
     obtain ⟨Ad, cap, e, h1, h2, h3⟩ := h
     refine ⟨Ad, cap, e, h1, h2, fun j hj => ?_⟩
     obtain rfl : j = 0 := by omega
     exact h3 0 hj) (fun j hj => hAf 0 (by omega)) (fun j hj => hAf (j + 1) (by omega)) (hz.row (Nat.le_refl _) (by unfold maxLen; omega)) (fun i hi => (hF.grown hZ).row hs1 hs2) (fun i hi j hj => hFf j hj)
 have HS := Lib.hid hsum; have HX := Lib.hid (And.intro x0 (And.intro x1 (And.intro x2 (And.intro x3 hW))))
 have i1 : ¬ (c0 : Int) < 1 := by omega
 have i2 : (1 : Int) ≤ (m : Int) + 1 := by omega
 have i3 : ¬ c0 = 1 := by omega
 have i5 : (1 : Int) ≤ (c0 : Int) := by omega
 have i6 : 1 ≤ c0 := by omega
 have i7 : (1 : Int) ≤ ((m + 1 : Nat) : Int) := by omega
 have i8 : ((m + 1 : Nat) : Int) ≤ (c0 : Int) := by omega
 clear hsum x0 x1 x2 x3 hA hF hAf hFf hs1 hs2
 unfold solV calV at *
 go_enter Tryz.func132, Tryz.ntmps132
 go_upto_region 1 with (fail)
 obtain ⟨x0, x1, x2, x3, hW⟩ := HX.out
 have hbs : w.heap.size < (w.alloc (.cells #[.int .i64 k, .string (zeroT k), .string (oneT k), .slice (some ⟨gs, os, none⟩) m cs] 124)).heap.size := by simp
 generalize w.alloc (.cells #[.int .i64 k, .string (zeroT k), .string (oneT k), .slice (some ⟨gs, os, none⟩) m cs] 124) = W at *
 have d0 : W.drew.cell? ⟨w.heap.size, 0, none⟩ = some (.int .i64 k) := x0
 have d1 : W.drew.cell? ⟨w.heap.size, 1, none⟩ = some (.string (zeroT k)) := x1
 have d2 : W.drew.cell? ⟨w.heap.size, 2, none⟩ = some (.string (oneT k)) := x2
 have d3 : W.drew.cell? ⟨w.heap.size, 3, none⟩ = some (.slice (some ⟨gs, os, none⟩) m cs) := x3
 have hgz : w.grownBy ((W.alloc (.cells #[.slice (some ⟨gs, os, none⟩) m cs] 33)).drew) none := grown_trans (grown_trans hW (World.grownBy_alloc _ _ none)) (grown_drew _ none)
 have hcall := HS.out ((W.alloc (.cells #[.slice (some ⟨gs, os, none⟩) m cs] 33)).drew) hgz W.heap.size ((new_row W (.slice (some ⟨gs, os, none⟩) m cs) 33).grown (grown_drew _ none))
 have hga : W.grownBy ((W.alloc (.cells #[.slice (some ⟨gs, os, none⟩) m cs] 33)).drew) none := grown_trans (World.grownBy_alloc _ _ none) (grown_drew _ none)
 have z0 := hga.cell x0 (by simp)
 have z1 := hga.cell x1 (by simp)
 have z2 := hga.cell x2 (by simp)
 have z3 := hga.cell x3 (by simp)
 have HC := Lib.hid hcall; have HG := Lib.hid hgz
 clear x0 x1 x2 x3 hW hcall hgz hga HS HX
 go_region_with (go_at_call 82; refine HC.out.mono ?_; rintro e w6 (⟨hp, v, rfl, ⟨g, o, c, rfl, hc3, hc4, hgg, hrw⟩, hg6⟩ | ⟨hn, rfl, hg6⟩); rotate_left 1; (exact ⟨rfl, .inr ⟨hn, rfl, grown_trans HG.out hg6⟩⟩); have HP6 := Lib.hid (And.intro hp (And.intro hc3 (And.intro hc4 (And.intro hgg (And.intro hrw hg6))))); clear hp hc3 hc4 hgg hrw hg6)
 all_goals
  go_wp2
  go_ret
  obtain ⟨hp, hc3, hc4, hgg, hrw, hg6⟩ := HP6.out
  refine .inl ⟨hp, _, rfl, ⟨g, o, c, rfl, hc3, hc4, ?_, hrw⟩, grown_trans HG.out hg6⟩
  rcases hgg with h | h
  ·exact .inl h
  ·exact .inr (Nat.le_trans HG.out.size h)
end
open Go.RowKit
section
variable {k : Int}
theorem FillRow.other {T : TypeId} {z : Value} {n : Nat} {zs : List Value} {w wr : World} (h : FillRow T z n zs w wr) {g o : Nat} {u : Value} (hg : w.heap.size < g) : FillRow T z n zs w (wr.setCell ⟨g, o, none⟩ u) :=
 ⟨((grown_setCell wr ⟨g, o, none⟩ u).block _ (Array.getElem?_eq_some_iff.1 h.row).1 (by simp; omega)).trans h.row, grown_step h.gr (grown_setCell _ _ _) (by show w.heap.size ≤ g; omega), h.le⟩
theorem unit_row (hk : IsKind k) {w : World} {g n t : Nat} (h : w.heap[g]? = some (.cells (List.replicate n (.string (zeroT k))).toArray 9 (0, 0))) (ht : t < n) :
  RowAt (w.setCell ⟨g, t, none⟩ (.string (oneT k))) g 0 n (txs (idm (srE k hk) t)) := by
 have h2 := heap_setCell_same w g t _ _ (.string (oneT k)) h
 refine ⟨(Array.getElem?_eq_some_iff.1 h2).1, fun j hj => ?_⟩
 rw [Nat.zero_add, cell_of_row _ g j _ _ (0, 0) h2, List.setIfInBounds_toArray, List.getElem?_toArray, List.getElem?_set]
 unfold txs idm
 by_cases e : t = j
 ·subst e
  rw [if_pos rfl, if_pos (by simpa using hj), if_pos rfl, tx_one]
 ·rw [if_neg e, if_neg e, List.getElem?_replicate, if_pos hj, tx_zero]
def UnitRows (hk : IsKind k) (H n : Nat) (zs : List Value) (wr : World) : Prop :=
 ∀ i, i < zs.length → ∃ gi, zs.getD i (.slice none 0 0) = .slice (some ⟨gi, 0, none⟩) n n ∧ H < gi ∧ RowAt wr gi 0 n (txs (idm (srE k hk) i))
set_option maxRecDepth 20000 in
set_option maxHeartbeats 4000000 in
theorem unit_any (hk : IsKind k) (n : Nat) (w : World) (hn : n ≤ 10000) :
  Calls Tryz.prog 44 #[calV k, .int .i64 (n : Int)] w fun e w' => ∃ g zs, e = .returned (.slice (some ⟨g, 0, none⟩) n n) ∧ w.heap.size ≤ g ∧ zs.length = n ∧ RowAt w' g 0 n (fun j => zs.getD j (.slice none 0 0)) ∧ UnitRows hk g n zs w' ∧ w.grownBy w' none := by
 obtain ⟨i0, hi, hz0, hz1, hz2⟩ := info_parts info_row
 have hz := fun w' => zeros_any k n w' hn
 have HZ := Lib.hid hz; have HN := Lib.hid hn
 clear hz hn
 have n0 : ¬ (n : Int) < 0 := by omega
 unfold calV at *
 go_enter Tryz.func44, Tryz.ntmps44
 have x0 := box_cell w #[.int .i64 k, .string (zeroT k), .string (oneT k)] 64 (j := 0) rfl
 have x1 := box_cell w #[.int .i64 k, .string (zeroT k), .string (oneT k)] 64 (j := 1) rfl
 have x2 := box_cell w #[.int .i64 k, .string (zeroT k), .string (oneT k)] 64 (j := 2) rfl
 have hsz : (w.alloc (.cells #[.int .i64 k, .string (zeroT k), .string (oneT k)] 64)).heap.size = w.heap.size + 1 := by simp
 go_wp2_with (at_make; refine wpList_make_full _ rfl _ _ 22 rfl (w.heap.size + 1) 33 i0 (.slice none 0 0) 1 Tryz.underlying22 hi hz0 hz1 _ _ _ _ n rfl rfl ?c0 ?c1 ?c2 (by have := HN.out; unfold maxLen; omega) (Nat.le_of_eq hsz.symm) ?_)
 case c0 => omega
 case c1 => omega
 case c2 => have := HN.out; first | omega | (rw [hz2]; omega)
 intro w1 hown hgr
 have hW : w.grownBy (w.alloc (.cells #[.int .i64 k, .string (zeroT k), .string (oneT k)] 64)) none := World.grownBy_alloc _ _ none
 generalize w.alloc (.cells #[.int .i64 k, .string (zeroT k), .string (oneT k)] 64) = W at *
 have hfill : FillRow 33 (.slice none 0 0) n [] W w1 := FillRow.start (by rw [hsz]; exact hown) hgr
 have HFI := Lib.hid hfill; have HX := Lib.hid (And.intro (show CalAt w1 w.heap.size k from ⟨hgr.cell x0 (by simp), hgr.cell x1 (by simp), hgr.cell x2 (by simp)⟩) (And.intro hsz hW))
 clear hown hgr x0 x1 x2 hfill hsz hW
 go_wp2
 go_loopw [11] (fun iv wr => ∃ zs : List Value, iv = .int .i64 (zs.length : Int) ∧ FillRow 33 (.slice none 0 0) n zs W wr ∧ UnitRows hk W.heap.size n zs wr ∧ CalAt wr w.heap.size k) (fun iv _ => n - (intOf iv).toNat)
 case atStart => exact ⟨[], rfl, HFI.out, fun i hi => absurd hi (by simp), HX.out.1⟩
 case round =>
  obtain ⟨zs, rfl, hfill, hrows, hcal⟩ := hrel
  obtain ⟨t, hzt⟩ : ∃ t, zs.length = t := ⟨_, rfl⟩
  have hle := hfill.le
  by_cases ht : t < n
  ·have t1 : decide (t < n) = true := by simpa using ht
   have t1' : decide ((t : Int) < (n : Int)) = true := by simpa using ht
   have hit : (t : Int) < (n : Int) := by omega
   have n1 : IntKind.i64.wrap ((t : Int) + 1) = (t : Int) + 1 := by have := HN.out; rw [IntKind.wrap_i64]; omega
   obtain ⟨y0, y1, y2⟩ := hcal
   have HF := Lib.hid hfill; have HR := Lib.hid hrows; have HT := Lib.hid (And.intro ht (And.intro hzt hle))
   rw [hzt]
   clear hfill hrows ht hle hzt
   go_wp2_with fail
   refine (HZ.out _).mono ?_
   rintro e w5 ⟨g, rfl, hgW, hrow, hg5⟩
   obtain ⟨ht, hzt, hle⟩ := HT.out
   have hsz := HX.out.2.1
   have hWsz : W.heap.size < wr.heap.size := (Array.getElem?_eq_some_iff.1 HF.out.row).1
   have hf5 := HF.out.grown hg5
   have q0 := hf5.cell (by rw [hzt]; exact ht)
   have z0 := hf5.free t
   rw [hzt, hsz] at q0
   rw [hsz] at z0
   have c2 := hg5.cell y2 (by simp)
   have c0 := hg5.cell y0 (by simp)
   have c1 := hg5.cell y1 (by simp)
   have hput := hf5.put (by rw [hzt]; exact ht) (.slice (some ⟨g, 0, none⟩) n n)
   rw [hzt, hsz] at hput
   have hgne : g ≠ w.heap.size + 1 := by omega
   have hrow2 : (w5.setCell ⟨w.heap.size + 1, t, none⟩ (.slice (some ⟨g, 0, none⟩) n n)).heap[g]? = some (.cells (List.replicate n (.string (zeroT k))).toArray 9 (0, 0)) := ((grown_setCell w5 ⟨w.heap.size + 1, t, none⟩ _).block g (Array.getElem?_eq_some_iff.1 hrow).1 (by simpa using hgne)).trans hrow
   have HP := Lib.hid (And.intro hput (And.intro hrow2 (And.intro hgW (And.intro hg5 (And.intro hWsz (And.intro c0 (And.intro c1 (And.intro c2 hrow))))))))
   clear hput hrow2 hgW hg5 hWsz hf5 hrow y0 y1 y2 ht hzt hle
   go_upto_region 6 with (fail)
   have a0 : (w5.setCell ⟨w.heap.size + 1, t, none⟩ (.slice (some ⟨g, 0, none⟩) n n)).cell? ⟨w.heap.size + 1, t, none⟩ = some (.slice (some ⟨g, 0, none⟩) n n) := by
    have hr := HP.out.1.row
    rw [hsz] at hr
    rw [cell_of_row _ _ t _ _ (0, 0) hr, List.getElem?_toArray, List.append_assoc, List.getElem?_append_right (by have := HT.out.2.1; omega), HT.out.2.1, Nat.sub_self]
    rfl
   have b2 : (w5.setCell ⟨w.heap.size + 1, t, none⟩ (.slice (some ⟨g, 0, none⟩) n n)).cell? ⟨w.heap.size, 2, none⟩ = some (.string (oneT k)) := set_far (by omega) HP.out.2.2.2.2.2.2.2.1
   have r0 := cell_of_row _ g t _ _ (0, 0) HP.out.2.1
   rw [List.getElem?_toArray, List.getElem?_replicate, if_pos HT.out.1] at r0
   have f0 := frozen_of_row _ g t _ _ HP.out.2.1
   have hgn : w.heap.size + 1 < g := by have := HP.out.2.2.1; have := HP.out.2.2.2.2.1; omega
   have hCA : CalAt (w5.setCell ⟨w.heap.size + 1, t, none⟩ (.slice (some ⟨g, 0, none⟩) n n)) w.heap.size k := ⟨set_far (by omega) HP.out.2.2.2.2.2.1, set_far (by omega) HP.out.2.2.2.2.2.2.1, b2⟩
   have hU : UnitRows hk W.heap.size n zs (w5.setCell ⟨w.heap.size + 1, t, none⟩ (.slice (some ⟨g, 0, none⟩) n n)) ∧ ∀ i, i < zs.length → ∃ gi, zs.getD i (.slice none 0 0) = .slice (some ⟨gi, 0, none⟩) n n ∧ gi < g := by
    refine ⟨fun i hi => ?_, fun i hi => ?_⟩
    ·obtain ⟨gi, e1, e2, e3⟩ := HR.out i hi
     exact ⟨gi, e1, e2, (e3.grown HP.out.2.2.2.1).grownB (grown_setCell _ _ _) (by show gi ≠ w.heap.size + 1; omega)⟩
    ·obtain ⟨gi, e1, e2, e3⟩ := HR.out i hi
     exact ⟨gi, e1, by have := e3.1; have := HP.out.2.2.1; omega⟩
   have hput := HP.out.1
   have hrow2 := HP.out.2.1
   generalize w5.setCell ⟨w.heap.size + 1, t, none⟩ (.slice (some ⟨g, 0, none⟩) n n) = V at *
   have hne1 : ¬ w.heap.size = g := by omega
   have hne2 : ¬ w.heap.size + 1 = g := by omega
   have HV := Lib.hid (And.intro hput (And.intro hrow2 (And.intro hgn (And.intro hCA hU))))
   have d0 : V.drew.cell? ⟨w.heap.size + 1, t, none⟩ = some (.slice (some ⟨g, 0, none⟩) n n) := a0
   have d2 : V.drew.cell? ⟨w.heap.size, 2, none⟩ = some (.string (oneT k)) := b2
   have dr : V.drew.cell? ⟨g, t, none⟩ = some (.string (zeroT k)) := r0
   have df : V.drew.frozen? ⟨g, t, none⟩ = false := f0
   have e0 := set_far (w := V.drew) (o := t) (u := .string (oneT k)) hne2 d0
   have e2 := set_far (w := V.drew) (o := t) (u := .string (oneT k)) hne1 d2
   clear hput hrow2 hgn hCA hU a0 b2 r0 f0 hgne
   go_region_held2 (fun W' => W'.cell? ⟨w.heap.size + 1, t, none⟩ = some (.slice (some ⟨g, 0, none⟩) n n) ∧ W'.cell? ⟨w.heap.size, 2, none⟩ = some (.string (oneT k))) (first | exact ⟨d0, d2⟩ | exact ⟨e0, e2⟩ | go_keep) (fail)
   all_goals
    go_wp2
    obtain ⟨hput, hrow2, hgn, hCA, hU1, hU2⟩ := HV.out
    have hzt := HT.out.2.1
    have hsz2 : W.heap.size = w.heap.size + 1 := hsz
    refine ⟨⟨zs ++ [.slice (some ⟨g, 0, none⟩) n n], by simp [hzt], (hput.grown (grown_drew V none)).other (by omega), fun i hi => ?_, ⟨set_far hne1 hCA.1, set_far hne1 hCA.2.1, set_far hne1 hCA.2.2⟩⟩, by have := HT.out.1; simp [intOf]; omega⟩
    by_cases hil : i < zs.length
    ·obtain ⟨gi, q1, q2, q3⟩ := hU1 i hil
     obtain ⟨gj, p1, p2⟩ := hU2 i hil
     rw [q1] at p1
     have hgg : gi = gj := by simpa using p1
     refine ⟨gi, ?_, q2, (q3.grown (grown_drew V none)).grownB (grown_setCell _ _ _) (by show gi ≠ g; omega)⟩
     rw [List.getD_eq_getElem?_getD, List.getElem?_append_left hil, ← List.getD_eq_getElem?_getD]
     exact q1
    ·have hie : i = t := by simp at hi; omega
     subst hie
     refine ⟨g, ?_, by omega, unit_row hk (w := V.drew) hrow2 HT.out.1⟩
     rw [List.getD_eq_getElem?_getD, List.getElem?_append_right (by omega), hzt, Nat.sub_self]
     rfl
  ·have hte : t = n := by omega
   subst hte
   have t1 : decide (t < t) = false := by simp
   have t1' : decide ((t : Int) < (t : Int)) = false := by simp
   have HF := Lib.hid hfill; have HR := Lib.hid hrows; have HT := Lib.hid hzt
   rw [hzt]
   clear hfill hrows ht hle hzt hcal
   go_wp2
   go_ret
   have hsz := HX.out.2.1
   have hra := HF.out.rowAt HT.out
   rw [hsz] at hra
   have hru := HR.out
   rw [hsz] at hru
   exact ⟨w.heap.size + 1, zs, rfl, by omega, HT.out, hra, hru, grown_trans HX.out.2.2 HF.out.gr⟩
end
end Go.Proofs.YtaogepcaoogpgaaGreatDoor
