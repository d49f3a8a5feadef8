/- U08 U06 U07 U30 U28 -/
import Derived.Test.YtaogepcaoogpgaaGreatDoorV07
import Derived.Maps.AppendAt
import Derived.Shelf.SlicesE.DeleteFunc
import Derived.Shelf.SortM.Plain
import Derived.Shelf.SortM.SortNone
import Derived.Shelf.SlSortCmp.NoneTotal
import Derived.Test.YtaogepcaoogpgaaGreatDoorProg
import Derived.OrdersHeld
import Derived.Deep.RegionHeld3
set_option linter.unusedVariables false
set_option linter.unusedSimpArgs false
namespace Go.Proofs.YtaogepcaoogpgaaGreatDoor
open Go.RowKit
open Go.Lib (nDigits)
theorem str_facts (b : ByteArray) (h : numB b = true) : (b.toList == [48]) = decide (nv b = 0) ∧ (b.toList != [48]) = !decide (nv b = 0) := by
 have := zero_str b h
 exact ⟨this, by rw [bne, this]⟩
def ValOk (s : ByteArray) (b : Bool) : Prop := ∀ w, Calls Tryz.prog 225 #[.string s] w fun e w' => e = .returned (.bool b) ∧ w = w'
theorem valOk (s : ByteArray) (hs : s.size ≤ maxLen) : ValOk s (numB s) := fun w => valid_any s w hs
theorem dec_zero : decS 0 = ⟨#[48]⟩ := by decide +kernel
theorem dec_one : decS 1 = ⟨#[49]⟩ := by decide +kernel
open Go.RowKit
open Go.Lib (nDigits decDigits)
open Go.RowKit
open Go.Lib (nDigits decDigits)
def iv (ds : List Nat) : List Value := ds.map fun (d : Nat) => Value.int .i64 (d : Int)
open Go.RowKit
open Go.Lib (nDigits decDigits)
open Go.RowKit
open Go.Lib (nDigits decDigits)
open Go.RowKit
open Go.Lib (nDigits decDigits)
open Go.RowKit
open Go.Lib (nDigits decDigits)
open Go.RowKit
open Go.Lib (nDigits decDigits)
open Go.RowKit
open Go.Lib (nDigits decDigits)
open Go.RowKit
open Go.Lib (nDigits decDigits)
def pre (a : ByteArray) (k : Nat) : Nat := dval (a.data.toList.take k)
open Go.RowKit
open Go.Lib (nDigits decDigits)
end Go.Proofs.YtaogepcaoogpgaaGreatDoor
namespace Go.Proofs
open Go.Shelf
def Tryz.laysSlH10_f68_ren : Go.Shelf.Ren := ⟨fun | 10 => 185 | 6 => 220 | n => n, fun | 22 => 51 | 23 => 3 | 25 => 67 | 3 => 3 | 4 => 4 | 0 => 0 | n => n, fun | n => n⟩
theorem Tryz.laysSlH10_f68 : Go.Proofs.SlLaysH.n10 Tryz.prog Tryz.laysSlH10_f68_ren := {
 mixed := by kernel_rfl
 f6 := ⟨Tryz.f220.name, by decide, Tryz.func220.trans (congrArg some (by kernel_rfl))⟩
 f10 := ⟨Tryz.f185.name, by decide, Tryz.func185.trans (congrArg some (by kernel_rfl))⟩
 t0 := Tryz.underlying0
 a0 := Tryz.isAgg0
 z0 := Tryz.sizeOf0
 v0 := Tryz.zeroValue0
 t3 := Tryz.underlying3
 a3 := Tryz.isAgg3
 z3 := Tryz.sizeOf3
 v3 := Tryz.zeroValue3
 t4 := Tryz.underlying4
 a4 := Tryz.isAgg4
 z4 := Tryz.sizeOf4
 v4 := Tryz.zeroValue4
 t22 := Tryz.underlying51
 a22 := Tryz.isAgg51
 z22 := Tryz.sizeOf51
 v22 := Tryz.zeroValue51
 a23 := Tryz.isAgg3
 z23 := Tryz.sizeOf3
 t25 := Tryz.underlying67
 a25 := Tryz.isAgg67
 z25 := Tryz.sizeOf67
 v25 := Tryz.zeroValue67 }
open Go.RowKit Go.Lib Go.Sort in
theorem Tryz.slices_DeleteFunc {α : Type} [Inhabited α] (enc : α → Value) (hO : OneCell enc) (p : α → Bool) (g : Nat) (lb : Array Value) (eg : ∀ args w, (callFunc g args).run Tryz.prog w = .ok (.enter g args) w) (zr : α) (v23 : ∀ w, (zeroValue 3).run Tryz.prog w = .ok (enc zr) w) (blk off cap : Nat) (d : Array α) (w : World) (hp : PredAt Tryz.prog g lb enc p w) (hpo : PredOver Tryz.prog g lb enc p blk off d.size w) (hH : Holds enc w blk off d) (hsz : d.size ≤ 9223372036854775807) (hcap : d.size ≤ cap) :
  Calls Tryz.prog 185 #[.slice (some ⟨blk, off, none⟩) d.size cap, .func (.func g) #[] lb] w fun e w' => e = .returned (.slice (some ⟨blk, off, none⟩) (d.toList.filter fun x => !p x).length cap) ∧ ∃ q, w' = putRow enc (Sort.ahead w q) blk off ((d.toList.filter fun x => !p x) ++ List.replicate (d.size - (d.toList.filter fun x => !p x).length) zr).toArray := AnyE.slices_DeleteFunc Tryz.laysSlH10_f68 enc hO p g lb eg zr v23 blk off cap d w hp hpo hH hsz hcap
def Tryz.laysSlM5_f70_ren : Go.Shelf.Ren := ⟨fun | 5 => 187 | 8 => 222 | 7 => 221 | 19 => 245 | 20 => 246 | 10 => 236 | 11 => 237 | 12 => 238 | 13 => 239 | 14 => 240 | 15 => 241 | 16 => 242 | 17 => 243 | 18 => 244 | 30 => 259 | 31 => 260 | 32 => 261 | 33 => 262 | 34 => 263 | 35 => 195 | 40 => 277 | n => n, fun | 23 => 51 | 25 => 3 | 3 => 3 | 32 => 159 | 22 => 51 | 0 => 0 | 44 => 178 | 46 => 181 | 4 => 4 | 36 => 199 | 35 => 198 | 41 => 122 | 5 => 5 | 9 => 9 | 53 => 217 | 57 => 221 | 63 => 229 | 64 => 230 | n => n, fun | n => n⟩
theorem Tryz.laysSlM5_f70 : Go.Proofs.SlLaysM.n5 Tryz.prog Tryz.laysSlM5_f70_ren := {
 mixed := by kernel_rfl
 f5 := ⟨Tryz.f187.name, by decide, Tryz.func187.trans (congrArg some (by kernel_rfl))⟩
 f7 := ⟨Tryz.f221.name, by decide, Tryz.func221.trans (congrArg some (by kernel_rfl))⟩
 f8 := Tryz.func222.trans (congrArg some (by kernel_rfl))
 f10 := ⟨Tryz.f236.name, by decide, Tryz.func236.trans (congrArg some (by kernel_rfl))⟩
 f11 := ⟨Tryz.f237.name, by decide, Tryz.func237.trans (congrArg some (by kernel_rfl))⟩
 f12 := ⟨Tryz.f238.name, by decide, Tryz.func238.trans (congrArg some (by kernel_rfl))⟩
 f13 := ⟨Tryz.f239.name, by decide, Tryz.func239.trans (congrArg some (by kernel_rfl))⟩
 f14 := ⟨Tryz.f240.name, by decide, Tryz.func240.trans (congrArg some (by kernel_rfl))⟩
 f15 := ⟨Tryz.f241.name, by decide, Tryz.func241.trans (congrArg some (by kernel_rfl))⟩
 f16 := ⟨Tryz.f242.name, by decide, Tryz.func242.trans (congrArg some (by kernel_rfl))⟩
 f17 := ⟨Tryz.f243.name, by decide, Tryz.func243.trans (congrArg some (by kernel_rfl))⟩
 f18 := ⟨Tryz.f244.name, by decide, Tryz.func244.trans (congrArg some (by kernel_rfl))⟩
 f19 := Tryz.func245.trans (congrArg some (by kernel_rfl))
 f20 := Tryz.func246.trans (congrArg some (by kernel_rfl))
 f30 := ⟨Tryz.f259.name, by decide, Tryz.func259.trans (congrArg some (by kernel_rfl))⟩
 f31 := Tryz.func260.trans (congrArg some (by kernel_rfl))
 f32 := Tryz.func261.trans (congrArg some (by kernel_rfl))
 f33 := ⟨Tryz.f262.name, by decide, Tryz.func262.trans (congrArg some (by kernel_rfl))⟩
 f34 := ⟨Tryz.f263.name, by decide, Tryz.func263.trans (congrArg some (by kernel_rfl))⟩
 f35 := ⟨Tryz.f195.name, by decide, Tryz.func195.trans (congrArg some (by kernel_rfl))⟩
 f40 := ⟨Tryz.f277.name, by decide, Tryz.func277.trans (congrArg some (by kernel_rfl))⟩
 t0 := Tryz.underlying0
 a0 := Tryz.isAgg0
 z0 := Tryz.sizeOf0
 v0 := Tryz.zeroValue0
 t3 := Tryz.underlying3
 a3 := Tryz.isAgg3
 z3 := Tryz.sizeOf3
 v3 := Tryz.zeroValue3
 t4 := Tryz.underlying4
 a4 := Tryz.isAgg4
 z4 := Tryz.sizeOf4
 v4 := Tryz.zeroValue4
 t5 := Tryz.underlying5
 a5 := Tryz.isAgg5
 z5 := Tryz.sizeOf5
 v5 := Tryz.zeroValue5
 t9 := Tryz.underlying9
 a9 := Tryz.isAgg9
 z9 := Tryz.sizeOf9
 v9 := Tryz.zeroValue9
 t22 := Tryz.underlying51
 a22 := Tryz.isAgg51
 z22 := Tryz.sizeOf51
 v22 := Tryz.zeroValue51
 t23 := Tryz.underlying51
 a23 := Tryz.isAgg51
 z23 := Tryz.sizeOf51
 v23 := Tryz.zeroValue51
 t25 := Tryz.underlying3
 a25 := Tryz.isAgg3
 z25 := Tryz.sizeOf3
 v25 := Tryz.zeroValue3
 t32 := Tryz.underlying159
 a32 := Tryz.isAgg159
 z32 := Tryz.sizeOf159
 v32 := Tryz.zeroValue159
 t35 := Tryz.underlying198
 a35 := Tryz.isAgg198
 z35 := Tryz.sizeOf198
 v35 := Tryz.zeroValue198
 t36 := Tryz.underlying199
 a36 := Tryz.isAgg199
 z36 := Tryz.sizeOf199
 v36 := Tryz.zeroValue199
 t41 := Tryz.underlying122
 a41 := Tryz.isAgg122
 z41 := Tryz.sizeOf122
 v41 := Tryz.zeroValue122
 t44 := Tryz.underlying178
 a44 := Tryz.isAgg178
 z44 := Tryz.sizeOf178
 v44 := Tryz.zeroValue178
 t46 := Tryz.underlying181
 a46 := Tryz.isAgg181
 z46 := Tryz.sizeOf181
 v46 := Tryz.zeroValue181
 t53 := Tryz.underlying217
 a53 := Tryz.isAgg217
 z53 := Tryz.sizeOf217
 v53 := Tryz.zeroValue217
 t57 := Tryz.underlying221
 a57 := Tryz.isAgg221
 z57 := Tryz.sizeOf221
 v57 := Tryz.zeroValue221
 t63 := Tryz.underlying229
 a63 := Tryz.isAgg229
 z63 := Tryz.sizeOf229
 v63 := Tryz.zeroValue229
 t64 := Tryz.underlying230
 a64 := Tryz.isAgg230
 z64 := Tryz.sizeOf230
 v64 := Tryz.zeroValue230 }
open Go.Sort Go.RowKit in
theorem Tryz.slices_Sort_int (blk off cap : Nat) (zs : List Int) (w : World) (hH : Holds (Value.int .i64) w blk off zs.toArray) (hblk : blk < w.heap.size) (hsz : zs.length < 4611686018427387904) :
  Calls Tryz.prog 187 #[.slice (some ⟨blk, off, none⟩) zs.length cap] w fun e w' =>
   e = .returned (.tuple #[]) ∧ ∃ n os, w' = grow (putRow (Value.int .i64) (Sort.ahead w n) blk off (zs.mergeSort fun x y => decide (x ≤ y)).toArray) os := AnyM.slices_Sort_int Tryz.laysSlM5_f70 blk off cap zs w hH hblk hsz
end Go.Proofs
namespace Go.Proofs.YtaogepcaoogpgaaGreatDoor
variable {P : Program} {ops : Array Oper} {Q : Exit → Act → World → Prop} {md : Region.Mode}
def LastQ (P : Program) (ops : Array Oper) (Q : Exit → Act → World → Prop) (e : Nat) : Exit → Act → World → Prop
 | .normal, a, w => wpOp P ops Q e (fun a' w' => Q .normal a' w') a w
 | x, a, w => Q x a w
theorem upon_last {e : Nat} {o : Oper} {a : Act} {K : Act → World → Prop} {r : Result Next} (h : o.upon P a K (LastQ P ops Q e) r) : o.upon P a K Q r := by
 cases r with
 | ok n w' =>
  cases n <;> simp only [Oper.upon] at h ⊢
  case enter f args =>
   refine Calls.mono h fun x w'' he => ?_
   cases x with
   | returned u => exact he
   | panicked c => exact he
   | outgrown => exact he
  all_goals exact h
 | halt x w' =>
  cases x <;> simp only [Oper.upon] at h ⊢
  case panic u => exact h
theorem wpOp_last {e i : Nat} {a : Act} {w : World} {K : Act → World → Prop} (h : wpOp P ops (LastQ P ops Q e) i K a w) : wpOp P ops Q i K a w := by
 unfold wpOp at *
 split
 ·rename_i ho; simpa [ho] using h
 ·rename_i o ho
  simp only [ho] at h
  split
  ·rename_i hw
   simp only [hw, if_true] at h
   rcases h with h | ⟨h1, h2⟩
   ·exact .inl (upon_last h)
   ·exact .inr ⟨h1, h2⟩
  ·rename_i hw
   simp only [hw] at h
   exact h
def lastOK (md : Region.Mode) (ops : Array Oper) (e : Nat) : Bool :=
 (List.range ops.size).all (fun i => ((ops[i]?).map (fun o => o.after.all fun x => !Region.binds md x || decide (x.on < i))).getD false && (i == e || ((ops[e]?).map (fun o => o.after.any fun x => Region.binds md x && x.on == i)).getD false)) && decide (e < ops.size)
structure LastOK (md : Region.Mode) (ops : Array Oper) (e : Nat) : Prop where
 he : e < ops.size
 fwd : ∀ (i : Nat) (o : Oper), ops[i]? = some o → ∀ x ∈ o.after, Region.binds md x = true → x.on < i
 all : ∀ (i : Nat), i < ops.size → i ≠ e → ∃ o, ops[e]? = some o ∧ ∃ x ∈ o.after, Region.binds md x = true ∧ x.on = i
theorem lastOK_spec {e : Nat} (h : lastOK md ops e = true) : LastOK md ops e := by
 unfold lastOK at h
 simp only [Bool.and_eq_true, List.all_eq_true, List.mem_range, decide_eq_true_eq] at h
 obtain ⟨h1, h2⟩ := h
 refine ⟨h2, fun i o ho x hx hb => ?_, fun i hi hne => ?_⟩
 ·have h3 := (h1 i (Array.getElem?_eq_some_iff.1 ho).1).1
  simp only [ho, Option.map_some, Option.getD_some, Array.all_eq_true_iff_forall_mem] at h3
  have h4 := h3 x hx
  simpa [hb] using h4
 ·have h3 := (h1 i hi).2
  cases ho : ops[e]? with
  | none => simp [ho, hne] at h3
  | some o =>
   simp only [ho, Option.map_some, Option.getD_some, Bool.or_eq_true, beq_iff_eq, hne, false_or] at h3
   obtain ⟨k, hk, hb⟩ := Array.any_eq_true.1 h3
   simp only [Bool.and_eq_true, beq_iff_eq] at hb
   exact ⟨o, rfl, _, Array.getElem_mem hk, hb.1, hb.2⟩
theorem not_ready_all {listed : Array Bool} {e : Nat} (hok : LastOK md ops e) (hl : listed.size = ops.size) (h : ∀ i, i ≠ e → i ∉ Region.ready md ops listed) : ∀ i, i < ops.size → i ≠ e → listed.getD i false = true := by
 intro i
 induction i using Nat.strongRecOn with
 | ind i ih =>
  intro hi hne
  apply Classical.byContradiction
  intro hn
  have hn : listed.getD i true = false := by
   have hi2 : i < listed.size := by omega
   simp [hi2] at hn ⊢
   exact hn
  refine h i hne ?_
  rw [mem_ready]
  refine ⟨hn, ops[i], Array.getElem?_eq_getElem hi, fun x hx hb => ?_⟩
  have hlt := hok.fwd i _ (Array.getElem?_eq_getElem hi) x hx hb
  by_cases hxe : x.on = e
  ·obtain ⟨oe, hoe, y, hy, hyb, hyi⟩ := hok.all i hi hne
   have := hok.fwd e oe hoe y hy hyb
   omega
  ·exact ih x.on hlt (by omega) hxe
theorem ready_last {listed : Array Bool} {e : Nat} (hok : LastOK md ops e) (hl : listed.size = ops.size) (he : listed.getD e true = false) (h : ∀ i, i < ops.size → i ≠ e → listed.getD i false = true) : e ∈ Region.ready md ops listed := by
 rw [mem_ready]
 refine ⟨he, ops[e]'hok.he, Array.getElem?_eq_getElem hok.he, fun x hx hb => ?_⟩
 have hlt := hok.fwd e _ (Array.getElem?_eq_getElem hok.he) x hx hb
 exact h x.on (by have := hok.he; omega) (by omega)
theorem last_ready {listed : Array Bool} {e : Nat} (hok : LastOK md ops e) (hl : listed.size = ops.size) (he : e ∈ Region.ready md ops listed) : Region.ready md ops (listed.setIfInBounds e true) = [] := by
 rw [List.eq_nil_iff_forall_not_mem]
 intro i hi
 rw [mem_ready] at hi he
 obtain ⟨h1, o, ho, _⟩ := hi
 obtain ⟨h2, oe, hoe, h3⟩ := he
 have hil : i < ops.size := (Array.getElem?_eq_some_iff.1 ho).1
 by_cases hie : i = e
 ·subst hie
  have : i < listed.size := by omega
  simp [this] at h1
 ·rw [getD_set_ne true (Ne.symm hie)] at h1
  obtain ⟨o2, ho2, x, hx, hb, hxi⟩ := hok.all i hil hie
  rw [hoe] at ho2
  cases ho2
  have h4 := h3 x hx hb
  rw [hxi] at h4
  have : i < listed.size := by omega
  simp [this] at h1 h4
  rw [h1] at h4; cases h4
theorem wpAny_last {e : Nat} (hok : LastOK md ops e) : ∀ (fuel : Nat) (listed : Array Bool) (a : Act) (w : World), listed.size = ops.size → listed.getD e true = false →
  wpAny P md ops (LastQ P ops Q e) fuel (listed.setIfInBounds e true) a w → wpAny P md ops Q (fuel + 1) listed a w := by
 intro fuel
 have fin : ∀ (n : Nat) (listed : Array Bool) (a : Act) (w : World), Region.ready md ops (listed.setIfInBounds e true) = [] → LastQ P ops Q e .normal a w → wpOp P ops Q e (wpAny P md ops Q n (listed.setIfInBounds e true)) a w := by
  intro n listed a w hr h
  refine wpOp_mono (fun a' w' h' => ?_) h
  cases n with
  | zero => exact ⟨hr, h'⟩
  | succ n => exact ⟨fun _ => h', by rw [hr]; simp⟩
 induction fuel with
 | zero =>
  intro listed a w hl he h
  have hall := not_ready_all hok hl (fun i hi hr => by have := ready_mono hr hi; rw [h.1] at this; cases this)
  have hre := ready_last hok hl he hall
  refine ⟨fun h0 => (by rw [h0] at hre; cases hre), fun i hi => ?_⟩
  by_cases hie : i = e
  ·subst hie; exact fin 0 listed a w h.1 h.2
  ·have := ready_mono hi hie
   rw [h.1] at this; cases this
 | succ fuel ih =>
  intro listed a w hl he h
  refine ⟨fun h0 => ?_, fun i hi => ?_⟩
  ·have hre := ready_last hok hl he (not_ready_all hok hl (fun i _ hr => by rw [h0] at hr; cases hr))
   rw [h0] at hre; cases hre
  ·by_cases hie : i = e
   ·subst hie
    have hr := last_ready hok hl hi
    exact fin (fuel + 1) listed a w hr (h.1 hr)
   ·have h1 := wpOp_last (h.2 i (ready_mono hi hie))
    refine wpOp_mono (fun a' w' h' => ?_) h1
    refine ih (listed.setIfInBounds i true) a' w' (by simpa using hl) (by rw [getD_set_ne true hie]; exact he) ?_
    rw [Array.setIfInBounds_comm _ _ hie]
    exact h'
theorem lastQ_step {e : Nat} {o : Oper} {a : Act} {w : World} (ho : ops[e]? = some o)
  (h : ∀ K' : Act → World → Prop, (∀ a w, Q .normal a w → K' a w) → if Region.wanted o (yielded ops a.tmps) = true then Oper.wp P o a w K' Q else K' (a.put o.dst undef) w) : LastQ P ops Q e .normal a w := wpOp_step ho h
theorem wp_region_last {id e n : Nat} {a : Act} {w : World} (S : World → Prop) (hm : P.follows .mixedOrders = true) (hok : lastOK .any ops e = true) (hn : ops.size = n + 1)
  (h : wpAnyH P .any ops (LastQ P ops Q e) S n ((Array.replicate ops.size false).setIfInBounds e true) a w.drew) : (Code.region id ops true).wp P Q a w := by
 refine wp_region_any hm ?_
 rw [hn]
 have hs := lastOK_spec hok
 have h1 := wpAny_last hs n (Array.replicate ops.size false) a w.drew (by simp) (by have := hs.he; simp [this]) (wpAny_of_held _ _ _ _ h)
 rw [hn] at h1
 exact h1
variable {P : Program} {ops : Array Oper} {Q : Exit → Act → World → Prop} {md : Region.Mode}
def chainOK (md : Region.Mode) (ops : Array Oper) (e : Nat) : Bool :=
 (List.range ops.size).all (fun i => ((ops[i]?).map (fun o => o.after.all fun x => !Region.binds md x || decide (x.on < i))).getD false && (i == e || (List.range ops.size).any (fun j => ((ops[j]?).map (fun o => o.after.any fun x => Region.binds md x && x.on == i)).getD false))) && decide (e + 1 = ops.size)
structure ChainOK (md : Region.Mode) (ops : Array Oper) (e : Nat) : Prop where
 he : e + 1 = ops.size
 fwd : ∀ (i : Nat) (o : Oper), ops[i]? = some o → ∀ x ∈ o.after, Region.binds md x = true → x.on < i
 all : ∀ (i : Nat), i < ops.size → i ≠ e → ∃ (j : Nat) (o : Oper), ops[j]? = some o ∧ ∃ x ∈ o.after, Region.binds md x = true ∧ x.on = i
theorem chainOK_spec {e : Nat} (h : chainOK md ops e = true) : ChainOK md ops e := by
 unfold chainOK at h
 simp only [Bool.and_eq_true, List.all_eq_true, List.mem_range, decide_eq_true_eq] at h
 obtain ⟨h1, h2⟩ := h
 refine ⟨h2, fun i o ho x hx hb => ?_, fun i hi hne => ?_⟩
 ·have h3 := (h1 i (Array.getElem?_eq_some_iff.1 ho).1).1
  simp only [ho, Option.map_some, Option.getD_some, Array.all_eq_true_iff_forall_mem] at h3
  have h4 := h3 x hx
  simpa [hb] using h4
 ·have h3 := (h1 i hi).2
  simp only [Bool.or_eq_true, beq_iff_eq, hne, false_or, List.any_eq_true, List.mem_range] at h3
  obtain ⟨j, hj, h3⟩ := h3
  cases ho : ops[j]? with
  | none => simp [ho] at h3
  | some o =>
   simp only [ho, Option.map_some, Option.getD_some] at h3
   obtain ⟨k, hk, hb⟩ := Array.any_eq_true.1 h3
   simp only [Bool.and_eq_true, beq_iff_eq] at hb
   exact ⟨j, o, ho, _, Array.getElem_mem hk, hb.1, hb.2⟩
def Closed (md : Region.Mode) (ops : Array Oper) (listed : Array Bool) : Prop := ∀ (i : Nat) (o : Oper), ops[i]? = some o → listed.getD i false = true → ∀ x ∈ o.after, Region.binds md x = true → listed.getD x.on false = true
theorem closed_start (n : Nat) : Closed md ops (Array.replicate n false) := by
 intro i o _ h
 rw [Array.getD_eq_getD_getElem?, Array.getElem?_replicate] at h
 split at h <;> simp at h
theorem getD_set_keep {l : Array Bool} {i j : Nat} (h : l.getD j false = true) : (l.setIfInBounds i true).getD j false = true := by
 by_cases e : i = j
 ·subst e
  simp at h ⊢
  obtain ⟨h1, _⟩ := Array.getElem?_eq_some_iff.1 (show l[i]? = some true by cases hx : l[i]? with | none => simp [hx] at h | some b => simp [hx] at h; rw [h])
  simp [h1]
 ·rw [getD_set_ne false e]; exact h
theorem closed_next {listed : Array Bool} {i : Nat} (hc : Closed md ops listed) (hi : i ∈ Region.ready md ops listed) : Closed md ops (listed.setIfInBounds i true) := by
 intro k o ho hk x hx hb
 by_cases e : i = k
 ·subst e
  rw [mem_ready] at hi
  obtain ⟨_, o2, ho2, h3⟩ := hi
  rw [ho] at ho2
  cases ho2
  exact getD_set_keep (h3 x hx hb)
 ·rw [getD_set_ne false e] at hk
  exact getD_set_keep (hc k o ho hk x hx hb)
theorem chain_all {listed : Array Bool} {e : Nat} (hok : ChainOK md ops e) (hc : Closed md ops listed) (he : e ∈ Region.ready md ops listed) : ∀ d i, i + d = e → i < e → listed.getD i false = true := by
 intro d
 induction d using Nat.strongRecOn with
 | ind d ih =>
  intro i hd hi
  obtain ⟨j, o, ho, x, hx, hb, hxi⟩ := hok.all i (by have := hok.he; omega) (by omega)
  have hlt := hok.fwd j o ho x hx hb
  have hjl : j < ops.size := (Array.getElem?_eq_some_iff.1 ho).1
  have hje : j ≤ e := by have := hok.he; omega
  by_cases e2 : j = e
  ·subst e2
   rw [mem_ready] at he
   obtain ⟨_, o2, ho2, h3⟩ := he
   rw [ho] at ho2
   cases ho2
   rw [← hxi]; exact h3 x hx hb
  ·have := ih (e - j) (by omega) j (by omega) (by omega)
   rw [← hxi]; exact hc j o ho this x hx hb
theorem chain_last {listed : Array Bool} {e : Nat} (hok : ChainOK md ops e) (hc : Closed md ops listed) (hl : listed.size = ops.size) (he : e ∈ Region.ready md ops listed) : Region.ready md ops (listed.setIfInBounds e true) = [] := by
 have hall := chain_all hok hc he
 rw [List.eq_nil_iff_forall_not_mem]
 intro i hi
 rw [mem_ready] at hi
 obtain ⟨h1, o, ho, _⟩ := hi
 have hil : i < ops.size := (Array.getElem?_eq_some_iff.1 ho).1
 by_cases hie : i = e
 ·subst hie
  have : i < listed.size := by omega
  simp [this] at h1
 ·rw [getD_set_ne true (Ne.symm hie)] at h1
  have h4 := hall (e - i) i (by have := hok.he; omega) (by have := hok.he; omega)
  have : i < listed.size := by omega
  simp [this] at h1 h4
  rw [h1] at h4; cases h4
theorem chain_not_ready {listed : Array Bool} {e : Nat} (hok : ChainOK md ops e) (hl : listed.size = ops.size) (h : ∀ i, i ≠ e → i ∉ Region.ready md ops listed) : ∀ i, i < ops.size → i ≠ e → listed.getD i false = true := by
 intro i
 induction i using Nat.strongRecOn with
 | ind i ih =>
  intro hi hne
  apply Classical.byContradiction
  intro hn
  have hn : listed.getD i true = false := by
   have hi2 : i < listed.size := by omega
   simp [hi2] at hn ⊢
   exact hn
  refine h i hne ?_
  rw [mem_ready]
  refine ⟨hn, ops[i], Array.getElem?_eq_getElem hi, fun x hx hb => ?_⟩
  have hlt := hok.fwd i _ (Array.getElem?_eq_getElem hi) x hx hb
  exact ih x.on hlt (by omega) (by have := hok.he; omega)
theorem chain_ready {listed : Array Bool} {e : Nat} (hok : ChainOK md ops e) (he : listed.getD e true = false) (h : ∀ i, i < ops.size → i ≠ e → listed.getD i false = true) : e ∈ Region.ready md ops listed := by
 rw [mem_ready]
 have hel : e < ops.size := by have := hok.he; omega
 refine ⟨he, ops[e]'hel, Array.getElem?_eq_getElem hel, fun x hx hb => ?_⟩
 have hlt := hok.fwd e _ (Array.getElem?_eq_getElem hel) x hx hb
 exact h x.on (by omega) (by omega)
theorem wpAny_chain {e : Nat} (hok : ChainOK md ops e) : ∀ (fuel : Nat) (listed : Array Bool) (a : Act) (w : World), listed.size = ops.size → listed.getD e true = false → Closed md ops listed →
  wpAny P md ops (LastQ P ops Q e) fuel (listed.setIfInBounds e true) a w → wpAny P md ops Q (fuel + 1) listed a w := by
 intro fuel
 have fin : ∀ (n : Nat) (listed : Array Bool) (a : Act) (w : World), Region.ready md ops (listed.setIfInBounds e true) = [] → LastQ P ops Q e .normal a w → wpOp P ops Q e (wpAny P md ops Q n (listed.setIfInBounds e true)) a w := by
  intro n listed a w hr h
  refine wpOp_mono (fun a' w' h' => ?_) h
  cases n with
  | zero => exact ⟨hr, h'⟩
  | succ n => exact ⟨fun _ => h', by rw [hr]; simp⟩
 induction fuel with
 | zero =>
  intro listed a w hl he hc h
  have hall := chain_not_ready hok hl (fun i hi hr => by have := ready_mono hr hi; rw [h.1] at this; cases this)
  have hre := chain_ready hok he hall
  refine ⟨fun h0 => (by rw [h0] at hre; cases hre), fun i hi => ?_⟩
  by_cases hie : i = e
  ·subst hie; exact fin 0 listed a w h.1 h.2
  ·have := ready_mono hi hie
   rw [h.1] at this; cases this
 | succ fuel ih =>
  intro listed a w hl he hc h
  refine ⟨fun h0 => ?_, fun i hi => ?_⟩
  ·have hre := chain_ready hok he (chain_not_ready hok hl (fun i _ hr => by rw [h0] at hr; cases hr))
   rw [h0] at hre; cases hre
  ·by_cases hie : i = e
   ·subst hie
    have hr := chain_last hok hc hl hi
    exact fin (fuel + 1) listed a w hr (h.1 hr)
   ·have h1 := wpOp_last (h.2 i (ready_mono hi hie))
    refine wpOp_mono (fun a' w' h' => ?_) h1
    refine ih (listed.setIfInBounds i true) a' w' (by simpa using hl) (by rw [getD_set_ne true hie]; exact he) (closed_next hc hi) ?_
    rw [Array.setIfInBounds_comm _ _ hie]
    exact h'
theorem wp_region_chain {id e n : Nat} {a : Act} {w : World} (S : World → Prop) (hm : P.follows .mixedOrders = true) (hok : chainOK .any ops e = true) (hn : ops.size = n + 1)
  (h : wpAnyH P .any ops (LastQ P ops Q e) S n ((Array.replicate ops.size false).setIfInBounds e true) a w.drew) : (Code.region id ops true).wp P Q a w := by
 refine wp_region_any hm ?_
 rw [hn]
 have hs := chainOK_spec hok
 have h1 := wpAny_chain hs n (Array.replicate ops.size false) a w.drew (by simp) (by have := hs.he; simp [this, show e < ops.size by omega]) (closed_start _) (wpAny_of_held _ _ _ _ h)
 rw [hn] at h1
 exact h1
end Go.Proofs.YtaogepcaoogpgaaGreatDoor
