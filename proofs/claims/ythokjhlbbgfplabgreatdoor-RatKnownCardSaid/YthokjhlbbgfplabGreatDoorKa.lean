/- RatKnown: the map. -/
import Derived.Test.YthokjhlbbgfplabGreatDoorZb
import Derived.Maps.RangeRun
import Derived.Carry
import Derived.Deep.LoopGhost
set_option linter.unusedVariables false
set_option linter.unusedSimpArgs false
namespace Go.Proofs.YthokjhlbbgfplabGreatDoor
open Go.RowKit
open Go.Lib (nDigits decDigits)

theorem setObj_new (w : World) (es es' : Array MapEntry) (c c' : Nat) : (setObj w.heap.size (.map es' c')).run Tryz.prog (w.alloc (.map es c)) = .ok () (w.alloc (.map es' c')) := by
  have hp : ∀ (h : Array Obj) (x y : Obj), (h.push x).setIfInBounds h.size y = h.push y := by
    intro h x y
    apply Array.toList_inj.1
    simp
  simp only [setObj, Sem.run]
  rw [heap_alloc_new]
  show Result.ok () ({ w.alloc (.map es c) with heap := (w.heap.push (.map es c)).setIfInBounds w.heap.size (.map es' c') } : World) = _
  rw [hp]
  rfl
def ent (K V : ByteArray) (n : Nat) : MapEntry := { key := .string K, val := .string V, born := n }
theorem ins_new (w : World) (es : Array MapEntry) (c : Nat) (K V : ByteArray) (hc : ∀ W, (Instr.checkKey false 10000 9 (.string K)).run Tryz.prog W = .ok () W) (hk : ∀ W, (Instr.findKey 9 (.string K) es.toList).run Tryz.prog W = .ok none W) :
    (Instr.mapUpdate 22 (.map (some w.heap.size)) (.string K) (.string V)).run Tryz.prog (w.alloc (.map es c)) = .ok () (w.alloc (.map (es.push (ent K V c)) (c + 1))) := by
  have hg : (getObj w.heap.size).run Tryz.prog (w.alloc (.map es c)) = .ok (.map es c) (w.alloc (.map es c)) := by
    simp only [getObj, Sem.run, heap_alloc_new]
  have hs := setObj_new w es (es.push (ent K V c)) c (c + 1)
  unfold ent at *
  simp only [Instr.mapUpdate, Sem.run_bind, run_underlying Tryz.underlying22, Result.andThen, hg, hc, hk, hs]
def es1 : Array MapEntry := #[ent ⟨#[48, 48, 55]⟩ ⟨#[55]⟩ 0]
def es2 : Array MapEntry := es1.push (ent ⟨#[54, 47, 56]⟩ ⟨#[51, 47, 52]⟩ 1)
def es3 : Array MapEntry := es2.push (ent ⟨#[45, 49, 46, 53, 48]⟩ ⟨#[45, 51, 47, 50]⟩ 2)
def es4 : Array MapEntry := es3.push (ent ⟨#[45, 48]⟩ ⟨#[48]⟩ 3)
def es5 : Array MapEntry := es4.push (ent ⟨#[48, 46, 48]⟩ ⟨#[48]⟩ 4)
def es6 : Array MapEntry := es5.push (ent ⟨#[48, 48, 47, 53]⟩ ⟨#[48]⟩ 5)
def es7 : Array MapEntry := es6.push (ent ⟨#[45, 49, 48, 47, 52]⟩ ⟨#[45, 53, 47, 50]⟩ 6)
structure Inserts (w : World) : Prop where
  i1 : (Instr.mapUpdate 22 (.map (some w.heap.size)) (.string ⟨#[48, 48, 55]⟩) (.string ⟨#[55]⟩)).run Tryz.prog (w.alloc (.map #[] 0)) = .ok () (w.alloc (.map es1 1))
  i2 : (Instr.mapUpdate 22 (.map (some w.heap.size)) (.string ⟨#[54, 47, 56]⟩) (.string ⟨#[51, 47, 52]⟩)).run Tryz.prog (w.alloc (.map es1 1)) = .ok () (w.alloc (.map es2 2))
  i3 : (Instr.mapUpdate 22 (.map (some w.heap.size)) (.string ⟨#[45, 49, 46, 53, 48]⟩) (.string ⟨#[45, 51, 47, 50]⟩)).run Tryz.prog (w.alloc (.map es2 2)) = .ok () (w.alloc (.map es3 3))
  i4 : (Instr.mapUpdate 22 (.map (some w.heap.size)) (.string ⟨#[45, 48]⟩) (.string ⟨#[48]⟩)).run Tryz.prog (w.alloc (.map es3 3)) = .ok () (w.alloc (.map es4 4))
  i5 : (Instr.mapUpdate 22 (.map (some w.heap.size)) (.string ⟨#[48, 46, 48]⟩) (.string ⟨#[48]⟩)).run Tryz.prog (w.alloc (.map es4 4)) = .ok () (w.alloc (.map es5 5))
  i6 : (Instr.mapUpdate 22 (.map (some w.heap.size)) (.string ⟨#[48, 48, 47, 53]⟩) (.string ⟨#[48]⟩)).run Tryz.prog (w.alloc (.map es5 5)) = .ok () (w.alloc (.map es6 6))
  i7 : (Instr.mapUpdate 22 (.map (some w.heap.size)) (.string ⟨#[45, 49, 48, 47, 52]⟩) (.string ⟨#[45, 53, 47, 50]⟩)).run Tryz.prog (w.alloc (.map es6 6)) = .ok () (w.alloc (.map es7 7))
theorem inserts (w : World) : Inserts w :=
  ⟨ins_new w #[] 0 _ _ (fun W => by kernel_rfl) (fun W => by kernel_rfl), ins_new w es1 1 _ _ (fun W => by kernel_rfl) (fun W => by kernel_rfl), ins_new w es2 2 _ _ (fun W => by kernel_rfl) (fun W => by kernel_rfl), ins_new w es3 3 _ _ (fun W => by kernel_rfl) (fun W => by kernel_rfl),
    ins_new w es4 4 _ _ (fun W => by kernel_rfl) (fun W => by kernel_rfl), ins_new w es5 5 _ _ (fun W => by kernel_rfl) (fun W => by kernel_rfl), ins_new w es6 6 _ _ (fun W => by kernel_rfl) (fun W => by kernel_rfl)⟩

/-- What Parse makes of the map's keys. -/
def EntOk (e : MapEntry) : Prop := ∃ K V : ByteArray, e.key = .string K ∧ e.val = .string V ∧ ∀ w, Calls Tryz.prog 4 #[.string K] w (ValPost (.tuple #[.string V, .int .i64 0]) w)
theorem parse_ascii (a V : ByteArray) (n d : Nat) (x : Rat) (ha : a.size ≤ 900) (h128 : ((restA a).all fun b => decide (b.toNat < 128)) = true) (h : numeralP (restA a) = some (n, d)) (hx : mkRat (sg (negA a) n) d = x) (hV : IsRat V x) (w : World) :
    Calls Tryz.prog 4 #[.string a] w (ValPost (.tuple #[.string V, .int .i64 0]) w) := by
  have hr := rest_size a
  have k := parse_any a w (by omega) (ix_ascii _ (by rw [list_size]; omega) (by rw [list_back]; exact all_ascii h128))
  have e : parseV a = finV (mkRat (sg (negA a) n) d) := by unfold parseV; rw [h]; simp only [if_neg (show ¬ 900 < a.size by omega)]
  rw [e, hx, finV_rat hV] at k
  exact k
theorem r_7 : IsRat ⟨#[55]⟩ (mkRat 7 1) := ⟨by decide +kernel, by decide +kernel⟩
theorem r_3_4 : IsRat ⟨#[51, 47, 52]⟩ (mkRat 3 4) := ⟨by decide +kernel, by decide +kernel⟩
theorem r_0 : IsRat ⟨#[48]⟩ (mkRat 0 1) := ⟨by decide +kernel, by decide +kernel⟩
theorem r_m5_2 : IsRat ⟨#[45, 53, 47, 50]⟩ (mkRat (-5) 2) := ⟨by decide +kernel, by decide +kernel⟩
theorem ents_ok : ∀ e ∈ es7.toList, EntOk e := by
  intro e he
  have : e = ent ⟨#[48, 48, 55]⟩ ⟨#[55]⟩ 0 ∨ e = ent ⟨#[54, 47, 56]⟩ ⟨#[51, 47, 52]⟩ 1 ∨ e = ent ⟨#[45, 49, 46, 53, 48]⟩ ⟨#[45, 51, 47, 50]⟩ 2 ∨ e = ent ⟨#[45, 48]⟩ ⟨#[48]⟩ 3 ∨ e = ent ⟨#[48, 46, 48]⟩ ⟨#[48]⟩ 4 ∨ e = ent ⟨#[48, 48, 47, 53]⟩ ⟨#[48]⟩ 5 ∨ e = ent ⟨#[45, 49, 48, 47, 52]⟩ ⟨#[45, 53, 47, 50]⟩ 6 := by
    simpa [es7, es6, es5, es4, es3, es2, es1] using he
  rcases this with rfl | rfl | rfl | rfl | rfl | rfl | rfl
  · exact ⟨_, _, rfl, rfl, fun w => parse_ascii _ _ 7 1 _ (by decide) (by decide +kernel) (by decide +kernel) (by decide +kernel) r_7 w⟩
  · exact ⟨_, _, rfl, rfl, fun w => parse_ascii _ _ 6 8 _ (by decide) (by decide +kernel) (by decide +kernel) (by decide +kernel) r_3_4 w⟩
  · exact ⟨_, _, rfl, rfl, fun w => parse_ascii _ _ 150 100 _ (by decide) (by decide +kernel) (by decide +kernel) (by decide +kernel) r_m3_2 w⟩
  · exact ⟨_, _, rfl, rfl, fun w => parse_ascii _ _ 0 1 _ (by decide) (by decide +kernel) (by decide +kernel) (by decide +kernel) r_0 w⟩
  · exact ⟨_, _, rfl, rfl, fun w => parse_ascii _ _ 0 10 _ (by decide) (by decide +kernel) (by decide +kernel) (by decide +kernel) r_0 w⟩
  · exact ⟨_, _, rfl, rfl, fun w => parse_ascii _ _ 0 5 _ (by decide) (by decide +kernel) (by decide +kernel) (by decide +kernel) r_0 w⟩
  · exact ⟨_, _, rfl, rfl, fun w => parse_ascii _ _ 10 4 _ (by decide) (by decide +kernel) (by decide +kernel) (by decide +kernel) r_m5_2 w⟩
theorem es_born : (∀ x ∈ es7.toList, x.born < 7) ∧ (es7.toList.map (·.born)).Nodup := by
  constructor
  · intro x hx
    have : x.born ∈ es7.toList.map (·.born) := List.mem_map_of_mem hx
    revert this
    rw [show es7.toList.map (·.born) = [0, 1, 2, 3, 4, 5, 6] from rfl]
    simp
    omega
  · decide +kernel
theorem left_mem {es : Array MapEntry} {seen : Array Nat} {e : MapEntry} (h : e ∈ (leftOf es seen).toList) : e ∈ es.toList := by
  unfold leftOf at h
  simp at h ⊢
  exact h.1
theorem left_less {es : Array MapEntry} {seen : Array Nat} {e : MapEntry} (h : e ∈ (leftOf es seen).toList) : (leftOf es (seen.push e.born)).size < (leftOf es seen).size := by
  unfold leftOf at *
  have hsub : (es.filter fun x => !(seen.push e.born).contains x.born) = (es.filter fun x => !seen.contains x.born).filter fun x => !(x.born == e.born) := by
    rw [Array.filter_filter]
    congr 1
    funext x
    rw [Bool.eq_iff_iff]
    simp [Array.mem_push, and_comm]
  rw [hsub]
  refine Array.size_filter_lt_size_iff_exists.2 ⟨e, by simpa using h, by simp⟩

open Go.ChangeMaps (setBlock) in
theorem setBlock_facts {w w1 : World} {r bm : Nat} {o o' m : Obj} (hg : w.grownBy w1 none) (hr : w1.heap[r]? = some o) (hb : w1.heap[bm]? = some m) (hne : r ≠ bm) (hw : w.heap.size ≤ r) :
    (setBlock w1 r o').heap[r]? = some o' ∧ (setBlock w1 r o').heap[bm]? = some m ∧ w.grownBy (setBlock w1 r o') none := by
  have hlt : r < w1.heap.size := (Array.getElem?_eq_some_iff.1 hr).1
  refine ⟨?_, ?_, ⟨hg.os, hg.tape, hg.output, ?_, fun i hi hn => ?_⟩⟩
  · simp [setBlock, hlt]
  · simp only [setBlock, Array.getElem?_setIfInBounds]
    rw [if_neg hne]; exact hb
  · simpa [setBlock] using hg.size
  · rw [← hg.block i hi hn]
    simp only [setBlock, Array.getElem?_setIfInBounds]
    rw [if_neg (by omega)]
/-! ### The rows of texts -/
def bads : List ByteArray := [⟨#[]⟩, ⟨#[45]⟩, ⟨#[49, 46]⟩, ⟨#[47, 50]⟩, ⟨#[49, 47, 48, 48]⟩, ⟨#[43, 49]⟩, ⟨#[49, 47]⟩, ⟨#[46, 53]⟩, ⟨#[49, 47, 50, 47, 51]⟩, ⟨#[49, 32]⟩, ⟨#[45, 45, 49]⟩]
def nots : List ByteArray := [⟨#[54, 47, 50]⟩, ⟨#[51, 47, 49]⟩, ⟨#[45, 48]⟩, ⟨#[49, 47, 48]⟩, ⟨#[]⟩, ⟨#[48, 47, 49]⟩, ⟨#[48, 49]⟩, ⟨#[49, 47, 45, 50]⟩, ⟨#[45]⟩, ⟨#[49, 47]⟩]
theorem parse_bads : ∀ S ∈ bads, ∀ w, Calls Tryz.prog 4 #[.string S] w (ValPost (errV 3) w) := by
  intro S hS w
  have h1 : (bads.all fun S => decide (S.size ≤ 1200) && (restA S).all (fun b => decide (b.toNat < 128)) && decide (numeralP (restA S) = none)) = true := by decide +kernel
  have h2 := List.all_eq_true.1 h1 S hS
  simp only [Bool.and_eq_true, decide_eq_true_eq] at h2
  have hr := rest_size S
  have k := parse_any S w h2.1.1 (ix_ascii _ (by rw [list_size]; omega) (by rw [list_back]; exact all_ascii h2.1.2))
  have e : parseV S = errV 3 := by unfold parseV errV; rw [h2.2]
  rw [e] at k
  exact k
def partsB (a : ByteArray) : Bool := numB (numA a) && numB (denA a) && decide ((numA a).size ≤ 400) && decide ((denA a).size ≤ 400) && !decide (nv (denA a) = 0) && (!decide (nv (numA a) = 0) || (!negA a && !strokeA a)) && (!decide (nv (denA a) = 1) || !strokeA a) && (decide (Nat.gcd (nv (numA a)) (nv (denA a)) = 1) || decide (nv (denA a) = 1))
theorem not_by {a : ByteArray} (h : partsB a = false) : notRat a := fun x hx => by
  have p := rat_parts hx
  have : partsB a = true := by
    unfold partsB
    simp only [Bool.and_eq_true, Bool.or_eq_true, decide_eq_true_eq, Bool.not_eq_true', decide_eq_false_iff_not]
    refine ⟨⟨⟨⟨⟨⟨⟨p.n, p.d⟩, p.sn⟩, p.sd⟩, p.d0⟩, ?_⟩, ?_⟩, p.g⟩
    · by_cases z : nv (numA a) = 0
      · exact .inr (p.z z)
      · exact .inl z
    · by_cases z : nv (denA a) = 1
      · exact .inr (p.one z)
      · exact .inl z
  rw [h] at this; cases this
theorem valid_nots : ∀ S ∈ nots, ValidIs S false := by
  intro S hS
  have h1 : (nots.all fun S => decide (S.size ≤ 1200) && !partsB S) = true := by decide +kernel
  have h2 := List.all_eq_true.1 h1 S hS
  simp only [Bool.and_eq_true, decide_eq_true_eq, Bool.not_eq_true'] at h2
  exact fun w => ratvalid_no (not_by h2.2) (by unfold maxLen; omega) w
/-! ### Ten to the power of 399 -/
def tenB (k : Nat) : ByteArray := ⟨(49 :: List.replicate k 48).toArray⟩
theorem ten_size (k : Nat) : (tenB k).size = k + 1 := by unfold tenB; rw [list_size]; simp
theorem ten_step (k : Nat) : tenB k ++ ⟨#[48]⟩ = tenB (k + 1) := by
  unfold tenB
  rw [show (⟨#[48]⟩ : ByteArray) = ⟨([48] : List UInt8).toArray⟩ from rfl, append_list, List.cons_append, ← List.replicate_succ']
theorem ten_dec (k : Nat) : tenB k = decS (10 ^ k) := by unfold tenB decS; rw [dec_pow]
theorem r_ten : IsRat (tenB 399) (mkRat (10 ^ 399) 1) := ⟨by decide +kernel, by decide +kernel⟩
theorem r_tenth : IsRat (⟨#[49, 47]⟩ ++ tenB 399) (mkRat 1 (10 ^ 399)) := ⟨by decide +kernel, by decide +kernel⟩
theorem r_10 : IsRat ⟨#[49, 48]⟩ (mkRat 10 1) := ⟨by decide +kernel, by decide +kernel⟩
theorem r_1 : IsRat ⟨#[49]⟩ (mkRat 1 1) := ⟨by decide +kernel, by decide +kernel⟩
theorem r_1_10 : IsRat ⟨#[49, 47, 49, 48]⟩ (mkRat 1 10) := ⟨by decide +kernel, by decide +kernel⟩
theorem r_2_3 : IsRat ⟨#[50, 47, 51]⟩ (mkRat 2 3) := ⟨by decide +kernel, by decide +kernel⟩
end Go.Proofs.YthokjhlbbgfplabGreatDoor
