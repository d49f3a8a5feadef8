/- From the rows' list of package-level variables to what the walks ask of the world. -/
import Derived.Test.YtpockcolelfecaaDoorWh
import Derived.Test.YtpockcolelfecaaDoorTie
import Derived.Test.YtpockcolelfecaaDoorCards
import Derived.WalkKit
import Derived.ProofKit
import Derived.OpenShut
import Derived.Deep.DeepHandedRow
import Derived.Lib.LaidTab
import Derived.Lib.LaidU8
import Derived.MakeChecks
set_option linter.unusedVariables false
set_option linter.unusedSimpArgs false
namespace Go.Proofs.YtpockcolelfecaaDoor
open Go.ChangeShapes Go.WideShapes Go.ChangeAt Go.RowKit Go.Lib

theorem own : ownKnob Tryd.prog.godebug = none := by kernel_rfl
theorem gSpans : Tryd.prog.globalNamed "abugida/letters.spans" = some 0 := by kernel_rfl
theorem gSpansType : (Tryd.prog.globals[0]?).map (·.type) = some 67 := by kernel_rfl
theorem cellsArr : Tryd.prog.cellsOf 67 = 36 := by kernel_rfl
theorem cellsSpan : Tryd.prog.cellsOf 66 = 3 := by kernel_rfl
theorem cellsI32 : Tryd.prog.cellsOf 21 = 1 := by kernel_rfl
theorem cellsInt : Tryd.prog.cellsOf 3 = 1 := by kernel_rfl
theorem u8x : U8Extra Tryd.prog Tryd.lays260_ren := { n3 := by kernel_rfl, n4 := by kernel_rfl, y3 := by kernel_rfl, y4 := by kernel_rfl, c5 := by kernel_rfl, c119 := by kernel_rfl, c138 := by kernel_rfl }

theorem chunks {α : Type} (l m : List α) (n : Nat) (hl : l.length = 3 * n) (hm : m.length = 3 * n) (h : ∀ i, i < n → (l.drop (i * 3)).take 3 = (m.drop (i * 3)).take 3) : l = m := by
  apply List.ext_getElem?
  intro j
  by_cases hj : j < 3 * n
  · have e : ∀ k : List α, k[j]? = ((k.drop (j / 3 * 3)).take 3)[j % 3]? := by
      intro k
      rw [List.getElem?_take, if_pos (by omega), List.getElem?_drop]
      congr 1; omega
    rw [e l, e m, h _ (by omega)]
  · rw [List.getElem?_eq_none (by omega), List.getElem?_eq_none (by omega)]

theorem span_cells {fuel : Nat} {w : World} {cs : List Value} {a b c : Int} {q : List MemPlace}
    (h : DataW.trod (fun _ => ()) Tryd.prog w 0 (fun _ => true) false fuel 66 cs = some (.agg [.lit (.int .i32 a), .lit (.int .i32 b), .lit (.int .i64 c)], q)) :
    cs = [.int .i32 a, .int .i32 b, .int .i64 c] := by
  obtain ⟨xs, n, rfl, hx, hl, hxl, hall⟩ := DataW.trod_struct Tryd.underlying66 h
  rw [cellsSpan] at hl
  have hx1 : xs.map (·.1) = [.lit (.int .i32 a), .lit (.int .i32 b), .lit (.int .i64 c)] := by
    have := congrArg Prod.fst hx
    simpa using this.symm
  match xs, hx1 with
  | [x0, x1, x2], hx1 =>
    simp only [List.map_cons, List.map_nil, List.cons.injEq, and_true] at hx1
    obtain ⟨e0, e1, e2⟩ := hx1
    match cs, hl with
    | [u0, u1, u2], _ =>
      have h0 : DataW.trod (fun _ => ()) Tryd.prog w 0 (fun _ => true) false n 21 (([u0, u1, u2].drop 0).take (Tryd.prog.cellsOf 21)) = some x0 := hall 0 _ rfl
      have h1 : DataW.trod (fun _ => ()) Tryd.prog w 0 (fun _ => true) false n 21 (([u0, u1, u2].drop 1).take (Tryd.prog.cellsOf 21)) = some x1 := hall 1 _ rfl
      have h2 : DataW.trod (fun _ => ()) Tryd.prog w 0 (fun _ => true) false n 3 (([u0, u1, u2].drop 2).take (Tryd.prog.cellsOf 3)) = some x2 := hall 2 _ rfl
      rw [cellsI32] at h0 h1
      rw [cellsInt] at h2
      obtain ⟨z0, c0, d0, _⟩ := DataW.trod_int Tryd.underlying21 h0
      obtain ⟨z1, c1, d1, _⟩ := DataW.trod_int Tryd.underlying21 h1
      obtain ⟨z2, c2, d2, _⟩ := DataW.trod_int Tryd.underlying3 h2
      rw [d0] at e0; rw [d1] at e1; rw [d2] at e2
      simp at e0 e1 e2 c0 c1 c2
      rw [c0, c1, c2, e0, e1, e2]

/-- WHAT THE ROW's LIST GIVES. -/
theorem tabs_of1 {W : World} (h : laidMetH Tryd.prog [("unicode/utf8.acceptRanges", Rows.laid_unicode_utf8_acceptRanges), ("abugida/letters.spans", Rows.laid_abugida_letters_spans), ("unicode/utf8.first", Rows.laid_unicode_utf8_first)] W) : SpansAt W ∧ Lib.Utf8Tabs 1 2 W := by
  rw [MakeChecks.laidMetH_plain _ _ _ (by kernel_rfl)] at h
  have hf : VarReads Tryd.prog W "unicode/utf8.first" Rows.laid_unicode_utf8_first := laidMet.reads h (by simp)
  have ha : VarReads Tryd.prog W "unicode/utf8.acceptRanges" Rows.laid_unicode_utf8_acceptRanges := laidMet.reads h (by simp)
  have hs : VarReads Tryd.prog W "abugida/letters.spans" Rows.laid_abugida_letters_spans := laidMet.reads h (by simp)
  refine ⟨?_, ?_⟩
  · obtain ⟨g, t, cs, fuel, p, hg, hty, hvar, hd⟩ := hs
    obtain rfl := Option.some.inj (gSpans.symm.trans hg)
    obtain rfl := Option.some.inj (gSpansType.symm.trans hty)
    obtain ⟨xs, m, rfl, hx, hl, hxl, hall⟩ := DataW.trod_array Tryd.underlying67 hd
    rw [cellsArr] at hl
    rw [cellsSpan] at hall
    have hx1 : DataW.agg (xs.map (·.1)) = Rows.laid_abugida_letters_spans := (congrArg Prod.fst hx).symm
    simp only [Rows.laid_abugida_letters_spans, DataW.agg.injEq] at hx1
    have hcs : cs = spansC := by
      apply Array.toList_inj.1
      refine chunks _ _ 12 hl rfl (fun i hi => ?_)
      have h1 := hall i hi
      obtain ⟨y, hy⟩ : ∃ y, xs[i]? = some y := ⟨xs[i]'(by omega), List.getElem?_eq_getElem (by omega)⟩
      rw [hy] at h1
      have h2 : (xs.map (·.1))[i]? = some y.1 := by simp [hy]
      rw [hx1] at h2
      have : i = 0 ∨ i = 1 ∨ i = 2 ∨ i = 3 ∨ i = 4 ∨ i = 5 ∨ i = 6 ∨ i = 7 ∨ i = 8 ∨ i = 9 ∨ i = 10 ∨ i = 11 := by omega
      obtain ⟨y1, y2⟩ := y
      rcases this with rfl | rfl | rfl | rfl | rfl | rfl | rfl | rfl | rfl | rfl | rfl | rfl
      all_goals
        simp at h2
        subst h2
        rw [span_cells h1]
        rfl
    simp only [World.var?, gSpans, Option.bind_some] at hvar
    split at hvar
    · rename_i cs' t' fr' heq
      have e : cs' = cs := Option.some.inj hvar
      exact ⟨t', fr', by rw [heq, e, hcs]⟩
    · cases hvar
  · have e1 : (Rows.laid_unicode_utf8_first : DataW Unit) = Lib.firstData := by kernel_rfl
    have e2 : (Rows.laid_unicode_utf8_acceptRanges : DataW Unit) = Lib.acceptData := by kernel_rfl
    rw [e1] at hf
    rw [e2] at ha
    exact utf8Tabs_of_reads Tryd.lays260 u8x hf ha
theorem tabs_of {W : World} (h : laidMetH Tryd.prog [("unicode/utf8.acceptRanges", Rows.laid_unicode_utf8_acceptRanges), ("abugida/letters.spans", Rows.laid_abugida_letters_spans), ("unicode/utf8.first", Rows.laid_unicode_utf8_first)] W) : Tabs W := by
  obtain ⟨h1, h2⟩ := tabs_of1 h
  refine ⟨h1, h2, ?_⟩
  obtain ⟨_, _, h0⟩ := h1
  have := (Array.getElem?_eq_some_iff.1 h0).1
  omega

def putCells (cs : Array Value) : Obj → Obj
  | .cells _ t frozen => .cells cs t frozen
  | o => o
def firstC : Array Value := (Lib.firstTab.map (Value.int .u8)).toArray
def acceptC : Array Value := ((List.range 16).flatMap fun i => [Value.int .u8 (Lib.accLo i : Int), Value.int .u8 (Lib.accHi i : Int)]).toArray
/-- A world for the witnesses: the settled one, the tables holding what their initialisers lay. -/
noncomputable def laidWorld (os : Os) : World :=
  { World.holding Tryd.prog os ⟨#[], #[], []⟩ with heap := (((World.holding Tryd.prog os ⟨#[], #[], []⟩).heap.modify 0 (putCells spansC)).modify 1 (putCells firstC)).modify 2 (putCells acceptC) }

/-- A LAW's POST, out of 'returned true, and nothing that was there has turned'. -/
theorem post_below {H : Type} {enc : TypeId × Value → H} {P : Program} {f : Func} {s : ChangeSpec} {apart fresh handsOn : Bool} {W W' : World} {args : Array Value} {v : Value} {ds gs : List (DataW H)} {before pa pv : List MemPlace}
    (hW : DataW.Whole enc P f.params.toList s.vars apart W args.toList ds gs before)
    (hres : ∀ (b : Nat) (sp : Nat → Bool) (hd : Bool), DataW.TrodAll enc P W' b sp hd f.resultTypes.toList (v.resultList f.resultTypes.size) (s.fn H (ds ++ gs)).results [])
    (hargs : DataW.TrodAll enc P W' 0 (fun b => decide (b < W.heap.size)) true f.params.toList args.toList (s.fn H (ds ++ gs)).args pa)
    (hvars : DataW.TrodVars enc P W' (fun b => decide (b < W.heap.size)) s.vars (s.fn H (ds ++ gs)).vars pv)
    (hb : Below W.heap.size W W') : s.post enc P f apart fresh handsOn false W args v W' :=
  ⟨ds, gs, before, [], pa, pv, hW, hres _ _ _, hargs, hvars, hb.frame _, fun h => by cases h⟩
end Go.Proofs.YtpockcolelfecaaDoor
