/- SymbolsExamples, walked. -/
import Derived.Test.YtegbgkljpdlpnaaLa
import Derived.Test.YtegbgkljpdlpnaaTj
set_option linter.unusedVariables false
set_option linter.unusedSimpArgs false
namespace Go.Proofs.Ytegbgkljpdlpnaa
open Go.RowKit

theorem xe_find : findV exT ⟨#[99]⟩ = .tuple #[.int .i64 0, .bool false] := by
  unfold findV
  rw [ex_table, show pos exT ⟨#[99]⟩ = 0 by decide +kernel, show decide ((⟨#[99]⟩ : ByteArray) ∈ exT) = false by decide +kernel]
  rfl
theorem xe_name0 : nameV exT 0 = .tuple #[.string ⟨#[]⟩, .bool false] := by
  unfold nameV
  rw [show (tableB exT && hasB exT.length 0) = false by rw [ex_table]; decide +kernel]
  rfl
theorem xe_name6 : nameV exT 6 = .tuple #[.string ⟨#[]⟩, .bool false] := by
  unfold nameV
  rw [show (tableB exT && hasB exT.length 6) = false by rw [ex_table]; decide +kernel]
  rfl
set_option maxRecDepth 100000 in
theorem xe_tok1 : tokL exT ⟨#[]⟩ = ([], 0, 0) := by decide +kernel
set_option maxRecDepth 100000 in
theorem xe_tok2 : tokL exT ⟨#[97, 43, 80]⟩ = ([], 1, 3) := by decide +kernel
set_option maxRecDepth 100000 in
theorem xe_tok3 : tokL exT ⟨#[97, 98]⟩ = ([2], 0, 0) := by decide +kernel
theorem xe_text : textV exT [6] = .tuple #[.string ⟨#[]⟩, .int .i64 1] := by
  unfold textV
  rw [show (tableB exT && wordB exT.length [6]) = false by rw [ex_table]; decide +kernel]
  rfl
def exM : List ByteArray := exT ++ [⟨#[99]⟩]
set_option maxRecDepth 100000 in
theorem xe_add1 : addL exT ⟨#[]⟩ = ([], 0, 1) := by decide +kernel
set_option maxRecDepth 100000 in
theorem xe_add2 : addL exT ⟨#[98]⟩ = (exT, 3, 0) := by decide +kernel
set_option maxRecDepth 100000 in
theorem xe_add3 : addL exT ⟨#[99]⟩ = (exM, 6, 0) := by decide +kernel
set_option maxRecDepth 100000 in
theorem xe_merge : mergeL exT [⟨#[99]⟩, ⟨#[97]⟩] = (exM, [6, 1], 0) := by decide +kernel
def exLong : ByteArray := ⟨#[97, 97, 97, 97, 97, 97, 97, 97, 97, 97, 97, 97, 97, 97, 97, 97, 97, 97, 97, 97, 97, 97, 97, 97, 97, 97, 97, 97, 97, 97, 97, 97, 97, 97, 97, 97, 97, 97, 97, 97, 97]⟩
set_option maxRecDepth 100000 in
theorem xe_v1 : tableB [⟨#[97]⟩, ⟨#[97]⟩] = false := by decide +kernel
set_option maxRecDepth 100000 in
theorem xe_v2 : tableB [⟨#[]⟩] = false := by decide +kernel
set_option maxRecDepth 100000 in
theorem xe_v3 : tableB [exLong] = false := by decide +kernel
set_option maxRecDepth 100000 in
theorem xe_v4 : tableB [exLong.extract 1 exLong.size] = true := by decide +kernel

theorem add_val {w : World} {v : Value} {L : List ByteArray} {s : ByteArray} {r : List ByteArray × Nat × Nat} (hr : addL L s = r) (hv : StrArg w v L) (hl : L.length ≤ maxLen) :
    Calls Try.prog 16 #[v, .string s] w (AddPost r w) := by rw [← hr]; exact add_any hv hl s
theorem merge_val {w : World} {va vb : Value} {a b : List ByteArray} {r : List ByteArray × List Nat × Nat} (hr : mergeL a b = r) (hva : StrArg w va a) (hvb : StrArg w vb b) (ha : a.length ≤ maxLen) (hb : b.length ≤ maxLen) :
    Calls Try.prog 17 #[va, vb] w (MergePost r w) := by rw [← hr]; exact merge_any hva hvb ha hb

set_option maxRecDepth 100000 in
set_option maxHeartbeats 8000000 in
theorem examples_any (w : World) : Calls Try.prog 3 #[] w (BoolPost true w) := by
  go_enter Try.func3, Try.ntmps3
  have BB := Lib.hid (Below.refl w.heap.size w)
  go_wp2_with fail
  refine (table_any _).mono ?_
  rintro e w1 ⟨v0, rfl, ha, hb⟩
  replace BB := Lib.hid (below_chain BB.out hb)
  have HA := Lib.hid ha
  clear ha
  clear hb
  go_wp2_with fail
  refine (find_val xe_find HA.out.sl exT_len (by decide)).mono ?_
  rintro e w2 ⟨rfl, hb⟩
  replace HA := Lib.hid (HA.out.below hb)
  replace BB := Lib.hid (below_chain BB.out hb)
  clear hb
  go_wp2_with fail
  refine (name_val xe_name0 HA.out.sl exT_len).mono ?_
  rintro e w3 ⟨rfl, hb⟩
  replace HA := Lib.hid (HA.out.below hb)
  replace BB := Lib.hid (below_chain BB.out hb)
  clear hb
  go_wp2_with fail
  refine (name_val xe_name6 HA.out.sl exT_len).mono ?_
  rintro e w4 ⟨rfl, hb⟩
  replace HA := Lib.hid (HA.out.below hb)
  replace BB := Lib.hid (below_chain BB.out hb)
  clear hb
  go_wp2_with fail
  refine (tok_val xe_tok1 HA.out.sl exT_len).mono ?_
  rintro e w5 ⟨x1, rfl, hx, hb⟩
  replace HA := Lib.hid (HA.out.below hb)
  replace BB := Lib.hid (below_chain BB.out hb)
  obtain ⟨X1, c1, hxe⟩ := hx.len
  subst hxe
  clear hx
  clear hb
  go_wp2_with fail
  refine (tok_val xe_tok2 HA.out.sl exT_len).mono ?_
  rintro e w6 ⟨x2, rfl, hx, hb⟩
  replace HA := Lib.hid (HA.out.below hb)
  replace BB := Lib.hid (below_chain BB.out hb)
  clear hx
  clear hb
  go_wp2_with fail
  refine (tok_val xe_tok3 HA.out.sl exT_len).mono ?_
  rintro e w7 ⟨y3, rfl, hx, hb⟩
  replace HA := Lib.hid (HA.out.below hb)
  replace BB := Lib.hid (below_chain BB.out hb)
  have Y3 := Lib.hid hx
  clear hx
  clear hb
  have hi := lit_ints w7 [6] (by decide)
  have hb : Below w7.heap.size w7 (w7.alloc (.cells ([6].map vInt).toArray 3)) := (Below.refl _ _).alloc (Nat.le_refl _) _
  replace HA := Lib.hid (HA.out.below hb)
  replace Y3 := Lib.hid (Y3.out.below hb)
  replace BB := Lib.hid (below_chain BB.out hb)
  clear hb
  go_wp2_with fail
  refine (text_val xe_text HA.out.sl hi exT_len (by decide)).mono ?_
  rintro e w8 ⟨rfl, hb⟩
  replace HA := Lib.hid (HA.out.below hb)
  replace Y3 := Lib.hid (Y3.out.below hb)
  replace BB := Lib.hid (below_chain BB.out hb)
  clear hi
  clear hb
  go_wp2_with fail
  refine (add_val xe_add1 HA.out exT_len).mono ?_
  rintro e w9 ⟨x5, rfl, hx, hb⟩
  replace HA := Lib.hid (HA.out.below hb)
  replace Y3 := Lib.hid (Y3.out.below hb)
  replace BB := Lib.hid (below_chain BB.out hb)
  clear hx
  clear hb
  go_wp2_with fail
  refine (add_val xe_add2 HA.out exT_len).mono ?_
  rintro e w10 ⟨s6, rfl, hx, hb⟩
  replace HA := Lib.hid (HA.out.below hb)
  replace Y3 := Lib.hid (Y3.out.below hb)
  replace BB := Lib.hid (below_chain BB.out hb)
  have S6 := Lib.hid hx
  clear hx
  clear hb
  go_wp2_with fail
  refine (add_val xe_add3 HA.out exT_len).mono ?_
  rintro e w11 ⟨m7, rfl, hx, hb⟩
  replace HA := Lib.hid (HA.out.below hb)
  replace Y3 := Lib.hid (Y3.out.below hb)
  replace S6 := Lib.hid (S6.out.below hb)
  replace BB := Lib.hid (below_chain BB.out hb)
  obtain ⟨M7, c7, hme, hmr⟩ := hx
  replace hme : m7 = .slice M7 6 c7 := hme
  subst hme
  have hs7 : StrSl _ (.slice M7 6 c7) exM := ⟨M7, c7, rfl, hmr⟩
  have R7 := Lib.hid hs7
  clear hmr hs7
  clear hb
  have hi := lit_arg w11 [⟨#[99]⟩, ⟨#[97]⟩] (by decide)
  have hb : Below w11.heap.size w11 (w11.alloc (.cells (([⟨#[99]⟩, ⟨#[97]⟩] : List ByteArray).map Value.string).toArray 9)) := (Below.refl _ _).alloc (Nat.le_refl _) _
  replace HA := Lib.hid (HA.out.below hb)
  replace Y3 := Lib.hid (Y3.out.below hb)
  replace S6 := Lib.hid (S6.out.below hb)
  replace R7 := Lib.hid (R7.out.below hb)
  replace BB := Lib.hid (below_chain BB.out hb)
  clear hb
  go_wp2_with fail
  refine (merge_val xe_merge HA.out hi exT_len (by decide)).mono ?_
  rintro e w12 ⟨n8, t8, rfl, hx, hy, hb⟩
  replace HA := Lib.hid (HA.out.below hb)
  replace Y3 := Lib.hid (Y3.out.below hb)
  replace S6 := Lib.hid (S6.out.below hb)
  replace R7 := Lib.hid (R7.out.below hb)
  replace BB := Lib.hid (below_chain BB.out hb)
  have N8 := Lib.hid hx
  have T8 := Lib.hid hy
  clear hx hy hi
  clear hb
  have hi := lit_ints w12 [2] (by decide)
  have hb : Below w12.heap.size w12 (w12.alloc (.cells ([2].map vInt).toArray 3)) := (Below.refl _ _).alloc (Nat.le_refl _) _
  replace HA := Lib.hid (HA.out.below hb)
  replace Y3 := Lib.hid (Y3.out.below hb)
  replace S6 := Lib.hid (S6.out.below hb)
  replace R7 := Lib.hid (R7.out.below hb)
  replace N8 := Lib.hid (N8.out.below hb)
  replace T8 := Lib.hid (T8.out.below hb)
  replace BB := Lib.hid (below_chain BB.out hb)
  clear hb
  go_wp2_with fail
  refine (sameInts_any _ _ _ _ _ Y3.out hi (by decide)).mono ?_
  rintro e w' ⟨rfl, n13, rfl⟩
  have hb := below_drewN3 (Below.refl _ (w12.alloc (.cells ([2].map vInt).toArray 3))) n13
  replace HA := Lib.hid (HA.out.below hb)
  replace Y3 := Lib.hid (Y3.out.below hb)
  replace S6 := Lib.hid (S6.out.below hb)
  replace R7 := Lib.hid (R7.out.below hb)
  replace N8 := Lib.hid (N8.out.below hb)
  replace T8 := Lib.hid (T8.out.below hb)
  replace BB := Lib.hid (below_chain BB.out hb)
  rw [show decide ((ofNats [2]) = [2]) = true by decide +kernel]
  clear hb
  try clear hi
  generalize World.drewN _ n13 = w13 at *
  go_wp2_with fail
  refine (sameList_any _ _ _ _ _ S6.out HA.out.sl (by decide)).mono ?_
  unfold SamePost
  rintro e w' ⟨rfl, n14, rfl⟩
  have hb := below_drewN3 (Below.refl _ w13) n14
  replace HA := Lib.hid (HA.out.below hb)
  replace S6 := Lib.hid (S6.out.below hb)
  replace R7 := Lib.hid (R7.out.below hb)
  replace N8 := Lib.hid (N8.out.below hb)
  replace T8 := Lib.hid (T8.out.below hb)
  replace BB := Lib.hid (below_chain BB.out hb)
  rw [show decide ((exT) = exT) = true by decide +kernel]
  clear hb
  try clear hi
  generalize World.drewN _ n14 = w14 at *
  obtain ⟨M7', c7', e7, r7⟩ := R7.out
  injection e7 with e71 e72 e73
  subst e71
  obtain ⟨ad, s7, hM, hadb, hs7, hc7⟩ := row_str r7 (show 5 < exM.length by decide)
  subst hM
  have hs7b : s7 = ⟨#[99]⟩ := by rw [show exM[5]? = some ⟨#[99]⟩ by decide +kernel] at hs7; exact (Option.some.inj hs7).symm
  subst hs7b
  have hc7b : w14.cell? { block := ad.block, off := ad.off + 5, spot := none } = some (.string ⟨#[99]⟩) := hc7
  clear r7 e72 e73 hs7
  go_wp2_with fail
  refine (sameList_any _ _ _ _ _ N8.out R7.out (by decide)).mono ?_
  unfold SamePost
  rintro e w' ⟨rfl, n15, rfl⟩
  have hb := below_drewN3 (Below.refl _ w14) n15
  replace HA := Lib.hid (HA.out.below hb)
  replace R7 := Lib.hid (R7.out.below hb)
  replace N8 := Lib.hid (N8.out.below hb)
  replace T8 := Lib.hid (T8.out.below hb)
  replace BB := Lib.hid (below_chain BB.out hb)
  rw [show decide ((exM) = exM) = true by decide +kernel]
  clear hb
  try clear hi
  generalize World.drewN _ n15 = w15 at *
  clear hc7 hc7b
  have hi := lit_ints w15 [6, 1] (by decide)
  have hb : Below w15.heap.size w15 (w15.alloc (.cells ([6, 1].map vInt).toArray 3)) := (Below.refl _ _).alloc (Nat.le_refl _) _
  replace HA := Lib.hid (HA.out.below hb)
  replace T8 := Lib.hid (T8.out.below hb)
  replace BB := Lib.hid (below_chain BB.out hb)
  clear hb
  go_wp2_with fail
  refine (sameInts_any _ _ _ _ _ T8.out hi (by decide)).mono ?_
  rintro e w' ⟨rfl, n16, rfl⟩
  have hb := below_drewN3 (Below.refl _ (w15.alloc (.cells ([6, 1].map vInt).toArray 3))) n16
  replace HA := Lib.hid (HA.out.below hb)
  replace T8 := Lib.hid (T8.out.below hb)
  replace BB := Lib.hid (below_chain BB.out hb)
  rw [show decide ((ofNats [6, 1]) = [6, 1]) = true by decide +kernel]
  clear hb
  try clear hi
  generalize World.drewN _ n16 = w16 at *
  have hi := lit_arg w16 [⟨#[97]⟩, ⟨#[97]⟩] (by decide)
  have hb : Below w16.heap.size w16 (w16.alloc (.cells (([⟨#[97]⟩, ⟨#[97]⟩] : List ByteArray).map Value.string).toArray 9)) := (Below.refl _ _).alloc (Nat.le_refl _) _
  replace BB := Lib.hid (below_chain BB.out hb)
  clear hb
  go_wp2_with fail
  refine (valid_val xe_v1 hi.sl (by decide)).mono ?_
  rintro e w17 ⟨rfl, hb⟩
  replace BB := Lib.hid (below_chain BB.out hb)
  clear hi
  clear hb
  have hi := lit_arg w17 [⟨#[]⟩] (by decide)
  have hb : Below w17.heap.size w17 (w17.alloc (.cells (([⟨#[]⟩] : List ByteArray).map Value.string).toArray 9)) := (Below.refl _ _).alloc (Nat.le_refl _) _
  replace BB := Lib.hid (below_chain BB.out hb)
  clear hb
  go_wp2_with fail
  refine (valid_val xe_v2 hi.sl (by decide)).mono ?_
  rintro e w18 ⟨rfl, hb⟩
  replace BB := Lib.hid (below_chain BB.out hb)
  clear hi
  clear hb
  have hi := lit_arg w18 [exLong] (by decide)
  have hb : Below w18.heap.size w18 (w18.alloc (.cells (([exLong] : List ByteArray).map Value.string).toArray 9)) := (Below.refl _ _).alloc (Nat.le_refl _) _
  replace BB := Lib.hid (below_chain BB.out hb)
  clear hb
  go_wp2_with fail
  refine (valid_val xe_v3 hi.sl (by decide)).mono ?_
  rintro e w19 ⟨rfl, hb⟩
  replace BB := Lib.hid (below_chain BB.out hb)
  clear hi
  clear hb
  have hi := lit_arg w19 [exLong.extract 1 exLong.size] (by decide)
  have hb : Below w19.heap.size w19 (w19.alloc (.cells (([exLong.extract 1 exLong.size] : List ByteArray).map Value.string).toArray 9)) := (Below.refl _ _).alloc (Nat.le_refl _) _
  replace BB := Lib.hid (below_chain BB.out hb)
  clear hb
  go_wp2_with fail
  refine (valid_val xe_v4 hi.sl (by decide)).mono ?_
  rintro e w20 ⟨rfl, hb⟩
  replace BB := Lib.hid (below_chain BB.out hb)
  clear hi
  clear hb
  go_wp2_with fail
  refine (awake_any _).mono ?_
  rintro e w21 ⟨rfl, hb⟩
  replace BB := Lib.hid (below_chain BB.out hb)
  clear hb
  go_wp2
  go_ret
  exact ⟨rfl, BB.out⟩
end Go.Proofs.Ytegbgkljpdlpnaa
