/- The laws' table, large, awake, by contract. -/
import Derived.Test.YtegbgkljpdlpnaaTk
import Derived.Test.YtegbgkljpdlpnaaUb
set_option linter.unusedVariables false
set_option linter.unusedSimpArgs false
namespace Go.Proofs.Ytegbgkljpdlpnaa
open Go.RowKit

/-- The table of the chapter's examples. -/
def exT : List ByteArray := [⟨#[97]⟩, ⟨#[97, 98]⟩, ⟨#[98]⟩, ⟨#[43, 80, 108]⟩, ⟨#[195, 169]⟩]
def BoolPost (b : Bool) (w : World) (e : Ending) (w' : World) : Prop := e = .returned (.bool b) ∧ Below w.heap.size w w'
theorem exT_len : exT.length ≤ maxLen := by decide
set_option maxRecDepth 100000 in
theorem ex_table : tableB exT = true := by decide +kernel
set_option maxRecDepth 100000 in
theorem ex_tok1 : tokL exT ⟨#[97, 98, 97, 98, 43, 80, 108, 195, 169]⟩ = ([2, 2, 4, 5], 0, 0) := by decide +kernel
set_option maxRecDepth 100000 in
theorem ex_tok2 : tokL exT ⟨#[97, 98, 99]⟩ = ([], 2, 3) := by decide +kernel
theorem ex_text : textV exT [1, 3] = .tuple #[.string ⟨#[97, 98]⟩, .int .i64 0] := by
  unfold textV
  rw [show (tableB exT && wordB exT.length [1, 3]) = true by rw [ex_table]; decide +kernel]
  rfl
theorem ex_find : findV exT ⟨#[97, 98]⟩ = .tuple #[.int .i64 2, .bool true] := by
  unfold findV
  rw [ex_table, show pos exT ⟨#[97, 98]⟩ = 2 by decide +kernel, show decide ((⟨#[97, 98]⟩ : ByteArray) ∈ exT) = true by decide +kernel]
  rfl
theorem ex_name : nameV exT 4 = .tuple #[.string ⟨#[43, 80, 108]⟩, .bool true] := by
  unfold nameV
  rw [show (tableB exT && hasB exT.length 4) = true by rw [ex_table]; decide +kernel]
  rfl

/-- A row of literals. -/
theorem lit_arg (w : World) (l : List ByteArray) (hl : l.length ≤ maxLen) : StrArg (w.alloc (.cells (l.map Value.string).toArray 9)) (.slice (some ⟨w.heap.size, 0, none⟩) l.length l.length) l := by
  have hown : (w.alloc (.cells (l.map Value.string).toArray 9)).ownsRow w.heap.size 9 1 (.slice (some ⟨w.heap.size, 0, none⟩) l.length l.length) l.length _ := World.ownsRow_lit w (l.map Value.string).toArray l.length (Nat.le_refl _) hl (by simp)
  exact .inr ⟨_, _, rfl, by simpa using Reads.of_own hown⟩
theorem lit_ints (w : World) (l : List Int) (hl : l.length ≤ maxLen) : IntSl (w.alloc (.cells (l.map vInt).toArray 3)) (.slice (some ⟨w.heap.size, 0, none⟩) l.length l.length) l := by
  have hown : (w.alloc (.cells (l.map vInt).toArray 3)).ownsRow w.heap.size 3 1 (.slice (some ⟨w.heap.size, 0, none⟩) l.length l.length) l.length _ := World.ownsRow_lit w (l.map vInt).toArray l.length (Nat.le_refl _) hl (by simp)
  exact ⟨_, _, rfl, by simpa using Reads.of_own hown⟩

def ArgPost (l : List ByteArray) (w : World) (e : Ending) (w' : World) : Prop := ∃ v, e = .returned v ∧ StrArg w' v l ∧ Below w.heap.size w w'
set_option maxHeartbeats 400000 in
theorem table_any (w : World) : Calls Try.prog 11 #[] w (ArgPost exT w) := by
  have ha := lit_arg w exT exT_len
  have HA := Lib.hid ha
  clear ha
  go_enter Try.func11, Try.ntmps11
  go_wp2
  go_ret
  exact ⟨_, rfl, HA.out, (Below.refl _ _).alloc (Nat.le_refl _) _⟩
set_option maxHeartbeats 400000 in
theorem large_any (A : Option Addr) (n ca : Nat) (w : World) : Calls Try.prog 22 #[.slice A n ca] w fun e w' => e = .returned (.bool (decide (600 < n))) ∧ w = w' := by
  obtain ⟨B, hB⟩ : ∃ B, decide (600 < n) = B := ⟨_, rfl⟩
  have f1 : decide ((600 : Int) < (n : Int)) = B := by rw [← hB, Bool.eq_iff_iff]; simp; omega
  rw [hB]
  clear hB
  go_enter Try.func22, Try.ntmps22
  go_wp2
  go_ret
  exact ⟨by rw [← f1]; simp, rfl⟩
theorem below_drewN3 {w w1 : World} (h : Below w.heap.size w w1) (n : Nat) : Below w.heap.size w (w1.drewN n) := ⟨h.os, h.tape, h.output, h.size, h.block⟩
theorem find_val {w : World} {v : Value} {L : List ByteArray} {s : ByteArray} {r : Value} (hr : findV L s = r) (hv : StrSl w v L) (hl : L.length ≤ maxLen) (hs : s.size ≤ maxLen) :
    Calls Try.prog 12 #[v, .string s] w (ValPost r w) := by rw [← hr]; exact find_any hv hl s hs
theorem name_val {w : World} {v : Value} {L : List ByteArray} {s : Int} {r : Value} (hr : nameV L s = r) (hv : StrSl w v L) (hl : L.length ≤ maxLen) :
    Calls Try.prog 13 #[v, .int .i64 s] w (ValPost r w) := by rw [← hr]; exact name_any hv hl s
theorem text_val {w : World} {v x : Value} {L : List ByteArray} {X : List Int} {r : Value} (hr : textV L X = r) (hv : StrSl w v L) (hx : IntSl w x X) (hl : L.length ≤ maxLen) (hxl : X.length ≤ maxLen) :
    Calls Try.prog 15 #[v, x] w (ValPost r w) := by rw [← hr]; exact text_any hv hx hl hxl
theorem tok_val {w : World} {v : Value} {L : List ByteArray} {t : ByteArray} {r : List Nat × Nat × Nat} (hr : tokL L t = r) (hv : StrSl w v L) (hl : L.length ≤ maxLen) :
    Calls Try.prog 14 #[v, .string t] w (TokPost r w) := by rw [← hr]; exact tokens_any hv hl t
theorem valid_val {w : World} {v : Value} {L : List ByteArray} {b : Bool} (hr : tableB L = b) (hv : StrSl w v L) (hl : L.length ≤ maxLen) :
    Calls Try.prog 20 #[v] w (ValPost (.bool b) w) := by rw [← hr]; exact valid_any hv hl

set_option maxRecDepth 20000 in
set_option maxHeartbeats 4000000 in
theorem awake_any (w : World) : Calls Try.prog 21 #[] w (BoolPost true w) := by
  go_enter Try.func21, Try.ntmps21
  go_wp2_with fail
  refine (table_any _).mono ?_
  rintro e w1 ⟨v1, rfl, ha, hb⟩
  have B1 := Lib.hid hb
  go_wp2_with fail
  refine (tok_val ex_tok1 ha.sl exT_len).mono ?_
  rintro e w2 ⟨x2, rfl, hx2, hb⟩
  have X2 := Lib.hid hx2
  have B2 := Lib.hid (below_chain B1.out hb)
  clear ha hb hx2 B1
  go_wp2_with fail
  refine (table_any _).mono ?_
  rintro e w3 ⟨v3, rfl, ha, hb⟩
  have X3 := Lib.hid (X2.out.below hb)
  have B3 := Lib.hid (below_chain B2.out hb)
  clear X2 B2 hb
  go_wp2_with fail
  refine (tok_val ex_tok2 ha.sl exT_len).mono ?_
  rintro e w4 ⟨x4, rfl, _, hb⟩
  have X4 := Lib.hid (X3.out.below hb)
  have B4 := Lib.hid (below_chain B3.out hb)
  clear X3 B3 hb ha
  go_wp2_with fail
  refine (table_any _).mono ?_
  rintro e w5 ⟨v5, rfl, ha, hb⟩
  have X5 := Lib.hid (X4.out.below hb)
  have B5 := Lib.hid (below_chain B4.out hb)
  clear X4 B4 hb
  have hi := lit_ints w5 [1, 3] (by decide)
  have hb6 : Below w5.heap.size w5 (w5.alloc (.cells ([1, 3].map vInt).toArray 3)) := (Below.refl _ _).alloc (Nat.le_refl _) _
  have X6 := Lib.hid (X5.out.below hb6)
  have B6 := Lib.hid (below_chain B5.out hb6)
  have ha6 := ha.below hb6
  clear X5 B5 hb6 ha
  go_wp2_with fail
  refine (text_val ex_text ha6.sl hi exT_len (by decide)).mono ?_
  rintro e w7 ⟨rfl, hb⟩
  have X7 := Lib.hid (X6.out.below hb)
  have B7 := Lib.hid (below_chain B6.out hb)
  clear X6 B6 hb ha6 hi
  go_wp2_with fail
  refine (table_any _).mono ?_
  rintro e w8 ⟨v8, rfl, ha, hb⟩
  have X8 := Lib.hid (X7.out.below hb)
  have B8 := Lib.hid (below_chain B7.out hb)
  clear X7 B7 hb
  go_wp2_with fail
  refine (find_val ex_find ha.sl exT_len (by decide)).mono ?_
  rintro e w9 ⟨rfl, hb⟩
  have X9 := Lib.hid (X8.out.below hb)
  have B9 := Lib.hid (below_chain B8.out hb)
  clear X8 B8 hb ha
  go_wp2_with fail
  refine (table_any _).mono ?_
  rintro e w10 ⟨v10, rfl, ha, hb⟩
  have X10 := Lib.hid (X9.out.below hb)
  have B10 := Lib.hid (below_chain B9.out hb)
  clear X9 B9 hb
  go_wp2_with fail
  refine (name_val ex_name ha.sl exT_len).mono ?_
  rintro e w11 ⟨rfl, hb⟩
  have X11 := Lib.hid (X10.out.below hb)
  have B11 := Lib.hid (below_chain B10.out hb)
  clear X10 B10 hb ha
  have hi := lit_ints w11 [2, 2, 4, 5] (by decide)
  have hb6 : Below w11.heap.size w11 (w11.alloc (.cells ([2, 2, 4, 5].map vInt).toArray 3)) := (Below.refl _ _).alloc (Nat.le_refl _) _
  have hx := X11.out.below hb6
  have B12 := Lib.hid (below_chain B11.out hb6)
  clear X11 B11 hb6
  go_wp2_with fail
  refine (sameInts_any _ _ _ _ _ hx hi (by decide)).mono ?_
  rintro e w' ⟨rfl, n, rfl⟩
  have B13 := Lib.hid (below_drewN3 B12.out n)
  rw [show decide (ofNats [2, 2, 4, 5] = [2, 2, 4, 5]) = true by decide]
  clear hx hi B12
  generalize World.drewN _ n = w13 at *
  go_wp2_with fail
  refine (table_any _).mono ?_
  rintro e w14 ⟨v14, rfl, ha, hb⟩
  have B14 := Lib.hid (below_chain B13.out hb)
  clear B13 hb
  go_wp2_with fail
  refine (valid_val ex_table ha.sl exT_len).mono ?_
  rintro e w15 ⟨rfl, hb⟩
  have B15 := Lib.hid (below_chain B14.out hb)
  clear B14 hb ha
  go_wp2
  go_ret
  exact ⟨rfl, B15.out⟩
end Go.Proofs.Ytegbgkljpdlpnaa
