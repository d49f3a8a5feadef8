/- finish: what a computation returns, or the error with which it panics. · The helpers of rat: Cut at a stroke, times, text, reduce. · The text of a number; Make; read. · Make. · read: a text taken apart. -/
import Derived.Test.YtkekljjjomnalaaGreatDoorLd
import Derived.Defers
import Derived.Recover
import Derived.Laws.Pointers
import Derived.WideLaws
import Derived.Test.YtkekljjjomnalaaGreatDoorPm
import Derived.Lib.CutLaws
import Derived.Shelf.Strings.Search2
set_option linter.unusedVariables false
set_option linter.unusedSimpArgs false
namespace Go.Proofs.YtkekljjjomnalaaGreatDoor
open Go.RowKit

set_option maxRecDepth 20000 in
/-- The deferred closure, in a frame that panics with an error: it stores the error. -/
theorem caught (p : Addr) (x E : Int) (older : List PanicEntry) (w : World) (hc : w.cell? p = some (.int .i64 x)) (hz : w.frozen? p = false) :
    CallsD Tryz.prog 110 #[.pointer (some p)] (.panicking ({ v := .iface 22 (.int .i64 E), recovered := false } :: older)) w fun e u' w' =>
      e = .returned (.tuple #[]) ∧ u' = .panicking ({ v := .iface 22 (.int .i64 E), recovered := true } :: older) ∧ w' = w.setCell p (.int .i64 E) := by
  refine callsD_of_wpS Tryz.func110 rfl fun c₀ cs hu => ?_
  apply wpS_seq
  apply wpS_region
  simp [wpOpsS, go_sem, recoverD, hu, Tryz.ntmps110, Exit.thenS]
  clear hu
  obtain ⟨fs, hfs⟩ : ∃ fs : List Frame, fs = { c₀ with mode := .panicking ({ v := .iface 22 (.int .i64 E), recovered := true } :: older) } :: cs := ⟨_, rfl⟩
  have HFS := Lib.hid hfs
  rw [← hfs]
  clear hfs
  have h1 : ∀ w : World, (binOp .neq 20 (.iface 22 (.int .i64 E)) .nilIface).run Tryz.prog w = .ok (.bool true) w := fun w => run_neq_held_nil _ _ _ _ (by kernel_rfl)
  have h2 : ∀ w : World, (Instr.typeAssert (.iface 22 (.int .i64 E)) 20 22 false).run Tryz.prog w = .ok (.int .i64 E) w := fun w => by kernel_rfl
  refine wpS_of_wp ?_
  go_wp2_with fail
  clear h1 h2 hc hz
  rw [HFS.out]
  exact ⟨rfl, _, rfl, .tuple #[], by simp [results, Tryz.results110], rfl, rfl, rfl⟩

theorem idle (p : Addr) (w : World) :
    CallsD Tryz.prog 110 #[.pointer (some p)] .returning w fun e u' w' => e = .returned (.tuple #[]) ∧ u' = .returning ∧ w' = w := by
  refine callsD_of_wpS Tryz.func110 rfl fun c₀ cs hu => ?_
  apply wpS_seq
  apply wpS_region
  simp [wpOpsS, go_sem, recoverD, hu, Tryz.ntmps110, Exit.thenS]
  refine wpS_of_wp ?_
  go_wp2
  cases c₀
  simp_all [bodyPostS, results, Tryz.results110]
/-- What finish returns, where the computation returns a string. -/
def DiePost (E : Int) (w : World) (e : Ending) (w' : World) : Prop := e = .panicked [{ v := .iface 22 (.int .i64 E), recovered := false }] ∧ w.grownBy w' none

/-- Function F is entered when it is called. -/
def Enters (F : Nat) : Prop := ∀ (args : Array Value) (w : World), (callFunc F args).run Tryz.prog w = .ok (.enter F args) w
theorem new_block (w : World) (o : Obj) : (w.alloc o).heap[w.heap.size]? = some o := by show (w.heap.push o)[w.heap.size]? = some o; simp

theorem door_ret (S : ByteArray) (w w2 : World) (tmps : Array Value) (ht : tmps = #[tmps.getD 0 undef, tmps.getD 1 undef, .string S, .pointer (some ⟨w.heap.size, 0, none⟩), tmps.getD 4 undef, tmps.getD 5 undef, tmps.getD 6 undef])
    (hb : w2.heap[w.heap.size]? = some (.cells #[.int .i64 0] 22 (0, 0))) (hg : w.grownBy w2 none) :
    Leaves Tryz.prog Tryz.f93 tmps (ValPost (.tuple #[.string S, .int .i64 0]) w) [{ target := .fn (.func 110) #[.pointer (some ⟨w.heap.size, 0, none⟩)], args := #[] }] .returning w2 := by
  have hcell := cell_of_one hb
  refine leaves_cons (f := 110) (args := #[.pointer (some ⟨w.heap.size, 0, none⟩)]) (by simp) (by simp [go_sem]) ?_
  refine (idle ⟨w.heap.size, 0, none⟩ _).mono ?_
  rintro e u' w'' ⟨rfl, rfl, rfl⟩
  rw [ht]
  refine ⟨.tuple #[.string S, .int .i64 0], by simp [results, Tryz.results93, go_sem, hcell], rfl, hg⟩

theorem door_die (E : Int) (w w2 : World) (tmps : Array Value) (ht : tmps = #[tmps.getD 0 undef, tmps.getD 1 undef, .string ⟨#[]⟩, .pointer (some ⟨w.heap.size, 0, none⟩), tmps.getD 4 undef, tmps.getD 5 undef, tmps.getD 6 undef])
    (hb : w2.heap[w.heap.size]? = some (.cells #[.int .i64 0] 22 (0, 0))) (hg : w.grownBy w2 none) :
    Leaves Tryz.prog Tryz.f93 tmps (ValPost (.tuple #[.string ⟨#[]⟩, .int .i64 E]) w) [{ target := .fn (.func 110) #[.pointer (some ⟨w.heap.size, 0, none⟩)], args := #[] }] (.panicking [{ v := .iface 22 (.int .i64 E), recovered := false }]) w2 := by
  have hcell := cell_of_one (one_setCell (u := .int .i64 E) hb)
  refine leaves_cons (f := 110) (args := #[.pointer (some ⟨w.heap.size, 0, none⟩)]) (by simp) (by simp [go_sem]) ?_
  refine (caught ⟨w.heap.size, 0, none⟩ 0 E [] _ (cell_of_one hb) (free_of_one hb)).mono ?_
  rintro e u' w'' ⟨rfl, rfl, rfl⟩
  rw [ht]
  refine ⟨.tuple #[.string ⟨#[]⟩, .int .i64 E], by simp [results, Tryz.results93, go_sem, hcell], rfl, ?_⟩
  exact grown_step hg (grown_setCell w2 ⟨w.heap.size, 0, none⟩ _) (Nat.le_refl _)

theorem alloc_old {w w2 : World} {o : Obj} (hg : (w.alloc o).grownBy w2 none) : w2.heap[w.heap.size]? = some o :=
  (hg.block _ (by simp) (by simp)).trans (new_block w o)

set_option maxRecDepth 20000 in
theorem finish_ret (F : Nat) (he : Enters F) (first cap : Array Value) (S : ByteArray) (w : World)
    (h : Calls Tryz.prog F (first ++ cap) (w.alloc (.cells #[.int .i64 0] 22)) (ValPost (.string S) (w.alloc (.cells #[.int .i64 0] 22)))) :
    Calls Tryz.prog 93 #[.func (.func F) first cap] w (ValPost (.tuple #[.string S, .int .i64 0]) w) := by
  have hmf : ∀ (fn : Fn) (first cap : Array Value) (w : World), (Instr.makeFunc fn first cap).run Tryz.prog w = .ok (.func fn first cap) w := fun _ _ _ _ => rfl
  have H := Lib.hid h
  have HE := Lib.hid he
  clear h he
  go_enter_defers Tryz.func93, Tryz.ntmps93
  go_wp2_with fail
  rw [HE.out]
  refine H.out.mono ?_
  rintro e w2 ⟨rfl, hg⟩
  have hb := alloc_old hg
  have hcell := cell_of_one hb
  have hfree := free_of_one hb
  have HB := Lib.hid hb; have HG := Lib.hid hg
  clear hb hg H HE
  go_wp2
  exact door_ret S w _ _ rfl (one_setCell HB.out) (grown_step (grown_trans (World.grownBy_alloc _ _ none) HG.out) (grown_setCell w2 ⟨w.heap.size, 0, none⟩ _) (Nat.le_refl _))

set_option maxRecDepth 20000 in
theorem finish_die (F : Nat) (he : Enters F) (first cap : Array Value) (E : Int) (w : World)
    (h : Calls Tryz.prog F (first ++ cap) (w.alloc (.cells #[.int .i64 0] 22)) (DiePost E (w.alloc (.cells #[.int .i64 0] 22)))) :
    Calls Tryz.prog 93 #[.func (.func F) first cap] w (ValPost (.tuple #[.string ⟨#[]⟩, .int .i64 E]) w) := by
  have hmf : ∀ (fn : Fn) (first cap : Array Value) (w : World), (Instr.makeFunc fn first cap).run Tryz.prog w = .ok (.func fn first cap) w := fun _ _ _ _ => rfl
  have H := Lib.hid h
  have HE := Lib.hid he
  clear h he
  go_enter_defers Tryz.func93, Tryz.ntmps93
  go_wp2_with fail
  rw [HE.out]
  refine H.out.mono ?_
  rintro e w2 ⟨rfl, hg⟩
  have hb := alloc_old hg
  have HB := Lib.hid hb; have HG := Lib.hid hg
  clear hb hg H HE
  exact door_die E w _ _ rfl HB.out (grown_trans (World.grownBy_alloc _ _ none) HG.out)
end Go.Proofs.YtkekljjjomnalaaGreatDoor
set_option linter.unusedVariables false
set_option linter.unusedSimpArgs false
namespace Go.Proofs.YtkekljjjomnalaaGreatDoor
open Go.RowKit
open Go.Lib (nDigits)

def cutV (s : ByteArray) : Value := .tuple #[.string ⟨(Lib.cut s.data.toList [47]).1.toArray⟩, .string ⟨(Lib.cut s.data.toList [47]).2.1.toArray⟩, .bool (Lib.cut s.data.toList [47]).2.2]
set_option maxRecDepth 100000 in
theorem slcut_any (s : ByteArray) (w : World) (hs : s.size ≤ maxLen) :
    Calls Tryz.prog 105 #[.string s, .string ⟨#[47]⟩] w (ValPost (cutV s) w) := by
  unfold maxLen at hs
  rcases Lib.indexB_cases s ⟨#[47]⟩ with hix | ⟨i, hix, hroom⟩
  · obtain ⟨e1, e2, e3⟩ := Lib.cutB_miss s ⟨#[47]⟩ hix
    have HV := Lib.hid (show cutV s = .tuple #[.string s, .string ⟨#[]⟩, .bool false] by unfold cutV; rw [show ([47] : List UInt8) = (⟨#[47]⟩ : ByteArray).data.toList from rfl, e1, e2, e3]; rfl)
    have hi : Lib.indexByte s.data.toList 47 = -1 := by rw [← Lib.index_one]; exact hix
    have hc := fun w => Tryz.stringslite_Index_one s 47 w
    rw [hi] at hc
    have HC := Lib.hid hc
    clear hix hi hc e1 e2 e3
    go_enter Tryz.func105, Tryz.ntmps105
    go_wp2_with fail
    refine (HC.out _).mono ?_
    rintro e w' ⟨rfl, rfl⟩
    go_wp2
    go_ret3
    exact ⟨by rw [HV.out]; rfl, grown_refl _ _⟩
  · obtain ⟨e1, e2, e3⟩ := Lib.cutB_hit s ⟨#[47]⟩ i hix
    have HV := Lib.hid (show cutV s = .tuple #[.string (s.extract 0 i), .string (s.extract (i + 1) s.size), .bool true] by unfold cutV; rw [show ([47] : List UInt8) = (⟨#[47]⟩ : ByteArray).data.toList from rfl, e1, e2, e3]; rfl)
    have hi : Lib.indexByte s.data.toList 47 = i := by rw [← Lib.index_one]; exact hix
    have hc := fun w => Tryz.stringslite_Index_one s 47 w
    rw [hi] at hc
    have HC := Lib.hid hc
    have hroom' : i + 1 ≤ s.size := hroom
    clear hix hi hc e1 e2 e3 hroom
    have c1 : (0 : Int) ≤ ↑i := by omega
    have c2 : (↑i : Int) ≤ ↑s.size := by omega
    have c3 : (0 : Int) ≤ ↑i + 1 := by omega
    have c4 : (↑i + 1 : Int) ≤ ↑s.size := by omega
    go_enter Tryz.func105, Tryz.ntmps105
    go_wp2_with fail
    refine (HC.out _).mono ?_
    rintro e w' ⟨rfl, rfl⟩
    go_wp2
    go_quiet (fail)
    go_wp2
    go_ret3
    exact ⟨by rw [HV.out]; rfl, grown_drewN _ _ _⟩

theorem cut_any (s : ByteArray) (w : World) (hs : s.size ≤ maxLen) :
    Calls Tryz.prog 86 #[.string s, .string ⟨#[47]⟩] w (ValPost (cutV s) w) := by
  have hc := fun w => slcut_any s w hs
  unfold cutV at hc ⊢
  obtain ⟨A, hA⟩ : ∃ A : ByteArray, (⟨(Lib.cut s.data.toList [47]).1.toArray⟩ : ByteArray) = A := ⟨_, rfl⟩
  obtain ⟨B, hB⟩ : ∃ B : ByteArray, (⟨(Lib.cut s.data.toList [47]).2.1.toArray⟩ : ByteArray) = B := ⟨_, rfl⟩
  obtain ⟨C, hC⟩ : ∃ C : Bool, (Lib.cut s.data.toList [47]).2.2 = C := ⟨_, rfl⟩
  rw [hA, hB, hC] at hc ⊢
  have HC := Lib.hid hc
  clear hc hA hB hC
  go_enter Tryz.func86, Tryz.ntmps86
  go_wp2_with fail
  refine (HC.out _).mono ?_
  rintro e w' ⟨rfl, hg⟩
  have HG := Lib.hid hg
  clear hg
  go_wp2
  go_ret3
  exact ⟨rfl, HG.out⟩

/-- A string against 1. -/
theorem one_str (n : Nat) : ((decS n).toList == [49]) = decide (n = 1) ∧ ((decS n).toList != [49]) = !decide (n = 1) := by
  have e : ((decS n).toList == [49]) = decide (n = 1) := by
    rw [Bool.eq_iff_iff, decide_eq_true_eq, beq_iff_eq, Lib.toList_data]
    constructor
    · intro h
      apply dec_inj
      rw [dec_one]
      unfold decS at h ⊢
      simp at h
      rw [h]
    · rintro rfl
      rw [dec_one]
  exact ⟨e, by rw [bne, e]⟩
theorem zero_str' (n : Nat) : ((decS n).toList == [48]) = decide (n = 0) ∧ ((decS n).toList != [48]) = !decide (n = 0) := by
  have e : ((decS n).toList == [48]) = decide (n = 0) := by
    rw [Bool.eq_iff_iff, decide_eq_true_eq, beq_iff_eq, Lib.toList_data]
    constructor
    · intro h
      apply dec_inj
      rw [dec_zero]
      unfold decS at h ⊢
      simp at h
      rw [h]
    · rintro rfl
      rw [dec_zero]
  exact ⟨e, by rw [bne, e]⟩

theorem mulV_dec (m n : Nat) (hm : nDigits m ≤ 1000) (hn : nDigits n ≤ 1000) (h : nDigits (m * n) ≤ 1000) : mulV (decS m) (decS n) = .tuple #[.string (decS (m * n)), .int .i64 0] :=
  mulV_lit _ _ _ (num_short m hm) (num_short n hn) (num_short _ h) (by rw [nv_dec, nv_dec, nv_dec])
theorem big_len (n : Nat) (h : nDigits n ≤ 1000) : (decS n).size ≤ maxLen := maxLen_ok (num_short n h)

theorem times_any (m n : Nat) (w : World) (hm : nDigits m ≤ 1000) (hn : nDigits n ≤ 1000) (h : nDigits (m * n) ≤ 1000) :
    Calls Tryz.prog 97 #[.string (decS m), .string (decS n)] w (ValPost (.string (decS (m * n))) w) := by
  have f1 := (one_str m).1
  have f2 := (one_str n).1
  by_cases h1 : m = 1
  · subst h1
    simp only [decide_true] at f1
    rw [Nat.one_mul]
    clear f2 h
    generalize decS 1 = A at *
    generalize decS n = B at *
    go_enter Tryz.func97, Tryz.ntmps97
    go_wp2
    go_ret
    exact ⟨rfl, grown_refl _ _⟩
  · simp only [h1, decide_false] at f1
    by_cases h2 : n = 1
    · subst h2
      simp only [decide_true] at f2
      rw [Nat.mul_one]
      clear h h1
      generalize decS 1 = B at *
      generalize decS m = A at *
      go_enter Tryz.func97, Tryz.ntmps97
      go_wp2
      go_ret
      exact ⟨rfl, grown_refl _ _⟩
    · simp only [h2, decide_false] at f2
      have hc := fun w => mul_any (decS m) (decS n) w (big_len m hm) (big_len n hn)
      rw [mulV_dec m n hm hn h] at hc
      generalize decS m = A at *
      generalize decS n = B at *
      generalize decS (m * n) = C at *
      have HC := Lib.hid hc
      clear hc h1 h2 h
      go_enter Tryz.func97, Tryz.ntmps97
      go_wp2_with fail
      refine (HC.out _).mono ?_
      rintro e w' ⟨rfl, hg⟩
      have HG := Lib.hid hg
      clear hg
      go_wp2
      go_ret
      exact ⟨rfl, HG.out⟩

theorem gcdV_dec (m n : Nat) (hm : nDigits m ≤ 1000) (hn : nDigits n ≤ 1000) : gcdV (decS m) (decS n) = .tuple #[.string (decS (Nat.gcd m n)), .int .i64 0] := by
  unfold gcdV
  rw [num_short m hm, num_short n hn, nv_dec, nv_dec]
  rfl
theorem divV_dec (m n : Nat) (hm : nDigits m ≤ 1000) (hn : nDigits n ≤ 1000) (h0 : n ≠ 0) : divV (decS m) (decS n) = .tuple #[.string (decS (m / n)), .string (decS (m % n)), .int .i64 0] := by
  unfold divV
  rw [num_short m hm, num_short n hn, nv_dec, nv_dec]
  simp only [Bool.and_self, if_true]
  rw [if_neg h0]

/-- The cells of a number that lies in a block of its own. -/
theorem trip {w : World} {g : Nat} {a b c : Value} (h : w.heap[g]? = some (.cells #[a, b, c] 56 (0, 0))) :
    w.cell? ⟨g, 0, none⟩ = some a ∧ w.cell? ⟨g, 1, none⟩ = some b ∧ w.cell? ⟨g, 2, none⟩ = some c ∧ w.frozen? ⟨g, 0, none⟩ = false ∧ w.frozen? ⟨g, 1, none⟩ = false ∧ w.frozen? ⟨g, 2, none⟩ = false :=
  ⟨by rw [cell_of_row w g 0 _ _ (0, 0) h]; rfl, by rw [cell_of_row w g 1 _ _ (0, 0) h]; rfl, by rw [cell_of_row w g 2 _ _ (0, 0) h]; rfl, frozen_of_row w g 0 _ _ h, frozen_of_row w g 1 _ _ h, frozen_of_row w g 2 _ _ h⟩
theorem grown3 {w w1 : World} {g : Nat} {a b c : Value} (h : w.grownBy w1 none) (hg : w.heap.size ≤ g) : w.grownBy (((w1.setCell ⟨g, 0, none⟩ a).setCell ⟨g, 1, none⟩ b).setCell ⟨g, 2, none⟩ c) none :=
  grown_step (grown_step (grown_step h (grown_setCell w1 ⟨g, 0, none⟩ a) hg) (grown_setCell _ ⟨g, 1, none⟩ b) hg) (grown_setCell _ ⟨g, 2, none⟩ c) hg
/-- What the walk of reduce asks of its sign: decided ahead. -/
theorem ne_facts {A : ByteArray} {c : Bool} (f : (A.toList != [48]) = c) : (A.toList == [48]) = !c := by
  rw [← f, bne, Bool.not_not]

set_option maxRecDepth 100000 in
set_option maxHeartbeats 1000000 in
theorem reduce_same1 (neg b c : Bool) (A B : ByteArray) (w : World) (f0 : (A.toList != [48]) = c) (hb : (neg && c) = b) (f1 : (B.toList == [49]) = true) :
    Calls Tryz.prog 96 #[.bool neg, .string A, .string B] w (ValPost (.agg #[.bool b, .string A, .string B]) w) := by
  have f00 := ne_facts f0
  subst hb
  cases neg <;> cases c <;> simp only [Bool.not_true, Bool.not_false] at f00
  all_goals
    go_enter Tryz.func96, Tryz.ntmps96
    go_wp2
    exact bodyPost_ret (v := .agg #[.bool _, .string A, .string B]) (by simp [results, Tryz.results96, go_sem]) rfl ⟨rfl, World.grownBy_alloc _ _ _⟩

set_option maxRecDepth 100000 in
set_option maxHeartbeats 2000000 in
theorem reduce_same2 (neg b c : Bool) (A B G : ByteArray) (w : World) (f0 : (A.toList != [48]) = c) (hb : (neg && c) = b) (f1 : (B.toList == [49]) = false) (f2 : (G.toList == [49]) = true)
    (C : Hid (∀ w, Calls Tryz.prog 111 #[.string A, .string B] w (ValPost (.tuple #[.string G, .int .i64 0]) w))) :
    Calls Tryz.prog 96 #[.bool neg, .string A, .string B] w (ValPost (.agg #[.bool b, .string A, .string B]) w) := by
  have f00 := ne_facts f0
  subst hb
  cases neg <;> cases c <;> simp only [Bool.not_true, Bool.not_false] at f00
  all_goals
    go_enter Tryz.func96, Tryz.ntmps96
    go_wp2_with fail
    refine (C.out _).mono ?_
    rintro e w1 ⟨rfl, hg⟩
    have hb := alloc_old hg
    have hc := trip hb
    have G1 := Lib.hid (grown_trans (World.grownBy_alloc _ _ none) hg); have HB := Lib.hid hb
    clear hg hb
    go_wp2
    exact bodyPost_ret (v := .agg #[.bool _, .string A, .string B]) (by simp [results, Tryz.results96, go_sem, hc]) rfl ⟨rfl, grown3 G1.out (Nat.le_refl _)⟩
set_option maxRecDepth 100000 in
set_option maxHeartbeats 2000000 in
theorem reduce_div (neg b c : Bool) (A B G Q1 R1 Q2 R2 : ByteArray) (w : World) (f0 : (A.toList != [48]) = c) (hb : (neg && c) = b) (f1 : (B.toList == [49]) = false) (f2 : (G.toList == [49]) = false)
    (C : Hid (∀ w, Calls Tryz.prog 111 #[.string A, .string B] w (ValPost (.tuple #[.string G, .int .i64 0]) w)))
    (D1 : Hid (∀ w, Calls Tryz.prog 112 #[.string A, .string G] w (ValPost (.tuple #[.string Q1, .string R1, .int .i64 0]) w)))
    (D2 : Hid (∀ w, Calls Tryz.prog 112 #[.string B, .string G] w (ValPost (.tuple #[.string Q2, .string R2, .int .i64 0]) w))) :
    Calls Tryz.prog 96 #[.bool neg, .string A, .string B] w (ValPost (.agg #[.bool b, .string Q1, .string Q2]) w) := by
  have f00 := ne_facts f0
  subst hb
  cases neg <;> cases c <;> simp only [Bool.not_true, Bool.not_false] at f00
  all_goals
    go_enter Tryz.func96, Tryz.ntmps96
    go_wp2_with fail
    refine (C.out _).mono ?_
    rintro e w1 ⟨rfl, hg⟩
    have hb := alloc_old hg
    have G1 := Lib.hid (grown_trans (World.grownBy_alloc _ _ none) hg); have HB := Lib.hid hb
    clear hg hb
    go_wp2_with fail
    refine (D1.out _).mono ?_
    rintro e w2 ⟨rfl, hg⟩
    have G2 := Lib.hid hg
    clear hg
    go_wp2_with fail
    refine (D2.out _).mono ?_
    rintro e w3 ⟨rfl, hg⟩
    have G3 := Lib.hid (grown_trans G2.out hg)
    clear hg
    have hlt := lt_of_block HB.out
    have hc := trip ((G3.out.block _ hlt (by simp)).trans HB.out)
    clear hlt
    go_wp2
    exact bodyPost_ret (v := .agg #[.bool _, .string Q1, .string Q2]) (by simp [results, Tryz.results96, go_sem, hc]) rfl ⟨rfl, grown3 (grown_trans G1.out G3.out) (Nat.le_refl _)⟩

theorem reduce_any (neg : Bool) (n d : Nat) (w : World) (hd : d ≠ 0) (hn : nDigits n ≤ 1000) (hdd : nDigits d ≤ 1000) :
    Calls Tryz.prog 96 #[.bool neg, .string (decS n), .string (decS d)] w (ValPost (ratV (mkRat (sg neg n) d)) w) := by
  have f0 := (zero_str' n).2
  have f1 := (one_str d).1
  have hg0 : Nat.gcd n d ≠ 0 := by have := Nat.gcd_pos_of_pos_right n (Nat.pos_of_ne_zero hd); omega
  have hgl : Nat.gcd n d ≤ d := Nat.le_of_dvd (Nat.pos_of_ne_zero hd) (Nat.gcd_dvd_right n d)
  have hgd : nDigits (Nat.gcd n d) ≤ 1000 := Nat.le_trans (nDigits_mono hgl) hdd
  rw [ratV_mk neg n d hd]
  by_cases h1 : d = 1
  · subst h1
    rw [Nat.gcd_one_right, Nat.div_one, Nat.div_one]
    exact reduce_same1 neg _ _ _ _ w f0 rfl (by simpa using f1)
  · have hc := fun w => gcd_any (decS n) (decS d) w (big_len n hn) (big_len d hdd)
    rw [gcdV_dec n d hn hdd] at hc
    have f2 := (one_str (Nat.gcd n d)).1
    have f1' : ((decS d).toList == [49]) = false := by rw [f1]; simpa using h1
    by_cases h2 : Nat.gcd n d = 1
    · rw [h2] at f2 hc ⊢
      rw [Nat.div_one, Nat.div_one]
      exact reduce_same2 neg _ _ _ _ _ w f0 rfl f1' (by simpa using f2) (Lib.hid hc)
    · have hd1 := fun w => div_any (decS n) (decS (Nat.gcd n d)) w (big_len n hn) (big_len _ hgd)
      have hd2 := fun w => div_any (decS d) (decS (Nat.gcd n d)) w (big_len d hdd) (big_len _ hgd)
      rw [divV_dec n _ hn hgd hg0] at hd1
      rw [divV_dec d _ hdd hgd hg0] at hd2
      exact reduce_div neg _ _ _ _ _ _ _ _ _ w f0 rfl f1' (by rw [f2]; simpa using h2) (Lib.hid hc) (Lib.hid hd1) (Lib.hid hd2)
end Go.Proofs.YtkekljjjomnalaaGreatDoor
set_option linter.unusedVariables false
set_option linter.unusedSimpArgs false
namespace Go.Proofs.YtkekljjjomnalaaGreatDoor
open Go.RowKit
open Go.Lib (nDigits decDigits)

set_option maxRecDepth 100000 in
set_option maxHeartbeats 1000000 in
theorem text_int (b : Bool) (A B S : ByteArray) (w : World) (h : max (A.size : Int) (B.size : Int) ≤ 400) (f1 : (B.toList == [49]) = true) (hS : Hid ((if b then ⟨#[45]⟩ ++ A else A) = S)) :
    Calls Tryz.prog 95 #[.agg #[.bool b, .string A, .string B]] w (ValPost (.string S) w) := by
  cases b
  all_goals
    go_enter Tryz.func95, Tryz.ntmps95
    go_wp2
    go_ret
    exact ⟨by rw [← hS.out]; rfl, World.grownBy_alloc _ _ _⟩
set_option maxRecDepth 100000 in
set_option maxHeartbeats 1000000 in
theorem text_frac (b : Bool) (A B S : ByteArray) (w : World) (h : max (A.size : Int) (B.size : Int) ≤ 400) (f1 : (B.toList == [49]) = false) (hS : Hid ((if b then ⟨#[45]⟩ ++ A else A) ++ (⟨#[47]⟩ ++ B) = S)) :
    Calls Tryz.prog 95 #[.agg #[.bool b, .string A, .string B]] w (ValPost (.string S) w) := by
  cases b
  all_goals
    go_enter Tryz.func95, Tryz.ntmps95
    go_wp2
    go_ret
    exact ⟨by rw [← hS.out]; rfl, World.grownBy_alloc _ _ _⟩
set_option maxRecDepth 100000 in
set_option maxHeartbeats 1000000 in
theorem text_long (b : Bool) (A B : ByteArray) (w : World) (h : 400 < max (A.size : Int) (B.size : Int)) :
    Calls Tryz.prog 95 #[.agg #[.bool b, .string A, .string B]] w (DiePost 2 w) := by
  go_enter Tryz.func95, Tryz.ntmps95
  go_wp2
  exact ⟨rfl, rfl, World.grownBy_alloc _ _ _⟩

theorem cat_list (a b : ByteArray) : (a ++ b).data.toList = a.data.toList ++ b.data.toList := by
  rw [ByteArray.data_append, Array.toList_append]
theorem ratS_text (x : Rat) : ratS x = (if decide (x.num < 0) then ⟨#[45]⟩ ++ decS x.num.natAbs else decS x.num.natAbs) ++ (if x.den = 1 then ⟨#[]⟩ else (⟨#[47]⟩ ++ decS x.den)) := by
  apply ByteArray.ext
  apply Array.ext'
  rw [cat_list]
  unfold ratS ratL
  by_cases h1 : x.num < 0 <;> by_cases h2 : x.den = 1 <;> simp [h1, h2, cat_list, decS]

theorem text_ok (x : Rat) (w : World) (h : Short x) : Calls Tryz.prog 95 #[ratV x] w (ValPost (.string (ratS x)) w) := by
  have hx : max ((decS x.num.natAbs).size : Int) ((decS x.den).size : Int) ≤ 400 := by
    rw [decS_size, decS_size]
    have := h.1; have := h.2
    omega
  have f1 := (one_str x.den).1
  have e := ratS_text x
  unfold ratV
  by_cases h1 : x.den = 1
  · rw [if_pos h1] at e
    exact text_int _ _ _ _ w hx (by rw [f1]; simpa using h1) (Lib.hid (by rw [e]; apply ByteArray.ext; apply Array.ext'; rw [cat_list]; simp))
  · rw [if_neg h1] at e
    exact text_frac _ _ _ _ w hx (by rw [f1]; simpa using h1) (Lib.hid e.symm)
theorem text_die (x : Rat) (w : World) (h : ¬ Short x) : Calls Tryz.prog 95 #[ratV x] w (DiePost 2 w) := by
  have hx : 400 < max ((decS x.num.natAbs).size : Int) ((decS x.den).size : Int) := by
    rw [decS_size, decS_size]
    unfold Short at h
    omega
  exact text_long _ _ _ w hx

theorem enters_text : Enters 95 := enters_of Tryz.func95 (by kernel_rfl) rfl
/-- finish at the method value of a number's text. -/
theorem finish_text (x : Rat) (w : World) : Calls Tryz.prog 93 #[.func (.func 95) #[ratV x] #[]] w (ValPost (finV x) w) := by
  by_cases h : Short x
  · rw [finV_ok h]
    exact finish_ret _ enters_text _ _ _ w (text_ok x _ h)
  · rw [finV_long h]
    exact finish_die _ enters_text _ _ _ w (text_die x _ h)
end Go.Proofs.YtkekljjjomnalaaGreatDoor
set_option linter.unusedVariables false
set_option linter.unusedSimpArgs false
namespace Go.Proofs.YtkekljjjomnalaaGreatDoor
open Go.RowKit
open Go.Lib (nDigits decDigits)

theorem ValPost.grow {v : Value} {a b : World} {e : Ending} {w' : World} (hg : a.grownBy b none) (h : ValPost v b e w') : ValPost v a e w' := ⟨h.1, grown_trans hg h.2⟩
theorem finV_form (x : Rat) : ∃ S E, finV x = .tuple #[.string S, .int .i64 E] := by
  rcases finV_cases x with ⟨S, h, _⟩ | ⟨h, _⟩
  · exact ⟨_, _, h⟩
  · exact ⟨_, _, h⟩

set_option maxRecDepth 100000 in
set_option maxHeartbeats 1000000 in
theorem make_bad1 (neg : Bool) (num den : ByteArray) (w : World) (V : Hid (ValOk num false)) :
    Calls Tryz.prog 87 #[.bool neg, .string num, .string den] w (ValPost (.tuple #[.string ⟨#[]⟩, .int .i64 1]) w) := by
  go_enter Tryz.func87, Tryz.ntmps87
  go_wp2_with fail
  refine (V.out _).mono ?_
  rintro e w' ⟨rfl, rfl⟩
  go_wp2
  go_ret2
  exact ⟨rfl, grown_refl _ _⟩
set_option maxRecDepth 100000 in
set_option maxHeartbeats 1000000 in
theorem make_bad2 (neg : Bool) (num den : ByteArray) (w : World) (V : Hid (ValOk num true)) (U : Hid (ValOk den false)) :
    Calls Tryz.prog 87 #[.bool neg, .string num, .string den] w (ValPost (.tuple #[.string ⟨#[]⟩, .int .i64 1]) w) := by
  go_enter Tryz.func87, Tryz.ntmps87
  go_wp2_with fail
  refine (V.out _).mono ?_
  rintro e w' ⟨rfl, rfl⟩
  go_wp2_with fail
  refine (U.out _).mono ?_
  rintro e w' ⟨rfl, rfl⟩
  go_wp2
  go_ret2
  exact ⟨rfl, grown_refl _ _⟩
set_option maxRecDepth 100000 in
set_option maxHeartbeats 1000000 in
theorem make_bad3 (neg : Bool) (num den : ByteArray) (w : World) (V : Hid (ValOk num true)) (U : Hid (ValOk den true)) (f : (den.toList == [48]) = true) :
    Calls Tryz.prog 87 #[.bool neg, .string num, .string den] w (ValPost (.tuple #[.string ⟨#[]⟩, .int .i64 1]) w) := by
  go_enter Tryz.func87, Tryz.ntmps87
  go_wp2_with fail
  refine (V.out _).mono ?_
  rintro e w' ⟨rfl, rfl⟩
  go_wp2_with fail
  refine (U.out _).mono ?_
  rintro e w' ⟨rfl, rfl⟩
  go_wp2
  go_ret2
  exact ⟨rfl, grown_refl _ _⟩
set_option maxRecDepth 100000 in
set_option maxHeartbeats 1000000 in
theorem make_ok (neg : Bool) (num den S : ByteArray) (N : Value) (E : Int) (w : World) (V : Hid (ValOk num true)) (U : Hid (ValOk den true)) (f : (den.toList == [48]) = false)
    (R : Hid (∀ w, Calls Tryz.prog 96 #[.bool neg, .string num, .string den] w (ValPost N w)))
    (F : Hid (∀ w, Calls Tryz.prog 93 #[.func (.func 95) #[N] #[]] w (ValPost (.tuple #[.string S, .int .i64 E]) w))) :
    Calls Tryz.prog 87 #[.bool neg, .string num, .string den] w (ValPost (.tuple #[.string S, .int .i64 E]) w) := by
  have hmf : ∀ (fn : Fn) (first cap : Array Value) (w : World), (Instr.makeFunc fn first cap).run Tryz.prog w = .ok (.func fn first cap) w := fun _ _ _ _ => rfl
  go_enter Tryz.func87, Tryz.ntmps87
  go_wp2_with fail
  refine (V.out _).mono ?_
  rintro e w' ⟨rfl, rfl⟩
  go_wp2_with fail
  refine (U.out _).mono ?_
  rintro e w' ⟨rfl, rfl⟩
  go_wp2_with fail
  refine (R.out _).mono ?_
  rintro e w1 ⟨rfl, hg⟩
  have G1 := Lib.hid hg
  clear hg
  go_wp2_with fail
  refine (F.out _).mono ?_
  rintro e w2 ⟨rfl, hg⟩
  have G2 := Lib.hid (grown_trans G1.out hg)
  clear hg
  go_wp2
  go_ret2
  exact ⟨rfl, G2.out⟩

theorem make_any (neg : Bool) (num den : ByteArray) (w : World) (hn : num.size ≤ maxLen) (hd : den.size ≤ maxLen) :
    Calls Tryz.prog 87 #[.bool neg, .string num, .string den] w (ValPost (makeV neg num den) w) := by
  have va := valOk num hn
  have vb := valOk den hd
  unfold makeV
  cases ha : numB num
  · rw [ha] at va
    exact make_bad1 neg num den w (Lib.hid va)
  cases hb : numB den
  · rw [ha] at va
    rw [hb] at vb
    exact make_bad2 neg num den w (Lib.hid va) (Lib.hid vb)
  rw [ha] at va
  rw [hb] at vb
  have hz := (str_facts den hb).1
  by_cases h0 : nv den = 0
  · rw [h0] at hz ⊢
    exact make_bad3 neg num den w (Lib.hid va) (Lib.hid vb) (by simpa using hz)
  · simp only [h0, Bool.and_self, Bool.true_and, decide_false, Bool.not_false, if_true]
    have hr := fun w => reduce_any neg (nv num) (nv den) w h0 (num_is num ha).2 (num_is den hb).2
    rw [← (num_is num ha).1, ← (num_is den hb).1] at hr
    have hf := fun w => finish_text (mkRat (sg neg (nv num)) (nv den)) w
    obtain ⟨S, E, hE⟩ := finV_form (mkRat (sg neg (nv num)) (nv den))
    rw [hE] at hf ⊢
    exact make_ok neg num den S _ E w (Lib.hid va) (Lib.hid vb) (by rw [hz]; simpa using h0) (Lib.hid hr) (Lib.hid hf)
end Go.Proofs.YtkekljjjomnalaaGreatDoor
set_option linter.unusedVariables false
set_option linter.unusedSimpArgs false
namespace Go.Proofs.YtkekljjjomnalaaGreatDoor
open Go.RowKit
open Go.Lib (nDigits decDigits)

def zeroR : Value := .agg #[.bool false, .string ⟨#[]⟩, .string ⟨#[]⟩]

/-- What the calls of read return, K: is there a stroke? D: the denominator. -/
structure ReadOk (a R M T D c : ByteArray) (N K : Bool) (E : Int) : Prop where
  cp : ∀ w, Calls Tryz.prog 85 #[.string a, .string ⟨#[45]⟩] w fun e w' => e = .returned (.tuple #[.string R, .bool N]) ∧ w = w'
  cut : ∀ w, Calls Tryz.prog 86 #[.string R, .string ⟨#[47]⟩] w (ValPost (.tuple #[.string M, .string T, .bool K]) w)
  made : ∀ w, Calls Tryz.prog 87 #[.bool N, .string M, .string D] w (ValPost (.tuple #[.string c, .int .i64 E]) w)

set_option maxRecDepth 100000 in
set_option maxHeartbeats 2000000 in
theorem read_err (a R M T D c : ByteArray) (N K : Bool) (E : Int) (w : World) (h : Hid (ReadOk a R M T D c N K E)) (hd : (if K then T else ⟨#[49]⟩) = D) (f1 : (E == 0) = false) (f2 : (E != 0) = true) :
    Calls Tryz.prog 66 #[.string a] w (ValPost (.tuple #[zeroR, .bool false]) w) := by
  subst hd
  unfold zeroR
  cases K
  all_goals
    go_enter Tryz.func66, Tryz.ntmps66
    go_wp2_with fail
    refine (h.out.cp _).mono ?_
    rintro e w' ⟨rfl, rfl⟩
    go_wp2_with fail
    refine (h.out.cut _).mono ?_
    rintro e w1 ⟨rfl, hg⟩
    have G1 := Lib.hid hg
    clear hg
    go_wp2_with fail
    refine (h.out.made _).mono ?_
    rintro e w2 ⟨rfl, hg⟩
    have G2 := Lib.hid (grown_trans G1.out hg)
    clear hg
    have hb := alloc_old G2.out
    have hc := trip hb
    have HG := Lib.hid (grown_trans (World.grownBy_alloc _ _ none) G2.out)
    clear hb G1 G2
    go_wp2
    exact bodyPost_ret (v := .tuple #[.agg #[.bool false, .string ⟨#[]⟩, .string ⟨#[]⟩], .bool false]) (by simp [results, Tryz.results66, go_sem, hc]) rfl ⟨rfl, grown3 HG.out (Nat.le_refl _)⟩
set_option maxRecDepth 100000 in
set_option maxHeartbeats 2000000 in
theorem read_other (a R M T D c : ByteArray) (N K : Bool) (w : World) (h : Hid (ReadOk a R M T D c N K 0)) (hd : (if K then T else ⟨#[49]⟩) = D) (f1 : (c.toList == a.toList) = false) (f2 : (c.toList != a.toList) = true) :
    Calls Tryz.prog 66 #[.string a] w (ValPost (.tuple #[zeroR, .bool false]) w) := by
  subst hd
  unfold zeroR
  cases K
  all_goals
    go_enter Tryz.func66, Tryz.ntmps66
    go_wp2_with fail
    refine (h.out.cp _).mono ?_
    rintro e w' ⟨rfl, rfl⟩
    go_wp2_with fail
    refine (h.out.cut _).mono ?_
    rintro e w1 ⟨rfl, hg⟩
    have G1 := Lib.hid hg
    clear hg
    go_wp2_with fail
    refine (h.out.made _).mono ?_
    rintro e w2 ⟨rfl, hg⟩
    have G2 := Lib.hid (grown_trans G1.out hg)
    clear hg
    have hb := alloc_old G2.out
    have hc := trip hb
    have HG := Lib.hid (grown_trans (World.grownBy_alloc _ _ none) G2.out)
    clear hb G1 G2
    go_wp2
    exact bodyPost_ret (v := .tuple #[.agg #[.bool false, .string ⟨#[]⟩, .string ⟨#[]⟩], .bool false]) (by simp [results, Tryz.results66, go_sem, hc]) rfl ⟨rfl, grown3 HG.out (Nat.le_refl _)⟩
set_option maxRecDepth 100000 in
set_option maxHeartbeats 2000000 in
theorem read_same (a R M T D c : ByteArray) (N K : Bool) (w : World) (h : Hid (ReadOk a R M T D c N K 0)) (hd : (if K then T else ⟨#[49]⟩) = D) (f1 : (c.toList == a.toList) = true) :
    Calls Tryz.prog 66 #[.string a] w (ValPost (.tuple #[.agg #[.bool N, .string M, .string D], .bool true]) w) := by
  subst hd
  cases K
  all_goals
    go_enter Tryz.func66, Tryz.ntmps66
    go_wp2_with fail
    refine (h.out.cp _).mono ?_
    rintro e w' ⟨rfl, rfl⟩
    go_wp2_with fail
    refine (h.out.cut _).mono ?_
    rintro e w1 ⟨rfl, hg⟩
    have G1 := Lib.hid hg
    clear hg
    go_wp2_with fail
    refine (h.out.made _).mono ?_
    rintro e w2 ⟨rfl, hg⟩
    have G2 := Lib.hid (grown_trans G1.out hg)
    clear hg
    have hb := alloc_old G2.out
    have hc := trip hb
    have HG := Lib.hid (grown_trans (World.grownBy_alloc _ _ none) G2.out)
    clear hb G1 G2
    go_wp2
    exact bodyPost_ret (v := .tuple #[.agg #[.bool _, .string _, .string _], .bool true]) (by simp [results, Tryz.results66, go_sem, hc]) rfl ⟨rfl, grown3 HG.out (Nat.le_refl _)⟩

theorem read_make (neg : Bool) (num den : ByteArray) : ∃ c E, makeV neg num den = .tuple #[.string c, .int .i64 E] := by
  rcases makeV_cases neg num den with ⟨S, x, h, _⟩ | ⟨E, h, _⟩
  · exact ⟨_, _, h⟩
  · exact ⟨_, _, h⟩
theorem rest_size (a : ByteArray) : (restA a).length ≤ a.size := by
  unfold restA Lib.trimPrefix
  rw [Lib.size_eq]
  split
  · rw [List.length_drop]; omega
  · exact Nat.le_refl _
theorem cut_size (s : List UInt8) : (Lib.cut s [47]).1.length ≤ s.length ∧ (Lib.cut s [47]).2.1.length ≤ s.length := by
  unfold Lib.cut
  split
  · simp only [List.length_take, List.length_drop]; omega
  · simp
theorem list_size (l : List UInt8) : (⟨l.toArray⟩ : ByteArray).size = l.length := List.size_toArray
theorem readOk (a : ByteArray) (ha : a.size ≤ maxLen) (c : ByteArray) (E : Int) (h : makeV (negA a) (numA a) (denA a) = .tuple #[.string c, .int .i64 E]) :
    ReadOk a ⟨(restA a).toArray⟩ (numA a) (tailA a) (denA a) c (negA a) (strokeA a) E := by
  have hr := rest_size a
  have hc := cut_size (restA a)
  have h1 : (numA a).size ≤ maxLen := by unfold numA; rw [list_size]; omega
  have h2 : (denA a).size ≤ maxLen := by
    unfold denA
    split
    · unfold tailA; rw [list_size]; omega
    · decide
  refine ⟨fun w => ?_, fun w => ?_, fun w => ?_⟩
  · exact (Tryz.strings_CutPrefix a ⟨#[45]⟩ w).mono fun e w' ⟨h, k⟩ => ⟨h, k.symm⟩
  · have := cut_any ⟨(restA a).toArray⟩ w (by rw [list_size]; omega)
    exact this
  · rw [← h]; exact make_any _ _ _ w h1 h2

theorem bytes_ne {a c : ByteArray} : (c.toList == a.toList) = decide (c = a) := by
  rw [Bool.eq_iff_iff, decide_eq_true_eq, beq_iff_eq, Lib.toList_data, Lib.toList_data]
  constructor
  · intro h; exact ByteArray.ext (Array.ext' h)
  · rintro rfl; rfl

theorem read_yes {a : ByteArray} {x : Rat} (h : IsRat a x) (w : World) (ha : a.size ≤ maxLen) :
    Calls Tryz.prog 66 #[.string a] w (ValPost (.tuple #[ratV x, .bool true]) w) := by
  obtain ⟨h1, h2, h3, _⟩ := apart a x h.eq
  have := read_same a _ _ _ _ a _ _ w (Lib.hid (readOk a ha a 0 (makeV_rat h))) rfl (by simp)
  unfold ratV
  rw [h1, h2, h3] at this
  exact this
theorem read_no {a : ByteArray} (h : ∀ x, ¬ IsRat a x) (w : World) (ha : a.size ≤ maxLen) :
    Calls Tryz.prog 66 #[.string a] w (ValPost (.tuple #[zeroR, .bool false]) w) := by
  rcases makeV_cases (negA a) (numA a) (denA a) with ⟨S, x, hm, hS⟩ | ⟨E, hm, hE⟩
  · have hne : S ≠ a := fun e => h x (e ▸ hS)
    have f : (S.toList == a.toList) = false := by rw [bytes_ne]; simpa using hne
    exact read_other a _ _ _ _ S _ _ w (Lib.hid (readOk a ha S 0 hm)) rfl f (by rw [bne, f]; rfl)
  · have f : (E == 0) = false := by rcases hE with rfl | rfl <;> decide
    exact read_err a _ _ _ _ _ _ _ E w (Lib.hid (readOk a ha _ E hm)) rfl f (by rw [bne, f]; rfl)
end Go.Proofs.YtkekljjjomnalaaGreatDoor
