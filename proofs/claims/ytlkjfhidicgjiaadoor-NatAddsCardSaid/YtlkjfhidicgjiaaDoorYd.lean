/- The reference's digits, at, limited. -/
import Derived.Test.YtlkjfhidicgjiaaDoorYc
set_option linter.unusedVariables false
set_option linter.unusedSimpArgs false
namespace Go.Proofs.YtlkjfhidicgjiaaDoor
open Go.RowKit
open Go.Lib (nDigits decDigits)

def dgs (l : List UInt8) : List Nat := l.reverse.map fun c => c.toNat - 48
def dg10 (a : ByteArray) : List Nat := dgs a.data.toList
theorem dgs_cons (c : UInt8) (l : List UInt8) : dgs (c :: l) = dgs l ++ [c.toNat - 48] := by simp [dgs]
theorem dgs_val (l : List UInt8) : vl 10 (dgs l) = dval l := by
  induction h : l.length generalizing l with
  | zero => rw [List.length_eq_zero_iff.1 h]; rfl
  | succ n ih =>
    obtain ⟨l', c, rfl⟩ : ∃ l' c, l = l' ++ [c] := ⟨l.dropLast, l.getLast (by intro e; rw [e] at h; simp at h), (List.dropLast_concat_getLast _).symm⟩
    have := ih l' (by simp at h; exact h)
    rw [dval_snoc, ← this, show dgs (l' ++ [c]) = [c.toNat - 48] ++ dgs l' by simp [dgs], vl_append, vl_one]
    simp
    omega
theorem dg10_val (a : ByteArray) : vl 10 (dg10 a) = nv a := dgs_val _
theorem dg10_len (a : ByteArray) : (dg10 a).length = a.size := by simp [dg10, dgs]
theorem dg10_lt (a : ByteArray) (h : numB a = true) : ∀ d ∈ dg10 a, d < 10 := by
  intro d hd
  unfold dg10 dgs at hd
  obtain ⟨c, hc, rfl⟩ := List.mem_map.1 hd
  rw [List.mem_reverse] at hc
  unfold numB numL at h
  simp only [Bool.and_eq_true, List.all_eq_true] at h
  have := h.1.2 c hc
  unfold isDg at this
  simp at this
  omega
theorem dgs_step (a : ByteArray) (j : Nat) (h : j < a.size) : dgs (a.data.toList.drop (j + 1)) ++ [a[j].toNat - 48] = dgs (a.data.toList.drop j) := by
  conv => rhs; rw [List.drop_eq_getElem_cons (show j < a.data.toList.length by simpa using h), dgs_cons]
  rfl

/-- The value is a slice of these digits, not nil. -/
def Row10 (w : World) (v : Value) (ds : List Nat) : Prop := Digs w v ds ∧ ds ≠ []
theorem Row10.form {w : World} {v : Value} {ds : List Nat} (h : Row10 w v ds) : ∃ g cap, v = .slice (some ⟨g, 0, none⟩) ds.length cap := by
  rcases h.1 with ⟨_, h0⟩ | ⟨g, cap, hv, _⟩
  · exact absurd h0 h.2
  · exact ⟨g, cap, hv⟩
theorem Row10.below {w w' : World} {v : Value} {ds : List Nat} (h : Row10 w v ds) (hb : Below w.heap.size w w') : Row10 w' v ds := ⟨h.1.below hb, h.2⟩

set_option maxRecDepth 100000 in
set_option maxHeartbeats 2000000 in
theorem digits_any (a : ByteArray) (w : World) (na : numB a = true) :
    Calls Tryd.prog 39 #[.string a] w fun e w' => ∃ v, e = .returned v ∧ Row10 w' v (dg10 a) ∧ Below w.heap.size w w' := by
  obtain ⟨i0, hi, hz0, hz1, hz2⟩ := info_parts info_int
  have hsz := num_size a na
  have HDG := Lib.hid (num_dig a na)
  clear na
  have hw : IntKind.i64.wrap ((a.size : Int) - 1) = (a.size : Int) - 1 := IntWalk.i64_in _ ⟨by omega, by omega⟩
  go_enter Tryd.func39, Tryd.ntmps39
  go_wp2
  go_loopw [3, 4] (fun b i wr => ∃ (j : Nat) (z : Int) (acc : List Nat), i = .int .i64 z ∧ z = (j : Int) - 1 ∧ j ≤ a.size ∧ acc = dgs (a.data.toList.drop j) ∧ wr.ownsRow w.heap.size 3 1 b acc.length (iv acc) ∧ Below w.heap.size w wr) (fun _ i _ => (intOf i + 1).toNat)
  case atStart => exact ⟨a.size, _, [], rfl, rfl, Nat.le_refl _, by rw [List.drop_of_length_le (by simp)]; rfl, World.ownsRow_nil _ _ _ _, Below.refl _ _⟩
  case round =>
    obtain ⟨j, z, acc, rfl, hzj, hj, hacc, hown, hb⟩ := hrel
    have hal : acc.length = a.size - j := by rw [hacc]; simp [dgs]
    have HACC := Lib.hid hacc
    clear hacc
    by_cases hj0 : j = 0
    · subst hj0
      obtain rfl : z = -1 := by omega
      have hne : acc ≠ [] := by intro e; rw [e] at hal; simp at hal; omega
      have HR := Lib.hid (show Row10 wr u3 acc from ⟨Digs.of_own hown hne, hne⟩)
      have HB := Lib.hid hb
      clear hown hb hal hne hzj
      go_wp2
      go_ret
      refine ⟨_, rfl, ?_, HB.out⟩
      have e : acc = dg10 a := by rw [HACC.out, List.drop_zero]; rfl
      rw [← e]
      exact HR.out
    · obtain ⟨q, rfl⟩ : ∃ q, j = q + 1 := ⟨j - 1, by omega⟩
      obtain rfl : z = (q : Int) := by omega
      have hqa : q < a.size := by omega
      have hdq := HDG.out q hqa
      have HST := Lib.hid (dgs_step a q hqa)
      have HE := Lib.hid (show (a[q].toNat : Int) - 48 = ((a[q].toNat - 48 : Nat) : Int) by omega)
      have hd0 : (48 : Int) ≤ (a[q].toNat : Int) := by omega
      have hd1 : (a[q].toNat : Int) ≤ 57 := by omega
      have hq1 : (0 : Int) ≤ (q : Int) := by omega
      have hq2 : (q : Int) < (a.size : Int) := by omega
      have hb1 : acc.length + 1 ≤ 1000000 := by omega
      clear hzj hj0 hal
      go_wp2_with (at_builtin; refine wpList_append_own _ rfl _ _ 38 rfl w.heap.size 3 i0 (.int .i64 0) 1 8 Tryd.underlying38 hi hz0 hz1 hz2 rfl (by decide) _ _ _ rfl (hown.alloc _) ⟨wr.heap.size, 0, none⟩ 1 1 [.int .i64 ((a[q].toNat : Int) - 48)] rfl rfl ?c1 ?c2 ?c3 ?c4 ?c5 ?_)
      case c1 => exact one_new _ _ _
      case c2 => intro u hu; simp at hu; subst hu; rfl
      case c3 => unfold maxLen; omega
      case c4 => omega
      case c5 => simp; have := hb.size; omega
      intro v' w1 hown' hgrow _
      have HB := Lib.hid (below_new hb _ (fun g e => (hown.lt g e).1) hgrow)
      have HO := Lib.hid hown'
      clear hown hown' hgrow hd0 hd1
      go_wp2
      go_roundw
      case rel => exact ⟨q, (q : Int) - 1, acc ++ [a[q].toNat - 48], by go_num, rfl, by omega, by rw [HACC.out, ← HST.out], by
        rw [List.length_append, iv_append, iv_one, ← HE.out]; exact HO.out, HB.out⟩
      case measure => simp [intOf]

theorem at_any (v : Value) (ds : List Nat) (i : Nat) (w : World) (hv : Row10 w v ds) (hn : ds.length ≤ 1000000) :
    Calls Tryd.prog 40 #[v, .int .i64 i] w fun e w' => e = .returned (.int .i64 (ds.getD i 0 : Nat)) ∧ w = w' := by
  rcases hv.1 with ⟨_, h0⟩ | ⟨g, cap, rfl, _, hg, hc⟩
  · exact absurd h0 hv.2
  by_cases h : (i : Int) < (ds.length : Int)
  · have hcell := hc i (by omega)
    generalize ds.getD i 0 = x at *
    have hi0 : (0 : Int) ≤ (i : Int) := by omega
    clear hc hv
    go_enter Tryd.func40, Tryd.ntmps40
    go_wp2
    go_ret
    exact ⟨rfl, rfl⟩
  · have e : ds.getD i 0 = 0 := by rw [List.getD_eq_getElem?_getD, List.getElem?_eq_none (by omega)]; rfl
    rw [e]
    clear hc hv e
    go_enter Tryd.func40, Tryd.ntmps40
    go_wp2
    go_ret
    exact ⟨rfl, rfl⟩

theorem limited_any (n : Nat) (w : World) (hn : nDigits n ≤ 1000000) :
    Calls Tryd.prog 41 #[.string (decS n)] w fun e w' => e = .returned (limV n) ∧ w = w' := by
  have hs : (decS n).size = nDigits n := by unfold decS; simp [ByteArray.size, Lib.decDigits_length]
  by_cases h : nDigits n ≤ 1000
  · have HV := Lib.hid (show limV n = .tuple #[.string (decS n), .int .i64 0] by unfold limV; rw [if_pos h])
    generalize decS n = S at *
    have h1 : ¬ (1000 : Int) < (S.size : Int) := by omega
    clear hs h
    go_enter Tryd.func41, Tryd.ntmps41
    go_wp2
    go_ret2
    exact ⟨by rw [HV.out]; rfl, rfl⟩
  · have HV := Lib.hid (show limV n = .tuple #[.string ⟨#[]⟩, .int .i64 2] by unfold limV; rw [if_neg h])
    generalize decS n = S at *
    have h1 : (1000 : Int) < (S.size : Int) := by omega
    clear hs h
    go_enter Tryd.func41, Tryd.ntmps41
    go_wp2
    go_ret2
    exact ⟨by rw [HV.out]; rfl, rfl⟩
end Go.Proofs.YtlkjfhidicgjiaaDoor
