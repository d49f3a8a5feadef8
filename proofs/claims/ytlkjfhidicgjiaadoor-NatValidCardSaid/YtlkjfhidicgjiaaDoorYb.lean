/- The reference's text, Small: rows of digits, the lowest one first. -/
import Derived.Test.YtlkjfhidicgjiaaDoorYa
import Derived.Maps.AppendAt
set_option linter.unusedVariables false
set_option linter.unusedSimpArgs false
namespace Go.Proofs.YtlkjfhidicgjiaaDoor
open Go.RowKit
open Go.Lib (nDigits decDigits)

theorem info_byte : (Tryd.prog.info? 5).map (fun i => (i.zero, i.size, i.bytes)) = some (some (.int .u8 0), 1, 1) := by kernel_rfl
theorem info_int : (Tryd.prog.info? 3).map (fun i => (i.zero, i.size, i.bytes)) = some (some (.int .i64 0), 1, 8) := by kernel_rfl
/-- string(b), b a row of bytes of the call's own. -/
theorem conv_row {w : World} {base : Nat} {v : Value} {l : List UInt8} (h : w.ownsRow base 5 1 v l.length (Lib.byteCells l)) :
    (convert 54 9 v).run Tryd.prog w = .ok (.string ⟨l.toArray⟩) w := by
  rcases h.2 with ⟨hv, hn⟩ | ⟨g, cap, cur, hv, _⟩
  · have : l = [] := List.length_eq_zero_iff.1 hn
    subst this
    rw [hv]
    have hz : ∀ w : World, (convert 54 9 (.slice none 0 0)).run Tryd.prog w = .ok (.string ⟨#[]⟩) w := fun w => by kernel_rfl
    exact hz w
  · rw [hv] at h ⊢
    refine run_convert_bytes_back w 54 9 5 ⟨g, 0, none⟩ cap l Tryd.underlying54 Tryd.underlying5 Tryd.underlying9 (fun j hj => ?_)
    refine h.cells (g := g) rfl j _ ?_
    unfold Lib.byteCells
    rw [List.getElem?_map, List.getElem?_eq_getElem hj]; rfl
theorem below_new {w wr : World} (h : Below w.heap.size w wr) (o : Obj) {w' : World} {v : Value} (hv : ∀ g, v.ownBlock = some g → w.heap.size ≤ g) (hg : (wr.alloc o).grownBy w' v.ownBlock) : Below w.heap.size w w' :=
  (h.alloc h.size o).grown hg (by have := h.size; simp; omega) hv
theorem one_new (w : World) (u : Value) (t : TypeId) : ∀ j x, [u][j]? = some x → (w.alloc (.cells #[u] t)).cell? ((⟨w.heap.size, 0, none⟩ : Addr).add j) = some x :=
  World.news_of_block (cs := #[u]) (t := t) (fr := (0, 0)) (heap_alloc_new w _)

/-- The value is a slice of these digits. -/
def Digs (w : World) (v : Value) (ds : List Nat) : Prop :=
  (v = .slice none 0 0 ∧ ds = []) ∨ ∃ g cap, v = .slice (some ⟨g, 0, none⟩) ds.length cap ∧ ds ≠ [] ∧ g < w.heap.size ∧ ∀ k, k < ds.length → w.cell? ⟨g, k, none⟩ = some (.int .i64 (ds.getD k 0 : Nat))
def iv (ds : List Nat) : List Value := ds.map fun (d : Nat) => Value.int .i64 (d : Int)
theorem iv_length (ds : List Nat) : (iv ds).length = ds.length := by simp [iv]
theorem addr_add (g k : Nat) : (⟨g, 0, none⟩ : Addr).add k = ⟨g, k, none⟩ := by unfold Addr.add; split <;> simp_all
theorem Digs.of_own {w : World} {base : Nat} {v : Value} {ds : List Nat} (h : w.ownsRow base 3 1 v ds.length (iv ds)) (h0 : ds ≠ []) : Digs w v ds := by
  obtain ⟨g, cap, hv, _, hlt⟩ := h.form (by have := List.length_pos_iff.2 h0; omega)
  refine .inr ⟨g, cap, hv, h0, hlt, fun k hk => ?_⟩
  have := h.cells (g := g) (by rw [hv]; rfl) k (.int .i64 (ds.getD k 0 : Nat)) (by simp [iv, List.getD_eq_getElem?_getD, List.getElem?_eq_getElem hk])
  rw [addr_add] at this
  exact this
theorem Digs.below {w w' : World} {v : Value} {ds : List Nat} (h : Digs w v ds) (hb : Below w.heap.size w w') : Digs w' v ds := by
  rcases h with h | ⟨g, cap, hv, h0, hg, hc⟩
  · exact .inl h
  · exact .inr ⟨g, cap, hv, h0, by have := hb.size; omega, fun k hk => (hb.cell (by exact hg)).trans (hc k hk)⟩

def chars (ds : List Nat) : List UInt8 := ds.reverse.map fun d => UInt8.ofNat (48 + d)
theorem chars_dec : ∀ (ds : List Nat), ds ≠ [] → (∀ d ∈ ds, d < 10) → (ds.length = 1 ∨ ds.getD (ds.length - 1) 0 ≠ 0) → chars ds = decDigits (vl 10 ds)
  | [], h, _, _ => absurd rfl h
  | [d], _, hd, _ => by
    have := hd d (by simp)
    rw [vl_one, Lib.decDigits_one this]
    simp [chars]
  | d :: e :: r, _, hd, ht => by
    have ih := chars_dec (e :: r) (by simp) (fun x hx => hd x (List.mem_cons_of_mem _ hx)) (by
      right
      rcases ht with ht | ht
      · simp at ht
      · simpa using ht)
    have h1 := hd d (by simp)
    have e1 : vl 10 (d :: e :: r) = d + 10 * vl 10 (e :: r) := by rw [show d :: e :: r = [d] ++ (e :: r) from rfl, vl_append, vl_one]; simp
    have hpos : vl 10 (e :: r) ≠ 0 := by
      intro e0
      rw [e0, Lib.decDigits_one (by decide)] at ih
      have hlen := congrArg List.length ih
      simp [chars] at hlen
      subst hlen
      simp at ht
      rw [vl_one] at e0
      exact ht e0
    have e2 : chars (d :: e :: r) = chars (e :: r) ++ [UInt8.ofNat (48 + d)] := by simp [chars]
    rw [e2, ih, e1]
    conv => rhs; rw [decDigits, dif_neg (by omega)]
    rw [show (d + 10 * vl 10 (e :: r)) / 10 = vl 10 (e :: r) by omega, show (d + 10 * vl 10 (e :: r)) % 10 = d by omega]
theorem chars_step (ds : List Nat) (j : Nat) (h : j < ds.length) : chars (ds.drop (j + 1)) ++ [UInt8.ofNat (48 + ds.getD j 0)] = chars (ds.drop j) := by
  rw [List.drop_eq_getElem_cons h, List.getD_eq_getElem?_getD, List.getElem?_eq_getElem h]
  unfold chars
  rw [List.reverse_cons, List.map_append]
  rfl
theorem char_cell (d : Nat) (h : d < 10) : Lib.byteCells [UInt8.ofNat (48 + d)] = [Value.int .u8 (48 + (d : Int))] := by
  unfold Lib.byteCells
  simp
  omega

set_option maxRecDepth 100000 in
set_option maxHeartbeats 2000000 in
theorem text_any (v : Value) (ds : List Nat) (w : World) (hv : Digs w v ds) (hd : ∀ d ∈ ds, d < 10) (hn : ds.length ≤ 1000000) :
    Calls Tryd.prog 31 #[v] w fun e w' => e = .returned (.string (decS (vl 10 ds))) ∧ Below w.heap.size w w' := by
  rcases hv with ⟨rfl, rfl⟩ | ⟨g, cap, rfl, h0, hg, hc⟩
  · have hz : decS (vl 10 []) = ⟨#[48]⟩ := by decide +kernel
    rw [hz]
    clear hz hd hn
    go_enter Tryd.func31, Tryd.ntmps31
    go_wp2
    go_loop [3] (fun n => n = .int .i64 0) (fun _ => 0)
    case atStart => rfl
    case round =>
      subst hrel
      go_wp2
      go_loop [4, 5] (fun b n => b = .slice none 0 0 ∧ n = .int .i64 (-1)) (fun _ _ => 0)
      case atStart => exact ⟨rfl, rfl⟩
      case round =>
        obtain ⟨rfl, rfl⟩ := hrel
        go_wp2
        go_ret
        exact ⟨rfl, Below.refl _ _⟩
  obtain ⟨i0, hi, hz0, hz1, hz2⟩ := info_parts info_byte
  have HC := Lib.hid hc
  have hpos := List.length_pos_iff.2 h0
  have HD := Lib.hid hd
  clear hc hd h0
  go_enter Tryd.func31, Tryd.ntmps31
  go_wp2
  go_loop [3] (fun n => ∃ m : Nat, n = .int .i64 m ∧ 1 ≤ m ∧ m ≤ ds.length ∧ vl 10 (ds.take m) = vl 10 ds) (fun n => (intOf n).toNat)
  case atStart => exact ⟨ds.length, rfl, by omega, Nat.le_refl _, by rw [List.take_length]⟩
  case round =>
    obtain ⟨m, rfl, h1, h2, hv⟩ := hrel
    have HV := Lib.hid hv
    clear hv
    by_cases hm : (1 : Int) < (m : Int)
    · obtain ⟨k, hk⟩ : ∃ k, m = k + 1 := ⟨m - 1, by omega⟩
      have HK := Lib.hid hk
      have hw : IntKind.i64.wrap ((m : Int) - 1) = (k : Int) := by
        rw [show (m : Int) - 1 = (k : Int) by omega]
        exact IntWalk.i64_in _ ⟨by omega, by omega⟩
      have hcell := HC.out k (by omega)
      have hk1 : (0 : Int) ≤ (k : Int) := by omega
      have hk2 : (k : Int) < (ds.length : Int) := by omega
      clear hk
      by_cases hz : ds.getD k 0 = 0
      · rw [hz] at hcell
        have HZ := Lib.hid hz
        clear hz
        go_wp2
        go_round
        case rel =>
          have hk := HK.out
          exact ⟨k, by go_num, by omega, by omega, by
            have e := vl_take_succ 10 ds k
            rw [HZ.out, Nat.mul_zero, ← hk] at e
            have := HV.out
            omega⟩
        case measure => have hk := HK.out; simp [intOf]; omega
      · have KEY := Lib.hid (show m = 1 ∨ ds.getD (m - 1) 0 ≠ 0 from .inr (by rw [HK.out]; exact hz))
        generalize hx : ds.getD k 0 = x at *
        have f1 : ((x : Int) == 0) = false := by simp; omega
        clear hx hz
        go_wp2
        go_loopw [4, 5] (fun b i wr => ∃ (j : Nat) (z : Int) (acc : List UInt8), i = .int .i64 z ∧ z = (j : Int) - 1 ∧ j ≤ m ∧ acc = chars ((ds.take m).drop j) ∧ wr.ownsRow w.heap.size 5 1 b acc.length (Lib.byteCells acc) ∧ Below w.heap.size w wr) (fun _ i _ => (intOf i + 1).toNat)
        case atStart => exact ⟨m, _, [], rfl, by have := HK.out; omega, Nat.le_refl _, by rw [List.drop_of_length_le (by rw [List.length_take]; omega)]; rfl, World.ownsRow_nil _ _ _ _, Below.refl _ _⟩
        case round =>
          obtain ⟨j, z, acc, rfl, hzj, hj, hacc, hown, hb⟩ := hrel
          have hal : acc.length = m - j := by rw [hacc]; simp [chars]; omega
          have HACC := Lib.hid hacc
          clear hacc
          by_cases hj0 : j = 0
          · subst hj0
            obtain rfl : z = -1 := by omega
            have HFIN := Lib.hid (show decS (vl 10 ds) = ⟨acc.toArray⟩ by
              rw [HACC.out, List.drop_zero, chars_dec _ (by intro e; have h3 := congrArg List.length e; rw [List.length_take] at h3; simp only [List.length_nil] at h3; omega) (fun d hd => HD.out d (List.mem_of_mem_take hd)) (by
                rw [List.length_take, Nat.min_eq_left (by omega)]
                rcases KEY.out with h | h
                · exact .inl h
                · right
                  rw [List.getD_eq_getElem?_getD, List.getElem?_take, if_pos (by omega), ← List.getD_eq_getElem?_getD]
                  exact h), HV.out]; rfl)
            have hcv := conv_row hown
            obtain ⟨g', cap', rfl, _, _⟩ := hown.form (by omega)
            have hne : ((acc.length : Int) == 0) = false := by rw [beq_eq_false_iff_ne]; omega
            have HB := Lib.hid hb
            clear hown hb hal hzj
            go_wp2
            go_ret
            exact ⟨by rw [HFIN.out]; rfl, HB.out⟩
          · obtain ⟨q, rfl⟩ : ∃ q, j = q + 1 := ⟨j - 1, by omega⟩
            obtain rfl : z = (q : Int) := by omega
            have hcell := (hb.cell (p := ⟨g, q, none⟩) hg).trans (HC.out q (by omega))
            have hdq := HD.out (ds.getD q 0) (by rw [List.getD_eq_getElem?_getD, List.getElem?_eq_getElem (by omega)]; exact List.getElem_mem _)
            have HST := Lib.hid (chars_step (ds.take m) q (by rw [List.length_take]; omega))
            have HDQ := Lib.hid (show (ds.take m).getD q 0 = ds.getD q 0 by rw [List.getD_eq_getElem?_getD, List.getElem?_take, if_pos (by omega), ← List.getD_eq_getElem?_getD])
            generalize ds.getD q 0 = d at *
            have HCC := Lib.hid (char_cell d hdq)
            have hd0 : (0 : Int) ≤ (d : Int) := by omega
            have hd1 : (d : Int) < 10 := by omega
            have hq1 : (0 : Int) ≤ (q : Int) := by omega
            have hq2 : (q : Int) < (ds.length : Int) := by omega
            have hb1 : acc.length + 1 ≤ 1000000 := by omega
            clear hzj hj0 hal
            go_wp2_with (at_builtin; refine wpList_append_own _ rfl _ _ 54 rfl w.heap.size 5 i0 (.int .u8 0) 1 1 Tryd.underlying54 hi hz0 hz1 hz2 rfl (by decide) _ _ _ rfl (hown.alloc _) ⟨wr.heap.size, 0, none⟩ 1 1 [.int .u8 (48 + (d : Int))] rfl rfl ?c1 ?c2 ?c3 ?c4 ?c5 ?_)
            case c1 => exact one_new _ _ _
            case c2 => intro u hu; simp at hu; subst hu; rfl
            case c3 => unfold maxLen; omega
            case c4 => omega
            case c5 => simp; have := hb.size; omega
            intro v' w1 hown' hgrow _
            have HB := Lib.hid (below_new hb _ (fun g e => (hown.lt g e).1) hgrow)
            have HO := Lib.hid hown'
            clear hown hown' hgrow hcell
            go_wp2
            go_roundw
            case rel => exact ⟨q, (q : Int) - 1, acc ++ [UInt8.ofNat (48 + d)], by go_num, rfl, by omega, by rw [HACC.out, ← HST.out, HDQ.out], by
              rw [List.length_append, Lib.byteCells_append, HCC.out]; exact HO.out, HB.out⟩
            case measure => simp [intOf]

    · have HM := Lib.hid (show m = 1 by omega)
      have KEY := Lib.hid (show m = 1 ∨ ds.getD (m - 1) 0 ≠ 0 from .inl HM.out)
      have hw : IntKind.i64.wrap ((m : Int) - 1) = 0 := by
        rw [show (m : Int) - 1 = 0 by have := HM.out; omega]
        exact IntWalk.i64_in _ ⟨by omega, by omega⟩
      go_wp2
      go_loopw [4, 5] (fun b i wr => ∃ (j : Nat) (z : Int) (acc : List UInt8), i = .int .i64 z ∧ z = (j : Int) - 1 ∧ j ≤ m ∧ acc = chars ((ds.take m).drop j) ∧ wr.ownsRow w.heap.size 5 1 b acc.length (Lib.byteCells acc) ∧ Below w.heap.size w wr) (fun _ i _ => (intOf i + 1).toNat)
      case atStart => exact ⟨m, _, [], rfl, by have := HM.out; omega, Nat.le_refl _, by rw [List.drop_of_length_le (by rw [List.length_take]; omega)]; rfl, World.ownsRow_nil _ _ _ _, Below.refl _ _⟩
      case round =>
        obtain ⟨j, z, acc, rfl, hzj, hj, hacc, hown, hb⟩ := hrel
        have hal : acc.length = m - j := by rw [hacc]; simp [chars]; omega
        have HACC := Lib.hid hacc
        clear hacc
        by_cases hj0 : j = 0
        · subst hj0
          obtain rfl : z = -1 := by omega
          have HFIN := Lib.hid (show decS (vl 10 ds) = ⟨acc.toArray⟩ by
            rw [HACC.out, List.drop_zero, chars_dec _ (by intro e; have h3 := congrArg List.length e; rw [List.length_take] at h3; simp only [List.length_nil] at h3; omega) (fun d hd => HD.out d (List.mem_of_mem_take hd)) (by
              rw [List.length_take, Nat.min_eq_left (by omega)]
              rcases KEY.out with h | h
              · exact .inl h
              · right
                rw [List.getD_eq_getElem?_getD, List.getElem?_take, if_pos (by omega), ← List.getD_eq_getElem?_getD]
                exact h), HV.out]; rfl)
          have hcv := conv_row hown
          obtain ⟨g', cap', rfl, _, _⟩ := hown.form (by omega)
          have hne : ((acc.length : Int) == 0) = false := by rw [beq_eq_false_iff_ne]; omega
          have HB := Lib.hid hb
          clear hown hb hal hzj
          go_wp2
          go_ret
          exact ⟨by rw [HFIN.out]; rfl, HB.out⟩
        · obtain ⟨q, rfl⟩ : ∃ q, j = q + 1 := ⟨j - 1, by omega⟩
          obtain rfl : z = (q : Int) := by omega
          have hcell := (hb.cell (p := ⟨g, q, none⟩) hg).trans (HC.out q (by omega))
          have hdq := HD.out (ds.getD q 0) (by rw [List.getD_eq_getElem?_getD, List.getElem?_eq_getElem (by omega)]; exact List.getElem_mem _)
          have HST := Lib.hid (chars_step (ds.take m) q (by rw [List.length_take]; omega))
          have HDQ := Lib.hid (show (ds.take m).getD q 0 = ds.getD q 0 by rw [List.getD_eq_getElem?_getD, List.getElem?_take, if_pos (by omega), ← List.getD_eq_getElem?_getD])
          generalize ds.getD q 0 = d at *
          have HCC := Lib.hid (char_cell d hdq)
          have hd0 : (0 : Int) ≤ (d : Int) := by omega
          have hd1 : (d : Int) < 10 := by omega
          have hq1 : (0 : Int) ≤ (q : Int) := by omega
          have hq2 : (q : Int) < (ds.length : Int) := by omega
          have hb1 : acc.length + 1 ≤ 1000000 := by omega
          clear hzj hj0 hal
          go_wp2_with (at_builtin; refine wpList_append_own _ rfl _ _ 54 rfl w.heap.size 5 i0 (.int .u8 0) 1 1 Tryd.underlying54 hi hz0 hz1 hz2 rfl (by decide) _ _ _ rfl (hown.alloc _) ⟨wr.heap.size, 0, none⟩ 1 1 [.int .u8 (48 + (d : Int))] rfl rfl ?c1 ?c2 ?c3 ?c4 ?c5 ?_)
          case c1 => exact one_new _ _ _
          case c2 => intro u hu; simp at hu; subst hu; rfl
          case c3 => unfold maxLen; omega
          case c4 => omega
          case c5 => simp; have := hb.size; omega
          intro v' w1 hown' hgrow _
          have HB := Lib.hid (below_new hb _ (fun g e => (hown.lt g e).1) hgrow)
          have HO := Lib.hid hown'
          clear hown hown' hgrow hcell
          go_wp2
          go_roundw
          case rel => exact ⟨q, (q : Int) - 1, acc ++ [UInt8.ofNat (48 + d)], by go_num, rfl, by omega, by rw [HACC.out, ← HST.out, HDQ.out], by
            rw [List.length_append, Lib.byteCells_append, HCC.out]; exact HO.out, HB.out⟩
          case measure => simp [intOf]

end Go.Proofs.YtlkjfhidicgjiaaDoor
