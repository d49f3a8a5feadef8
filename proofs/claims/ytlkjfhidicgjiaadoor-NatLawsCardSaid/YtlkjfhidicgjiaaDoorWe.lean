/- write. -/
import Derived.Test.YtlkjfhidicgjiaaDoorWd
import Derived.Test.YtlkjfhidicgjiaaDoorSh
set_option linter.unusedVariables false
set_option linter.unusedSimpArgs false
namespace Go.Proofs.YtlkjfhidicgjiaaDoor
open Go.RowKit
open Go.Lib (dg decDigits nDigits)

def ub (l : List UInt8) : List Value := l.map fun b => Value.int .u8 (b.toNat : Int)
theorem ub_length (l : List UInt8) : (ub l).length = l.length := by simp [ub]
theorem ub_get (l : List UInt8) (k : Nat) (h : k < l.length) : (ub l)[k]? = some (.int .u8 (l[k].toNat : Int)) := by
  unfold ub
  rw [List.getElem?_map, List.getElem?_eq_getElem h]; rfl
/-- The block g holds these bytes. -/
def Bytes (w : World) (g : Nat) (l : List UInt8) : Prop := w.heap[g]? = some (.cells (ub l).toArray 5 (0, 0))
theorem Bytes.cell {w : World} {g : Nat} {l : List UInt8} (h : Bytes w g l) (k : Nat) (hk : k < l.length) : w.cell? ⟨g, k, none⟩ = some (.int .u8 (l[k].toNat : Int)) := by
  rw [cell_row h, ← ub_get l k hk]; simp
theorem Bytes.free {w : World} {g : Nat} {l : List UInt8} (h : Bytes w g l) (k : Nat) : w.frozen? ⟨g, k, none⟩ = false := frozen_of_row w g k _ _ h
theorem Bytes.set {w : World} {g : Nat} {l : List UInt8} (h : Bytes w g l) (k : Nat) (u : UInt8) : Bytes (w.setCell ⟨g, k, none⟩ (.int .u8 (u.toNat : Int))) g (l.set k u) := by
  unfold Bytes
  rw [heap_setCell_same w g k _ _ _ h]
  simp [ub, List.map_set]
theorem Bytes.conv {w : World} {g cap : Nat} {l : List UInt8} (h : Bytes w g l) :
    (convert 54 9 (.slice (some ⟨g, 0, none⟩) l.length cap)).run Tryd.prog w = .ok (.string ⟨l.toArray⟩) w := by
  refine run_convert_bytes_back w 54 9 5 ⟨g, 0, none⟩ cap l Tryd.underlying54 Tryd.underlying5 Tryd.underlying9 (fun j hj => ?_)
  have hadd : (⟨g, 0, none⟩ : Addr).add j = ⟨g, j, none⟩ := by unfold Addr.add; split <;> simp_all
  rw [hadd]
  exact h.cell j hj
theorem info_u8 : (Tryd.prog.info? 5).map (fun i => (i.zero, i.size, i.bytes)) = some (some (.int .u8 0), 1, 1) := by kernel_rfl
theorem Bytes.of_full {w : World} {B g n : Nat} (h : w.ownsRow B 5 1 (.slice (some ⟨g, 0, none⟩) n n) n (madeCells #[Value.int .u8 0] n).toList) : Bytes w g (List.replicate n 0) := by
  rcases h.2 with ⟨h', _⟩ | ⟨g', cap', cur, h', hb, hg, _, _, hs, ht⟩
  · simp at h'
  · simp only [Value.slice.injEq, Option.some.injEq, Addr.mk.injEq, and_true, true_and] at h'
    obtain ⟨rfl, rfl⟩ := h'
    rw [List.take_of_length_le (by rw [Array.length_toList, hs]; exact Nat.le_refl _), toList_madeCells_one] at ht
    unfold Bytes
    rw [hg]
    have e : cur = (ub (List.replicate n 0)).toArray := by
      apply Array.toList_inj.1
      rw [ht]
      simp [ub]
    rw [e]

/-- What write's loops keep: the last t places hold V's last t digits. -/
structure WInv (V L t : Nat) (ds : List UInt8) : Prop where
  length : ds.length = L
  le : t ≤ L
  done : ∀ s, s < t → ds[L - 1 - s]? = some (dg V s)
theorem WInv.start (V L : Nat) : WInv V L 0 (List.replicate L 0) := ⟨by simp, Nat.zero_le _, fun s hs => by omega⟩
theorem WInv.step {V L t : Nat} {ds : List UInt8} (h : WInv V L t ds) (ht : t < L) : WInv V L (t + 1) (ds.set (L - 1 - t) (dg V t)) := by
  refine ⟨by rw [List.length_set]; exact h.length, by omega, fun s hs => ?_⟩
  rw [List.getElem?_set]
  by_cases e : s = t
  · subst e; rw [if_pos rfl, if_pos (by rw [h.length]; omega)]
  · rw [if_neg (by omega)]; exact h.done s (by omega)
theorem WInv.fin {V L : Nat} {ds : List UInt8} (h : WInv V L L ds) : ds = pad L V := by
  apply List.ext_getElem?
  intro j
  by_cases hj : j < L
  · have := h.done (L - 1 - j) (by omega)
    rw [show L - 1 - (L - 1 - j) = j by omega] at this
    rw [this]
    unfold pad
    rw [List.getElem?_map, List.getElem?_range hj]
    rfl
  · rw [List.getElem?_eq_none (by rw [h.length]; omega), List.getElem?_eq_none (by rw [pad_length]; omega)]
theorem dg_toNat (V t x : Nat) (h : dg V t = UInt8.ofNat (48 + x % 10)) : ((dg V t).toNat : Int) = 48 + (x : Int) % 10 := by
  rw [h, UInt8.toNat_ofNat']
  omega

def WritePost (n : Nat) (w : World) (e : Ending) (w' : World) : Prop := e = .returned (.string (decS n)) ∧ w.grownBy w' none

theorem blks_read {B : Nat} {w : World} {v : Value} {xs : List Nat} (h : Blks B w v xs) :
    ∃ A cap, v = .slice A xs.length cap ∧ ∀ w' : World, (∀ k, k < w.heap.size → w'.heap[k]? = w.heap[k]?) → ∀ k, k < xs.length → ∃ gy, A = some ⟨gy, 0, none⟩ ∧ w'.cell? ⟨gy, k, none⟩ = some (.int .u64 (xs.getD k 0 : Nat)) := by
  rcases h.form with ⟨rfl, rfl⟩ | ⟨g, cap, cur, rfl, hb, hg, hc, hm, hs, ht⟩
  · exact ⟨none, 0, rfl, fun _ _ k hk => absurd hk (by simp)⟩
  · exact ⟨_, _, rfl, fun w' hw k hk => ⟨g, rfl, by rw [cell_row ((hw g (lt_of_block hg)).trans hg), take_at ht k hk]⟩⟩

set_option maxRecDepth 20000 in
set_option maxHeartbeats 2000000 in
theorem write_any (v : Value) (xs : List Nat) (w : World) (h : Blks 0 w v xs) (hx : ∀ x ∈ xs, x < 1000000000) (hn : xs.length ≤ 10000) :
    Calls Tryd.prog 43 #[v] w (WritePost (vl 1000000000 xs) w) := by
  obtain ⟨i0, hi, hz0, hz1, hz2⟩ := info_parts info_u8
  obtain ⟨A, cap, rfl, hrd⟩ := blks_read h
  have HR := Lib.hid hrd; have HX := Lib.hid hx
  have hdig := fun i j hj => vl_digit xs i j hx hj
  have hten := vl_ten xs hx
  have hgl := fun k => getD_mem_lt 1000000000 (by decide) xs hx k
  obtain ⟨V, hV⟩ : ∃ V, vl 1000000000 xs = V := ⟨_, rfl⟩
  rw [hV] at hten ⊢
  simp only [hV] at hdig
  have HD := Lib.hid hdig; have HT := Lib.hid hten; have HGL := Lib.hid hgl
  clear hrd hx hdig hten hV h hgl
  go_enter Tryd.func43, Tryd.ntmps43
  go_wp2_with (at_make; refine wpList_make_full _ rfl _ _ 54 rfl w.heap.size 5 i0 (.int .u8 0) 1 Tryd.underlying54 hi hz0 hz1 _ _ _ _ (xs.length * 9) rfl rfl ?c0 ?c1 ?c2 ?c3 ?c4 ?_)
  case c0 => omega
  case c1 => omega
  case c2 => rw [hz2]; omega
  case c3 => unfold maxLen; omega
  case c4 => omega
  intro w1 hown hgr
  have hc0 : Bytes w1 w.heap.size (List.replicate (xs.length * 9) 0) := Bytes.of_full hown
  have HG := Lib.hid hgr
  clear hown hgr
  go_wp2
  go_loopw [4, 16] (fun at_ i wr => ∃ (k p : Nat) (ds : List UInt8), i = .int .i64 k ∧ k ≤ xs.length ∧ at_ = .int .i64 p ∧ p + 9 * k = xs.length * 9 ∧ WInv V (xs.length * 9) (9 * k) ds ∧ Bytes wr w.heap.size ds ∧ w.grownBy wr none) (fun _ i _ => xs.length - (intOf i).toNat)
  case atStart => exact ⟨0, xs.length * 9, _, rfl, by omega, by go_num, by omega, WInv.start _ _, hc0, HG.out⟩
  case round =>
    obtain ⟨k, p, ds, rfl, hk, rfl, hp, hinv, hbr, hgr⟩ := hrel
    by_cases hlt : k < xs.length
    · obtain ⟨gy, rfl, hcell⟩ := HR.out wr (fun i hi => hgr.block i hi (by simp)) k hlt
      have hxk := HGL.out k
      have hdk := fun j hj => HD.out k j hj
      generalize xs.getD k 0 = x at *
      have HI := Lib.hid hinv; have HB := Lib.hid hbr; have HGR := Lib.hid hgr; have HDK := Lib.hid hdk; have HP := Lib.hid hp
      clear hinv hbr hgr hdk hc0 hp
      generalize wr = w2 at *
      have hk1 : (k : Int) < (xs.length : Int) := by omega
      go_wp2
      go_loopw [4, 6, 20] (fun at_ re j wr => ∃ (m p r : Nat) (ds : List UInt8), j = .int .i64 m ∧ m ≤ 9 ∧ at_ = .int .i64 p ∧ p + (9 * k + m) = xs.length * 9 ∧ re = .int .u64 r ∧ r = x / 10 ^ m ∧ WInv V (xs.length * 9) (9 * k + m) ds ∧ Bytes wr w.heap.size ds ∧ w.grownBy wr none) (fun _ _ j _ => 9 - (intOf j).toNat)
      case atStart => exact ⟨0, p, x, ds, rfl, by omega, rfl, by have := HP.out; omega, rfl, by simp, by simpa using HI.out, HB.out, HGR.out⟩
      case round =>
        obtain ⟨m, q, r, ds2, rfl, hm, rfl, hq, rfl, hr, hinv, hbr, hgr⟩ := hrel
        by_cases hm9 : m < 9
        · have hlL : 9 * k + m < xs.length * 9 := by omega
          have eq1 : xs.length * 9 - 1 - (9 * k + m) = q - 1 := by omega
          have hst := hinv.step hlL
          have hset := hbr.set (q - 1) (dg V (9 * k + m))
          rw [dg_toNat V (9 * k + m) r (by rw [hr]; exact HDK.out m hm9)] at hset
          rw [eq1] at hst
          have hlen := hinv.length
          obtain ⟨old, hcell2⟩ : ∃ old : Int, wr.cell? ⟨w.heap.size, q - 1, none⟩ = some (.int .u8 old) := ⟨_, hbr.cell (q - 1) (by omega)⟩
          have hfree := hbr.free (q - 1)
          have hr10 : r / 10 = x / 10 ^ (m + 1) := by rw [hr, Nat.pow_succ, Nat.div_div_eq_div_mul]
          have hr9 : r < 1000000000 := by rw [hr]; exact Nat.lt_of_le_of_lt (Nat.div_le_self _ _) hxk
          have hq1 : 1 ≤ q := by omega
          have hq2 : q ≤ xs.length * 9 := by omega
          have HST := Lib.hid hst; have HSET := Lib.hid hset; have HGR2 := Lib.hid hgr; have HQ := Lib.hid hq; have HRE := Lib.hid hr10
          clear hinv hbr hst hset hgr hlen hq hr hr10 eq1
          go_wp2
          go_roundw
          case rel => exact ⟨m + 1, q - 1, r / 10, _, by go_num, by omega, by go_num, by have := HQ.out; omega, by go_num, HRE.out, HST.out, HSET.out, grown_step (g := w.heap.size) HGR2.out (grown_setCell _ ⟨w.heap.size, q - 1, none⟩ _) (Nat.le_refl _)⟩
          case measure => simp [intOf]; omega
        · have e : m = 9 := by omega
          subst e
          have HST := Lib.hid hinv; have HSET := Lib.hid hbr; have HGR2 := Lib.hid hgr; have HQ := Lib.hid hq
          clear hinv hbr hgr hq hr
          go_wp2
          go_roundw
          case rel => exact ⟨k + 1, q, _, by go_num, by omega, rfl, by have := HQ.out; omega, by rw [Nat.mul_add]; exact HST.out, HSET.out, HGR2.out⟩
          case measure => simp [intOf]; omega
    · have e : k = xs.length := by omega
      subst e
      have hds : ds = pad (xs.length * 9) V := by
        rw [show 9 * xs.length = xs.length * 9 by omega] at hinv
        exact hinv.fin
      subst hds
      have hcv := hbr.conv (cap := xs.length * 9)
      rw [pad_length] at hcv
      have htl := fun w => Tryd.strings_TrimLeft_one ⟨(pad (xs.length * 9) V).toArray⟩ 48 (by decide) w
      have est : Lib.trimLeftB (ByteArray.mk (pad (xs.length * 9) V).toArray).data.toList 48 = if V = 0 then [] else decDigits V := pad_strip (xs.length * 9) V (by rw [Nat.mul_comm]; exact HT.out)
      rw [est] at htl
      have HGR := Lib.hid hgr
      clear hinv hbr hgr hp est
      generalize pad (xs.length * 9) V = D at *
      by_cases hz : V = 0
      · subst hz
        rw [if_pos rfl] at htl
        go_wp2_with (go_at_call 55; refine (htl _).mono ?_; rintro e w' ⟨rfl, rfl⟩)
        go_ret
        exact ⟨by rw [show decS 0 = ⟨#[48]⟩ from by unfold decS; rw [Lib.decDigits_one (by decide)]; rfl]; rfl, HGR.out⟩
      · rw [if_neg hz] at htl
        have hne : decDigits V ≠ [] := by intro e; have := Lib.decDigits_length V; rw [e] at this; have h2 := Lib.nDigits_pos V; simp at this; omega
        have htl2 : ∀ w, Calls Tryd.prog 55 #[.string ⟨D.toArray⟩, .string ⟨#[48]⟩] w fun e w' => e = .returned (.string (decS V)) ∧ w' = w := htl
        have hne2 : (decS V).toList.isEmpty = false := by
          rw [Lib.toList_data]
          unfold decS
          cases hd : decDigits V with
          | nil => exact absurd hd hne
          | cons a b => rfl
        clear htl hne
        obtain ⟨S, hS⟩ : ∃ S, decS V = S := ⟨_, rfl⟩
        rw [hS] at hne2
        simp only [hS] at htl2
        have HS := Lib.hid hS
        clear hS
        go_wp2_with (go_at_call 55; refine (htl2 _).mono ?_; rintro e w' ⟨rfl, rfl⟩)
        go_ret
        exact ⟨by rw [HS.out]; rfl, HGR.out⟩
end Go.Proofs.YtlkjfhidicgjiaaDoor
