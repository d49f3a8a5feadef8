/- The reference's Unquote. -/
import Derived.Test.YtpchdggppkenkaaDoorWy
import Derived.Test.YtpchdggppkenkaaDoorWr
import Derived.Test.YtpchdggppkenkaaDoorPq
import Derived.IntWalk
import Derived.Deep.RegionHeld3
import Derived.Deep.AppendLies
set_option linter.unusedVariables false
set_option linter.unusedSimpArgs false
namespace Go.Proofs.YtpchdggppkenkaaDoor
open Go.RowKit

theorem digN_hexV (c : Nat) (h : c < 256) : digN (c : Int) = hexV c := by
  have := hexV_dig ⟨c, h⟩
  simp only at this
  rw [this]
  unfold digN
  by_cases h1 : 48 ≤ c ∧ c ≤ 57
  · rw [if_pos (by omega), if_pos h1]
  · rw [if_neg (by omega), if_neg h1]
    by_cases h2 : 97 ≤ c ∧ c ≤ 102
    · rw [if_pos (by omega), if_pos h2]
    · rw [if_neg (by omega), if_neg h2]
theorem rdig (c : Nat) (h : c < 256) (w : World) :
    Calls Tryd.prog 53 #[.int .u8 c] w fun e w' => e = .returned (.int .i64 (hexV c)) ∧ w = w' := by
  rw [← digN_hexV c h]
  exact rdigit_any c w (by omega) (by omega)

/-- How many ways a round goes. -/
theorem y_ways (s : ByteArray) (i : Nat) :
    (gb s i ≠ 37) ∨ (gb s i = 37 ∧ ¬ i + 3 < s.size ∧ ¬ i + 1 < s.size) ∨
    (gb s i = 37 ∧ ¬ i + 3 < s.size ∧ i + 1 < s.size) ∨ (gb s i = 37 ∧ i + 3 < s.size ∧ gb s (i + 1) ≠ 120) ∨ (gb s i = 37 ∧ i + 3 < s.size ∧ gb s (i + 1) = 120 ∧ hexV (gb s (i + 2)) < 0) ∨
    (gb s i = 37 ∧ i + 3 < s.size ∧ gb s (i + 1) = 120 ∧ 0 ≤ hexV (gb s (i + 2)) ∧ hexV (gb s (i + 3)) < 0) ∨
    (gb s i = 37 ∧ i + 3 < s.size ∧ gb s (i + 1) = 120 ∧ 0 ≤ hexV (gb s (i + 2)) ∧ 0 ≤ hexV (gb s (i + 3))) := by
  omega

def YI (s : ByteArray) (w : World) (x i : Value) (wr : World) : Prop := ∃ (pos f : Nat) (v : Value) (acc : List UInt8), x = v ∧ i = .int .i64 pos ∧ pos ≤ s.size ∧ s.size ≤ pos + f ∧ acc ++ yFrom s f pos = yL s ∧ acc.length ≤ pos ∧ wr.ownsRow w.heap.size 5 1 v acc.length (Lib.byteCells acc) ∧ Below w.heap.size w wr

theorem YI_step (s : ByteArray) (w wr w1 : World) (pos f : Nat) (acc : List UInt8) (v v' : Value) (b : UInt8) (n : Nat) (hp : pos < s.size) (hn : 1 ≤ n) (hpn : pos + n ≤ s.size) (hacc : acc ++ yFrom s f pos = yL s) (hpf : s.size ≤ pos + f) (hal : acc.length ≤ pos) (hy : yStep s pos = (b, n))
    (hb : Below w.heap.size w wr) (o : Obj) (hown : wr.ownsRow w.heap.size 5 1 v acc.length (Lib.byteCells acc)) (hown' : w1.ownsRow w.heap.size 5 1 v' (acc.length + 1) (Lib.byteCells acc ++ [.int .u8 b.toNat])) (hg : (wr.alloc o).grownBy w1 v.ownBlock) (k : Int) (hk : k = ((pos + n : Nat) : Int)) : YI s w v' (.int .i64 k) w1 := by
  subst hk
  obtain ⟨f', rfl⟩ : ∃ f', f = f' + 1 := ⟨f - 1, by omega⟩
  have hsz := hb.size
  have hba := hb.alloc hsz o
  have hown2 := hown.alloc o
  refine ⟨pos + n, f', v', acc ++ [b], rfl, rfl, hpn, by omega, ?_, by simp; omega, ?_, hba.grown hg (by have := hba.size; omega) (fun g e => (hown2.lt g e).1)⟩
  · rw [← hacc, yFrom_step s f' pos hp hy]; simp
  · rw [Lib.byteCells_append, List.length_append]; exact hown'

theorem YI_end (s : ByteArray) (w w1 : World) (pos f : Nat) (acc : List UInt8) (v' : Value) (b : UInt8) (n : Nat) (hp : pos < s.size) (hpn : pos + n ≤ s.size) (hacc : acc ++ yFrom s f pos = yL s) (hpf : s.size ≤ pos + f) (hal : acc.length ≤ pos) (hy : yStep s pos = (b, n))
    (hb : Below w.heap.size w w1) (hown' : w1.ownsRow w.heap.size 5 1 v' (acc.length + 1) (Lib.byteCells acc ++ [.int .u8 b.toNat])) (k : Int) (hk : k = ((pos + n : Nat) : Int)) : YI s w v' (.int .i64 k) w1 := by
  subst hk
  have hn : 1 ≤ n := by
    have h := hy
    unfold yStep at h
    repeat' split at h
    all_goals (simp only [Prod.mk.injEq] at h; omega)
  obtain ⟨f', rfl⟩ : ∃ f', f = f' + 1 := ⟨f - 1, by omega⟩
  refine ⟨pos + n, f', v', acc ++ [b], rfl, rfl, hpn, by omega, ?_, by simp; omega, ?_, hb⟩
  · rw [← hacc, yFrom_step s f' pos hp hy]; simp
  · rw [Lib.byteCells_append, List.length_append]; exact hown'

set_option maxHeartbeats 4000000 in
set_option maxRecDepth 20000 in
theorem runq_any (s : ByteArray) (w : World) (hs : s.size ≤ 1099511627776) :
    Calls Tryd.prog 31 #[.string s] w (UnqPost s w) := by
  by_cases h0 : s.data.toList = [37, 48]
  · have f0 : (s.toList == [37, 48]) = true := by rw [Lib.toList_data]; simpa using h0
    have HU := Lib.hid (unqL_zero s h0)
    clear h0
    go_enter Tryd.func31, Tryd.ntmps31
    go_wp2
    go_ret2
    exact ⟨by rw [HU.out]; rfl, Below.refl _ _⟩
  have f0 : (s.toList == [37, 48]) = false := by rw [Lib.toList_data]; simpa using h0
  have H0 := Lib.hid h0
  clear h0
  obtain ⟨i0, hi, hz0, hz1, hz2⟩ := info_parts info_u8
  go_enter Tryd.func31, Tryd.ntmps31
  go_wp2
  clear f0
  go_loopw [4, 5] (fun x i wr => YI s w x i wr) (fun _ i _ => s.size - (intOf i).toNat)
  case atStart => exact ⟨0, s.size, _, [], rfl, rfl, by omega, by omega, rfl, by simp, World.ownsRow_nil _ _ _ _, Below.refl _ _⟩
  case round =>
    obtain ⟨pos, f, v, acc, hx, rfl, hps, hpf, hacc, hal, hown, hb⟩ := hrel
    replace hx := hx.symm
    subst hx
    have HACC := Lib.hid hacc
    clear hacc
    by_cases hp : pos < s.size
    · have n0 : (pos : Int) < (s.size : Int) := by omega
      have hg0 : (s[pos]'hp).toNat = gb s pos := (gb_pos s pos hp).symm
      have l0 := gb_lt s pos; have l1 := gb_lt s (pos + 1); have l2 := gb_lt s (pos + 2); have l3 := gb_lt s (pos + 3)
      have hsz := hb.size
      have hy1 := yStep_one s pos; have hy2 := yStep_two s pos; have hy4 := yStep_hex s pos
      have hrg2 := hexV_range _ l2; have hrg3 := hexV_range _ l3
      have hw := y_ways s pos
      have hd2 := rdig _ l2; have hd3 := rdig _ l3
      rcases hw with g | ⟨g, g1, g2⟩ | ⟨g, g1, g2⟩ | ⟨g, g1, g2⟩ | ⟨g, g1, g2, g3⟩ | ⟨g, g1, g2, g3, g4⟩ | g
      · have f1 : ((gb s pos : Int) == 37) = false := by simp; omega
        have hy := hy1 (fun h => g h.1) (fun h => g h.1)
        clear hy1 hy2 hy4 hd2 hd3 hrg2 hrg3 l1 l2 l3 g
        have HY := Lib.hid hy; clear hy
        generalize gb s pos = c0 at *
        go_wp2_with (at_builtin; refine wpList_append_own _ rfl _ _ 43 rfl w.heap.size 5 i0 (.int .u8 0) 1 1 Tryd.underlying43 hi hz0 hz1 hz2 rfl (by decide) _ _ _ rfl (hown.alloc _) ⟨wr.heap.size, 0, none⟩ 1 1 [.int .u8 (c0 : Int)] rfl rfl ?c1 ?c2 ?c3 ?c4 ?c5 ?_)
        case c1 => exact cell_one_new _ _ _
        case c2 => intro u hu; simp at hu; subst hu; rfl
        case c3 => unfold maxLen; omega
        case c4 => omega
        case c5 => simp; omega
        intro v' w1 hown' hgrow _
        have eb : (c0 : Int) = ((UInt8.ofNat c0).toNat : Int) := by rw [u8_of c0 l0]
        rw [eb] at hown' hgrow
        have hfin := YI_step s w wr w1 pos f acc _ v' _ 1 hp (by omega) (by omega) HACC.out hpf hal HY.out hb _ hown hown' hgrow
        have HF := Lib.hid hfin
        clear hown hown' hgrow hfin eb
        go_wp2
        go_roundw
        case rel => exact HF.out _ (by go_num)
        case measure => simp [intOf]; omega
      · have f1 : ((gb s pos : Int) == 37) = true := by simp; omega
        have f2 : decide ((pos : Int) + 3 < (s.size : Int)) = false := by simp; omega
        have f3 : decide ((pos : Int) + 1 < (s.size : Int)) = false := by simp; omega
        have hy := hy1 (fun h => g1 h.2.1) (fun h => g2 h.2)
        clear hy1 hy2 hy4 hd2 hd3 hrg2 hrg3 l1 l2 l3 g g1 g2
        have HY := Lib.hid hy; clear hy
        generalize gb s pos = c0 at *
        go_wp2_with (at_builtin; refine wpList_append_own _ rfl _ _ 43 rfl w.heap.size 5 i0 (.int .u8 0) 1 1 Tryd.underlying43 hi hz0 hz1 hz2 rfl (by decide) _ _ _ rfl (hown.alloc _) ⟨wr.heap.size, 0, none⟩ 1 1 [.int .u8 (c0 : Int)] rfl rfl ?c1 ?c2 ?c3 ?c4 ?c5 ?_)
        case c1 => exact cell_one_new _ _ _
        case c2 => intro u hu; simp at hu; subst hu; rfl
        case c3 => unfold maxLen; omega
        case c4 => omega
        case c5 => simp; omega
        intro v' w1 hown' hgrow _
        have eb : (c0 : Int) = ((UInt8.ofNat c0).toNat : Int) := by rw [u8_of c0 l0]
        rw [eb] at hown' hgrow
        have hfin := YI_step s w wr w1 pos f acc _ v' _ 1 hp (by omega) (by omega) HACC.out hpf hal HY.out hb _ hown hown' hgrow
        have HF := Lib.hid hfin
        clear hown hown' hgrow hfin eb
        go_wp2
        go_roundw
        case rel => exact HF.out _ (by go_num)
        case measure => simp [intOf]; omega
      · have f1 : ((gb s pos : Int) == 37) = true := by simp; omega
        have f2 : decide ((pos : Int) + 3 < (s.size : Int)) = false := by simp; omega
        have hg1 : (s[pos + 1]'(g2)).toNat = gb s (pos + 1) := (gb_pos s (pos + 1) (g2)).symm
        have f3 : decide ((pos : Int) + 1 < (s.size : Int)) = true := by simp; omega
        have m1 : (0 : Int) ≤ (pos : Int) + 1 := by omega
        have m2 : ((pos : Int) + 1).toNat = pos + 1 := by omega
        have m3 : pos + 1 < s.size := by omega
        have hy := hy2 (fun h => g1 h.2.1) ⟨g, g2⟩
        clear hy1 hy2 hy4 hd2 hd3 hrg2 hrg3 l2 l3 g g1
        have HY := Lib.hid hy; clear hy
        generalize gb s pos = c0 at *
        generalize gb s (pos + 1) = c1 at *
        go_wp2_with (at_builtin; refine wpList_append_own _ rfl _ _ 43 rfl w.heap.size 5 i0 (.int .u8 0) 1 1 Tryd.underlying43 hi hz0 hz1 hz2 rfl (by decide) _ _ _ rfl (hown.alloc _) ⟨wr.heap.size, 0, none⟩ 1 1 [.int .u8 (c1 : Int)] rfl rfl ?c1 ?c2 ?c3 ?c4 ?c5 ?_)
        case c1 => exact cell_one_new _ _ _
        case c2 => intro u hu; simp at hu; subst hu; rfl
        case c3 => unfold maxLen; omega
        case c4 => omega
        case c5 => simp; omega
        intro v' w1 hown' hgrow _
        have eb : (c1 : Int) = ((UInt8.ofNat c1).toNat : Int) := by rw [u8_of c1 l1]
        rw [eb] at hown' hgrow
        have hfin := YI_step s w wr w1 pos f acc _ v' _ 2 hp (by omega) (by omega) HACC.out hpf hal HY.out hb _ hown hown' hgrow
        have HF := Lib.hid hfin
        clear hown hown' hgrow hfin eb
        go_wp2
        go_roundw
        case rel => exact HF.out _ (by go_num)
        case measure => simp [intOf]; omega
      · have f1 : ((gb s pos : Int) == 37) = true := by simp; omega
        have f2 : decide ((pos : Int) + 3 < (s.size : Int)) = true := by simp; omega
        have f4 : ((gb s (pos + 1) : Int) == 120) = false := by simp; omega
        have hg1 : (s[pos + 1]'(by omega)).toNat = gb s (pos + 1) := (gb_pos s (pos + 1) (by omega)).symm
        have f3 : decide ((pos : Int) + 1 < (s.size : Int)) = true := by simp; omega
        have m1 : (0 : Int) ≤ (pos : Int) + 1 := by omega
        have m2 : ((pos : Int) + 1).toNat = pos + 1 := by omega
        have m3 : pos + 1 < s.size := by omega
        have hy := hy2 (fun h => g2 h.2.2.1) ⟨g, by omega⟩
        clear hy1 hy2 hy4 hd2 hd3 hrg2 hrg3 l2 l3 g g2
        have HY := Lib.hid hy; clear hy
        generalize gb s pos = c0 at *
        generalize gb s (pos + 1) = c1 at *
        go_wp2_with (at_builtin; refine wpList_append_own _ rfl _ _ 43 rfl w.heap.size 5 i0 (.int .u8 0) 1 1 Tryd.underlying43 hi hz0 hz1 hz2 rfl (by decide) _ _ _ rfl (hown.alloc _) ⟨wr.heap.size, 0, none⟩ 1 1 [.int .u8 (c1 : Int)] rfl rfl ?c1 ?c2 ?c3 ?c4 ?c5 ?_)
        case c1 => exact cell_one_new _ _ _
        case c2 => intro u hu; simp at hu; subst hu; rfl
        case c3 => unfold maxLen; omega
        case c4 => omega
        case c5 => simp; omega
        intro v' w1 hown' hgrow _
        have eb : (c1 : Int) = ((UInt8.ofNat c1).toNat : Int) := by rw [u8_of c1 l1]
        rw [eb] at hown' hgrow
        have hfin := YI_step s w wr w1 pos f acc _ v' _ 2 hp (by omega) (by omega) HACC.out hpf hal HY.out hb _ hown hown' hgrow
        have HF := Lib.hid hfin
        clear hown hown' hgrow hfin eb
        go_wp2
        go_roundw
        case rel => exact HF.out _ (by go_num)
        case measure => simp [intOf]; omega
      · have f1 : ((gb s pos : Int) == 37) = true := by simp; omega
        have f2 : decide ((pos : Int) + 3 < (s.size : Int)) = true := by simp; omega
        have f4 : ((gb s (pos + 1) : Int) == 120) = true := by simp; omega
        have f5 : decide (0 ≤ hexV (gb s (pos + 2))) = false := by simp; omega
        have hg1 : (s[pos + 1]'(by omega)).toNat = gb s (pos + 1) := (gb_pos s (pos + 1) (by omega)).symm
        have f3 : decide ((pos : Int) + 1 < (s.size : Int)) = true := by simp; omega
        have m1 : (0 : Int) ≤ (pos : Int) + 1 := by omega
        have m2 : ((pos : Int) + 1).toNat = pos + 1 := by omega
        have m3 : pos + 1 < s.size := by omega
        have hg2 : (s[pos + 2]'(by omega)).toNat = gb s (pos + 2) := (gb_pos s (pos + 2) (by omega)).symm
        have m21 : (0 : Int) ≤ (pos : Int) + 2 := by omega
        have m22 : ((pos : Int) + 2).toNat = pos + 2 := by omega
        have m23 : pos + 2 < s.size := by omega
        have hy := hy2 (fun h => by omega) ⟨g, by omega⟩
        clear hy1 hy2 hy4 hd2 hd3 hrg2 hrg3 l3 g g2 g3
        have HY := Lib.hid hy; clear hy
        generalize gb s pos = c0 at *
        generalize gb s (pos + 1) = c1 at *
        generalize gb s (pos + 2) = c2 at *
        go_wp2_with (first | (go_at_call 53; refine (rdig _ ?_ _).mono ?_; assumption; rintro e w' ⟨rfl, rfl⟩) | (at_builtin; refine wpList_append_own _ rfl _ _ 43 rfl w.heap.size 5 i0 (.int .u8 0) 1 1 Tryd.underlying43 hi hz0 hz1 hz2 rfl (by decide) _ _ _ rfl (hown.alloc _) ⟨wr.heap.size, 0, none⟩ 1 1 [.int .u8 (c1 : Int)] rfl rfl ?c1 ?c2 ?c3 ?c4 ?c5 ?_))
        case c1 => exact cell_one_new _ _ _
        case c2 => intro u hu; simp at hu; subst hu; rfl
        case c3 => unfold maxLen; omega
        case c4 => omega
        case c5 => simp; omega
        intro v' w1 hown' hgrow _
        have eb : (c1 : Int) = ((UInt8.ofNat c1).toNat : Int) := by rw [u8_of c1 l1]
        rw [eb] at hown' hgrow
        have hfin := YI_step s w wr w1 pos f acc _ v' _ 2 hp (by omega) (by omega) HACC.out hpf hal HY.out hb _ hown hown' hgrow
        have HF := Lib.hid hfin
        clear hown hown' hgrow hfin eb
        go_wp2
        go_roundw
        case rel => exact HF.out _ (by go_num)
        case measure => simp [intOf]; omega
      · have f1 : ((gb s pos : Int) == 37) = true := by simp; omega
        have f2 : decide ((pos : Int) + 3 < (s.size : Int)) = true := by simp; omega
        have f4 : ((gb s (pos + 1) : Int) == 120) = true := by simp; omega
        have f5 : decide (0 ≤ hexV (gb s (pos + 2))) = true := by simp; omega
        have f6 : decide (0 ≤ hexV (gb s (pos + 3))) = false := by simp; omega
        have hg1 : (s[pos + 1]'(by omega)).toNat = gb s (pos + 1) := (gb_pos s (pos + 1) (by omega)).symm
        have f3 : decide ((pos : Int) + 1 < (s.size : Int)) = true := by simp; omega
        have m1 : (0 : Int) ≤ (pos : Int) + 1 := by omega
        have m2 : ((pos : Int) + 1).toNat = pos + 1 := by omega
        have m3 : pos + 1 < s.size := by omega
        have hg2 : (s[pos + 2]'(by omega)).toNat = gb s (pos + 2) := (gb_pos s (pos + 2) (by omega)).symm
        have m21 : (0 : Int) ≤ (pos : Int) + 2 := by omega
        have m22 : ((pos : Int) + 2).toNat = pos + 2 := by omega
        have m23 : pos + 2 < s.size := by omega
        have hg3 : (s[pos + 3]'(by omega)).toNat = gb s (pos + 3) := (gb_pos s (pos + 3) (by omega)).symm
        have m31 : (0 : Int) ≤ (pos : Int) + 3 := by omega
        have m32 : ((pos : Int) + 3).toNat = pos + 3 := by omega
        have m33 : pos + 3 < s.size := by omega
        have hy := hy2 (fun h => by omega) ⟨g, by omega⟩
        clear hy1 hy2 hy4 hd2 hd3 hrg2 hrg3 g g2 g3 g4
        have HY := Lib.hid hy; clear hy
        generalize gb s pos = c0 at *
        generalize gb s (pos + 1) = c1 at *
        generalize gb s (pos + 2) = c2 at *
        generalize gb s (pos + 3) = c3 at *
        go_wp2_with (first | (go_at_call 53; refine (rdig _ ?_ _).mono ?_; assumption; rintro e w' ⟨rfl, rfl⟩) | (at_builtin; refine wpList_append_own _ rfl _ _ 43 rfl w.heap.size 5 i0 (.int .u8 0) 1 1 Tryd.underlying43 hi hz0 hz1 hz2 rfl (by decide) _ _ _ rfl (hown.alloc _) ⟨wr.heap.size, 0, none⟩ 1 1 [.int .u8 (c1 : Int)] rfl rfl ?c1 ?c2 ?c3 ?c4 ?c5 ?_))
        case c1 => exact cell_one_new _ _ _
        case c2 => intro u hu; simp at hu; subst hu; rfl
        case c3 => unfold maxLen; omega
        case c4 => omega
        case c5 => simp; omega
        intro v' w1 hown' hgrow _
        have eb : (c1 : Int) = ((UInt8.ofNat c1).toNat : Int) := by rw [u8_of c1 l1]
        rw [eb] at hown' hgrow
        have hfin := YI_step s w wr w1 pos f acc _ v' _ 2 hp (by omega) (by omega) HACC.out hpf hal HY.out hb _ hown hown' hgrow
        have HF := Lib.hid hfin
        clear hown hown' hgrow hfin eb
        go_wp2
        go_roundw
        case rel => exact HF.out _ (by go_num)
        case measure => simp [intOf]; omega
      · obtain ⟨g, g1, g2, g3, g4⟩ := g
        have f1 : ((gb s pos : Int) == 37) = true := by simp; omega
        have f2 : decide ((pos : Int) + 3 < (s.size : Int)) = true := by simp; omega
        have f4 : ((gb s (pos + 1) : Int) == 120) = true := by simp; omega
        have f5 : decide (0 ≤ hexV (gb s (pos + 2))) = true := by simp; omega
        have f6 : decide (0 ≤ hexV (gb s (pos + 3))) = true := by simp; omega
        have hg1 : (s[pos + 1]'(by omega)).toNat = gb s (pos + 1) := (gb_pos s (pos + 1) (by omega)).symm
        have f3 : decide ((pos : Int) + 1 < (s.size : Int)) = true := by simp; omega
        have m1 : (0 : Int) ≤ (pos : Int) + 1 := by omega
        have m2 : ((pos : Int) + 1).toNat = pos + 1 := by omega
        have m3 : pos + 1 < s.size := by omega
        have hg2 : (s[pos + 2]'(by omega)).toNat = gb s (pos + 2) := (gb_pos s (pos + 2) (by omega)).symm
        have m21 : (0 : Int) ≤ (pos : Int) + 2 := by omega
        have m22 : ((pos : Int) + 2).toNat = pos + 2 := by omega
        have m23 : pos + 2 < s.size := by omega
        have hg3 : (s[pos + 3]'(by omega)).toNat = gb s (pos + 3) := (gb_pos s (pos + 3) (by omega)).symm
        have m31 : (0 : Int) ≤ (pos : Int) + 3 := by omega
        have m32 : ((pos : Int) + 3).toNat = pos + 3 := by omega
        have m33 : pos + 3 < s.size := by omega
        have hy := hy4 ⟨g, by omega, g2, g3, g4⟩
        obtain ⟨b, hb0⟩ : ∃ b : Nat, (b : Int) = 16 * hexV (gb s (pos + 2)) + hexV (gb s (pos + 3)) := ⟨(16 * hexV (gb s (pos + 2)) + hexV (gb s (pos + 3))).toNat, by omega⟩
        have hb256 : b < 256 := by omega
        rw [← hb0, Int.toNat_natCast] at hy
        clear hy1 hy2 hy4 hd2 hd3 g g2
        have HY := Lib.hid hy; clear hy
        generalize gb s pos = c0 at *
        generalize gb s (pos + 1) = c1 at *
        generalize gb s (pos + 2) = c2 at *
        generalize gb s (pos + 3) = c3 at *
        go_wp2_with (first | (go_at_call 53; refine (rdig _ ?_ _).mono ?_; assumption; rintro e w' ⟨rfl, rfl⟩))
        have hq2 : IntKind.i64.wrap (16 * hexV c2) = 16 * hexV c2 := IntWalk.i64_in _ (by omega)
        have hq3 : IntKind.i64.wrap (16 * hexV c2 + hexV c3) = b := by rw [hb0]; exact IntWalk.i64_in _ (by omega)
        have hq4 : IntKind.u8.wrap (b : Int) = b := IntWalk.u8_in _ (by omega)
        have HB0 := Lib.hid hb0; clear hb0
        have hqa : IntKind.i64.wrap ((pos : Int) + 2) = (pos : Int) + 2 := IntWalk.i64_in _ (by omega)
        have hqb : IntKind.i64.wrap ((pos : Int) + 3) = (pos : Int) + 3 := IntWalk.i64_in _ (by omega)
        go_region_held3 (fun W' => True) (trivial) (first | (go_at_call 53; refine (rdig _ ?_ _).mono ?_; assumption; rintro e w' ⟨rfl, rfl⟩) | (refine step_append_lies _ (by rfl) _ _ _ (by rfl) w.heap.size 5 i0 (.int .u8 0) 1 1 Tryd.underlying43 hi hz0 hz1 hz2 rfl (by omega) _ acc.length (Lib.byteCells acc) (by rfl) ((hown.alloc _).drew) ⟨wr.heap.size, 0, none⟩ 1 1 [.int .u8 (b : Int)] (by rfl) (by rfl) (World.news_of_block (cs := #[.int .u8 (b : Int)]) (t := 5) (fr := (0, 0)) (heap_alloc_new wr _)) (by simp [Value.oneCell']) (by omega) (by unfold maxLen; omega) (by omega) (by simp; omega) (wr.heap.size + 1) (by simp) ?_; intro gg cap w1 hown1 hgrow hat hlt))
        all_goals
          have eb : (b : Int) = ((UInt8.ofNat b).toNat : Int) := by rw [u8_of b hb256]
          have hbz := (hb.alloc hsz (.cells #[.int .u8 (b : Int)] 5)).drew.grown hgrow (by simp; omega) (fun g e => (((hown.alloc (.cells #[.int .u8 (b : Int)] 5)).drew).lt g e).1)
          rw [eb] at hown1
          have hfin := YI_end s w w1 pos f acc _ _ 4 hp (by omega) HACC.out hpf hal HY.out hbz hown1
          have HF := Lib.hid hfin
          clear hown hown1 hgrow hfin eb hbz hq2 hq3 hq4 hqa hqb
          go_wp2
          go_roundw
          case rel => exact HF.out _ (by go_num)
          case measure => simp [intOf]; omega
    · have ha := HACC.out
      rw [yFrom_end s f pos hp, List.append_nil] at ha
      have hvs : (acc = [] ∧ v = .slice none 0 0) ∨ ∃ g cap, v = .slice (some ⟨g, 0, none⟩) acc.length cap := by
        rcases hown.2 with ⟨a1, a2⟩ | ⟨g, cap, cur, a1, _⟩
        · exact Or.inl ⟨List.length_eq_zero_iff.1 a2, a1⟩
        · exact Or.inr ⟨g, cap, a1⟩
      have hNil := Lib.hid (unq_nil s H0.out); have hBad := Lib.hid (unq_bad s H0.out); have hGood := Lib.hid (unq_good s H0.out)
      rw [← ha] at hNil hBad hGood
      have hal2 : acc.length ≤ s.size := by omega
      clear HACC ha hpf hal
      rcases hvs with ⟨rfl, rfl⟩ | ⟨g, cap, rfl⟩
      · have HU := Lib.hid (hNil.out rfl)
        clear hNil hBad hGood hown
        go_wp2
        go_ret2
        exact ⟨by rw [HU.out]; rfl, hb⟩
      by_cases he : acc = []
      · have HU := Lib.hid (hNil.out he)
        have f1 : ((acc.length : Int) == 0) = true := by rw [he]; rfl
        clear hNil hBad hGood hown he
        go_wp2
        go_ret2
        exact ⟨by rw [HU.out]; rfl, hb⟩
      have f1 : ((acc.length : Int) == 0) = false := by
        have := List.length_pos_iff.2 he
        rw [beq_eq_false_iff_ne]; omega
      have hcv := conv_own hown
      have hq := rquote_any ⟨acc.toArray⟩ wr (by rw [len_q]; omega)
      unfold QuotePost at hq
      have hsz := hb.size
      obtain ⟨q, hqq⟩ : ∃ q, quoteL ⟨acc.toArray⟩ = q := ⟨_, rfl⟩
      rw [hqq] at hq
      by_cases h3 : q = s.data.toList
      · have f3 : (q == s.toList) = true := by rw [Lib.toList_data]; simpa using h3
        have HU := Lib.hid (hGood.out he (by rw [hqq]; exact h3))
        clear hNil hBad hGood hqq h3 he
        go_wp2_with fail
        refine hq.mono ?_
        rintro e W2 ⟨rfl, hb2⟩
        have hcv2 := conv_own (own_below hown hb2)
        have hb3 := Lib.hid (hb.trans (hb2.mono hsz))
        clear hcv hq hown hb2 hb
        go_wp2
        go_ret2
        exact ⟨by rw [HU.out]; rfl, hb3.out⟩
      · have f3 : (q == s.toList) = false := by rw [Lib.toList_data]; simpa using h3
        have HU := Lib.hid (hBad.out (by rw [hqq]; exact h3))
        clear hNil hBad hGood hqq h3 he
        go_wp2_with fail
        refine hq.mono ?_
        rintro e W2 ⟨rfl, hb2⟩
        have hb3 := Lib.hid (hb.trans (hb2.mono hsz))
        clear hcv hq hown hb2 hb
        go_wp2
        go_ret2
        exact ⟨by rw [HU.out]; rfl, hb3.out⟩
end Go.Proofs.YtpchdggppkenkaaDoor
