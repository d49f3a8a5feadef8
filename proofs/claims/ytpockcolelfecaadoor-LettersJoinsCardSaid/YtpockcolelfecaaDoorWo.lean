/- change, at the functions that Lower and Upper hand to it; Lower and Upper. -/
import Derived.Test.YtpockcolelfecaaDoorWn
import Derived.Lib.OthersKept
import Derived.WalkSmall
import Derived.BigCall
set_option linter.unusedVariables false
set_option linter.unusedSimpArgs false
namespace Go.Proofs.YtpockcolelfecaaDoor
open Go.RowKit

theorem lt_of_block {w : World} {k : Nat} {o : Obj} (h : w.heap[k]? = some o) : k < w.heap.size := (Array.getElem?_eq_some_iff.1 h).1
theorem builderAt_below {T e : TypeId} {B b : Nat} {p : Value} {bs : List Value} {w w' : World} (h : Lib.BuilderAtF T e B b p bs w) (hbl : Below w.heap.size w w') : Lib.BuilderAtF T e B b p bs w' := by
  obtain ⟨hB, v, hb, hown, hne⟩ := h
  refine ⟨hB, v, (hbl.block b (lt_of_block hb)).trans hb, ⟨hown.1, ?_⟩, hne⟩
  rcases hown.2 with hn | ⟨g, cap, cur, fz, hv, hbg, hg, rest⟩
  · exact .inl hn
  · exact .inr ⟨g, cap, cur, fz, hv, hbg, (hbl.block g (lt_of_block hg)).trans hg, rest⟩
theorem builder_below {T e : TypeId} {B b : Nat} {bs : List Value} {w w' : World} (h : Lib.IsBuilderF T e B b bs w) (hbl : Below w.heap.size w w') : Lib.IsBuilderF T e B b bs w' :=
  h.elim (fun x => .inl (builderAt_below x hbl)) (fun x => .inr (builderAt_below x hbl))
theorem byteCells_one (x : UInt8) : Lib.byteCells [x] = [Value.int .u8 (x.toNat : Int)] := rfl

set_option maxHeartbeats 4000000 in
set_option maxRecDepth 1000000 in
theorem change_low (s : ByteArray) (w : World) (hs : s.size ≤ 35184372088832) (hT : Tabs w) :
    Calls Tryd.prog 48 #[.string s, .func (.func 49) #[] #[]] w fun e w' => e = .returned (.string ⟨(chS lowR s).toArray⟩) ∧ Below w.heap.size w w' := by
  have hst := fun i r hi w => isStray_any s i r w hi (by omega)
  have HST := Lib.hid hst; clear hst
  have HT := Lib.hid hT; clear hT
  go_enter Tryd.func48, Tryd.ntmps48
  go_wp2
  go_loopw [] (fun wr => ∃ (pos fuel : Nat) (acc : List UInt8), pos ≤ s.size ∧ Lib.IsBuilderF 45 5 w.heap.size w.heap.size (Lib.byteCells acc) wr ∧ wr.heap[w.heap.size + 1]? = some (.stringIter s pos) ∧ Below w.heap.size w wr ∧ acc ++ chFrom lowR s fuel pos = chS lowR s ∧ s.size ≤ pos + fuel ∧ acc.length ≤ 4 * pos) (fun wr => s.size - wr.iterPos (w.heap.size + 1))
  case atStart =>
    refine ⟨0, s.size, [], by omega, (Lib.IsBuilderF.of (Lib.fresh_isBuilder 45 5 w)).alloc _, ?_, ((Below.refl _ w).alloc (Nat.le_refl _) _).alloc (by simp) _, rfl, by omega, by simp⟩
    have := World.iter_heap (w.alloc (.cells #[.pointer none, .slice none 0 0] 45)) s 0
    simpa using this
  case round =>
    obtain ⟨pos, fuel, acc, hps, hI, hit, hbw, hacc, hfu, hal⟩ := hrel
    have hsz : w.heap.size + 1 < wr.heap.size := (Array.getElem?_eq_some_iff.1 hit).1
    have HACC := Lib.hid hacc; clear hacc
    by_cases hp : pos < s.size
    · have hnx : ∀ ty, (Instr.next (.pointer (some ⟨w.heap.size + 1, 0, none⟩)) true ty).run Tryd.prog wr = _ := fun ty => Lib.run_next_any_at wr (w.heap.size + 1) s pos ty hit hp
      have hst := HST.out pos ((Utf8.decode s pos).1 : Int) hps
      rw [strayR_eq] at hst
      have hpw := pw_within s pos hp
      have hp1 := pw_pos s pos
      have hd1 := decode_le s pos
      have hwd := pw_dec s pos hp
      rw [← hwd] at hnx
      clear hwd
      obtain ⟨f, rfl⟩ : ∃ f, fuel = f + 1 := ⟨fuel - 1, by omega⟩
      have hI2 := hI.iterAt hit (pos + pw s pos)
      have hit2 := Lib.iterAt_heap wr (w.heap.size + 1) s pos (pos + pw s pos) hit
      have hbw2 := Lib.below_iterAt hbw (k := w.heap.size + 1) (by omega) s (pos + pw s pos)
      have hsz2 : w.heap.size + 1 < (wr.iterAt (w.heap.size + 1) s (pos + pw s pos)).heap.size := by rw [Lib.iterAt_size]; omega
      have hm : s.size - (pos + pw s pos) < s.size - wr.iterPos (w.heap.size + 1) := by rw [iterPos_of hit]; omega
      have hu4 := chUnit_le lowR s pos
      have hacc1 := HACC.out
      rw [chFrom_step lowR s f pos hp] at hacc1
      have HA1 := Lib.hid hacc1; have HM := Lib.hid hm
      have hT2 := HT.out.below hbw2
      have HT2 := Lib.hid hT2
      clear hacc1 hm HACC hbw hit hI hsz hT2
      cases hs2 : stray s pos
      · have hu : chUnit lowR s pos = Lib.encodeRune (lowR ((Utf8.decode s pos).1 : Int)) := by unfold chUnit; rw [hs2]; rfl
        rw [hs2] at hst
        rw [hu] at HA1 hu4
        clear hs2 hu
        have hr0 : (0 : Int) ≤ ((Utf8.decode s pos).1 : Int) := by omega
        have hr1 : ((Utf8.decode s pos).1 : Int) ≤ 2147483647 := by omega
        have hrg := lowR_range hr0 hr1
        generalize ((Utf8.decode s pos).1 : Int) = r at *
        generalize pw s pos = k at *
        generalize wr.iterAt (w.heap.size + 1) s (pos + k) = W2 at *
        go_wp2_with (first | (go_at_call 34; refine (hst _).mono ?_; rintro e w' ⟨rfl, rfl⟩) )
        refine (low_fn r _ hr0 hr1 HT2.out).mono ?_
        rintro e W3 ⟨rfl, hbf⟩
        have hI3 := builder_below hI2 hbf
        have hit3 := (hbf.block _ (lt_of_block hit2)).trans hit2
        have hbw3 : Below w.heap.size w W3 := hbw2.trans (hbf.mono (by omega))
        have hsz3 : w.heap.size + 1 < W3.heap.size := by have := hbf.size; omega
        clear hI2 hit2 hbw2 hbf hst hnx HT2
        go_wp2_with (go_at_call 40; refine (Tryd.sh_WriteRune w.heap.size w.heap.size _ _ (by omega) (by omega) _ hI3 (by rw [Lib.byteCells_length]; omega) (by omega)).mono ?_)
        rintro e W1 ⟨rfl, h1, b1, k1⟩
        have hit4 := k1.iter hit3 (by omega)
        have hm4 : s.size - W1.iterPos (w.heap.size + 1) < s.size - wr.iterPos (w.heap.size + 1) := by rw [iterPos_of hit4]; exact HM.out
        have HM4 := Lib.hid hm4; clear hm4
        go_wp2
        go_roundw
        case rel =>
          refine ⟨pos + k, f, acc ++ Lib.encodeRune (lowR r), by omega, ?_, hit4, hbw3.trans b1, by rw [← HA1.out]; simp, by omega, by simp; omega⟩
          rw [Lib.byteCells_append, Lib.byteCells_encodeRune]; exact Or.inr h1
        case measure => exact HM4.out
      · have hu : chUnit lowR s pos = [s.get! pos] := by unfold chUnit; rw [hs2]; rfl
        rw [hs2] at hst
        rw [hu] at HA1
        clear hs2 hu hu4
        have hgp := get!_pos s pos hp
        rw [hgp] at HA1
        clear hgp
        generalize ((Utf8.decode s pos).1 : Int) = r at *
        generalize pw s pos = k at *
        generalize wr.iterAt (w.heap.size + 1) s (pos + k) = W2 at *
        go_wp2_with (first | (go_at_call 34; refine (hst _).mono ?_; rintro e w' ⟨rfl, rfl⟩) | (go_at_call 39; refine (Tryd.sh_WriteByte w.heap.size w.heap.size _ _ _ hI2 (by rw [Lib.byteCells_length]; omega) (by omega)).mono ?_))
        rintro e W1 ⟨rfl, h1, b1, k1⟩
        have hit3 := k1.iter hit2 (by omega)
        have hm3 : s.size - W1.iterPos (w.heap.size + 1) < s.size - wr.iterPos (w.heap.size + 1) := by rw [iterPos_of hit3]; exact HM.out
        have HM3 := Lib.hid hm3; clear hm3
        go_wp2
        go_roundw
        case rel =>
          refine ⟨pos + k, f, acc ++ [s[pos]], by omega, ?_, hit3, hbw2.trans b1, by rw [← HA1.out]; simp, by omega, by simp; omega⟩
          rw [Lib.byteCells_append, byteCells_one]; exact Or.inr h1
        case measure => exact HM3.out
    · have hnx : ∀ ty, (Instr.next (.pointer (some ⟨w.heap.size + 1, 0, none⟩)) true ty).run Tryd.prog wr = _ := fun ty => Lib.run_next_end_at wr (w.heap.size + 1) s pos ty hit hp
      have ha := HACC.out
      rw [chFrom_end lowR s fuel pos hp, List.append_nil] at ha
      have HA := Lib.hid ha; clear ha HACC
      go_wp2_with (go_at_call 41; refine (Tryd.sh_BString w.heap.size w.heap.size acc _ hI (by omega)).mono ?_)
      rintro e W1 ⟨rfl, _, b1, _⟩
      go_wp2
      go_ret
      exact ⟨by rw [← HA.out]; rfl, hbw.trans b1⟩

set_option maxHeartbeats 4000000 in
set_option maxRecDepth 1000000 in
theorem change_up (s : ByteArray) (w : World) (hs : s.size ≤ 35184372088832) (hT : Tabs w) :
    Calls Tryd.prog 48 #[.string s, .func (.func 51) #[] #[]] w fun e w' => e = .returned (.string ⟨(chS upR s).toArray⟩) ∧ Below w.heap.size w w' := by
  have hst := fun i r hi w => isStray_any s i r w hi (by omega)
  have HST := Lib.hid hst; clear hst
  have HT := Lib.hid hT; clear hT
  go_enter Tryd.func48, Tryd.ntmps48
  go_wp2
  go_loopw [] (fun wr => ∃ (pos fuel : Nat) (acc : List UInt8), pos ≤ s.size ∧ Lib.IsBuilderF 45 5 w.heap.size w.heap.size (Lib.byteCells acc) wr ∧ wr.heap[w.heap.size + 1]? = some (.stringIter s pos) ∧ Below w.heap.size w wr ∧ acc ++ chFrom upR s fuel pos = chS upR s ∧ s.size ≤ pos + fuel ∧ acc.length ≤ 4 * pos) (fun wr => s.size - wr.iterPos (w.heap.size + 1))
  case atStart =>
    refine ⟨0, s.size, [], by omega, (Lib.IsBuilderF.of (Lib.fresh_isBuilder 45 5 w)).alloc _, ?_, ((Below.refl _ w).alloc (Nat.le_refl _) _).alloc (by simp) _, rfl, by omega, by simp⟩
    have := World.iter_heap (w.alloc (.cells #[.pointer none, .slice none 0 0] 45)) s 0
    simpa using this
  case round =>
    obtain ⟨pos, fuel, acc, hps, hI, hit, hbw, hacc, hfu, hal⟩ := hrel
    have hsz : w.heap.size + 1 < wr.heap.size := (Array.getElem?_eq_some_iff.1 hit).1
    have HACC := Lib.hid hacc; clear hacc
    by_cases hp : pos < s.size
    · have hnx : ∀ ty, (Instr.next (.pointer (some ⟨w.heap.size + 1, 0, none⟩)) true ty).run Tryd.prog wr = _ := fun ty => Lib.run_next_any_at wr (w.heap.size + 1) s pos ty hit hp
      have hst := HST.out pos ((Utf8.decode s pos).1 : Int) hps
      rw [strayR_eq] at hst
      have hpw := pw_within s pos hp
      have hp1 := pw_pos s pos
      have hd1 := decode_le s pos
      have hwd := pw_dec s pos hp
      rw [← hwd] at hnx
      clear hwd
      obtain ⟨f, rfl⟩ : ∃ f, fuel = f + 1 := ⟨fuel - 1, by omega⟩
      have hI2 := hI.iterAt hit (pos + pw s pos)
      have hit2 := Lib.iterAt_heap wr (w.heap.size + 1) s pos (pos + pw s pos) hit
      have hbw2 := Lib.below_iterAt hbw (k := w.heap.size + 1) (by omega) s (pos + pw s pos)
      have hsz2 : w.heap.size + 1 < (wr.iterAt (w.heap.size + 1) s (pos + pw s pos)).heap.size := by rw [Lib.iterAt_size]; omega
      have hm : s.size - (pos + pw s pos) < s.size - wr.iterPos (w.heap.size + 1) := by rw [iterPos_of hit]; omega
      have hu4 := chUnit_le upR s pos
      have hacc1 := HACC.out
      rw [chFrom_step upR s f pos hp] at hacc1
      have HA1 := Lib.hid hacc1; have HM := Lib.hid hm
      have hT2 := HT.out.below hbw2
      have HT2 := Lib.hid hT2
      clear hacc1 hm HACC hbw hit hI hsz hT2
      cases hs2 : stray s pos
      · have hu : chUnit upR s pos = Lib.encodeRune (upR ((Utf8.decode s pos).1 : Int)) := by unfold chUnit; rw [hs2]; rfl
        rw [hs2] at hst
        rw [hu] at HA1 hu4
        clear hs2 hu
        have hr0 : (0 : Int) ≤ ((Utf8.decode s pos).1 : Int) := by omega
        have hr1 : ((Utf8.decode s pos).1 : Int) ≤ 2147483647 := by omega
        have hrg := upR_range hr0 hr1
        generalize ((Utf8.decode s pos).1 : Int) = r at *
        generalize pw s pos = k at *
        generalize wr.iterAt (w.heap.size + 1) s (pos + k) = W2 at *
        go_wp2_with (first | (go_at_call 34; refine (hst _).mono ?_; rintro e w' ⟨rfl, rfl⟩) )
        refine (up_fn r _ hr0 hr1 HT2.out).mono ?_
        rintro e W3 ⟨rfl, hbf⟩
        have hI3 := builder_below hI2 hbf
        have hit3 := (hbf.block _ (lt_of_block hit2)).trans hit2
        have hbw3 : Below w.heap.size w W3 := hbw2.trans (hbf.mono (by omega))
        have hsz3 : w.heap.size + 1 < W3.heap.size := by have := hbf.size; omega
        clear hI2 hit2 hbw2 hbf hst hnx HT2
        go_wp2_with (go_at_call 40; refine (Tryd.sh_WriteRune w.heap.size w.heap.size _ _ (by omega) (by omega) _ hI3 (by rw [Lib.byteCells_length]; omega) (by omega)).mono ?_)
        rintro e W1 ⟨rfl, h1, b1, k1⟩
        have hit4 := k1.iter hit3 (by omega)
        have hm4 : s.size - W1.iterPos (w.heap.size + 1) < s.size - wr.iterPos (w.heap.size + 1) := by rw [iterPos_of hit4]; exact HM.out
        have HM4 := Lib.hid hm4; clear hm4
        go_wp2
        go_roundw
        case rel =>
          refine ⟨pos + k, f, acc ++ Lib.encodeRune (upR r), by omega, ?_, hit4, hbw3.trans b1, by rw [← HA1.out]; simp, by omega, by simp; omega⟩
          rw [Lib.byteCells_append, Lib.byteCells_encodeRune]; exact Or.inr h1
        case measure => exact HM4.out
      · have hu : chUnit upR s pos = [s.get! pos] := by unfold chUnit; rw [hs2]; rfl
        rw [hs2] at hst
        rw [hu] at HA1
        clear hs2 hu hu4
        have hgp := get!_pos s pos hp
        rw [hgp] at HA1
        clear hgp
        generalize ((Utf8.decode s pos).1 : Int) = r at *
        generalize pw s pos = k at *
        generalize wr.iterAt (w.heap.size + 1) s (pos + k) = W2 at *
        go_wp2_with (first | (go_at_call 34; refine (hst _).mono ?_; rintro e w' ⟨rfl, rfl⟩) | (go_at_call 39; refine (Tryd.sh_WriteByte w.heap.size w.heap.size _ _ _ hI2 (by rw [Lib.byteCells_length]; omega) (by omega)).mono ?_))
        rintro e W1 ⟨rfl, h1, b1, k1⟩
        have hit3 := k1.iter hit2 (by omega)
        have hm3 : s.size - W1.iterPos (w.heap.size + 1) < s.size - wr.iterPos (w.heap.size + 1) := by rw [iterPos_of hit3]; exact HM.out
        have HM3 := Lib.hid hm3; clear hm3
        go_wp2
        go_roundw
        case rel =>
          refine ⟨pos + k, f, acc ++ [s[pos]], by omega, ?_, hit3, hbw2.trans b1, by rw [← HA1.out]; simp, by omega, by simp; omega⟩
          rw [Lib.byteCells_append, byteCells_one]; exact Or.inr h1
        case measure => exact HM3.out
    · have hnx : ∀ ty, (Instr.next (.pointer (some ⟨w.heap.size + 1, 0, none⟩)) true ty).run Tryd.prog wr = _ := fun ty => Lib.run_next_end_at wr (w.heap.size + 1) s pos ty hit hp
      have ha := HACC.out
      rw [chFrom_end upR s fuel pos hp, List.append_nil] at ha
      have HA := Lib.hid ha; clear ha HACC
      go_wp2_with (go_at_call 41; refine (Tryd.sh_BString w.heap.size w.heap.size acc _ hI (by omega)).mono ?_)
      rintro e W1 ⟨rfl, _, b1, _⟩
      go_wp2
      go_ret
      exact ⟨by rw [← HA.out]; rfl, hbw.trans b1⟩

set_option maxHeartbeats 400000 in
theorem lower_any (s : ByteArray) (w : World) (hs : s.size ≤ 35184372088832) (hT : Tabs w) :
    Calls Tryd.prog 26 #[.string s] w fun e w' => e = .returned (.string ⟨(chS lowR s).toArray⟩) ∧ Below w.heap.size w w' := by
  have hc := change_low s w hs hT
  clear hT
  obtain ⟨R, hR⟩ : ∃ R : ByteArray, (⟨(chS lowR s).toArray⟩ : ByteArray) = R := ⟨_, rfl⟩
  rw [hR] at hc ⊢
  clear hR
  go_enter Tryd.func26, Tryd.ntmps26
  go_wp2_with fail
  refine hc.mono ?_
  rintro e w1 ⟨rfl, hb⟩
  go_wp2
  go_ret
  exact ⟨rfl, hb⟩

set_option maxHeartbeats 400000 in
theorem upper_any (s : ByteArray) (w : World) (hs : s.size ≤ 35184372088832) (hT : Tabs w) :
    Calls Tryd.prog 28 #[.string s] w fun e w' => e = .returned (.string ⟨(chS upR s).toArray⟩) ∧ Below w.heap.size w w' := by
  have hc := change_up s w hs hT
  clear hT
  obtain ⟨R, hR⟩ : ∃ R : ByteArray, (⟨(chS upR s).toArray⟩ : ByteArray) = R := ⟨_, rfl⟩
  rw [hR] at hc ⊢
  clear hR
  go_enter Tryd.func28, Tryd.ntmps28
  go_wp2_with fail
  refine hc.mono ?_
  rintro e w1 ⟨rfl, hb⟩
  go_wp2
  go_ret
  exact ⟨rfl, hb⟩
end Go.Proofs.YtpockcolelfecaaDoor
