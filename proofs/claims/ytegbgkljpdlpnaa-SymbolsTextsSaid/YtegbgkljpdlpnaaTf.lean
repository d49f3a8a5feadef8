/- Rows of numbers; the program's divide, by contract. -/
import Derived.Test.YtegbgkljpdlpnaaTe
import Derived.Deep.RegionHeld3
import Derived.Maps.AppendAt
import Derived.WalkSmall
set_option linter.unusedVariables false
set_option linter.unusedSimpArgs false
namespace Go.Proofs.Ytegbgkljpdlpnaa
open Go.RowKit

theorem info_int : (Try.prog.info? 3).map (fun i => (i.zero, i.size, i.bytes)) = some (some (.int .i64 0), 1, 8) := by kernel_rfl
def vInt (z : Int) : Value := .int .i64 z
def vNat (n : Nat) : Value := .int .i64 (n : Int)
/-- The value is a slice of just these numbers. -/
def IntSl (w : World) (v : Value) (l : List Int) : Prop := ∃ A cap, v = .slice A l.length cap ∧ Reads w w.heap.size 1 A l.length (l.map vInt)
theorem IntSl.below {w w' : World} {v : Value} {l : List Int} (h : IntSl w v l) (hb : Below w.heap.size w w') : IntSl w' v l := by
  obtain ⟨A, cap, hv, hr⟩ := h
  exact ⟨A, cap, hv, (hr.below hb).more hb.size⟩
theorem IntSl.nil (w : World) : IntSl w (.slice none 0 0) [] := ⟨none, 0, rfl, Reads.none_⟩
theorem IntSl.of_own {w : World} {base : Nat} {e : TypeId} {v : Value} {l : List Int} (h : w.ownsRow base e 1 v l.length (l.map vInt)) : IntSl w v l := by
  rcases h.2 with ⟨hv, hn⟩ | ⟨g, cap, cur, hv, _⟩
  · have : l = [] := List.length_eq_zero_iff.1 hn
    subst this
    exact ⟨none, 0, hv, Reads.none_⟩
  · rw [hv] at h
    exact ⟨some ⟨g, 0, none⟩, cap, hv, Reads.of_own h⟩
/-- Numbers of a word, as numbers. -/
def ofNats (l : List Nat) : List Int := l.map (fun n : Nat => (n : Int))
theorem nats_vals (l : List Nat) : (ofNats l).map vInt = l.map vNat := by unfold ofNats vNat vInt; simp

theorem grown_of_below {a b : World} (h : Below a.heap.size a b) : a.grownBy b none := ⟨h.os, h.tape, h.output, h.size, fun i hi _ => h.block i hi⟩
theorem own_below {w w' : World} {base : Nat} {e : TypeId} {size : Nat} {v : Value} {n : Nat} {xs : List Value} (hb : Below w.heap.size w w') (h : w.ownsRow base e size v n xs) : w'.ownsRow base e size v n xs :=
  h.kept (grown_of_below hb) (by cases v.ownBlock <;> simp)
/-- What a round of divide holds. -/
structure DivAt (w : World) (L : List ByteArray) (b : Nat) (v : Value) (acc : List Nat) (W : World) : Prop where
  tab : TabAt W w.heap.size (.map (some b)) (wide L : Int)
  map : IsMapOf W b L
  own : W.ownsRow (w.heap.size + 1) 3 1 v acc.length (acc.map vNat)
  below : Below w.heap.size w W
theorem DivAt.next {w : World} {L : List ByteArray} {b : Nat} {v : Value} {acc : List Nat} {W W' : World} (h : DivAt w L b v acc W) (hg : Below W.heap.size W W') (hb : b < w.heap.size) : DivAt w L b v acc W' :=
  ⟨h.tab.below hg h.tab.lt, h.map.below hg h.map.lt, own_below hg h.own, h.below.trans (hg.mono h.below.size)⟩
theorem DivAt.drew {w : World} {L : List ByteArray} {b : Nat} {v : Value} {acc : List Nat} {W : World} (h : DivAt w L b v acc W) (hb : b < w.heap.size) : DivAt w L b v acc W.drew := h.next (Below.drew (Below.refl _ _)) hb
theorem DivAt.append {w : World} {L : List ByteArray} {b : Nat} {v v' : Value} {acc : List Nat} {W W' : World} {o : Obj} {s : Nat} (h : DivAt w L b v acc W) (hb : b < w.heap.size) (hg : (W.alloc o).grownBy W' v.ownBlock)
    (hown : W'.ownsRow (w.heap.size + 1) 3 1 v' (acc.length + 1) (acc.map vNat ++ [.int .i64 (s : Int)])) : DivAt w L b v' (acc ++ [s]) W' := by
  have hne : ∀ x, x < w.heap.size + 1 → some x ≠ v.ownBlock := fun x hx e => by have := (h.own.lt x e.symm).1; omega
  have hsz := h.below.size
  refine ⟨(h.tab.grown (World.grownBy_alloc _ o none) (by simp)).grown hg (hne _ (by omega)), (h.map.kept (World.grownBy_alloc _ o none) (by simp)).kept hg (hne _ (by omega)), ?_, (h.below.alloc hsz o).grown hg (by simp; omega) (fun g e => by have := (h.own.lt g e).1; omega)⟩
  rw [List.length_append, List.map_append]
  exact hown
def DivS (w : World) (L : List ByteArray) (b : Nat) (v : Value) (acc : List Nat) (W : World) : Prop :=
  W.cell? ⟨w.heap.size, 0, none⟩ = some (.map (some b)) ∧ W.cell? ⟨w.heap.size, 1, none⟩ = some (.int .i64 (wide L : Int)) ∧ Hid (DivAt w L b v acc W)
theorem DivAt.seen {w : World} {L : List ByteArray} {b : Nat} {v : Value} {acc : List Nat} {W : World} (h : DivAt w L b v acc W) : DivS w L b v acc W :=
  ⟨h.tab.cells.c0, h.tab.cells.c1, Lib.hid h⟩
def DivPost (L : List ByteArray) (t : ByteArray) (w : World) (e : Ending) (w' : World) : Prop :=
  ∃ v, e = .returned (.tuple #[v, .int .i64 ((divL L t).2 : Int)]) ∧ IntSl w' v (ofNats (divL L t).1) ∧ Below w.heap.size w w'

set_option maxHeartbeats 4000000 in
theorem divide_any (L : List ByteArray) (t : ByteArray) (b : Nat) (w : World) (hm : IsMapOf w b L) (hgood : goodB L = true) (ht : t.size ≤ 16384) :
    Calls Try.prog 33 #[tabV b L, .string t] w (DivPost L t w) := by
  obtain ⟨i0, hi, hz0, hz1, hz2⟩ := info_parts info_int
  have hw : wide L ≤ 40 := wide_le (fun s hs => (nameB_size ((goodB_iff.1 hgood).1 s hs)).2)
  have hbl := hm.lt
  have hb0 : Below w.heap.size w (w.alloc (.cells #[.map (some b), .int .i64 (wide L : Int)] 48)) := (Below.refl _ _).alloc (Nat.le_refl _) _
  have htab : TabAt (w.alloc (.cells #[.map (some b), .int .i64 (wide L : Int)] 48)) w.heap.size (.map (some b)) (wide L : Int) := by
    unfold TabAt
    show (w.heap.push _)[w.heap.size]? = _
    rw [Array.getElem?_push_size]
  have hm0 := hm.below hb0 hm.lt
  have hsz0 : w.heap.size + 1 ≤ (w.alloc (.cells #[.map (some b), .int .i64 (wide L : Int)] 48)).heap.size := by simp
  have hcall : ∀ (r : ByteArray) (v : Value) (acc : List Nat) (W : World), DivS w L b v acc W →
      Calls Try.prog 42 #[.agg #[.map (some b), .int .i64 (wide L : Int)], .string r] W fun e w' => e = .returned (.tuple #[.int .i64 ((bst L r).1 : Int), .int .i64 ((bst L r).2 : Int)]) ∧ DivS w L b v acc w' := by
    intro r v acc W hS
    refine (first_any L r b W hS.2.2.out.map hw).mono ?_
    rintro e w' ⟨rfl, hb⟩
    exact ⟨rfl, (hS.2.2.out.next hb hbl).seen⟩
  have HC := Lib.hid hcall; have HG := Lib.hid hgood
  clear hcall hm hgood
  unfold tabV
  go_enter Try.func33, Try.ntmps33
  go_wp2
  generalize hW : w.alloc (.cells #[.map (some b), .int .i64 (wide L : Int)] 48) = W at *
  clear hW
  go_loopw [4, 5] (fun v i wr => ∃ (k f : Nat) (acc : List Nat), i = .int .i64 k ∧ k ≤ t.size ∧ t.size ≤ k + f ∧ acc.length ≤ k ∧ acc ++ (divF L t f k).1 = (divL L t).1 ∧ (divF L t f k).2 = (divL L t).2 ∧ w.heap.size + 1 ≤ wr.heap.size ∧ DivAt w L b v acc wr) (fun _ i _ => t.size - (intOf i).toNat)
  case atStart => exact ⟨0, t.size, [], rfl, by omega, by omega, by simp, rfl, rfl, hsz0, ⟨htab, hm0, World.ownsRow_nil _ _ _ _, hb0⟩⟩
  case round =>
    obtain ⟨k, f, acc, rfl, hk, hkf, hal, hacc, hstop, hsz, hd⟩ := hrel
    have HA := Lib.hid hacc; have HS := Lib.hid hstop
    clear hacc hstop htab hm0 hb0
    by_cases hlt : k < t.size
    · obtain ⟨f, rfl⟩ : ∃ f', f = f' + 1 := ⟨f - 1, by omega⟩
      have n1 : (k : Int) < (t.size : Int) := by omega
      have hcs := bst_cases HG.out (t.extract k t.size)
      obtain ⟨s, n, hsn⟩ : ∃ s n, bst L (t.extract k t.size) = (s, n) := ⟨_, _, rfl⟩
      have hcall2 : ∀ (r : ByteArray) (v : Value) (acc : List Nat) (W : World), DivS w L b v acc W → r = t.extract k t.size →
          Calls Try.prog 42 #[.agg #[.map (some b), .int .i64 (wide L : Int)], .string r] W fun e w' => e = .returned (.tuple #[.int .i64 (s : Int), .int .i64 (n : Int)]) ∧ DivS w L b v acc w' := by
        intro r v acc W hS hr
        subst hr
        have := HC.out (t.extract k t.size) v acc W hS
        rw [hsn] at this
        exact this
      have hS := (hd.drew hbl).seen
      unfold DivS at hS hcall2
      rw [hsn] at hcs
      have HC2 := Lib.hid hcall2; have HSN := Lib.hid hsn
      clear hcall2 hsn
      by_cases hs0 : s = 0
      · subst hs0
        have hst := HS.out
        have hac := HA.out
        rw [divF_stop hlt (by rw [HSN.out])] at hst hac
        have HST := Lib.hid hst; have HAC := Lib.hid hac
        clear hst hac hd HA HS hcs
        go_wp2_with fail
        go_region_held3 (fun W' => W'.cell? ⟨w.heap.size, 0, none⟩ = some (.map (some b)) ∧ W'.cell? ⟨w.heap.size, 1, none⟩ = some (.int .i64 (wide L : Int)) ∧ Hid (DivAt w L b u4 acc W'))
          (first
            | exact hS
            | assumption
            | exact s1
            | go_keep)
          (first
            | (go_at_call 42; refine (HC2.out _ u4 acc _ ?_ ?_).mono ?_; assumption; rfl; rintro e w5 ⟨rfl, s1⟩))
        have D := s1.2.2
        clear s1 hS
        go_wp2
        go_ret2
        exact ⟨u4, by rw [← HST.out]; rfl, by rw [← HAC.out, List.append_nil]; exact IntSl.of_own (l := ofNats acc) (by rw [nats_vals]; simpa [ofNats] using D.out.own), D.out.below⟩
      · have hst := HS.out
        have hac := HA.out
        rw [divF_step hlt HSN.out hs0] at hst hac
        have HST := Lib.hid hst; have HAC := Lib.hid hac
        obtain ⟨hn1, hn2⟩ : 1 ≤ n ∧ k + n ≤ t.size := by
          rcases hcs with h | ⟨x, h1, h2, h3, h4, h5, h6⟩
          · simp only [Prod.mk.injEq] at h; exact absurd h.1 hs0
          · have := h5.size
            rw [ByteArray.size_extract] at this
            simp only at h4
            omega
        have g1 : ((s : Int) == 0) = false := by simp; exact hs0
        have n2 : IntKind.i64.wrap ((k : Int) + (n : Int)) = ((k + n : Nat) : Int) := by rw [IntKind.wrap_i64]; omega
        clear hst hac hd HA HS hcs
        go_wp2_with fail
        go_region_held3 (fun W' => W'.cell? ⟨w.heap.size, 0, none⟩ = some (.map (some b)) ∧ W'.cell? ⟨w.heap.size, 1, none⟩ = some (.int .i64 (wide L : Int)) ∧ Hid (DivAt w L b u4 acc W'))
          (first
            | exact hS
            | assumption
            | exact s1
            | go_keep)
          (first
            | (go_at_call 42; refine (HC2.out _ u4 acc _ ?_ ?_).mono ?_; assumption; rfl; rintro e w5 ⟨rfl, s1⟩))
        have D := s1.2.2
        have hown := D.out.own
        clear s1 hS
        go_wp2_with (at_builtin; refine wpList_append_own_at _ rfl _ _ 28 rfl (w.heap.size + 1) 3 i0 (.int .i64 0) 1 8 Try.underlying28 hi hz0 hz1 hz2 rfl (by decide) _ _ _ rfl (hown.alloc _) ⟨w5.heap.size, 0, none⟩ 1 1 [.int .i64 (s : Int)] rfl rfl ?c1 ?c2 ?c3 ?c4 ?c5 ?_)
        case c1 => exact cell_one_new _ _ _
        case c2 => intro u hu; simp at hu; subst hu; rfl
        case c3 => unfold maxLen; omega
        case c4 => omega
        case c5 => have := D.out.tab.lt; simp; omega
        intro v' w1 hown' hgrow _ _
        have D1 := Lib.hid (D.out.append hbl hgrow hown')
        have hs1 : w.heap.size + 1 ≤ w1.heap.size := by have := D1.out.tab.lt; omega
        clear hown hown' hgrow D
        go_wp2
        go_roundw
        case rel => exact ⟨k + n, f, acc ++ [s], by go_num, by omega, by omega, by simp; omega, by rw [← HAC.out]; simp, HST.out, hs1, D1.out⟩
        case measure => simp [intOf]; omega
    · have hst := HS.out
      have hac := HA.out
      rw [divF_end hlt] at hst hac
      have HST := Lib.hid hst; have HAC := Lib.hid hac
      have n1 : ¬ (k : Int) < (t.size : Int) := by omega
      have D := Lib.hid hd
      clear hst hac hd HA HS
      go_wp2
      go_ret2
      exact ⟨u4, by rw [← HST.out]; rfl, by rw [← HAC.out, List.append_nil]; exact IntSl.of_own (l := ofNats acc) (by rw [nats_vals]; simpa [ofNats] using D.out.own), D.out.below⟩
end Go.Proofs.Ytegbgkljpdlpnaa
