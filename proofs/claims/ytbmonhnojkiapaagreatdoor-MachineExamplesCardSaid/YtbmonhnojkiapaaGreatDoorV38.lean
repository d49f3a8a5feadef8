/- The reference's ending: what it holds in memory. · The reference's ending. · The reference's Useful and Empty. -/
import Derived.Test.YtbmonhnojkiapaaGreatDoorV22
import Derived.Test.YtbmonhnojkiapaaGreatDoorV29
import Derived.Test.YtbmonhnojkiapaaGreatDoorV25
import Derived.Test.YtbmonhnojkiapaaGreatDoorV32
import Derived.Test.YtbmonhnojkiapaaGreatDoorV28
import Derived.Test.YtbmonhnojkiapaaGreatDoorV34
set_option linter.unusedVariables false
set_option linter.unusedSimpArgs false
namespace Go.Proofs.YtbmonhnojkiapaaGreatDoor
open Go.RowKit

theorem grown_many {a b c : World} {r : Option Nat} (h : a.grownBy b none) (k : b.grownBy c r) (hr : ∀ g, r = some g → a.heap.size ≤ g) : a.grownBy c none := by
  cases r with
  | none => exact grown_trans h k
  | some g => exact grown_step h k (hr g rfl)
theorem QAt.keptBy {w w' : World} {B : Nat} {v : Value} {q : List Nat} {r : Option Nat} (h : QAt w B v q) (hg : w.grownBy w' r) (hr : v.ownBlock = none ∨ v.ownBlock ≠ r) : QAt w' B v q := by
  obtain ⟨a, cap, hv, h | ⟨g, off, cur, ha, hB, hh, hc, ho, hx⟩⟩ := h
  · exact ⟨a, cap, hv, .inl h⟩
  · subst ha
    subst hv
    have hne : some g ≠ r := fun e => by
      rcases hr with h1 | h1
      · cases h1
      · exact h1 e
    exact ⟨_, cap, rfl, .inr ⟨g, off, cur, rfl, hB, (hg.block g (QAt.lt hh) hne).trans hh, hc, ho, hx⟩⟩
theorem QAt.owns {w : World} {B b : Nat} {v : Value} {q : List Nat} (h : QAt w B v q) (hq : q ≠ []) (hb : v.ownBlock = some b) : B ≤ b ∧ b < w.heap.size := by
  obtain ⟨a, cap, hv, ⟨h0, _⟩ | ⟨g, off, cur, ha, hB, hh, hc, ho, hx⟩⟩ := h
  · exact absurd h0 hq
  · subst ha; subst hv
    cases hb
    exact ⟨hB, QAt.lt hh⟩
theorem NRows.keptBy {W W' : World} {C r n : Nat} {vals : List Value} {rows : List (List Nat)} {o : Option Nat} (h : NRows W C r n vals rows) (hg : W.grownBy W' o) (hr : some r ≠ o) (ho : ∀ (i : Nat) (v : Value), vals[i]? = some v → v.ownBlock = none ∨ v.ownBlock ≠ o) : NRows W' C r n vals rows :=
  ⟨(hg.block r (by have := h.hr; have := h.hC; omega) hr).trans h.row, h.vl, h.rl, fun k v q hv hq => (h.own k v q hv hq).kept hg (ho k v hv), h.dis, h.hr, by have := hg.size; have := h.hC; omega⟩
theorem NRows.lt_at {W : World} {C r n i b : Nat} {vals : List Value} {rows : List (List Nat)} {v : Value} (h : NRows W C r n vals rows) (hv : vals[i]? = some v) (hb : v.ownBlock = some b) : C ≤ b ∧ b < W.heap.size := by
  have hi := (List.getElem?_eq_some_iff.1 hv).1
  have hr : rows[i]? = some (rows[i]'(by rw [h.rl, ← h.vl]; exact hi)) := List.getElem?_eq_getElem (by rw [h.rl, ← h.vl]; exact hi)
  exact (h.own i v _ hv hr).lt b hb
/-- What ending holds in memory. -/
structure EMem (w : World) (m : Mach) (u : Value) (W : World) (r C n : Nat) (zs : List Bool) (vals : List Value) (rows : List (List Nat)) (todo : Value) (q : List Nat) : Prop where
  box : BoxAt W w.heap.size m u
  row : CellsB W (w.heap.size + 1) (bv zs)
  rows : NRows W C r n vals rows
  que : QAt W C todo q
  apart : ∀ (i : Nat) (v : Value), vals[i]? = some v → v.ownBlock = none ∨ v.ownBlock ≠ todo.ownBlock
  tb : ∀ b, todo.ownBlock = some b → C ≤ b ∧ b < W.heap.size
  g : w.grownBy W none
  hw : w.heap.size + 1 < r
theorem EMem.next {w W W' : World} {m : Mach} {u todo : Value} {r C n : Nat} {zs : List Bool} {vals : List Value} {rows : List (List Nat)} {q : List Nat} (h : EMem w m u W r C n zs vals rows todo q) (hg : W.grownBy W' none) : EMem w m u W' r C n zs vals rows todo q :=
  ⟨h.box.grown hg, (hg.block _ h.row.lt (by simp)).trans h.row, h.rows.next hg, h.que.grown hg (by simp), h.apart, fun b hb => ⟨(h.tb b hb).1, Nat.lt_of_lt_of_le (h.tb b hb).2 hg.size⟩, grown_trans h.g hg, h.hw⟩
/-- A number is put behind a row. -/
theorem EMem.back {w W w1 : World} {m : Mach} {u todo v : Value} {r C n y i gg c : Nat} {zs : List Bool} {vals : List Value} {rows : List (List Nat)} {q p : List Nat} (h : EMem w m u W r C n zs vals rows todo q) (hv : vals[y]? = some v) (hp : rows[y]? = some p)
    (hown : w1.ownsRow C 3 1 (.slice (some ⟨gg, 0, none⟩) (p.length + 1) c) (p.length + 1) (nvL p ++ [.int .i64 (i : Int)])) (hg : W.grownBy w1 v.ownBlock) (hat : v.ownBlock = some gg ∨ gg = W.heap.size) :
    EMem w m u (w1.setCell ⟨r, y, none⟩ (.slice (some ⟨gg, 0, none⟩) (p.length + 1) c)) r C n zs (vals.set y (.slice (some ⟨gg, 0, none⟩) (p.length + 1) c)) (rows.set y (p ++ [i])) todo q := by
  have hr := h.rows.hr
  have hw2 := h.hw
  have hvo : ∀ b, v.ownBlock = some b → C ≤ b ∧ b < W.heap.size := fun b hb => h.rows.lt_at hv hb
  have gs := grown_setCell w1 ⟨r, y, none⟩ (.slice (some ⟨gg, 0, none⟩) (p.length + 1) c)
  have hne : ∀ b, b < C → some b ≠ v.ownBlock := fun b hb2 e => by have := (hvo b e.symm).1; omega
  have hgw := grown_many h.g hg (fun b e => by have := (hvo b e).1; omega)
  refine ⟨(gs.block _ (Nat.lt_of_lt_of_le h.box.lt hg.size) (by simp; omega)).trans ((hg.block _ h.box.lt (hne _ (by omega))).trans h.box), (gs.block _ (Nat.lt_of_lt_of_le h.row.lt hg.size) (by simp; omega)).trans ((hg.block _ h.row.lt (hne _ (by omega))).trans h.row), h.rows.push hv hp hown hg hat, ?_, fun k x hx => ?_, fun b hb => ⟨(h.tb b hb).1, by have := (h.tb b hb).2; have := hg.size; have := gs.size; omega⟩, grown_step (g := r) hgw gs (by omega), h.hw⟩
  · refine (h.que.keptBy hg ?_).keptBy gs ?_
    · cases e : todo.ownBlock with
      | none => exact .inl rfl
      | some b =>
        rcases h.apart y v hv with h1 | h1
        · exact .inr (by rw [h1]; simp)
        · exact .inr (by rw [← e]; exact Ne.symm h1)
    · cases e : todo.ownBlock with
      | none => exact .inl rfl
      | some b => exact .inr (by have := (h.tb b e).1; show some b ≠ some r; intro e2; cases e2; omega)
  · by_cases e : k = y
    · subst e
      rw [List.getElem?_set_self (List.getElem?_eq_some_iff.1 hv).1] at hx
      cases hx
      right
      show some gg ≠ todo.ownBlock
      rcases hat with e | e
      · rcases h.apart k v hv with h1 | h1
        · rw [e] at h1; cases h1
        · rw [← e]; exact h1
      · intro e2
        have := (h.tb gg e2.symm).2
        omega
    · rw [List.getElem?_set_ne (Ne.symm e)] at hx
      exact h.apart k x hx
end Go.Proofs.YtbmonhnojkiapaaGreatDoor
set_option linter.unusedVariables false
set_option linter.unusedSimpArgs false
namespace Go.Proofs.YtbmonhnojkiapaaGreatDoor
open Go.RowKit

end Go.Proofs.YtbmonhnojkiapaaGreatDoor
set_option linter.unusedVariables false
set_option linter.unusedSimpArgs false
namespace Go.Proofs.YtbmonhnojkiapaaGreatDoor
open Go.RowKit

end Go.Proofs.YtbmonhnojkiapaaGreatDoor
