/- The reference's Valid, compare, Cmp. · The reference's text, Small: rows of digits, the lowest one first. · Plain facts of digit slices. · The reference's digits, at, limited. · The reference's Add. · The reference's less, Sub. · The reference's Add and Sub, at any strings. -/
import Derived.Test.YtbmonhnojkiapaaGreatDoorV05
import Derived.Maps.AppendAt
set_option linter.unusedVariables false
set_option linter.unusedSimpArgs false
namespace Go.Proofs.YtbmonhnojkiapaaGreatDoor
open Go.RowKit
open Go.Lib (nDigits decDigits)

end Go.Proofs.YtbmonhnojkiapaaGreatDoor
set_option linter.unusedVariables false
set_option linter.unusedSimpArgs false
namespace Go.Proofs.YtbmonhnojkiapaaGreatDoor
open Go.RowKit
open Go.Lib (nDigits decDigits)

/-- The value is a slice of these digits. -/
def Digs (w : World) (v : Value) (ds : List Nat) : Prop :=
  (v = .slice none 0 0 ∧ ds = []) ∨ ∃ g cap, v = .slice (some ⟨g, 0, none⟩) ds.length cap ∧ ds ≠ [] ∧ g < w.heap.size ∧ ∀ k, k < ds.length → w.cell? ⟨g, k, none⟩ = some (.int .i64 (ds.getD k 0 : Nat))
theorem Digs.below {w w' : World} {v : Value} {ds : List Nat} (h : Digs w v ds) (hb : Below w.heap.size w w') : Digs w' v ds := by
  rcases h with h | ⟨g, cap, hv, h0, hg, hc⟩
  · exact .inl h
  · exact .inr ⟨g, cap, hv, h0, by have := hb.size; omega, fun k hk => (hb.cell (by exact hg)).trans (hc k hk)⟩

end Go.Proofs.YtbmonhnojkiapaaGreatDoor
set_option linter.unusedVariables false
set_option linter.unusedSimpArgs false
namespace Go.Proofs.YtbmonhnojkiapaaGreatDoor
open Go.RowKit
open Go.Lib (nDigits decDigits)

end Go.Proofs.YtbmonhnojkiapaaGreatDoor
set_option linter.unusedVariables false
set_option linter.unusedSimpArgs false
namespace Go.Proofs.YtbmonhnojkiapaaGreatDoor
open Go.RowKit
open Go.Lib (nDigits decDigits)

/-- The value is a slice of these digits, not nil. -/
def Row10 (w : World) (v : Value) (ds : List Nat) : Prop := Digs w v ds ∧ ds ≠ []
theorem Row10.form {w : World} {v : Value} {ds : List Nat} (h : Row10 w v ds) : ∃ g cap, v = .slice (some ⟨g, 0, none⟩) ds.length cap := by
  rcases h.1 with ⟨_, h0⟩ | ⟨g, cap, hv, _⟩
  · exact absurd h0 h.2
  · exact ⟨g, cap, hv⟩
theorem Row10.below {w w' : World} {v : Value} {ds : List Nat} (h : Row10 w v ds) (hb : Below w.heap.size w w') : Row10 w' v ds := ⟨h.1.below hb, h.2⟩

end Go.Proofs.YtbmonhnojkiapaaGreatDoor
set_option linter.unusedVariables false
set_option linter.unusedSimpArgs false
namespace Go.Proofs.YtbmonhnojkiapaaGreatDoor
open Go.RowKit
open Go.Lib (nDigits decDigits)

structure AddInv (xs ys : List Nat) (k c : Nat) (acc : List Nat) : Prop where
  len : acc.length = k
  lt : ∀ d ∈ acc, d < 10
  carry : c ≤ 1
  val : vl 10 acc + 10 ^ k * c = vl 10 (xs.take k) + vl 10 (ys.take k)
theorem getD_lt (l : List Nat) (h : ∀ d ∈ l, d < 10) (k : Nat) : l.getD k 0 < 10 := by
  rcases Nat.lt_or_ge k l.length with h1 | h1
  · rw [List.getD_eq_getElem?_getD, List.getElem?_eq_getElem h1]; exact h _ (List.getElem_mem _)
  · rw [List.getD_eq_getElem?_getD, List.getElem?_eq_none h1]; decide
theorem AddInv.step {xs ys : List Nat} {k c : Nat} {acc : List Nat} (h : AddInv xs ys k c acc) (hx : ∀ d ∈ xs, d < 10) (hy : ∀ d ∈ ys, d < 10) :
    AddInv xs ys (k + 1) ((xs.getD k 0 + ys.getD k 0 + c) / 10) (acc ++ [(xs.getD k 0 + ys.getD k 0 + c) % 10]) := by
  have h1 := getD_lt xs hx k
  have h2 := getD_lt ys hy k
  have h3 := h.carry
  refine ⟨by rw [List.length_append, h.len]; rfl, fun d hd => ?_, by omega, ?_⟩
  · rcases List.mem_append.1 hd with hd | hd
    · exact h.lt d hd
    · rw [List.mem_singleton.1 hd]; omega
  · have e := h.val
    rw [vl_snoc, h.len, vl_take_succ, vl_take_succ, Nat.pow_succ]
    generalize xs.getD k 0 = p at *
    generalize ys.getD k 0 = q at *
    have hd := Nat.div_add_mod (p + q + c) 10
    generalize (p + q + c) / 10 = u at *
    generalize (p + q + c) % 10 = v at *
    generalize 10 ^ k = P at *
    have e1 : P * 10 * u + P * v = P * (p + q + c) := by rw [← hd, Nat.mul_add, Nat.mul_assoc]
    rw [Nat.mul_add, Nat.mul_add] at e1
    omega
theorem AddInv.fin {xs ys : List Nat} {k c : Nat} {acc : List Nat} (h : AddInv xs ys k c acc) (hx : ∀ d ∈ xs, d < 10) (hy : ∀ d ∈ ys, d < 10) (h1 : xs.length < k) (h2 : ys.length < k) : vl 10 acc = vl 10 xs + vl 10 ys := by
  have e := h.val
  rw [List.take_of_length_le (by omega), List.take_of_length_le (by omega)] at e
  have a1 := vl_lt 10 xs hx
  have a2 := vl_lt 10 ys hy
  obtain ⟨k, rfl⟩ : ∃ j, k = j + 1 := ⟨k - 1, by omega⟩
  have b1 := Nat.pow_le_pow_right (n := 10) (by decide) (show xs.length ≤ k by omega)
  have b2 := Nat.pow_le_pow_right (n := 10) (by decide) (show ys.length ≤ k by omega)
  rw [Nat.pow_succ] at e
  have hc := h.carry
  have : c = 0 := by
    rcases Nat.eq_zero_or_pos c with h0 | h0
    · exact h0
    · obtain rfl : c = 1 := by omega
      omega
  subst this
  omega
theorem AddInv.start (xs ys : List Nat) : AddInv xs ys 0 0 [] := ⟨rfl, fun d h => by simp at h, by omega, by simp [vl]⟩

end Go.Proofs.YtbmonhnojkiapaaGreatDoor
set_option linter.unusedVariables false
set_option linter.unusedSimpArgs false
namespace Go.Proofs.YtbmonhnojkiapaaGreatDoor
open Go.RowKit
open Go.Lib (nDigits decDigits)

structure LessInv (xs ys : List Nat) (k c : Nat) (acc : List Nat) : Prop where
  len : acc.length = k
  lt : ∀ d ∈ acc, d < 10
  carry : c ≤ 1
  val : vl 10 acc + vl 10 (ys.take k) = vl 10 (xs.take k) + 10 ^ k * c
theorem LessInv.start (xs ys : List Nat) : LessInv xs ys 0 0 [] := ⟨rfl, fun d h => by simp at h, by omega, by simp [vl]⟩
theorem LessInv.step {xs ys : List Nat} {k c : Nat} {acc : List Nat} (h : LessInv xs ys k c acc) (d c' : Nat) (hd : d < 10) (hc : c' ≤ 1) (e : d + ys.getD k 0 + c = xs.getD k 0 + 10 * c') :
    LessInv xs ys (k + 1) c' (acc ++ [d]) := by
  refine ⟨by rw [List.length_append, h.len]; rfl, fun x hx => ?_, hc, ?_⟩
  · rcases List.mem_append.1 hx with hx | hx
    · exact h.lt x hx
    · rw [List.mem_singleton.1 hx]; exact hd
  · have v := h.val
    rw [vl_snoc, h.len, vl_take_succ, vl_take_succ, Nat.pow_succ]
    generalize xs.getD k 0 = p at *
    generalize ys.getD k 0 = q at *
    generalize 10 ^ k = P at *
    have e1 : P * (d + q + c) = P * (p + 10 * c') := by rw [e]
    rw [Nat.mul_add, Nat.mul_add, Nat.mul_add, ← Nat.mul_assoc] at e1
    omega
theorem LessInv.fin {xs ys : List Nat} {c : Nat} {acc : List Nat} (h : LessInv xs ys xs.length c acc) (hx : ∀ d ∈ xs, d < 10) (hle : vl 10 ys ≤ vl 10 xs) : vl 10 acc = vl 10 xs - vl 10 ys := by
  have e := h.val
  rw [List.take_of_length_le (Nat.le_refl _)] at e
  have a1 := vl_lt 10 xs hx
  have a2 := vl_lt 10 acc h.lt
  rw [h.len] at a2
  have hc := h.carry
  have hy : vl 10 (ys.take xs.length) = vl 10 ys := by
    rcases Nat.lt_or_ge ys.length xs.length with h1 | h1
    · rw [List.take_of_length_le (by omega)]
    · have s := vl_split 10 ys xs.length h1
      rcases Nat.eq_zero_or_pos (vl 10 (ys.drop xs.length)) with h0 | h0
      · rw [h0, Nat.mul_zero] at s; omega
      · have := Nat.mul_le_mul_left (10 ^ xs.length) h0
        omega
  rw [hy] at e
  have : c = 0 := by
    rcases Nat.eq_zero_or_pos c with h0 | h0
    · exact h0
    · obtain rfl : c = 1 := by omega
      omega
  subst this
  omega

end Go.Proofs.YtbmonhnojkiapaaGreatDoor
set_option linter.unusedVariables false
set_option linter.unusedSimpArgs false
namespace Go.Proofs.YtbmonhnojkiapaaGreatDoor
open Go.RowKit
open Go.Lib (nDigits decDigits)

end Go.Proofs.YtbmonhnojkiapaaGreatDoor
