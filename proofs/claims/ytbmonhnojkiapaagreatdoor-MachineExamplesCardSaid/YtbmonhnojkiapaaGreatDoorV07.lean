/- The reference's Mul. · The reference's Div. · The reference's Div and Gcd at any strings. -/
import Derived.Test.YtbmonhnojkiapaaGreatDoorV06
import Derived.Test.YtbmonhnojkiapaaGreatDoorV08
set_option linter.unusedVariables false
set_option linter.unusedSimpArgs false
namespace Go.Proofs.YtbmonhnojkiapaaGreatDoor
open Go.RowKit
open Go.Lib (nDigits decDigits)

def CellsI (w : World) (g : Nat) (l : List Value) : Prop := w.heap[g]? = some (.cells l.toArray 3 (0, 0))
theorem CellsI.cell {w : World} {g : Nat} {l : List Value} (h : CellsI w g l) (k : Nat) : w.cell? ⟨g, k, none⟩ = l[k]? := by
  rw [cell_row h]; simp
theorem CellsI.free {w : World} {g : Nat} {l : List Value} (h : CellsI w g l) (k : Nat) : w.frozen? ⟨g, k, none⟩ = false := frozen_of_row w g k _ _ h
theorem CellsI.set {w : World} {g : Nat} {l : List Value} (h : CellsI w g l) (k : Nat) (u : Value) : CellsI (w.setCell ⟨g, k, none⟩ u) g (l.set k u) := by
  unfold CellsI
  rw [heap_setCell_same w g k _ _ u h]
  simp
theorem CellsI.lt {w : World} {g : Nat} {l : List Value} (h : CellsI w g l) : g < w.heap.size := lt_of_block h
theorem CellsI.of_full {w : World} {B g n : Nat} {l : List Value} (h : w.ownsRow B 3 1 (.slice (some ⟨g, 0, none⟩) n n) n l) : CellsI w g l := by
  rcases h.2 with ⟨h', _⟩ | ⟨g', cap', cur, h', hb, hg, _, _, hs, ht⟩
  · simp at h'
  · simp only [Value.slice.injEq, Option.some.injEq, Addr.mk.injEq, and_true, true_and] at h'
    obtain ⟨rfl, rfl⟩ := h'
    rw [List.take_of_length_le (by rw [Array.length_toList, hs]; exact Nat.le_refl _)] at ht
    subst ht
    unfold CellsI; rw [hg]
theorem vl_set : ∀ (zs : List Nat) (k v : Nat), k < zs.length → vl 10 (zs.set k v) + 10 ^ k * zs.getD k 0 = vl 10 zs + 10 ^ k * v
  | [], k, v, h => by simp at h
  | z :: zs, 0, v, h => by simp [vl]; omega
  | z :: zs, k + 1, v, h => by
    have ih := vl_set zs k v (by simpa using h)
    simp only [List.set_cons_succ, vl, List.getD_cons_succ, Nat.pow_succ]
    rw [Nat.mul_comm (10 ^ k) 10, Nat.mul_assoc, Nat.mul_assoc]
    omega

structure MulOut (xs ys : List Nat) (i : Nat) (zs : List Nat) : Prop where
  len : zs.length = xs.length + ys.length + 1
  lt : ∀ d ∈ zs, d < 10
  val : vl 10 zs = vl 10 (xs.take i) * vl 10 ys
structure MulIn (z0 : Nat) (N x : Nat) (ys : List Nat) (i j c : Nat) (zs : List Nat) : Prop where
  len : zs.length = N
  lt : ∀ d ∈ zs, d < 10
  carry : c ≤ 9
  val : vl 10 zs + 10 ^ (i + j) * c = z0 + 10 ^ i * (x * vl 10 (ys.take j))
theorem MulOut.start (xs ys : List Nat) : MulOut xs ys 0 (List.replicate (xs.length + ys.length + 1) 0) :=
  ⟨by simp, fun d h => by rw [(List.mem_replicate.1 h).2]; decide, by rw [vl_zeros]; simp [vl]⟩
theorem MulIn.start {xs ys zs : List Nat} {i x : Nat} (h : MulOut xs ys i zs) : MulIn (vl 10 zs) (xs.length + ys.length + 1) x ys i 0 0 zs :=
  ⟨h.len, h.lt, by omega, by simp [vl]⟩
theorem MulIn.step {z0 N x i j c : Nat} {ys zs : List Nat} (h : MulIn z0 N x ys i j c zs) (hij : i + j < N) (hx : x < 10) (hy : ∀ d ∈ ys, d < 10) :
    MulIn z0 N x ys i (j + 1) ((zs.getD (i + j) 0 + x * ys.getD j 0 + c) / 10) (zs.set (i + j) ((zs.getD (i + j) 0 + x * ys.getD j 0 + c) % 10)) := by
  have h1 := getD_lt zs h.lt (i + j)
  have h2 := getD_lt ys hy j
  have h3 := h.carry
  have hm : x * ys.getD j 0 ≤ 9 * 9 := Nat.mul_le_mul (by omega) (by omega)
  refine ⟨by rw [List.length_set, h.len], fun d hd => ?_, by omega, ?_⟩
  · rcases List.mem_or_eq_of_mem_set hd with hd | hd
    · exact h.lt d hd
    · rw [hd]; omega
  · have e := h.val
    have s := vl_set zs (i + j) ((zs.getD (i + j) 0 + x * ys.getD j 0 + c) % 10) (by rw [h.len]; exact hij)
    rw [vl_take_succ]
    have hd := Nat.div_add_mod (zs.getD (i + j) 0 + x * ys.getD j 0 + c) 10
    have e2 : 10 ^ i * (x * (vl 10 (ys.take j) + 10 ^ j * ys.getD j 0)) = 10 ^ i * (x * vl 10 (ys.take j)) + 10 ^ (i + j) * (x * ys.getD j 0) := by
      rw [Nat.mul_add, Nat.mul_add, Nat.pow_add, Nat.mul_assoc (10 ^ i), Nat.mul_left_comm x]
    rw [e2, show i + (j + 1) = i + j + 1 from rfl, Nat.pow_succ]
    generalize vl 10 (zs.set (i + j) ((zs.getD (i + j) 0 + x * ys.getD j 0 + c) % 10)) = V at *
    generalize zs.getD (i + j) 0 = p at *
    generalize x * ys.getD j 0 = q at *
    generalize 10 ^ i * (x * vl 10 (ys.take j)) = W at *
    generalize 10 ^ (i + j) = P at *
    generalize (p + q + c) / 10 = u at *
    generalize (p + q + c) % 10 = v at *
    have e1 : P * 10 * u + P * v = P * (p + q + c) := by rw [← hd, Nat.mul_add, Nat.mul_assoc]
    rw [Nat.mul_add, Nat.mul_add] at e1
    omega
theorem MulIn.fin {xs ys zs ws : List Nat} {i c : Nat} (h0 : MulOut xs ys i zs) (hi : i < xs.length) (h : MulIn (vl 10 zs) (xs.length + ys.length + 1) (xs.getD i 0) ys i (ys.length + 1) c ws) (hx : ∀ d ∈ xs, d < 10) (hy : ∀ d ∈ ys, d < 10) : MulOut xs ys (i + 1) ws := by
  refine ⟨h.len, h.lt, ?_⟩
  have e := h.val
  rw [h0.val, List.take_of_length_le (l := ys) (by omega)] at e
  have e2 : vl 10 (xs.take (i + 1)) * vl 10 ys = vl 10 (xs.take i) * vl 10 ys + 10 ^ i * (xs.getD i 0 * vl 10 ys) := by
    rw [vl_take_succ, Nat.add_mul, Nat.mul_assoc]
  rw [← e2] at e
  have a1 := vl_lt 10 (xs.take (i + 1)) (fun d hd => hx d (List.mem_of_mem_take hd))
  have a2 := vl_lt 10 ys hy
  rw [List.length_take, Nat.min_eq_left (by omega)] at a1
  have a3 : vl 10 (xs.take (i + 1)) * vl 10 ys < 10 ^ (i + (ys.length + 1)) := by
    have h1 : vl 10 (xs.take (i + 1)) * vl 10 ys ≤ 10 ^ (i + 1) * vl 10 ys := Nat.mul_le_mul_right _ (Nat.le_of_lt a1)
    have h2 : 10 ^ (i + 1) * vl 10 ys < 10 ^ (i + 1) * 10 ^ ys.length := Nat.mul_lt_mul_of_pos_left a2 (Nat.pow_pos (by decide))
    rw [← Nat.pow_add, show i + 1 + ys.length = i + (ys.length + 1) by omega] at h2
    omega
  have : c = 0 := by
    rcases Nat.eq_zero_or_pos c with h0 | h0
    · exact h0
    · have := Nat.mul_le_mul_left (10 ^ (i + (ys.length + 1))) h0
      omega
  subst this
  omega

end Go.Proofs.YtbmonhnojkiapaaGreatDoor
set_option linter.unusedVariables false
set_option linter.unusedSimpArgs false
namespace Go.Proofs.YtbmonhnojkiapaaGreatDoor
open Go.RowKit
open Go.Lib (nDigits decDigits)

def pre (a : ByteArray) (k : Nat) : Nat := dval (a.data.toList.take k)
theorem pre_step (a : ByteArray) (k : Nat) (h : k < a.size) : pre a (k + 1) = pre a k * 10 + (a[k].toNat - 48) := by
  unfold pre
  rw [take_snocB a k h, dval_snoc]
structure DivI (a : ByteArray) (B k R : Nat) (S : ByteArray) (acc : List UInt8) : Prop where
  text : S = decS R
  rest : R = pre a k % B
  len : acc.length = k
  dig : acc.all isDg = true
  quo : dval acc = pre a k / B
theorem DivI.start (a : ByteArray) (B : Nat) : DivI a B 0 0 ⟨#[48]⟩ [] := ⟨dec_zero.symm, by simp [pre, dval], rfl, rfl, by simp [pre, dval]⟩
theorem DivI.step {a : ByteArray} {B k R : Nat} {S : ByteArray} {acc : List UInt8} (h : DivI a B k R S acc) (hk : k < a.size) (hB : 0 < B) {t M : Nat} (hN : R * 10 + (a[k].toNat - 48) = t * B + M) (hM : M < B) (ht : t < 10) :
    DivI a B (k + 1) M (decS M) (acc ++ [UInt8.ofNat (48 + t)]) := by
  have e0 := Nat.div_add_mod (pre a k) B
  rw [← h.rest, ← h.quo] at e0
  have e1 : pre a (k + 1) = B * (dval acc * 10 + t) + M := by
    rw [pre_step a k hk, ← e0, Nat.mul_add, Nat.mul_comm B t, ← Nat.mul_assoc]
    rw [Nat.add_mul]
    omega
  refine ⟨rfl, ?_, by rw [List.length_append, h.len]; rfl, ?_, ?_⟩
  · rw [e1, Nat.mul_add_mod, Nat.mod_eq_of_lt hM]
  · rw [List.all_append, h.dig]
    simp [isDg]
    omega
  · rw [dval_snoc, e1, Nat.mul_add_div hB, Nat.div_eq_of_lt hM, UInt8.toNat_ofNat']
    omega
end Go.Proofs.YtbmonhnojkiapaaGreatDoor
set_option linter.unusedVariables false
set_option linter.unusedSimpArgs false
namespace Go.Proofs.YtbmonhnojkiapaaGreatDoor
open Go.RowKit
open Go.Lib (nDigits decDigits)

end Go.Proofs.YtbmonhnojkiapaaGreatDoor
