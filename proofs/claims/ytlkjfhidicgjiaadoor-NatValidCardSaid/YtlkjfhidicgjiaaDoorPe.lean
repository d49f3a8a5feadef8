/- Plain: one round of the division block by block. -/
import Derived.Test.YtlkjfhidicgjiaaDoorPd
set_option linter.unusedVariables false
namespace Go.Proofs.YtlkjfhidicgjiaaDoor

/-- What a round leaves: the block of the quotient, and the rest of the part. -/
def RoundOk (P vy qh : Nat) (part ys p1 : List Nat) (c : Nat) (p2 : List Nat) : Prop :=
  (c = 0 → qh = P / vy ∧ vl 1000000000 p1 = P % vy) ∧ (0 < c → qh = P / vy + 1 ∧ vl 1000000000 p2 = P % vy)

theorem round_ok (part ys : List Nat) (qh : Nat) (hp : ∀ x ∈ part, x < 1000000000) (hy : ∀ y ∈ ys, y < 1000000000) (hl : part.length = ys.length + 1) (hv : 0 < vl 1000000000 ys)
    (h1 : vl 1000000000 part / vl 1000000000 ys ≤ qh) (h2 : qh ≤ vl 1000000000 part / vl 1000000000 ys + 1) (h3 : qh ≤ 1000000000) :
    (∀ z ∈ (comb (subT qh) part ys 0 (ys.length + 1)).1, z < 1000000000) ∧
    (∀ z ∈ (comb (addT 1) (comb (subT qh) part ys 0 (ys.length + 1)).1 ys 0 (ys.length + 1)).1, z < 1000000000) ∧
    RoundOk (vl 1000000000 part) (vl 1000000000 ys) qh part ys (comb (subT qh) part ys 0 (ys.length + 1)).1 (comb (subT qh) part ys 0 (ys.length + 1)).2 (comb (addT 1) (comb (subT qh) part ys 0 (ys.length + 1)).1 ys 0 (ys.length + 1)).1 := by
  obtain ⟨a1, a2, a3⟩ := comb_sub qh part ys h3 hp hy 0 (by decide) (ys.length + 1)
  have a4 := comb_length (subT qh) part ys 0 (ys.length + 1)
  have t1 : ys.take (ys.length + 1) = ys := List.take_of_length_le (by omega)
  have t2 : part.take (ys.length + 1) = part := List.take_of_length_le (by omega)
  have t3 : (comb (subT qh) part ys 0 (ys.length + 1)).1.take (ys.length + 1) = (comb (subT qh) part ys 0 (ys.length + 1)).1 := List.take_of_length_le (by omega)
  rw [t1, t2, Nat.add_zero] at a3
  obtain ⟨b1, b2, b3⟩ := comb_add 1 (comb (subT qh) part ys 0 (ys.length + 1)).1 ys (by decide) a1 hy 0 (by decide) (ys.length + 1)
  have b4 := comb_length (addT 1) (comb (subT qh) part ys 0 (ys.length + 1)).1 ys 0 (ys.length + 1)
  rw [t1, t3, Nat.one_mul, Nat.add_zero] at b3
  have c1 := vl_lt 1000000000 _ a1
  have c2 := vl_lt 1000000000 _ b1
  have c3 := vl_lt 1000000000 ys hy
  rw [a4] at c1
  rw [b4] at c2
  have hpow : (1000000000 : Nat) ^ ys.length ≤ 1000000000 ^ (ys.length + 1) := Nat.pow_le_pow_right (by decide) (by omega)
  refine ⟨a1, b1, ?_, ?_⟩
  all_goals
    generalize (comb (addT 1) (comb (subT qh) part ys 0 (ys.length + 1)).1 ys 0 (ys.length + 1)) = q2 at *
    generalize comb (subT qh) part ys 0 (ys.length + 1) = q1 at *
    generalize vl 1000000000 part = P at *
    generalize vl 1000000000 ys = V at *
    generalize (1000000000 : Nat) ^ (ys.length + 1) = T at *
    generalize (1000000000 : Nat) ^ ys.length = T0 at *
    have hdm := Nat.div_add_mod P V
    have hml := Nat.mod_lt P hv
    generalize P % V = r at *
    generalize P / V = d at *
    clear a1 b1 hp hy a4 b4 hl t1 t2 t3
    intro hc
  · rw [hc, Nat.mul_zero, Nat.add_zero] at a3
    have hq : qh = d := by
      rcases Nat.lt_or_ge d qh with h | h
      · obtain rfl : qh = d + 1 := by omega
        rw [Nat.add_mul, Nat.one_mul, Nat.mul_comm d V] at a3
        omega
      · omega
    refine ⟨hq, ?_⟩
    rw [hq, Nat.mul_comm d V] at a3
    omega
  · have hT : T * 1 ≤ T * q1.2 := Nat.mul_le_mul_left _ hc
    have hq : qh = d + 1 := by
      rcases Nat.lt_or_ge d qh with h | h
      · omega
      · obtain rfl : qh = d := by omega
        rw [Nat.mul_comm qh V] at a3
        omega
    rw [hq, Nat.add_mul, Nat.one_mul, Nat.mul_comm d V] at a3
    have hc1 : q1.2 = 1 := by
      rcases Nat.lt_or_ge 1 q1.2 with h | h
      · have : T * 2 ≤ T * q1.2 := Nat.mul_le_mul_left _ h
        omega
      · omega
    rw [hc1, Nat.mul_one] at a3
    have hc2 : q2.2 = 1 := by
      rcases Nat.lt_or_ge 1 q2.2 with h | h
      · have : T * 2 ≤ T * q2.2 := Nat.mul_le_mul_left _ h
        omega
      · rcases Nat.eq_zero_or_pos q2.2 with h0 | h0
        · rw [h0, Nat.mul_zero] at b3; omega
        · omega
    rw [hc2, Nat.mul_one] at b3
    exact ⟨hq, by omega⟩

/-- What the loop keeps: k places are still to come. -/
structure DivInv (xs ys : List Nat) (k : Nat) (zs qs : List Nat) : Prop where
  zlen : zs.length = xs.length + 1
  qlen : qs.length = xs.length - ys.length + 1
  zlt : ∀ z ∈ zs, z < 1000000000
  qlt : ∀ z ∈ qs, z < 1000000000
  val : vl 1000000000 (qs.drop k) * vl 1000000000 ys * 1000000000 ^ k + vl 1000000000 zs = vl 1000000000 xs
  lt : vl 1000000000 (zs.drop k) < vl 1000000000 ys

section
variable {xs ys zs qs : List Nat} {k : Nat}

theorem DivInv.start (hx : ∀ x ∈ xs, x < 1000000000) (hyt : topOk ys) (h0 : ys ≠ []) (hle : ys.length ≤ xs.length) :
    DivInv xs ys (xs.length - ys.length + 1) (xs ++ [0]) (List.replicate (xs.length - ys.length + 1) 0) := by
  have hyl : 0 < ys.length := List.length_pos_iff.2 h0
  have hz : ∀ z ∈ xs ++ [0], z < 1000000000 := by
    intro z hz
    rcases List.mem_append.1 hz with h | h
    · exact hx z h
    · rw [List.mem_singleton.1 h]; decide
  refine ⟨by simp, by simp, hz, fun z h => by rw [(List.mem_replicate.1 h).2]; decide, ?_, ?_⟩
  · rw [List.drop_eq_nil_of_le (by simp), vl_snoc]; simp [vl]
  · have ht := vl_top 1000000000 ys h0 hyt
    have e : (xs ++ [0]).drop (xs.length - ys.length + 1) = xs.drop (xs.length - ys.length + 1) ++ [0] := by
      rw [List.drop_append_of_le_length (by omega)]
    rw [e, vl_snoc, Nat.mul_zero, Nat.add_zero]
    have h2 := vl_lt 1000000000 (xs.drop (xs.length - ys.length + 1)) (fun x h => hx x (List.mem_of_mem_drop h))
    rw [List.length_drop, show xs.length - (xs.length - ys.length + 1) = ys.length - 1 by omega] at h2
    omega

/-- The part at place k, of one block more than y. -/
theorem DivInv.part (h : DivInv xs ys (k + 1) zs qs) (hk : k + 1 ≤ xs.length - ys.length + 1) (hle : ys.length ≤ xs.length) (hy : ∀ y ∈ ys, y < 1000000000) :
    vl 1000000000 (zs.drop (k + (ys.length + 1))) = 0 ∧ ((zs.drop k).take (ys.length + 1)).length = ys.length + 1 ∧ (∀ z ∈ (zs.drop k).take (ys.length + 1), z < 1000000000) ∧
    vl 1000000000 ((zs.drop k).take (ys.length + 1)) < 1000000000 * vl 1000000000 ys ∧ vl 1000000000 (zs.drop k) = vl 1000000000 ((zs.drop k).take (ys.length + 1)) := by
  have hl := h.zlen
  have hyv := vl_lt 1000000000 ys hy
  have h1 := vl_split 1000000000 (zs.drop (k + 1)) ys.length (by rw [List.length_drop]; omega)
  rw [List.drop_drop] at h1
  have hlt := h.lt
  have hz : vl 1000000000 (zs.drop (k + 1 + ys.length)) = 0 := by
    rcases Nat.eq_zero_or_pos (vl 1000000000 (zs.drop (k + 1 + ys.length))) with e | e
    · exact e
    · have : 1000000000 ^ ys.length * 1 ≤ 1000000000 ^ ys.length * vl 1000000000 (zs.drop (k + 1 + ys.length)) := Nat.mul_le_mul_left _ e
      omega
  have e1 : k + 1 + ys.length = k + (ys.length + 1) := by omega
  rw [e1] at hz
  have h2 := vl_split 1000000000 (zs.drop k) (ys.length + 1) (by rw [List.length_drop]; omega)
  rw [List.drop_drop, hz, Nat.mul_zero, Nat.add_zero] at h2
  have h3 := vl_drop_succ 1000000000 zs k
  have hzk := getD_mem_lt 1000000000 (by decide) zs h.zlt k
  exact ⟨hz, by rw [List.length_take, List.length_drop]; omega, fun z hm => h.zlt z (List.mem_of_mem_drop (List.mem_of_mem_take hm)), by omega, h2⟩

theorem DivInv.step (h : DivInv xs ys (k + 1) zs qs) (hk : k + 1 ≤ xs.length - ys.length + 1) (hle : ys.length ≤ xs.length) (hy : ∀ y ∈ ys, y < 1000000000) (hv : 0 < vl 1000000000 ys)
    (p : List Nat) (q : Nat) (hpl : p.length = ys.length + 1) (hp : ∀ z ∈ p, z < 1000000000)
    (hq : q = vl 1000000000 ((zs.drop k).take (ys.length + 1)) / vl 1000000000 ys) (hpv : vl 1000000000 p = vl 1000000000 ((zs.drop k).take (ys.length + 1)) % vl 1000000000 ys) :
    DivInv xs ys k (zs.take k ++ p ++ zs.drop (k + (ys.length + 1))) (qs.set k q) := by
  obtain ⟨a1, a2, a3, a4, a5⟩ := h.part hk hle hy
  have hl := h.zlen
  have hql := h.qlen
  have hqb : q < 1000000000 := by rw [hq, Nat.div_lt_iff_lt_mul hv]; exact a4
  have hdm := Nat.div_add_mod (vl 1000000000 ((zs.drop k).take (ys.length + 1))) (vl 1000000000 ys)
  have hml := Nat.mod_lt (vl 1000000000 ((zs.drop k).take (ys.length + 1))) hv
  rw [← hq, ← hpv] at hdm
  rw [← hpv] at hml
  have htk : (zs.take k).length = k := by rw [List.length_take]; omega
  refine ⟨?_, by rw [List.length_set]; exact hql, ?_, ?_, ?_, ?_⟩
  · rw [List.length_append, List.length_append, htk, List.length_drop, hpl]; omega
  · intro z hz
    rcases List.mem_append.1 hz with hz | hz
    · rcases List.mem_append.1 hz with hz | hz
      · exact h.zlt z (List.mem_of_mem_take hz)
      · exact hp z hz
    · exact h.zlt z (List.mem_of_mem_drop hz)
  · intro z hz
    rcases List.mem_or_eq_of_mem_set hz with hz | rfl
    · exact h.qlt z hz
    · exact hqb
  · have hsp := vl_split 1000000000 zs k (by omega)
    have hqd := vl_drop_succ 1000000000 (qs.set k q) k
    rw [getD_set _ _ _ _ (by omega), if_pos rfl, List.drop_set_of_lt (show k < k + 1 by omega)] at hqd
    have hval := h.val
    rw [hqd, vl_append, vl_append, a1, Nat.mul_zero, Nat.add_zero, htk]
    rw [hsp, a5, ← hdm, Nat.pow_succ] at hval
    rw [← hval, Nat.add_mul, Nat.add_mul, Nat.mul_add]
    generalize vl 1000000000 (qs.drop (k + 1)) = Q
    generalize vl 1000000000 ys = V
    generalize vl 1000000000 (zs.take k) = A
    generalize vl 1000000000 p = R
    generalize (1000000000 : Nat) ^ k = T
    have e1 : q * V * T = T * (V * q) := by rw [Nat.mul_comm T, Nat.mul_comm q V]
    have e2 : 1000000000 * Q * V * T = Q * V * (T * 1000000000) := by
      rw [Nat.mul_comm T, ← Nat.mul_assoc, Nat.mul_comm (Q * V) 1000000000, ← Nat.mul_assoc]
    rw [e1, e2]
    omega
  · rw [List.append_assoc, List.drop_append_of_le_length (by omega), List.drop_of_length_le (by omega), List.nil_append, vl_append, a1, Nat.mul_zero, Nat.add_zero]
    exact hml

theorem DivInv.fin (h : DivInv xs ys 0 zs qs) : vl 1000000000 qs = vl 1000000000 xs / vl 1000000000 ys ∧ vl 1000000000 zs = vl 1000000000 xs % vl 1000000000 ys := by
  have hv := h.val
  have hl := h.lt
  rw [List.drop_zero] at hl
  rw [List.drop_zero, Nat.pow_zero, Nat.mul_one, Nat.mul_comm] at hv
  have := (Nat.div_mod_unique (a := vl 1000000000 xs) (b := vl 1000000000 ys) (c := vl 1000000000 zs) (d := vl 1000000000 qs) (by omega)).2 ⟨by omega, hl⟩
  exact ⟨this.1.symm, this.2.symm⟩
end
end Go.Proofs.YtlkjfhidicgjiaaDoor
