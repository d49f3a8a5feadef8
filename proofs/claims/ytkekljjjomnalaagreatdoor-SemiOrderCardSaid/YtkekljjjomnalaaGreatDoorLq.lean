/- SemiOrder: every input, out of its ways. -/
import Derived.Test.YtkekljjjomnalaaGreatDoorLo
set_option linter.unusedVariables false
set_option linter.unusedSimpArgs false
namespace Go.Proofs.YtkekljjjomnalaaGreatDoor
open Go.RowKit
open Go.Lib (nDigits decDigits)

theorem same_text {a b : ByteArray} {u v : Ext} (ha : IsE a u) (hb : IsE b v) : (a.toList == b.toList) = decide (u = v) := by
  rw [bytes_ne]
  exact txt_is ha hb
theorem order_any (k : Int) (a b c : ByteArray) (w : World) (ha : a.size ≤ maxLen) (hb : b.size ≤ maxLen) (hc : c.size ≤ maxLen) : Calls Tryz.prog 8 #[.int .i64 k, .agg #[.string a, .string b, .string c]] w (LawPost w) := by
  rcases fit_any k a b c ha hb hc with F | ⟨F, u, v, t, h⟩
  · exact order_no k a b c (Lib.hid F) w
  have kk := h.va.kind
  have hu := h.va.has; have hv := h.vb.has; have ht := h.vc.has
  have wu : WideE 100 u := wideE_text h.va.e h.ka (by omega)
  have wv : WideE 100 v := wideE_text h.vb.e h.kb (by omega)
  have wt : WideE 100 t := wideE_text h.vc.e h.kc (by omega)
  have fs := extT_is ((wideE_plus k wu wv).fits (by omega))
  have fx := val_fits' ((wideE_times k (by omega) wu wt).fits (by omega)) (has_times kk hu ht)
  have fy := val_fits' ((wideE_times k (by omega) wv wt).fits (by omega)) (has_times kk hv ht)
  have P := Lib.hid (plus_fits' h.va h.vb rfl fs)
  have T1 := Lib.hid (times_fits' h.va h.vc rfl fx.e)
  have T2 := Lib.hid (times_fits' h.vb h.vc rfl fy.e)
  have B1 := Lib.hid (sbetter_val h.va h.vb)
  have B2 := Lib.hid (sbetter_val h.vb h.va)
  have B3 := Lib.hid (sbetter_val h.vb h.vc)
  have B4 := Lib.hid (sbetter_val h.va h.vc)
  have B5 := Lib.hid (sbetter_val fx fy)
  have e1 := same_text h.va.e h.vb.e
  have z := better_zero k u v
  have mono := better_times kk hu hv ht
  have tr := better_trans k u v t
  rw [better_flip k u v] at B2
  have hp : k ≠ 2 → plusE k u v = if betterE k u v ≤ 0 then u else v := fun h2 => better_plus (by rcases kk with h | h | h; exact .inl h; exact absurd h h2; exact .inr h) u v
  have eq2 : ∀ {x : Ext} {q : ByteArray}, IsE q x → plusE k u v = x → ((extT (plusE k u v)).toList == q.toList) = true ∧ ((extT (plusE k u v)).toList != q.toList) = false := fun {x q} hq e => by
    have k1 := same_text fs hq
    rw [e, decide_eq_true rfl] at k1
    rw [e]
    exact ⟨k1, by rw [bne, k1]; rfl⟩
  have rng := better_range k u v
  have three : betterE k u v = -1 ∨ betterE k u v = 0 ∨ betterE k u v = 1 := by omega
  generalize hS : extT (plusE k u v) = S at *
  generalize betterE k u v = p at *
  rcases three with rfl | rfl | rfl
  · rw [decide_eq_false (fun q => absurd (z.2 q) (by decide))] at e1
    have m := mono (by decide)
    by_cases hr : betterE k v t ≤ 0
    · have t1 : ¬ 0 < betterE k u t := by have := tr (by decide) hr; omega
      by_cases h2 : k = 2
      · exact order_m_le_two k a b c S _ _ (Lib.hid F) B1 B2 e1 _ _ B3 hr B4 t1 P (by simpa using h2) (by simpa using h2) T1 T2 _ B5 m w
      · obtain ⟨s1, s2⟩ := eq2 h.va.e ((hp h2).trans (if_pos (by decide)))
        exact order_m_le_other k a b c S _ _ (Lib.hid F) B1 B2 e1 _ _ B3 hr B4 t1 P (by simpa using h2) (by simpa using h2) s1 s2 T1 T2 _ B5 m w
    · by_cases h2 : k = 2
      · exact order_m_gt_two k a b c S _ _ (Lib.hid F) B1 B2 e1 _ 0 B3 hr P (by simpa using h2) (by simpa using h2) T1 T2 _ B5 m w
      · obtain ⟨s1, s2⟩ := eq2 h.va.e ((hp h2).trans (if_pos (by decide)))
        exact order_m_gt_other k a b c S _ _ (Lib.hid F) B1 B2 e1 _ 0 B3 hr P (by simpa using h2) (by simpa using h2) s1 s2 T1 T2 _ B5 m w
  · rw [decide_eq_true (z.1 rfl)] at e1
    have m := mono (by decide)
    by_cases hr : betterE k v t ≤ 0
    · have t1 : ¬ 0 < betterE k u t := by have := tr (by decide) hr; omega
      by_cases h2 : k = 2
      · exact order_z_le_two k a b c S _ _ (Lib.hid F) B1 B2 e1 _ _ B3 hr B4 t1 P (by simpa using h2) (by simpa using h2) T1 T2 _ B5 m w
      · obtain ⟨s1, s2⟩ := eq2 h.va.e ((hp h2).trans (if_pos (by decide)))
        exact order_z_le_other k a b c S _ _ (Lib.hid F) B1 B2 e1 _ _ B3 hr B4 t1 P (by simpa using h2) (by simpa using h2) s1 s2 T1 T2 _ B5 m w
    · by_cases h2 : k = 2
      · exact order_z_gt_two k a b c S _ _ (Lib.hid F) B1 B2 e1 _ 0 B3 hr P (by simpa using h2) (by simpa using h2) T1 T2 _ B5 m w
      · obtain ⟨s1, s2⟩ := eq2 h.va.e ((hp h2).trans (if_pos (by decide)))
        exact order_z_gt_other k a b c S _ _ (Lib.hid F) B1 B2 e1 _ 0 B3 hr P (by simpa using h2) (by simpa using h2) s1 s2 T1 T2 _ B5 m w
  · rw [decide_eq_false (fun q => absurd (z.2 q) (by decide))] at e1
    by_cases h2 : k = 2
    · exact order_p_x_two k a b c S _ _ (Lib.hid F) B1 B2 e1 P (by simpa using h2) (by simpa using h2) T1 T2 w
    · obtain ⟨s1, s2⟩ := eq2 h.vb.e ((hp h2).trans (if_neg (by decide)))
      exact order_p_x_other k a b c S _ _ (Lib.hid F) B1 B2 e1 P (by simpa using h2) (by simpa using h2) s1 s2 T1 T2 w
end Go.Proofs.YtkekljjjomnalaaGreatDoor
