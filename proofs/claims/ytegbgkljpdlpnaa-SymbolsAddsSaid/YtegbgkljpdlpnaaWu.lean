/- The reference's Split. -/
import Derived.Test.YtegbgkljpdlpnaaWj
import Derived.Test.YtegbgkljpdlpnaaWl
import Derived.Test.YtegbgkljpdlpnaaPk
set_option linter.unusedVariables false
set_option linter.unusedSimpArgs false
namespace Go.Proofs.Ytegbgkljpdlpnaa
open Go.RowKit

theorem vrS_eq (s : ByteArray) : vrS s = vrD s := rfl

theorem str_at {A : Option Addr} {w : World} {L : List ByteArray} {k : Nat} {x : ByteArray} (h : Reads w w.heap.size 1 A L.length (L.map Value.string)) (hx : L[k]? = some x) :
    ∃ ad, A = some ad ∧ ad.block < w.heap.size ∧ w.cell? (ad.add k) = some (.string x) := by
  have hk : k < L.length := by
    rcases Nat.lt_or_ge k L.length with h1 | h1
    · exact h1
    · rw [List.getElem?_eq_none h1] at hx; cases hx
  obtain ⟨ad, u, hA, hb, hu, hc⟩ := h.at_ hk
  rw [List.getElem?_map, hx] at hu
  simp at hu
  subst hu
  exact ⟨ad, hA, hb, hc⟩

set_option maxHeartbeats 2000000 in
theorem rsplit_any (s : ByteArray) (w : World) (hs : s.size ≤ 1099511627776) :
    Calls Try.prog 45 #[.string s] w (SplitPost s w) := by
  by_cases hlen : 16384 < s.size
  · have hL : splitL s = ([], 0, 2) := by unfold splitL; rw [if_pos hlen]
    have HL := Lib.hid hL; clear hL
    go_enter Try.func45, Try.ntmps45
    go_wp2
    go_ret3
    exact ⟨.slice none 0 0, by rw [HL.out]; rfl, by rw [HL.out]; exact StrSl.nil _, Below.refl _ _⟩
  have hL : splitL s = splitOf (bad s) s := by unfold splitL; rw [if_neg hlen]
  have HL := Lib.hid hL; clear hL
  have hpc := pieces_any s w hs
  unfold PiecesPost at hpc
  obtain ⟨L, hLL⟩ : ∃ L, pieces s = L := ⟨_, rfl⟩
  have hLL0 : L = piecesFrom s s.size 0 := hLL.symm
  have HLL := Lib.hid hLL; have HL0 := Lib.hid hLL0
  rw [hLL] at hpc
  clear hLL hLL0
  go_enter Try.func45, Try.ntmps45
  go_wp2_with fail
  refine hpc.mono ?_
  rintro e w1 ⟨v, rfl, hv, hb⟩
  obtain ⟨A, ca, rfl, ra⟩ := hv
  clear hpc
  go_wp2
  go_loop [6, 7] (fun n i => ∃ (k pos f : Nat), i = .int .i64 k ∧ n = .int .i64 pos ∧ L.drop k = piecesFrom s f pos ∧ pos ≤ s.size ∧ s.size ≤ pos + f ∧ badFrom s f pos = bad s ∧ k ≤ L.length ∧ k ≤ pos) (fun n _ => s.size - (intOf n).toNat)
  case atStart => exact ⟨0, 0, s.size, rfl, rfl, by rw [List.drop_zero]; exact HL0.out, by omega, by omega, rfl, by omega, by omega⟩
  case round =>
    obtain ⟨k, pos, f, rfl, rfl, hdr, hps, hpf, hbd, hkl, hkp⟩ := hrel
    have HDR := Lib.hid hdr; have HBD := Lib.hid hbd
    clear hdr hbd
    by_cases hp : pos < s.size
    · obtain ⟨f, rfl⟩ : ∃ f', f = f' + 1 := ⟨f - 1, by omega⟩
      have hdr1 := HDR.out
      rw [piecesFrom_step s f pos hp] at hdr1
      have hx : L[k]? = some (piece s pos) := by
        have : (L.drop k)[0]? = some (piece s pos) := by rw [hdr1]; rfl
        rw [List.getElem?_drop] at this; simpa using this
      have hkl2 : k < L.length := by
        rcases Nat.lt_or_ge k L.length with h1 | h1
        · exact h1
        · rw [List.getElem?_eq_none h1] at hx; cases hx
      have hdr2 : L.drop (k + 1) = piecesFrom s f (pos + pw s pos) := by
        have := congrArg (List.drop 1) hdr1
        rw [List.drop_drop] at this
        simpa using this
      obtain ⟨ad, rfl, _, hc⟩ := str_at ra hx
      have hpw := pw_within s pos hp
      have hp1 := pw_pos s pos
      have hsz := piece_size s pos hp
      have hval := fun w => rvalid_any (piece s pos) w (by rw [hsz]; omega)
      rw [vrS_eq, vrD_piece s pos hp] at hval
      have HD2 := Lib.hid hdr2
      clear hdr1 hdr2 hx HDR
      have n1 : (k : Int) < (L.length : Int) := by omega
      cases hs2 : stray s pos
      · rw [hs2] at hval
        have hbd1 := HBD.out
        rw [badFrom_miss s f pos hp hs2] at hbd1
        have HB1 := Lib.hid hbd1
        clear hbd1 HBD hs2
        generalize piece s pos = P at *
        generalize pw s pos = q at *
        go_wp2_with (go_at_call 50; refine (hval _).mono ?_; rintro e w' ⟨rfl, rfl⟩)
        go_round
        case rel => exact ⟨k + 1, pos + q, f, by go_num, by go_num, HD2.out, by omega, by omega, HB1.out, by omega, by omega⟩
        case measure => simp [intOf]; omega
      · rw [hs2] at hval
        have hbd1 := HBD.out
        rw [badFrom_hit s f pos hp hs2] at hbd1
        have HB1 := Lib.hid hbd1
        clear hbd1 HBD hs2
        generalize piece s pos = P at *
        generalize pw s pos = q at *
        go_wp2_with (go_at_call 50; refine (hval _).mono ?_; rintro e w' ⟨rfl, rfl⟩)
        go_ret3
        exact ⟨.slice none 0 0, by rw [HL.out, ← HB1.out]; rfl, by rw [HL.out, ← HB1.out]; exact StrSl.nil _, hb⟩
    · have hdr1 := HDR.out
      rw [piecesFrom_end s f pos hp, List.drop_eq_nil_iff] at hdr1
      have ek : k = L.length := by omega
      have hbd1 := HBD.out
      rw [badFrom_end s f pos hp] at hbd1
      have HB1 := Lib.hid hbd1
      clear hbd1 HBD HDR hdr1
      subst ek
      go_wp2
      go_ret3
      exact ⟨.slice A L.length ca, by rw [HL.out, ← HB1.out]; rfl, by rw [HL.out, ← HB1.out]; show StrSl _ _ (pieces s); rw [HLL.out]; exact ⟨A, ca, rfl, ra⟩, hb⟩
end Go.Proofs.Ytegbgkljpdlpnaa
