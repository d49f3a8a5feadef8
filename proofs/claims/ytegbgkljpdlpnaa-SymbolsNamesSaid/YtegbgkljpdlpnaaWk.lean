/- The reference's SameList. -/
import Derived.Test.YtegbgkljpdlpnaaRd
import Derived.WalkSpells
import Derived.WalkLawsBesides
import Derived.Deep.QuietTactic
import Derived.BigQuiet
import Derived.Lib.Hide
import Derived.Lib.Strings
set_option linter.unusedVariables false
set_option linter.unusedSimpArgs false
namespace Go.Proofs.Ytegbgkljpdlpnaa
open Go.RowKit

theorem ret_boolk {a b : Bool} (h : a = b) : Ending.returned (.bool a) = .returned (.bool b) := by rw [h]
def SamePost (la lb : List ByteArray) (w : World) (e : Ending) (w' : World) : Prop := e = .returned (.bool (decide (la = lb))) ∧ ∃ n, w' = w.drewN n

set_option maxHeartbeats 1000000 in
theorem sameList_any (w : World) (va vb : Value) (la lb : List ByteArray) (ha : StrSl w va la) (hb : StrSl w vb lb) (hla : la.length ≤ 9223372036854775806) :
    Calls Try.prog 19 #[va, vb] w (SamePost la lb w) := by
  obtain ⟨A, ca, rfl, ra⟩ := ha
  obtain ⟨B, cb, rfl, rb⟩ := hb
  by_cases hl : la.length = lb.length
  · have f1 : ((la.length : Int) != (lb.length : Int)) = false := by simp; omega
    have HL := Lib.hid hl
    clear hl
    go_enter Try.func19, Try.ntmps19
    go_wp2
    go_loopw [5] (fun i wr => ∃ (k : Nat), i = .int .i64 k ∧ k ≤ la.length ∧ (∃ n, wr = w.drewN n) ∧ ∀ j, j < k → la[j]? = lb[j]?) (fun i _ => la.length - (intOf i).toNat)
    case atStart => exact ⟨0, rfl, by omega, ⟨0, rfl⟩, fun j hj => by omega⟩
    case round =>
      obtain ⟨k, rfl, hk, ⟨n, rfl⟩, hall⟩ := hrel
      have HALL := Lib.hid hall; clear hall
      by_cases hlt : k < la.length
      · have hlt2 : k < lb.length := by have := HL.out; omega
        obtain ⟨ad, x, rfl, _, hx, hcx⟩ := ra.at_ hlt
        obtain ⟨bd, y, rfl, _, hy, hcy⟩ := rb.at_ hlt2
        rw [List.getElem?_map, List.getElem?_eq_getElem hlt] at hx
        rw [List.getElem?_map, List.getElem?_eq_getElem hlt2] at hy
        simp at hx hy
        subst hx hy
        obtain ⟨X, hX⟩ : ∃ X, la[k] = X := ⟨_, rfl⟩
        obtain ⟨Y, hY⟩ : ∃ Y, lb[k] = Y := ⟨_, rfl⟩
        have hcx2 : w.cell? (ad.add k) = some (.string X) := by rw [← hX]; exact hcx
        have hcy2 : w.cell? (bd.add k) = some (.string Y) := by rw [← hY]; exact hcy
        have hex : la[k]? = some X := by rw [List.getElem?_eq_getElem hlt, hX]
        have hey : lb[k]? = some Y := by rw [List.getElem?_eq_getElem hlt2, hY]
        have HX := Lib.hid hex; have HY := Lib.hid hey
        clear hX hY hcx hcy hex hey
        have n1 : IntKind.i64.wrap (k : Int) = (k : Int) := by rw [IntKind.wrap_i64]; omega
        by_cases he : X = Y
        · subst he
          go_wp2
          go_quiet (fail)
          go_wp2
          go_roundw
          case rel =>
            refine ⟨k + 1, by go_num, by omega, ⟨_, rfl⟩, fun j hj => ?_⟩
            by_cases hj2 : j = k
            · subst hj2; rw [HX.out, HY.out]
            · exact HALL.out j (by omega)
          case measure => simp [intOf]; omega
        · have f2 : (X.toList == Y.toList) = false := by
            rw [beq_eq_false_iff_ne]
            intro h; apply he
            exact ByteArray.ext (by rw [← Array.toList_inj]; rw [← Lib.toList_data, ← Lib.toList_data]; exact h)
          have HE := Lib.hid he; clear he
          go_wp2
          go_quiet (fail)
          go_wp2
          go_ret
          refine ⟨ret_boolk ?_, n + nq, World.drewN_drewN _ _ _⟩
          simp
          intro h
          apply HE.out
          have := HX.out
          rw [h, HY.out] at this
          exact (Option.some.inj this).symm
      · have e : k = la.length := by omega
        have hend : la = lb := by
          apply List.ext_getElem?
          intro j
          by_cases hj : j < k
          · exact HALL.out j hj
          · rw [List.getElem?_eq_none (by omega), List.getElem?_eq_none (by have := HL.out; omega)]
        have HE := Lib.hid hend
        clear hend
        subst e
        go_wp2
        go_ret
        exact ⟨ret_boolk (by simp [HE.out]), _, rfl⟩
  · have f1 : ((la.length : Int) != (lb.length : Int)) = true := by simp; omega
    have HL := Lib.hid hl
    clear hl
    go_enter Try.func19, Try.ntmps19
    go_wp2
    go_ret
    exact ⟨ret_boolk (by simp; intro h; exact HL.out (by rw [h])), 0, rfl⟩
end Go.Proofs.Ytegbgkljpdlpnaa
