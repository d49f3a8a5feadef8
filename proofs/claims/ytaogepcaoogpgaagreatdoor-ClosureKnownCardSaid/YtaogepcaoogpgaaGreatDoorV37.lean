/- U50 -/
import Derived.Test.YtaogepcaoogpgaaGreatDoorV35
import Derived.Test.YtaogepcaoogpgaaGreatDoorV36
import Derived.Test.YtaogepcaoogpgaaGreatDoorV20
set_option linter.unusedVariables false
set_option linter.unusedSimpArgs false
namespace Go.Proofs.YtaogepcaoogpgaaGreatDoor
open Go.RowKit
theorem wgt_has7 {k : Int} {v : Ext} (h : wgtE k v = true) : hasE k v = true := by
 rcases v with (_ | _) | x
 ·cases h
 ·cases h
 ·unfold wgtE at h
  unfold hasE
  simp only [Bool.or_eq_true, Bool.and_eq_true, decide_eq_true_eq] at h ⊢
  rcases h with h | ⟨h, h2⟩
  ·exact .inl h
  ·exact .inr ⟨h, by grind⟩
theorem wgtB_val7 {k : Int} {a : ByteArray} (h : wgtB k a = true) : ∃ v, Val k a v := by
 obtain ⟨v, hv⟩ := wgtB_val h
 exact ⟨v, hv.e, wgt_has7 hv.has⟩
structure MOk (m : Mach) : Prop where
 kind : IsKind m.kind
 start : ∃ s0 : Nat, m.start = (s0 : Int) ∧ s0 < m.states.length
 lead : ∃ v, Val m.kind m.lead v
 arcs : ∀ i, i < m.states.length → ArcsOk m.kind m.states.length (stA m.states i) ∧ (stA m.states i).length ≤ 30000
 fins : ∀ i, i < m.states.length → stF m.states i = ⟨#[]⟩ ∨ ∃ v, Val m.kind (stF m.states i) v
theorem valid_ok7 {m : Mach} (h : validB m = true) : MOk m := by
 obtain ⟨h1, h2, h3, h4, h5, h6⟩ := head_parts (valid_head h)
 refine ⟨(kindB_iff _).1 h1, ⟨m.start.toNat, by omega, by omega⟩, wgtB_val7 h6, fun i hi => ?_, fun i hi => ?_⟩
 ·have hs : m.states[i]? = some m.states[i] := List.getElem?_eq_getElem hi
  rw [stA_at hs]
  obtain ⟨_, ha⟩ := state_parts (valid_states h hs)
  refine ⟨fun a hm => ?_, ?_⟩
  ·obtain ⟨_, _, _, _, q1, q2, q3⟩ := arc_parts (ha a hm)
   exact ⟨q1, q2, wgtB_val7 q3⟩
  ·have := nArcs_mem (List.mem_of_getElem? hs)
   have := valid_arcs h
   omega
 ·have hs : m.states[i]? = some m.states[i] := List.getElem?_eq_getElem hi
  rw [stF_at hs]
  obtain ⟨hf, _⟩ := state_parts (valid_states h hs)
  unfold finB at hf
  simp only [Bool.or_eq_true, decide_eq_true_eq] at hf
  rcases hf with hf | hf
  ·exact .inl (ByteArray.ext (Array.eq_empty_of_size_eq_zero hf))
  ·exact .inr (wgtB_val7 hf)
theorem MOk.sts {m : Mach} (h : MOk m) (hn : m.states.length ≤ 60) : StsOk m.kind m.states := ⟨hn, h.arcs, h.fins⟩
noncomputable def checkC (m : Mach) : Int := if validB m = true then (if 60 < m.states.length then 2 else 0) else 1
set_option maxRecDepth 20000 in
set_option maxHeartbeats 2000000 in
theorem check_any {w : World} {v : Value} {m : Mach} (hv : MachV w v m) (hf : MFits m) : Calls Tryz.prog 50 #[v] w fun e w' => e = .returned (.int .i64 (checkC m)) ∧ w.grownBy w' none := by
 obtain ⟨u, rfl, hst⟩ := hv
 obtain ⟨A, cs, us, rfl, hsr⟩ := stsR_of hst
 obtain ⟨n, hn⟩ : ∃ n, m.states.length = n := ⟨_, rfl⟩
 have hal := World.grownBy_alloc w (.cells #[.int .i64 m.kind, .int .i64 m.start, .string m.lead, .slice A m.states.length cs] 31) none
 have hval := pvalid_any (w := w.alloc (.cells #[.int .i64 m.kind, .int .i64 m.start, .string m.lead, .slice A m.states.length cs] 31)) (v := .agg #[.int .i64 m.kind, .int .i64 m.start, .string m.lead, .slice A m.states.length cs]) (m := m) ⟨_, rfl, hst.below (below_of7 hal)⟩ hf
 obtain ⟨x0, x1, x2, x3⟩ := MBox.new w m.kind m.start m.lead A m.states.length cs
 have HV := Lib.hid hval; have HW := Lib.hid hal; have HN := Lib.hid hf.n
 clear hval hal hst hsr hf
 rw [hn] at HV HW x0 x1 x2 x3 HN
 have hcc : checkC m = (if validB m = true then (if 60 < n then 2 else 0) else 1) := by unfold checkC; rw [hn]
 have HCC := Lib.hid hcc
 clear hcc
 generalize checkC m = cc at *
 rw [hn]
 go_enter Tryz.func50, Tryz.ntmps50
 go_wp2_with fail
 refine HV.out.mono ?_
 rintro e w1 ⟨rfl, hg1⟩
 have y3 := hg1.cell x3 (by simp)
 have HG := Lib.hid (grown_trans HW.out hg1)
 clear hg1 x0 x1 x2 x3 HV HW
 cases hb : validB m
 ·go_wp2
  go_ret
  have e := HCC.out
  rw [hb] at e
  subst e
  exact ⟨rfl, HG.out⟩
 ·by_cases h60 : 60 < n
  ·have t1 : decide (60 < n) = true := by simpa using h60
   have t2 : decide ((60 : Int) < (n : Int)) = true := by simp; omega
   have t3 : (60 : Int) < (n : Int) := by omega
   have H6 := Lib.hid h60
   clear h60
   go_wp2
   go_ret
   have e := HCC.out
   rw [hb, if_pos rfl, if_pos H6.out] at e
   subst e
   exact ⟨rfl, HG.out⟩
  ·have t1 : decide (60 < n) = false := by simpa using h60
   have t2 : decide ((60 : Int) < (n : Int)) = false := by simp; omega
   have t3 : ¬ (60 : Int) < (n : Int) := by omega
   have H6 := Lib.hid h60
   clear h60
   go_wp2
   go_ret
   have e := HCC.out
   rw [hb, if_pos rfl, if_neg H6.out] at e
   subst e
   exact ⟨rfl, HG.out⟩
open Go.RowKit
theorem checkC_zero {m : Mach} (h : checkC m = 0) : validB m = true ∧ m.states.length ≤ 60 := by
 unfold checkC at h
 split at h
 ·split at h
  ·omega
  ·exact ⟨by assumption, by omega⟩
 ·omega
def ListPost (m : Mach) (P : Prop) (L : Nat → Value) (w : World) (e : Ending) (w' : World) : Prop :=
 w.grownBy w' none ∧ ((P ∧ ∃ v, e = .returned (.tuple #[v, .int .i64 0]) ∧ RowR w' v m.states.length L) ∨ (¬ P ∧ e = .returned (.tuple #[.slice none 0 0, .int .i64 2])))
theorem enters_To1 : Enters 52 := enters_of Tryz.func52 (by kernel_rfl) rfl
set_option maxRecDepth 20000 in
set_option maxHeartbeats 2000000 in
theorem To1_any {k : Int} (hk : IsKind k) (l : List MState) (us : List Value) (As : Option Addr) (cs g s0 : Nat) (ld : ByteArray) (w : World) (hok : StsOk k l) (hst : StsR w l us As cs) (hs0 : s0 < l.length) (hld : ∃ v, Val k ld v) (hb : MBox w g k (s0 : Int) ld As l.length cs) :
  Calls Tryz.prog 52 #[.pointer (some ⟨g, 0, none⟩)] w (OrDieQ (ToFits hk l) (fun v w' => ∃ g, v = .slice (some ⟨g, 0, none⟩) l.length l.length ∧ w.heap.size ≤ g ∧ RowAt w' g 0 l.length (txs (toE hk l))) w) := by
 have h := toEnd_any hk l us As cs (s0 : Int) ld w hok hst
 obtain ⟨x0, x1, x2, x3⟩ := hb
 have H := Lib.hid h
 clear h hok hst hs0 hld
 go_enter Tryz.func52, Tryz.ntmps52
 go_wp2_with fail
 refine H.out.mono ?_
 rintro e w1 (⟨hp, v, rfl, hq, hg1⟩ | ⟨hn, rfl, hg1⟩)
 ·have HP := Lib.hid (And.intro hp (And.intro hq hg1))
  clear hp hq hg1 H
  go_wp2
  go_ret
  exact .inl ⟨HP.out.1, _, rfl, HP.out.2.1, HP.out.2.2⟩
 ·exact ⟨rfl, .inr ⟨hn, rfl, hg1⟩⟩
def ToPost (m : Mach) (w : World) (e : Ending) (w' : World) : Prop :=
 (checkC m ≠ 0 ∧ w.grownBy w' none ∧ e = .returned (.tuple #[.slice none 0 0, .int .i64 (checkC m)])) ∨ (checkC m = 0 ∧ ∃ hk : IsKind m.kind, ListPost m (ToFits hk m.states) (txs (toE hk m.states)) w e w')
set_option maxRecDepth 20000 in
set_option maxHeartbeats 4000000 in
theorem To_any {w : World} {v : Value} {m : Mach} (hv : MachV w v m) (hf : MFits m) : Calls Tryz.prog 18 #[v] w (ToPost m w) := by
 have hmf : ∀ (fn : Fn) (first cap : Array Value) (w : World), (Instr.makeFunc fn first cap).run Tryz.prog w = .ok (.func fn first cap) w := fun _ _ _ _ => rfl
 have hv0 := hv
 obtain ⟨u, rfl, hst⟩ := hv
 obtain ⟨A, cs, us, rfl, hsr⟩ := stsR_of hst
 have hal := World.grownBy_alloc w (.cells #[.int .i64 m.kind, .int .i64 m.start, .string m.lead, .slice A m.states.length cs] 31) none
 have hck := check_any (w := w.alloc (.cells #[.int .i64 m.kind, .int .i64 m.start, .string m.lead, .slice A m.states.length cs] 31)) (v := .agg #[.int .i64 m.kind, .int .i64 m.start, .string m.lead, .slice A m.states.length cs]) (m := m) ⟨_, rfl, hst.below (below_of7 hal)⟩ hf
 have hbx := MBox.new w m.kind m.start m.lead A m.states.length cs
 obtain ⟨x0, x1, x2, x3⟩ := hbx
 have hsr1 := hsr.grown hal
 have HC := Lib.hid hck; have HW := Lib.hid hal; have HS := Lib.hid (And.intro hsr1 (MBox.new w m.kind m.start m.lead A m.states.length cs))
 clear hck hal hsr hst hv0 hf hsr1
 unfold ToPost
 go_enter Tryz.func18, Tryz.ntmps18
 go_wp2_with fail
 refine HC.out.mono ?_
 rintro e w1 ⟨rfl, hg1⟩
 have HG := Lib.hid hg1
 clear hg1 HC x0 x1 x2 x3
 obtain ⟨c, hc⟩ : ∃ c, checkC m = c := ⟨_, rfl⟩
 rw [hc]
 have HCC := Lib.hid hc
 clear hc
 by_cases h0 : c = 0
 ·subst h0
  obtain ⟨hvalid, h60⟩ := checkC_zero HCC.out
  have hok := valid_ok7 hvalid
  obtain ⟨s0, hs0, hs1⟩ := hok.start
  have hal1 := World.grownBy_alloc w1 (.cells #[.int .i64 0] 24) none
  have hgs := grown_trans HG.out hal1
  have hbx := HS.out.2.grown hgs
  rw [hs0] at hbx
  have h1 := To1_any hok.kind m.states us A cs w.heap.size s0 m.lead (w1.alloc (.cells #[.int .i64 0] 24)) (hok.sts h60) (HS.out.1.grown hgs) hs1 hok.lead hbx
  have hat := attempt_row (WB := w1.heap.size) 52 enters_To1 #[] #[.pointer (some ⟨w.heap.size, 0, none⟩)] (ToFits hok.kind m.states) (fun v w' => ∃ g, v = .slice (some ⟨g, 0, none⟩) m.states.length m.states.length ∧ g ≠ w1.heap.size ∧ RowAt w' g 0 m.states.length (txs (toE hok.kind m.states)))
   (fun v wa wb b hb hg e hq => by
    subst e
    obtain ⟨g, q1, q2, q3⟩ := hq
    exact ⟨g, q1, q2, q3.grownB hg q2⟩) w1 rfl (h1.mono (fun e w' h => by
    rcases h with ⟨hp, v, h1, ⟨g, rfl, h2, h3⟩, h4⟩ | h
    ·exact .inl ⟨hp, _, h1, ⟨⟨_, _, _, rfl⟩, g, rfl, by simp at h2; omega, h3⟩, h4⟩
    ·exact .inr h))
  have HT := Lib.hid hat; have HK := Lib.hid (And.intro hok.kind (And.intro h60 hs0))
  clear hat h1 hbx hgs hal1 hvalid h60 hs0
  go_wp2_with fail
  refine HT.out.mono ?_
  rintro e w2 (⟨hp, v, rfl, hq, hg2⟩ | ⟨hn2, rfl, hg2⟩)
  ·obtain ⟨g, rfl, _, hq⟩ := hq
   have H2 := Lib.hid (And.intro hp (And.intro hq (grown_trans (grown_trans HW.out HG.out) hg2)))
   clear hp hq hg2
   go_wp2
   exact bodyPost_ret (v := .tuple #[.slice (some ⟨g, 0, none⟩) m.states.length m.states.length, .int .i64 0]) (by simp [results, Tryz.results18, go_sem]) rfl (.inr ⟨HCC.out, hok.kind, H2.out.2.2, .inl ⟨H2.out.1, _, rfl, (H2.out.2.1.row (Nat.le_refl _) (by have := HK.out.2.1; unfold maxLen; omega))⟩⟩)
  ·have H2 := Lib.hid (And.intro hn2 (grown_trans (grown_trans HW.out HG.out) hg2))
   clear hn2 hg2
   go_wp2
   exact bodyPost_ret (v := .tuple #[.slice none 0 0, .int .i64 2]) (by simp [results, Tryz.results18, go_sem]) rfl (.inr ⟨HCC.out, hok.kind, H2.out.2, .inr ⟨H2.out.1, rfl⟩⟩)
 ·have t1 : (c == 0) = false := by simpa using h0
  have t2 : (c != 0) = true := by simpa using h0
  have H0 := Lib.hid h0
  clear h0
  go_wp2
  exact bodyPost_ret (v := .tuple #[.slice none 0 0, .int .i64 c]) (by simp [results, Tryz.results18, go_sem]) rfl (.inl ⟨by rw [HCC.out]; exact H0.out, grown_trans HW.out HG.out, by rw [HCC.out]⟩)
theorem enters_From1 : Enters 54 := enters_of Tryz.func54 (by kernel_rfl) rfl
set_option maxRecDepth 20000 in
set_option maxHeartbeats 2000000 in
theorem From1_any {k : Int} (hk : IsKind k) (l : List MState) (us : List Value) (As : Option Addr) (cs g s0 : Nat) (ld : ByteArray) (w : World) (hok : StsOk k l) (hst : StsR w l us As cs) (hs0 : s0 < l.length) (hld : ∃ v, Val k ld v) (hb : MBox w g k (s0 : Int) ld As l.length cs) :
  Calls Tryz.prog 54 #[.pointer (some ⟨g, 0, none⟩)] w (OrDieQ (FromFits hk l ld s0) (fun v w' => ∃ g, v = .slice (some ⟨g, 0, none⟩) l.length l.length ∧ w.heap.size ≤ g ∧ RowAt w' g 0 l.length (txs (frE hk l ld s0))) w) := by
 have h := fromStart_any hk l us As cs s0 ld w hok hst hs0 hld
 obtain ⟨x0, x1, x2, x3⟩ := hb
 have H := Lib.hid h
 clear h hok hst hs0 hld
 go_enter Tryz.func54, Tryz.ntmps54
 go_wp2_with fail
 refine H.out.mono ?_
 rintro e w1 (⟨hp, v, rfl, hq, hg1⟩ | ⟨hn, rfl, hg1⟩)
 ·have HP := Lib.hid (And.intro hp (And.intro hq hg1))
  clear hp hq hg1 H
  go_wp2
  go_ret
  exact .inl ⟨HP.out.1, _, rfl, HP.out.2.1, HP.out.2.2⟩
 ·exact ⟨rfl, .inr ⟨hn, rfl, hg1⟩⟩
def FromPost (m : Mach) (w : World) (e : Ending) (w' : World) : Prop :=
 (checkC m ≠ 0 ∧ w.grownBy w' none ∧ e = .returned (.tuple #[.slice none 0 0, .int .i64 (checkC m)])) ∨ (checkC m = 0 ∧ ∃ hk : IsKind m.kind, ListPost m (FromFits hk m.states m.lead m.start.toNat) (txs (frE hk m.states m.lead m.start.toNat)) w e w')
set_option maxRecDepth 20000 in
set_option maxHeartbeats 4000000 in
theorem From_any {w : World} {v : Value} {m : Mach} (hv : MachV w v m) (hf : MFits m) : Calls Tryz.prog 19 #[v] w (FromPost m w) := by
 have hmf : ∀ (fn : Fn) (first cap : Array Value) (w : World), (Instr.makeFunc fn first cap).run Tryz.prog w = .ok (.func fn first cap) w := fun _ _ _ _ => rfl
 have hv0 := hv
 obtain ⟨u, rfl, hst⟩ := hv
 obtain ⟨A, cs, us, rfl, hsr⟩ := stsR_of hst
 have hal := World.grownBy_alloc w (.cells #[.int .i64 m.kind, .int .i64 m.start, .string m.lead, .slice A m.states.length cs] 31) none
 have hck := check_any (w := w.alloc (.cells #[.int .i64 m.kind, .int .i64 m.start, .string m.lead, .slice A m.states.length cs] 31)) (v := .agg #[.int .i64 m.kind, .int .i64 m.start, .string m.lead, .slice A m.states.length cs]) (m := m) ⟨_, rfl, hst.below (below_of7 hal)⟩ hf
 have hbx := MBox.new w m.kind m.start m.lead A m.states.length cs
 obtain ⟨x0, x1, x2, x3⟩ := hbx
 have hsr1 := hsr.grown hal
 have HC := Lib.hid hck; have HW := Lib.hid hal; have HS := Lib.hid (And.intro hsr1 (MBox.new w m.kind m.start m.lead A m.states.length cs))
 clear hck hal hsr hst hv0 hf hsr1
 unfold FromPost
 go_enter Tryz.func19, Tryz.ntmps19
 go_wp2_with fail
 refine HC.out.mono ?_
 rintro e w1 ⟨rfl, hg1⟩
 have HG := Lib.hid hg1
 clear hg1 HC x0 x1 x2 x3
 obtain ⟨c, hc⟩ : ∃ c, checkC m = c := ⟨_, rfl⟩
 rw [hc]
 have HCC := Lib.hid hc
 clear hc
 by_cases h0 : c = 0
 ·subst h0
  obtain ⟨hvalid, h60⟩ := checkC_zero HCC.out
  have hok := valid_ok7 hvalid
  obtain ⟨s0, hs0, hs1⟩ := hok.start
  have hal1 := World.grownBy_alloc w1 (.cells #[.int .i64 0] 24) none
  have hgs := grown_trans HG.out hal1
  have hbx := HS.out.2.grown hgs
  rw [hs0] at hbx
  have h1 := From1_any hok.kind m.states us A cs w.heap.size s0 m.lead (w1.alloc (.cells #[.int .i64 0] 24)) (hok.sts h60) (HS.out.1.grown hgs) hs1 hok.lead hbx
  have hat := attempt_row (WB := w1.heap.size) 54 enters_From1 #[] #[.pointer (some ⟨w.heap.size, 0, none⟩)] (FromFits hok.kind m.states m.lead s0) (fun v w' => ∃ g, v = .slice (some ⟨g, 0, none⟩) m.states.length m.states.length ∧ g ≠ w1.heap.size ∧ RowAt w' g 0 m.states.length (txs (frE hok.kind m.states m.lead s0)))
   (fun v wa wb b hb hg e hq => by
    subst e
    obtain ⟨g, q1, q2, q3⟩ := hq
    exact ⟨g, q1, q2, q3.grownB hg q2⟩) w1 rfl (h1.mono (fun e w' h => by
    rcases h with ⟨hp, v, h1, ⟨g, rfl, h2, h3⟩, h4⟩ | h
    ·exact .inl ⟨hp, _, h1, ⟨⟨_, _, _, rfl⟩, g, rfl, by simp at h2; omega, h3⟩, h4⟩
    ·exact .inr h))
  have HT := Lib.hid hat; have HK := Lib.hid (And.intro hok.kind (And.intro h60 hs0))
  clear hat h1 hbx hgs hal1 hvalid h60 hs0
  go_wp2_with fail
  refine HT.out.mono ?_
  rintro e w2 (⟨hp, v, rfl, hq, hg2⟩ | ⟨hn2, rfl, hg2⟩)
  ·obtain ⟨g, rfl, _, hq⟩ := hq
   have H2 := Lib.hid (And.intro hp (And.intro hq (grown_trans (grown_trans HW.out HG.out) hg2)))
   clear hp hq hg2
   go_wp2
   exact bodyPost_ret (v := .tuple #[.slice (some ⟨g, 0, none⟩) m.states.length m.states.length, .int .i64 0]) (by simp [results, Tryz.results19, go_sem]) rfl (.inr ⟨HCC.out, hok.kind, H2.out.2.2, .inl ⟨by rw [HK.out.2.2]; exact H2.out.1, _, rfl, by rw [HK.out.2.2]; exact (H2.out.2.1.row (Nat.le_refl _) (by have := HK.out.2.1; unfold maxLen; omega))⟩⟩)
  ·have H2 := Lib.hid (And.intro hn2 (grown_trans (grown_trans HW.out HG.out) hg2))
   clear hn2 hg2
   go_wp2
   exact bodyPost_ret (v := .tuple #[.slice none 0 0, .int .i64 2]) (by simp [results, Tryz.results19, go_sem]) rfl (.inr ⟨HCC.out, hok.kind, H2.out.2, .inr ⟨by rw [HK.out.2.2]; exact H2.out.1, rfl⟩⟩)
 ·have t1 : (c == 0) = false := by simpa using h0
  have t2 : (c != 0) = true := by simpa using h0
  have H0 := Lib.hid h0
  clear h0
  go_wp2
  exact bodyPost_ret (v := .tuple #[.slice none 0 0, .int .i64 c]) (by simp [results, Tryz.results19, go_sem]) rfl (.inl ⟨by rw [HCC.out]; exact H0.out, grown_trans HW.out HG.out, by rw [HCC.out]⟩)
end Go.Proofs.YtaogepcaoogpgaaGreatDoor
