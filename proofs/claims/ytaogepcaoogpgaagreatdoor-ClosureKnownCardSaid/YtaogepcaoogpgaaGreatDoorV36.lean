/- U26 -/
import Derived.Test.YtaogepcaoogpgaaGreatDoorV33
import Derived.Test.YtaogepcaoogpgaaGreatDoorV13
import Derived.Test.YtaogepcaoogpgaaGreatDoorV21
import Derived.Maps.OwnSet
import Derived.StringKeys
import Derived.WalkArith
set_option linter.unusedVariables false
set_option linter.unusedSimpArgs false
namespace Go.Proofs.YtaogepcaoogpgaaGreatDoor
open Go.RowKit Go.Maps
instance lawful6 : LawfulBEq ByteArray where
 eq_of_beq {a b} h := by
  have h2 : a.data == b.data := h
  cases a; cases b
  simp only [beq_iff_eq] at h2
  subst h2; rfl
 rfl {a} := by
  show (a.data == a.data) = true
  simp
theorem keyLaw6 : Keyed Tryz.prog 9 := string_keyed Tryz.underlying9
theorem zeroBool6 (w : World) : (zeroValue 4).run Tryz.prog w = .ok (.bool false) w := by kernel_rfl
def lit6 (s : ByteArray) : Lit := .string s.data.toList
theorem lit6_inj {s t : ByteArray} (h : lit6 s = lit6 t) : s = t := by
 unfold lit6 at h
 injection h with h
 exact ByteArray.ext (Array.toList_inj.1 h)
theorem lit6_key (s : ByteArray) : WideAt.IsKeyLit (lit6 s) := trivial
theorem lit6_of {s : ByteArray} (h : s.size ≤ maxLen) : keyOf Tryz.prog 9 (.string s) = some (lit6 s) := WideMaps.keyOf_string_mk Tryz.underlying9 h
theorem plainElem_bool_inv {H : Type} {P : Program} {e : TypeId} (he : P.underlying e = some .bool) {v : Value} {z : DataW H × List MemPlace} (h : plainElem P e v = some z) : ∃ a, v = .bool a ∧ z = (.lit (.bool a), []) := by
 unfold plainElem at h
 rw [he] at h
 cases v <;> simp at h
 exact ⟨_, rfl, h.symm⟩
structure KMapIs (w : World) (b : Nat) (k : Int) (K : List ByteArray) (D : DataW Unit) : Prop where
 owns : w.ownsMap Tryz.prog 9 (plainElem Tryz.prog 4) b K.length D
 at_ : ∀ s, D.atKey (lit6 s) (.lit (.bool false)) = .lit (.bool (decide (s ∈ K) && wgtB k s))
 has_ : ∀ s, Maps.has D (lit6 s) = decide (s ∈ K)
def KMap (w : World) (b : Nat) (k : Int) (K : List ByteArray) : Prop := ∃ D, KMapIs w b k K D
theorem KMap.made (w : World) (k : Int) : KMap (w.alloc (.map #[] 0)) w.heap.size k [] := ⟨.map [], ⟨World.ownsMap_made w _ _ _, fun s => by simp; rfl, fun s => by simp; rfl⟩⟩
theorem KMap.kept {w w' : World} {b : Nat} {k : Int} {K : List ByteArray} {row : Option Nat} (h : KMap w b k K) (hg : w.grownBy w' row) (hne : some b ≠ row) : KMap w' b k K := by
 obtain ⟨D, h1, h2, h3⟩ := h
 exact ⟨D, h1.kept hg hne, h2, h3⟩
theorem KMap.look_ok {w : World} {b : Nat} {k : Int} {K : List ByteArray} (h : KMap w b k K) {s : ByteArray} (hs : s.size ≤ maxLen) :
  (Instr.lookup 92 (.map (some b)) (.string s) true).run Tryz.prog w = .ok (.tuple #[.bool (decide (s ∈ K) && wgtB k s), .bool (decide (s ∈ K))]) w := by
 obtain ⟨D, h1, h2, h3⟩ := h
 obtain ⟨v, ps, hrun, hv⟩ := h1.look_ok keyLaw6 Tryz.underlying92 (zeroBool6 _) (plainElem_bool Tryz.underlying4 false) (lit6_of hs)
 obtain ⟨c, rfl, hc⟩ := plainElem_bool_inv Tryz.underlying4 hv
 rw [h2 s] at hc
 simp only [Prod.mk.injEq, DataW.lit.injEq, Lit.bool.injEq] at hc
 obtain ⟨hc, _⟩ := hc
 subst hc
 rw [h3 s] at hrun
 exact hrun
theorem KMap.store {w : World} {b : Nat} {k : Int} {K : List ByteArray} (h : KMap w b k K) {s : ByteArray} (hs : s.size ≤ maxLen) (hn : s ∉ K) (hl : K.length < maxLen) :
  ∃ w', (Instr.mapUpdate 92 (.map (some b)) (.string s) (.bool (wgtB k s))).run Tryz.prog w = .ok () w' ∧ KMap w' b k (K ++ [s]) ∧ w.grownBy w' (some b) := by
 obtain ⟨D, h1, h2, h3⟩ := h
 obtain ⟨w', hrun, hown, hg⟩ := h1.update keyLaw6 Tryz.underlying92 hl (lit6_of hs) (plainElem_bool Tryz.underlying4 (wgtB k s))
 have hD : IsMap D := h1.isMap
 refine ⟨w', hrun, ⟨_, ⟨by rw [List.length_append]; exact hown, fun t => ?_, fun t => ?_⟩⟩, hg⟩
 ·by_cases ht : t = s
  ·subst ht
   rw [atKey_put_same hD (lit6_key t)]; simp
  ·rw [atKey_put_other (fun e => ht (lit6_inj e)), h2 t]; simp [ht]
 ·by_cases ht : t = s
  ·subst ht
   rw [has_put_same hD (lit6_key t)]; simp
  ·rw [has_put_other (fun e => ht (lit6_inj e)), h3 t]; simp [ht]
def allW (m : Mach) : List ByteArray := m.lead :: m.states.flatMap (fun s => s.fin :: s.arcs.map MArc.w)
theorem allW_len (m : Mach) : (allW m).length = 1 + m.states.length + nArcs m.states := by
 unfold allW nArcs
 rw [List.length_cons]
 induction m.states with
 | nil => simp
 | cons s l ih => simp only [List.flatMap_cons, List.length_append, List.length_cons, List.length_map, List.map_cons, List.sum_cons]; omega
theorem allW_fin {m : Mach} {s : MState} (hs : s ∈ m.states) : s.fin ∈ allW m := by
 unfold allW
 exact List.mem_cons_of_mem _ (List.mem_flatMap.2 ⟨s, hs, by simp⟩)
theorem allW_arc {m : Mach} {s : MState} {a : MArc} (hs : s ∈ m.states) (ha : a ∈ s.arcs) : a.w ∈ allW m := by
 unfold allW
 exact List.mem_cons_of_mem _ (List.mem_flatMap.2 ⟨s, hs, List.mem_cons_of_mem _ (List.mem_map_of_mem ha)⟩)
def WtInv (w0 : World) (b : Nat) (m : Mach) (W : World) : Prop := w0.grownBy W (some b) ∧ ∃ K, KMap W b m.kind K ∧ K.Nodup ∧ ∀ s ∈ K, s ∈ allW m
theorem WtInv.next {w0 W W' : World} {b : Nat} {m : Mach} (h : WtInv w0 b m W) (hg : W.grownBy W' none) : WtInv w0 b m W' := by
 obtain ⟨h1, K, h2, h3, h4⟩ := h
 exact ⟨World.grownBy.trans h1 (grown_any hg), K, h2.kept hg (by simp), h3, h4⟩
structure WBase (w0 : World) (b kv bx wv : Nat) (m : Mach) (u : Value) : Prop where
 hkv : w0.heap[kv]? = some (.cells #[.map (some b)] 92 (0, 0))
 hbx : BoxAt w0 bx m u
 hwv : w0.heap[wv]? = some (.cells #[.func (.func 127) #[] #[.pointer (some ⟨kv, 0, none⟩), .pointer (some ⟨bx, 0, none⟩)]] 69 (0, 0))
 ne : kv ≠ b ∧ bx ≠ b ∧ wv ≠ b
theorem WBase.at_ {w0 W : World} {b kv bx wv : Nat} {m : Mach} {u : Value} (h : WBase w0 b kv bx wv m u) (hg : w0.grownBy W (some b)) : WBase W b kv bx wv m u :=
 ⟨(hg.block _ (lt_of_block h.hkv) (by simpa using h.ne.1)).trans h.hkv, (hg.block _ h.hbx.lt (by simpa using h.ne.2.1)).trans h.hbx, (hg.block _ (lt_of_block h.hwv) (by simpa using h.ne.2.2)).trans h.hwv, h.ne⟩
theorem sweight_any {k : Int} {a : ByteArray} (ha : a.size ≤ maxLen) : VB 128 k a (wgtB k a) := by
 rcases wgt_or k a with ⟨v, h⟩ | h
 ·rw [wgtB_yes h]; exact sweight_yes h
 ·have hB : wgtB k a = false := by
   cases hb : wgtB k a
   ·rfl
   ·obtain ⟨v, hv⟩ := wgtB_val hb
    have := h v hv.1
    rw [hv.2] at this; cases this
  rw [hB]; exact sweight_no h ha
theorem enters_weight2 : Enters 129 := enters_of Tryz.func129 (by kernel_rfl) rfl
theorem enters_fits1 : Enters 126 := enters_of Tryz.func126 (by kernel_rfl) rfl
set_option maxRecDepth 20000 in
set_option maxHeartbeats 2000000 in
theorem weight_any {w0 W : World} {b kv bx wv : Nat} {m : Mach} {u : Value} {s : ByteArray} (hw : WBase w0 b kv bx wv m u) (hinv : WtInv w0 b m W) (hs : s ∈ allW m) (hz : s.size ≤ maxLen) (hl : (allW m).length ≤ 100000) :
  Calls Tryz.prog 127 #[.string s, .pointer (some ⟨kv, 0, none⟩), .pointer (some ⟨bx, 0, none⟩)] W (BPost (WtInv w0 b m) (some b) (wgtB m.kind s) W) := by
 obtain ⟨hg, K, hK, hnd, hsub⟩ := hinv
 have HB := Lib.hid (hw.at_ hg)
 have HW := Lib.hid hw
 have hlk := hK.look_ok hz
 have HSW := Lib.hid (sweight_any (k := m.kind) hz)
 obtain ⟨x0, _⟩ := one_cell HB.out.hkv
 obtain ⟨y0, _, _, _⟩ := HB.out.hbx.cells
 have HG := Lib.hid hg; have HK := Lib.hid hK; have HND := Lib.hid hnd; have HSUB := Lib.hid hsub; have HS := Lib.hid hs
 clear hw hg hK hnd hsub hs
 by_cases hm : s ∈ K
 ·rw [decide_eq_true hm] at hlk
  simp only [Bool.true_and] at hlk
  clear hm
  go_enter Tryz.func127, Tryz.ntmps127
  go_wp2
  go_ret
  exact ⟨rfl, ⟨HG.out, K, HK.out, HND.out, HSUB.out⟩, World.grownBy.refl _ _⟩
 ·have HM := Lib.hid hm
  rw [decide_eq_false hm] at hlk
  simp only [Bool.false_and] at hlk
  clear hm
  go_enter Tryz.func127, Tryz.ntmps127
  go_wp2_with fail
  refine (HSW.out _).mono ?_
  rintro e w1 ⟨rfl, hg1⟩
  have HG1 := Lib.hid hg1
  have hK1 := HK.out.kept hg1 (by simp)
  obtain ⟨w2, hst, hK2, hg2⟩ := hK1.store hz HM.out (by have := List.Nodup.length_le_of_subset (l₁ := K) (l₂ := allW m) HND.out HSUB.out; unfold maxLen; omega)
  have HK2 := Lib.hid hK2; have HG2 := Lib.hid hg2
  have z0 := (one_cell (HB.out.at_ (grown_any hg1)).hkv).1
  clear hK1 hK2 hg1 hg2 x0 y0 hlk
  go_wp2
  go_ret
  have hgg := World.grownBy.trans (grown_any (r := some b) HG1.out) HG2.out
  refine ⟨rfl, ⟨World.grownBy.trans HG.out hgg, K ++ [s], HK2.out, ?_, ?_⟩, hgg⟩
  ·rw [List.nodup_append]
   exact ⟨HND.out, by simp, fun a ha c hc e => by simp at hc; subst hc; subst e; exact HM.out ha⟩
  ·intro t ht
   rcases List.mem_append.1 ht with h | h
   ·exact HSUB.out t h
   ·simp at h; subst h; exact HS.out
set_option maxHeartbeats 1000000 in
theorem within6_any (x a b : Int) (w : World) : Calls Tryz.prog 124 #[.int .i64 x, .int .i64 a, .int .i64 b] w fun e w' => e = .returned (.bool (decide (a ≤ x) && decide (x ≤ b))) ∧ w' = w := by
 by_cases h1 : a ≤ x
 ·by_cases h2 : x ≤ b
  ·rw [decide_eq_true h1, decide_eq_true h2]
   go_enter Tryz.func124, Tryz.ntmps124
   go_wp2
   go_ret
   exact ⟨rfl, rfl⟩
  ·rw [decide_eq_true h1, decide_eq_false h2]
   go_enter Tryz.func124, Tryz.ntmps124
   go_wp2
   go_ret
   exact ⟨rfl, rfl⟩
 ·rw [decide_eq_false h1]
  go_enter Tryz.func124, Tryz.ntmps124
  go_wp2
  go_ret
  exact ⟨rfl, rfl⟩
def fitP (n : Nat) (a : MArc) : Bool := (decide (0 ≤ a.i) && decide (a.i ≤ 500)) && ((decide (0 ≤ a.o) && decide (a.o ≤ 500)) && (decide (0 ≤ a.t) && decide (a.t ≤ (n : Int) - 1)))
set_option maxHeartbeats 2000000 in
theorem fits1_any {W : World} {b n : Nat} {a : MArc} (hc : W.heap[b]? = some (.cells #[.int .i64 (n : Int)] 3 (0, 0))) (hn : n ≤ 3000) :
  Calls Tryz.prog 126 #[.agg #[.int .i64 a.i, .int .i64 a.o, .string a.w, .int .i64 a.t], .pointer (some ⟨b, 0, none⟩)] W (ValPost (.bool (fitP n a)) W) := by
 have h1 := within6_any a.i 0 500
 have h2 := within6_any a.o 0 500
 have h3 := within6_any a.t 0 ((n : Int) - 1)
 unfold fitP
 have hb : b < W.heap.size := lt_of_block hc
 have hg := World.grownBy_alloc W (.cells #[.int .i64 a.i, .int .i64 a.o, .string a.w, .int .i64 a.t] 59) none
 obtain ⟨x0, _⟩ := one_cell ((hg.block b hb (by simp)).trans hc)
 have n1 : IntKind.i64.wrap ((n : Int) - 1) = (n : Int) - 1 := by rw [IntKind.wrap_i64]; omega
 have HG := Lib.hid hg
 clear hg hc
 generalize (decide (0 ≤ a.i) && decide (a.i ≤ 500)) = p1 at h1 ⊢
 generalize (decide (0 ≤ a.o) && decide (a.o ≤ 500)) = p2 at h2 ⊢
 generalize (decide (0 ≤ a.t) && decide (a.t ≤ (n : Int) - 1)) = p3 at h3 ⊢
 have H1 := Lib.hid h1; have H2 := Lib.hid h2; have H3 := Lib.hid h3
 clear h1 h2 h3
 go_enter Tryz.func126, Tryz.ntmps126
 go_wp2_with fail
 refine (H1.out _).mono ?_
 rintro e w1 ⟨rfl, rfl⟩
 cases p1
 ·go_wp2
  go_ret
  exact ⟨rfl, HG.out⟩
 ·go_wp2_with fail
  refine (H2.out _).mono ?_
  rintro e w1 ⟨rfl, rfl⟩
  cases p2
  ·go_wp2
   go_ret
   exact ⟨rfl, HG.out⟩
  ·go_wp2_with fail
   refine (H3.out _).mono ?_
   rintro e w1 ⟨rfl, rfl⟩
   cases p3
   all_goals
    go_wp2
    go_ret
    exact ⟨rfl, HG.out⟩
open Go.RowKit Go.Maps
noncomputable def fitsB (m : Mach) : Bool := decide (m.states.length ≤ 3000) && ((decide (0 ≤ m.start) && decide (m.start ≤ (m.states.length : Int) - 1)) && (decide (nArcs m.states ≤ 30000) && allB (fitP m.states.length) m))
theorem block_new6 (w : World) (o : Array Value) (t : TypeId) : (w.alloc (.cells o t)).heap[w.heap.size]? = some (.cells o t (0, 0)) := by
 show (w.heap.push _)[w.heap.size]? = _
 rw [Array.getElem?_push_size]
theorem nArcs_bound {M : Nat} : ∀ {l : List MState}, (∀ s ∈ l, s.arcs.length ≤ M) → nArcs l ≤ l.length * M
 | [], _ => by simp [nArcs]
 | s :: l, h => by
  have h1 := h s (by simp)
  have h2 := nArcs_bound (l := l) (fun t ht => h t (by simp [ht]))
  have e : nArcs (s :: l) = s.arcs.length + nArcs l := by unfold nArcs; simp
  rw [e, List.length_cons, Nat.succ_mul]
  omega
theorem says_grown {w0 : World} {F : Nat} {lb : Array Value} {m : Mach} {P : MArc → Bool} (h : ∀ (W : World) (s : MState) (a : MArc), w0.grownBy W none → s ∈ m.states → a ∈ s.arcs → Calls Tryz.prog F (#[.agg #[.int .i64 a.i, .int .i64 a.o, .string a.w, .int .i64 a.t]] ++ lb) W (ValPost (.bool (P a)) W)) :
  Says (fun W => w0.grownBy W none) none F lb m P := fun W s a hI hs ha => (h W s a hI hs ha).mono fun e w' ⟨h1, h2⟩ => ⟨h1, grown_trans hI h2, h2⟩
set_option maxRecDepth 20000 in
set_option maxHeartbeats 4000000 in
theorem fits_any {w : World} {v : Value} {m : Mach} (hv : MachV w v m) (hf : MFits m) : Calls Tryz.prog 68 #[v] w (ValPost (.bool (fitsB m)) w) := by
 obtain ⟨u, rfl, hst0⟩ := hv
 obtain ⟨A, cap, us, rfl, hS0⟩ := StAt.of hst0
 have hg1 : w.grownBy (w.alloc (.cells #[.int .i64 m.kind, .int .i64 m.start, .string m.lead, .slice A m.states.length cap] 31)) none := World.grownBy_alloc _ _ _
 have hg2 := World.grownBy_alloc (w.alloc (.cells #[.int .i64 m.kind, .int .i64 m.start, .string m.lead, .slice A m.states.length cap] 31)) (.cells #[.int .i64 (m.states.length : Int)] 3) none
 have hbx := (BoxAt.new w m (.slice A m.states.length cap)).grown hg2
 have hvr := block_new6 (w.alloc (.cells #[.int .i64 m.kind, .int .i64 m.start, .string m.lead, .slice A m.states.length cap] 31)) #[.int .i64 (m.states.length : Int)] 3
 rw [show (w.alloc (.cells #[.int .i64 m.kind, .int .i64 m.start, .string m.lead, .slice A m.states.length cap] 31)).heap.size = w.heap.size + 1 by simp] at hvr
 have HG := Lib.hid (grown_trans hg1 hg2)
 have HS := Lib.hid hS0; have HBX := Lib.hid hbx; have HVR := Lib.hid hvr; have HF := Lib.hid hf
 have hn0 := hf.n
 have hwi := within6_any m.start 0 ((m.states.length : Int) - 1)
 have HWI := Lib.hid hwi
 obtain ⟨x0, x1, x2, x3⟩ := hbx.cells
 obtain ⟨y0, _⟩ := one_cell hvr
 clear hst0 hS0 hg1 hg2 hbx hvr hf hwi
 have n1 : IntKind.i64.wrap ((m.states.length : Int) - 1) = (m.states.length : Int) - 1 := by rw [IntKind.wrap_i64]; omega
 by_cases c1 : m.states.length ≤ 3000
 ·have n2 : ¬ (3000 : Int) < (m.states.length : Int) := by omega
  go_enter Tryz.func68, Tryz.ntmps68
  go_wp2_with fail
  refine (HWI.out _).mono ?_
  rintro e w1 ⟨rfl, hw1⟩
  cases hp : (decide (0 ≤ m.start) && decide (m.start ≤ (m.states.length : Int) - 1))
  ·have HN : Hid (fitsB m = false) := Lib.hid (by unfold fitsB; rw [hp]; simp)
   clear hp
   subst hw1
   go_wp2
   go_ret
   exact ⟨by rw [HN.out]; rfl, HG.out⟩
  ·have HP := Lib.hid hp
   clear hp
   subst hw1
   generalize hW : (w.alloc (.cells #[.int .i64 m.kind, .int .i64 m.start, .string m.lead, .slice A m.states.length cap] 31)).alloc (.cells #[.int .i64 (m.states.length : Int)] 3) = W at *
   clear hW
   go_wp2
   have HC1 := Lib.hid c1
   clear x0 x1 x2 x3 y0 n2
   go_loopw [4, 23] (fun n i wr => ∃ k : Nat, i = .int .i64 k ∧ n = .int .i64 (nArcs (m.states.take k) : Int) ∧ k ≤ m.states.length ∧ W.grownBy wr none) (fun _ i _ => m.states.length - (intOf i).toNat)
   case atStart => exact ⟨0, rfl, rfl, by omega, grown_refl _ _⟩
   case round =>
    obtain ⟨k, rfl, rfl, hk, hgr⟩ := hrel
    have HGR := Lib.hid hgr
    have HGR0 := Lib.hid (grown_trans HG.out hgr)
    clear hgr
    by_cases hlt : k < m.states.length
    ·obtain ⟨ad, s, B, cb, hA, hs, hu, hc, hra⟩ := (HS.out.grown HGR0.out).at_ hlt
     subst hA
     obtain ⟨z0, z1⟩ := hc
     have hal := HF.out.arcs s (List.mem_of_getElem? hs)
     have htk := take_one hs
     have hsn : nArcs (m.states.take (k + 1)) = nArcs (m.states.take k) + s.arcs.length := by rw [htk, nArcs_snoc]
     have hb := nArcs_bound (l := m.states.take k) (M := 140737488355328) (fun t ht => HF.out.arcs t (List.mem_of_mem_take ht))
     have hb2 : nArcs (m.states.take k) ≤ 3000 * 140737488355328 := Nat.le_trans hb (Nat.mul_le_mul_right _ (by rw [List.length_take]; omega))
     have n2 : (k : Int) < (m.states.length : Int) := by omega
     have n3 : IntKind.i64.wrap ((k : Int) + 1) = (k : Int) + 1 := by rw [IntKind.wrap_i64]; omega
     have n4 : IntKind.i64.wrap ((nArcs (m.states.take k) : Int) + (s.arcs.length : Int)) = (nArcs (m.states.take (k + 1)) : Int) := by rw [IntKind.wrap_i64]; omega
     clear hs hu hra hal htk hb hb2
     generalize hq : nArcs (m.states.take (k + 1)) = q at *
     have HQ := Lib.hid hq
     clear hq hsn
     go_wp2
     go_roundw
     case rel => exact ⟨k + 1, by go_num, by rw [HQ.out], by omega, grown_trans HGR.out (World.grownBy_alloc _ _ _)⟩
     case measure => simp [intOf]; omega
    ·have hk2 : m.states.take k = m.states := List.take_of_length_le (by omega)
     rw [hk2]
     have n2 : ¬ (k : Int) < (m.states.length : Int) := by omega
     by_cases c2 : nArcs m.states ≤ 30000
     ·have n3 : (nArcs m.states : Int) ≤ 30000 := by omega
      have HC2 := Lib.hid c2
      obtain ⟨x0, x1, x2, x3⟩ := (HBX.out.grown HGR.out).cells
      have hall := all_any (w := wr) (A := A) (cap := cap) (us := us) (m := m) (Inv := fun W' => wr.grownBy W' none) (r := none) (F := 126) (lb := #[.pointer (some ⟨w.heap.size + 1, 0, none⟩)]) (P := fitP m.states.length) enters_fits1
       (fun W1 W2 h1 h2 => grown_trans h1 h2) (fun W1 h1 => HS.out.grown (grown_trans HGR0.out h1)) (fun k e => by cases e) (grown_refl _ _)
       (says_grown (fun W1 s a hI hs ha => fits1_any (((grown_trans HGR.out hI).block _ (lt_of_block HVR.out) (by simp)).trans HVR.out) HC1.out)) HF.out.n HF.out.arcs
      have HALL := Lib.hid hall
      clear c2 hall
      go_wp2_with fail
      refine HALL.out.mono ?_
      rintro e w2 ⟨rfl, _, hg2⟩
      have HE : Hid (fitsB m = allB (fitP m.states.length) m) := Lib.hid (by unfold fitsB; rw [decide_eq_true HC1.out, HP.out, decide_eq_true HC2.out]; rfl)
      have HG2 := Lib.hid (grown_trans HGR0.out hg2)
      clear hg2
      cases hb : allB (fitP m.states.length) m
      all_goals
       rw [hb] at HE
       clear hb
       go_wp2
       go_ret
       exact ⟨by rw [HE.out]; rfl, HG2.out⟩
     ·have n3 : ¬ (nArcs m.states : Int) ≤ 30000 := by omega
      have HN : Hid (fitsB m = false) := Lib.hid (by unfold fitsB; rw [decide_eq_false c2]; simp)
      clear c2
      go_wp2
      go_ret
      exact ⟨by rw [HN.out]; rfl, HGR0.out⟩
 ·have n2 : (3000 : Int) < (m.states.length : Int) := by omega
  have HN : Hid (fitsB m = false) := Lib.hid (by unfold fitsB; rw [decide_eq_false c1]; rfl)
  clear c1
  go_enter Tryz.func68, Tryz.ntmps68
  go_wp2
  go_ret
  exact ⟨by rw [HN.out]; rfl, HG.out⟩
open Go.RowKit Go.Maps
noncomputable def weighedB (m : Mach) : Bool := m.states.all (fun s => finB m.kind s.fin) && (wgtB m.kind m.lead && allB (fun a => wgtB m.kind a.w) m)
theorem wgt_kind {k : Int} {a : ByteArray} (h : wgtB k a = true) : kindB k = true := by
 obtain ⟨v, hv⟩ := wgtB_val h
 have := hv.2
 cases hk : kindB k
 ·exfalso
  unfold kindB at hk
  simp at hk
  obtain ⟨h1, h2, h3⟩ := hk
  cases v with
  | inl b => cases b <;> simp [wgtE] at this
  | inr x => simp [wgtE, h1, h2, h3] at this
 ·rfl
theorem valid_split (m : Mach) : validB m = (fitsB m && weighedB m) := by
 rw [Bool.eq_iff_iff]
 unfold validB headB fitsB weighedB allB
 simp only [Bool.and_eq_true, decide_eq_true_eq, List.all_eq_true]
 constructor
 ·rintro ⟨⟨⟨⟨h1, h2, h3, h4, h5⟩, h6⟩, h7⟩, h8⟩
  have hp := fun s hs => state_parts (h8 s hs)
  refine ⟨⟨h3, ⟨h4, by omega⟩, h7, fun s hs a ha => ?_⟩, fun s hs => (hp s hs).1, h6, fun s hs a ha => ?_⟩
  ·have := arc_parts ((hp s hs).2 a ha)
   unfold fitP
   simp only [Bool.and_eq_true, decide_eq_true_eq]
   omega
  ·exact (arc_parts ((hp s hs).2 a ha)).2.2.2.2.2.2
 ·rintro ⟨⟨h3, ⟨h4, h5⟩, h7, h8⟩, h9, h6, h10⟩
  refine ⟨⟨⟨⟨wgt_kind h6, by omega, h3, h4, by omega⟩, h6⟩, h7⟩, fun s hs => ?_⟩
  unfold stB6
  simp only [Bool.and_eq_true, List.all_eq_true]
  refine ⟨h9 s hs, fun a ha => ?_⟩
  have h1 := h8 s hs a ha
  have h2 := h10 s hs a ha
  unfold fitP at h1
  unfold arcB
  simp only [Bool.and_eq_true, decide_eq_true_eq] at h1 ⊢
  exact ⟨by omega, h2⟩
def weighW (w : World) (m : Mach) (u : Value) : World :=
 (((w.alloc (.cells #[.int .i64 m.kind, .int .i64 m.start, .string m.lead, u] 31)).alloc (.map #[] 0)).alloc (.cells #[.map (some (w.heap.size + 1))] 92)).alloc (.cells #[.func (.func 127) #[] #[.pointer (some ⟨w.heap.size + 2, 0, none⟩), .pointer (some ⟨w.heap.size, 0, none⟩)]] 69)
theorem weigh_base (w : World) (m : Mach) (u : Value) : WBase (weighW w m u) (w.heap.size + 1) (w.heap.size + 2) w.heap.size (w.heap.size + 3) m u ∧ KMap (weighW w m u) (w.heap.size + 1) m.kind [] ∧ w.grownBy (weighW w m u) none := by
 unfold weighW
 have b1 := BoxAt.new w m u
 have g1 : w.grownBy (w.alloc (.cells #[.int .i64 m.kind, .int .i64 m.start, .string m.lead, u] 31)) none := World.grownBy_alloc _ _ _
 have e1 : (w.alloc (.cells #[.int .i64 m.kind, .int .i64 m.start, .string m.lead, u] 31)).heap.size = w.heap.size + 1 := by simp
 generalize w.alloc (.cells #[.int .i64 m.kind, .int .i64 m.start, .string m.lead, u] 31) = W1 at *
 have k2 := KMap.made W1 m.kind
 rw [e1] at k2
 have g2 : W1.grownBy (W1.alloc (.map #[] 0)) none := World.grownBy_alloc _ _ _
 have e2 : (W1.alloc (.map #[] 0)).heap.size = w.heap.size + 2 := by simp [e1]
 generalize W1.alloc (.map #[] 0) = W2 at *
 have c3 := block_new6 W2 #[.map (some (w.heap.size + 1))] 92
 rw [e2] at c3
 have g3 : W2.grownBy (W2.alloc (.cells #[.map (some (w.heap.size + 1))] 92)) none := World.grownBy_alloc _ _ _
 have e3 : (W2.alloc (.cells #[.map (some (w.heap.size + 1))] 92)).heap.size = w.heap.size + 3 := by simp [e2]
 generalize W2.alloc (.cells #[.map (some (w.heap.size + 1))] 92) = W3 at *
 have c4 := block_new6 W3 #[.func (.func 127) #[] #[.pointer (some ⟨w.heap.size + 2, 0, none⟩), .pointer (some ⟨w.heap.size, 0, none⟩)]] 69
 rw [e3] at c4
 have g4 := World.grownBy_alloc W3 (.cells #[.func (.func 127) #[] #[.pointer (some ⟨w.heap.size + 2, 0, none⟩), .pointer (some ⟨w.heap.size, 0, none⟩)]] 69) none
 exact ⟨⟨(g4.block _ (by omega) (by simp)).trans c3, ((b1.grown g2).grown g3).grown g4, c4, by omega, by omega, by omega⟩, (k2.kept (grown_trans g3 g4) (by simp)), grown_trans g1 (grown_trans g2 (grown_trans g3 g4))⟩
theorem makeMap6 (w : World) : (Instr.makeMap 92 none).run Tryz.prog w = .ok (.map (some w.heap.size)) (w.alloc (.map #[] 0)) := by
 simp only [Instr.makeMap, Sem.run_bind, run_underlying Tryz.underlying92, Result.andThen]
 rfl
set_option maxRecDepth 20000 in
set_option maxHeartbeats 2000000 in
theorem weight2_any {w0 W : World} {b kv bx wv : Nat} {m : Mach} {u : Value} {s : MState} {a : MArc} (hw : WBase w0 b kv bx wv m u) (hinv : WtInv w0 b m W) (hs : s ∈ m.states) (ha : a ∈ s.arcs) (hf : MFits m) (hl : (allW m).length ≤ 100000) :
  Calls Tryz.prog 129 #[.agg #[.int .i64 a.i, .int .i64 a.o, .string a.w, .int .i64 a.t], .pointer (some ⟨wv, 0, none⟩)] W (BPost (WtInv w0 b m) (some b) (wgtB m.kind a.w) W) := by
 have hg := World.grownBy_alloc W (.cells #[.int .i64 a.i, .int .i64 a.o, .string a.w, .int .i64 a.t] 59) none
 have hinv2 := hinv.next hg
 have HC := Lib.hid (weight_any hw hinv2 (allW_arc hs ha) (hf.w s hs a ha) hl)
 have HG := Lib.hid hg
 obtain ⟨x0, _⟩ := one_cell (hw.at_ hinv2.1).hwv
 clear hinv2 hg hw hinv
 go_enter Tryz.func129, Tryz.ntmps129
 go_wp2_with fail
 refine HC.out.mono ?_
 rintro e w2 ⟨rfl, hi, hg2⟩
 have HI := Lib.hid hi; have HG2 := Lib.hid hg2
 clear hi hg2
 go_wp2
 go_ret
 exact ⟨rfl, HI.out, World.grownBy.trans (grown_any HG.out) HG2.out⟩
theorem states_fin {m : Mach} {k : Nat} (hk : ¬ k < m.states.length) (h : ∀ (j : Nat) (s : MState), j < k → m.states[j]? = some s → finB m.kind s.fin = true) : m.states.all (fun s => finB m.kind s.fin) = true := by
 rw [List.all_eq_true]
 intro s hs
 obtain ⟨j, hj⟩ := List.mem_iff_getElem?.1 hs
 exact h j s (by have := (List.getElem?_eq_some_iff.1 hj).1; omega) hj
theorem states_fin_not {m : Mach} {k : Nat} {s : MState} (hs : m.states[k]? = some s) (h : finB m.kind s.fin = false) : weighedB m = false := by
 unfold weighedB
 rw [show m.states.all (fun s => finB m.kind s.fin) = false from ?_, Bool.false_and]
 cases hx : m.states.all (fun s => finB m.kind s.fin)
 ·rfl
 ·have := List.all_eq_true.1 hx s (List.mem_of_getElem? hs)
  rw [this] at h; cases h
set_option maxRecDepth 20000 in
set_option maxHeartbeats 4000000 in
theorem weighed_any {w : World} {v : Value} {m : Mach} (hv : MachV w v m) (hf : MFits m) (hl : (allW m).length ≤ 100000) : Calls Tryz.prog 69 #[v] w (ValPost (.bool (weighedB m)) w) := by
 obtain ⟨u, rfl, hst0⟩ := hv
 obtain ⟨A, cap, us, rfl, hS0⟩ := StAt.of hst0
 obtain ⟨hb, hk, hg⟩ := weigh_base w m (.slice A m.states.length cap)
 have HS := Lib.hid hS0; have HB := Lib.hid hb; have HG := Lib.hid hg; have HF := Lib.hid hf; have HL := Lib.hid hl
 have H0 : Hid (WtInv (weighW w m (.slice A m.states.length cap)) (w.heap.size + 1) m (weighW w m (.slice A m.states.length cap))) := Lib.hid ⟨World.grownBy.refl _ _, [], hk, List.nodup_nil, fun s hs => by simp at hs⟩
 have hmk := makeMap6
 have hn0 := hf.n
 have hn1 : m.states.length ≤ 100000 := by have := allW_len m; omega
 obtain ⟨x0, x1, x2, x3⟩ := hb.hbx.cells
 obtain ⟨y0, _⟩ := one_cell hb.hwv
 clear hst0 hS0 hb hk hg hf hl
 go_enter Tryz.func69, Tryz.ntmps69
 go_wp2_with fail
 have hW : weighW w m (.slice A m.states.length cap) = (((w.alloc (.cells #[.int .i64 m.kind, .int .i64 m.start, .string m.lead, .slice A m.states.length cap] 31)).alloc (.map #[] 0)).alloc (.cells #[.map (some (w.heap.size + 1))] 92)).alloc (.cells #[.func (.func 127) #[] #[.pointer (some ⟨w.heap.size + 2, 0, none⟩), .pointer (some ⟨w.heap.size, 0, none⟩)]] 69) := rfl
 rw [← hW]
 clear hW
 generalize weighW w m (.slice A m.states.length cap) = W at *
 have BEL : ∀ W', WtInv W (w.heap.size + 1) m W' → Below w.heap.size w W' := fun W' h => (below_of HG.out).grown h.1 HG.out.size (fun k e => by cases e; omega)
 have HBEL := Lib.hid BEL
 clear BEL
 go_loopw [12] (fun i wr => ∃ k : Nat, i = .int .i64 k ∧ k ≤ m.states.length ∧ (∀ (j : Nat) (s : MState), j < k → m.states[j]? = some s → finB m.kind s.fin = true) ∧ WtInv W (w.heap.size + 1) m wr) (fun i _ => m.states.length - (intOf i).toNat)
 case atStart => exact ⟨0, rfl, by omega, fun j s hj => by omega, H0.out⟩
 case round =>
  obtain ⟨k, rfl, hk, hall, hinv⟩ := hrel
  have HALL := Lib.hid hall; have HINV := Lib.hid hinv
  have HB2 := Lib.hid (HB.out.at_ hinv.1)
  clear hall x0 x1 x2 x3 y0
  obtain ⟨x0, x1, x2, x3⟩ := HB2.out.hbx.cells
  obtain ⟨y0, _⟩ := one_cell HB2.out.hwv
  by_cases hlt : k < m.states.length
  ·obtain ⟨ad, s, B, cb, hA, hs, hu, hc, hra⟩ := (HS.out.below (HBEL.out _ hinv)).at_ hlt
   subst hA
   obtain ⟨z0, z1⟩ := hc
   have n1 : (k : Int) < (m.states.length : Int) := by omega
   have n2 : IntKind.i64.wrap ((k : Int) + 1) = (k : Int) + 1 := by rw [IntKind.wrap_i64]; omega
   have HSS := Lib.hid hs
   have hinv2 := hinv.next (World.grownBy_alloc wr (.cells #[.string s.fin, .slice B s.arcs.length cb] 57) none)
   have HINV2 := Lib.hid hinv2
   have y1 := (one_cell (HB.out.at_ hinv2.1).hwv).1
   clear hu hra hinv hinv2
   by_cases hf0 : s.fin.size = 0
   ·have hfb : finB m.kind s.fin = true := by unfold finB; simp [hf0]
    have b1 : (s.fin.toList == []) = true := by rw [Lib.toList_data, beq_iff_eq, ← List.length_eq_zero_iff, Array.length_toList]; exact hf0
    have b2 : (s.fin.toList != []) = false := flip_t b1
    have HFB := Lib.hid hfb
    clear hfb hs
    go_wp2
    go_roundw
    case rel => exact ⟨k + 1, by go_num, by omega, fun j t hj ht => by
     by_cases e : j = k
     ·subst e; rw [HSS.out] at ht; cases ht; exact HFB.out
     ·exact HALL.out j t (by omega) ht, HINV2.out⟩
    case measure => simp [intOf]; omega
   ·have b1 : (s.fin.toList == []) = false := by
     cases h : (s.fin.toList == [])
     ·rfl
     ·rw [Lib.toList_data, beq_iff_eq, ← List.length_eq_zero_iff, Array.length_toList] at h; exact absurd h hf0
    have b2 : (s.fin.toList != []) = true := flip_f b1
    have hfb : finB m.kind s.fin = wgtB m.kind s.fin := by unfold finB; simp [hf0]
    have HFB := Lib.hid hfb
    have HC := Lib.hid (weight_any HB.out HINV2.out (allW_fin (List.mem_of_getElem? hs)) (HF.out.fin s (List.mem_of_getElem? hs)) HL.out)
    clear hfb hs
    go_wp2_with fail
    refine HC.out.mono ?_
    rintro e w5 ⟨rfl, hinv5, hg5⟩
    have HINV5 := Lib.hid hinv5
    have HG5 := Lib.hid ((HBEL.out _ hinv5))
    clear hinv5 hg5
    cases hwb : wgtB m.kind s.fin
    ·have HN := Lib.hid (states_fin_not HSS.out (HFB.out.trans hwb))
     clear hwb
     go_wp2
     go_ret
     exact ⟨by rw [HN.out]; rfl, grown_below HG5.out⟩
    ·have HF1 := Lib.hid (HFB.out.trans hwb)
     clear hwb
     go_wp2
     go_roundw
     case rel => exact ⟨k + 1, by go_num, by omega, fun j t hj ht => by
      by_cases e : j = k
      ·subst e; rw [HSS.out] at ht; cases ht; exact HF1.out
      ·exact HALL.out j t (by omega) ht, HINV5.out⟩
     case measure => simp [intOf]; omega
  ·have n1 : ¬ (k : Int) < (m.states.length : Int) := by omega
   have HFI := Lib.hid (states_fin hlt HALL.out)
   have HC := Lib.hid (weight_any HB.out hinv (show m.lead ∈ allW m from List.mem_cons_self ..) HF.out.lead HL.out)
   clear hinv
   go_wp2_with fail
   refine HC.out.mono ?_
   rintro e w5 ⟨rfl, hinv5, hg5⟩
   have HINV5 := Lib.hid hinv5
   have HG5 := Lib.hid ((HBEL.out _ hinv5))
   clear x0 x1 x2 x3 y0
   obtain ⟨x0, x1, x2, x3⟩ := (HB.out.at_ hinv5.1).hbx.cells
   clear hinv5 hg5
   cases hwb : wgtB m.kind m.lead
   ·have HN : Hid (weighedB m = false) := Lib.hid (by unfold weighedB; rw [hwb]; simp)
    clear hwb
    go_wp2
    go_ret
    exact ⟨by rw [HN.out]; rfl, grown_below HG5.out⟩
   ·have HE : Hid (weighedB m = allB (fun a => wgtB m.kind a.w) m) := Lib.hid (by unfold weighedB; rw [hwb, HFI.out]; rfl)
    have hall := all_any (w := w5) (A := A) (cap := cap) (us := us) (m := m) (Inv := WtInv W (w.heap.size + 1) m) (r := some (w.heap.size + 1)) (F := 129) (lb := #[.pointer (some ⟨w.heap.size + 3, 0, none⟩)]) (P := fun a => wgtB m.kind a.w) enters_weight2
     (fun W1 W2 h1 h2 => h1.next h2) (fun W1 h1 => HS.out.below (HBEL.out _ h1)) (fun k e => by cases e; have := HB.out.hwv; have := lt_of_block this; have := HINV5.out.1.size; omega) HINV5.out
     (fun W1 s a hI hs ha => weight2_any HB.out hI hs ha HF.out HL.out) HF.out.n HF.out.arcs
    have HA := Lib.hid hall
    clear hall hwb
    go_wp2_with fail
    refine HA.out.mono ?_
    rintro e w6 ⟨rfl, hinv6, hg6⟩
    have HG6 := Lib.hid (HBEL.out _ hinv6)
    clear hinv6 hg6
    cases hb : allB (fun a => wgtB m.kind a.w) m
    all_goals
     rw [hb] at HE
     clear hb
     go_wp2
     go_ret
     exact ⟨by rw [HE.out]; rfl, grown_below HG6.out⟩
theorem weighed_fits {w : World} {v : Value} {m : Mach} (hv : MachV w v m) (hf : MFits m) (h : fitsB m = true) : Calls Tryz.prog 69 #[v] w (ValPost (.bool (weighedB m)) w) := by
 refine weighed_any hv hf ?_
 unfold fitsB at h
 simp only [Bool.and_eq_true, decide_eq_true_eq] at h
 rw [allW_len]; omega
set_option maxRecDepth 20000 in
set_option maxHeartbeats 2000000 in
theorem pvalid_any {w : World} {v : Value} {m : Mach} (hv : MachV w v m) (hf : MFits m) : Calls Tryz.prog 37 #[v] w (ValPost (.bool (validB m)) w) := by
 have hfit := fun w' (h : w.grownBy w' none) => fits_any (hv.grown h) hf
 have hwei := fun w' (h : w.grownBy w' none) => weighed_fits (hv.grown h) hf
 have HSP := Lib.hid (valid_split m)
 obtain ⟨u, rfl, hst0⟩ := hv
 have hg : w.grownBy (w.alloc (.cells #[.int .i64 m.kind, .int .i64 m.start, .string m.lead, u] 31)) none := World.grownBy_alloc _ _ _
 have hbx := BoxAt.new w m u
 have HFI := Lib.hid hfit; have HWE := Lib.hid hwei
 have HBX := Lib.hid hbx; have HG := Lib.hid hg
 obtain ⟨x0, x1, x2, x3⟩ := hbx.cells
 clear hfit hwei hbx hg hst0
 go_enter Tryz.func37, Tryz.ntmps37
 go_wp2_with fail
 refine (HFI.out _ HG.out).mono ?_
 rintro e w1 ⟨rfl, hg1⟩
 generalize hW : w.alloc (.cells #[.int .i64 m.kind, .int .i64 m.start, .string m.lead, u] 31) = W at *
 clear hW x0 x1 x2 x3
 have HG1 := Lib.hid (grown_trans HG.out hg1)
 obtain ⟨x0, x1, x2, x3⟩ := (HBX.out.grown hg1).cells
 clear hg1
 cases hB : fitsB m
 ·have HN : Hid (validB m = false) := Lib.hid (by rw [HSP.out, hB]; rfl)
  clear hB
  go_wp2
  go_ret
  exact ⟨by rw [HN.out]; rfl, HG1.out⟩
 ·have HB := Lib.hid hB
  clear hB
  go_wp2_with fail
  refine (HWE.out _ HG1.out HB.out).mono ?_
  rintro e w2 ⟨rfl, hg2⟩
  have HG2 := Lib.hid (grown_trans HG1.out hg2)
  clear hg2
  cases hB : weighedB m
  all_goals
   have HE : Hid (validB m = _) := Lib.hid ((HSP.out.trans (by rw [HB.out, hB])))
   clear hB
   go_wp2
   go_ret
   exact ⟨by rw [HE.out]; rfl, HG2.out⟩
end Go.Proofs.YtaogepcaoogpgaaGreatDoor
