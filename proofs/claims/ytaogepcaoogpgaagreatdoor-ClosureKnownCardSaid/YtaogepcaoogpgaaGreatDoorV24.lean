/- U99 -/
import Derived.Test.YtaogepcaoogpgaaGreatDoorV17
import Derived.Test.YtaogepcaoogpgaaGreatDoorV18
import Derived.Maps.OwnSet
import Derived.StringKeys
import Derived.WalkArith
set_option linter.unusedVariables false
set_option linter.unusedSimpArgs false
namespace Go.Proofs.YtaogepcaoogpgaaGreatDoor
open Go.RowKit Go.Maps
instance : LawfulBEq ByteArray where
 eq_of_beq {a b} h := ByteArray.ext (eq_of_beq (α := Array UInt8) h)
 rfl {a} := beq_self_eq_true (α := Array UInt8) a.data
theorem keyLaw7 : Keyed Tryz.prog 9 := string_keyed Tryz.underlying9
theorem zeroInt7 (w : World) : (zeroValue 3).run Tryz.prog w = .ok (.int .i64 0) w := by kernel_rfl
theorem zeroBool7 (w : World) : (zeroValue 4).run Tryz.prog w = .ok (.bool false) w := by kernel_rfl
def lit7 (s : ByteArray) : Lit := .string s.data.toList
theorem lit7_inj {s t : ByteArray} (h : lit7 s = lit7 t) : s = t := by
 unfold lit7 at h
 injection h with h
 exact ByteArray.ext (Array.toList_inj.1 h)
theorem lit7_key (s : ByteArray) : WideAt.IsKeyLit (lit7 s) := trivial
theorem lit7_of {s : ByteArray} (h : s.size ≤ maxLen) : keyOf Tryz.prog 9 (.string s) = some (lit7 s) := WideMaps.keyOf_string_mk Tryz.underlying9 h
structure MarkD (w : World) (b n : Nat) (f : ByteArray → Bool) (D : DataW Unit) : Prop where
 owns : w.ownsMap Tryz.prog 9 (plainElem Tryz.prog 4) b n D
 at_ : ∀ s, D.atKey (lit7 s) (.lit (.bool false)) = .lit (.bool (f s))
def Marks (w : World) (b n : Nat) (f : ByteArray → Bool) : Prop := ∃ D, MarkD w b n f D
theorem Marks.made (w : World) : Marks (w.alloc (.map #[] 0)) w.heap.size 0 (fun _ => false) := ⟨.map [], ⟨World.ownsMap_made w _ _ _, fun s => rfl⟩⟩
theorem Marks.kept {w w' : World} {b n : Nat} {f : ByteArray → Bool} {row : Option Nat} (h : Marks w b n f) (hg : w.grownBy w' row) (hne : some b ≠ row) : Marks w' b n f := by
 obtain ⟨D, h1, h2⟩ := h
 exact ⟨D, h1.kept hg hne, h2⟩
theorem undB7 : Tryz.prog.underlying 4 = some .bool := Tryz.underlying4
theorem plainBool_inv {v : Value} {x : DataW Unit} {ps : List MemPlace} (h : plainElem Tryz.prog 4 v = some (x, ps)) : ∃ c, v = .bool c ∧ x = .lit (.bool c) := by
 unfold plainElem at h
 rw [undB7] at h
 cases v <;> simp at h
 exact ⟨_, rfl, h.1.symm⟩
theorem Marks.look {w : World} {b n : Nat} {f : ByteArray → Bool} (h : Marks w b n f) {s : ByteArray} (hs : s.size ≤ maxLen) :
  (Instr.lookup 92 (.map (some b)) (.string s) false).run Tryz.prog w = .ok (.bool (f s)) w := by
 obtain ⟨D, h1, h2⟩ := h
 obtain ⟨v, ps, hrun, hv⟩ := h1.lookup keyLaw7 Tryz.underlying92 (zeroBool7 _) (plainElem_bool Tryz.underlying4 false) (lit7_of hs)
 obtain ⟨c, rfl, hc⟩ := plainBool_inv hv
 rw [h2 s] at hc
 simp only [DataW.lit.injEq, Lit.bool.injEq] at hc
 rw [hrun, hc]
theorem Marks.store {w : World} {b n : Nat} {f : ByteArray → Bool} (h : Marks w b n f) {s : ByteArray} (hs : s.size ≤ maxLen) (hn : n < maxLen) :
  ∃ w', (Instr.mapUpdate 92 (.map (some b)) (.string s) (.bool true)).run Tryz.prog w = .ok () w' ∧ Marks w' b (n + 1) (fun t => if t = s then true else f t) ∧ w.grownBy w' (some b) := by
 obtain ⟨D, h1, h2⟩ := h
 obtain ⟨w', hrun, hown, hg⟩ := h1.update keyLaw7 Tryz.underlying92 hn (lit7_of hs) (plainElem_bool Tryz.underlying4 true)
 have hD : IsMap D := h1.isMap
 refine ⟨w', hrun, ⟨_, hown, fun t => ?_⟩, hg⟩
 by_cases ht : t = s
 ·subst ht
  rw [atKey_put_same hD (lit7_key t), if_pos rfl]
 ·rw [atKey_put_other (fun e => ht (lit7_inj e)), h2 t, if_neg ht]
def num7 (L : List ByteArray) (s : ByteArray) : Nat := (L.findIdx? (fun t => decide (t = s))).getD 0
structure NumD (w : World) (b : Nat) (L : List ByteArray) (D : DataW Unit) : Prop where
 owns : w.ownsMap Tryz.prog 9 (plainElem Tryz.prog 3) b L.length D
 at_ : ∀ s, D.atKey (lit7 s) (.lit (.int .i64 0)) = .lit (.int .i64 (num7 L s : Int))
 has_ : ∀ s, Maps.has D (lit7 s) = decide (s ∈ L)
def Nums (w : World) (b : Nat) (L : List ByteArray) : Prop := ∃ D, NumD w b L D
theorem Nums.made (w : World) : Nums (w.alloc (.map #[] 0)) w.heap.size [] := ⟨.map [], ⟨World.ownsMap_made w _ _ _, fun s => rfl, fun s => rfl⟩⟩
theorem Nums.kept {w w' : World} {b : Nat} {L : List ByteArray} {row : Option Nat} (h : Nums w b L) (hg : w.grownBy w' row) (hne : some b ≠ row) : Nums w' b L := by
 obtain ⟨D, h1, h2, h3⟩ := h
 exact ⟨D, h1.kept hg hne, h2, h3⟩
theorem Nums.lt {w : World} {b : Nat} {L : List ByteArray} (h : Nums w b L) : b < w.heap.size := by
 obtain ⟨D, h1, h2, h3⟩ := h
 exact h1.lt
theorem Nums.look_ok {w : World} {b : Nat} {L : List ByteArray} (h : Nums w b L) {s : ByteArray} (hs : s.size ≤ maxLen) :
  (Instr.lookup 120 (.map (some b)) (.string s) true).run Tryz.prog w = .ok (.tuple #[.int .i64 (num7 L s : Int), .bool (decide (s ∈ L))]) w := by
 obtain ⟨D, h1, h2, h3⟩ := h
 obtain ⟨v, ps, hrun, hv⟩ := h1.look_ok keyLaw7 Tryz.underlying120 (zeroInt7 _) (plainElem_int Tryz.underlying3 (by decide)) (lit7_of hs)
 obtain ⟨c, rfl, hc, _⟩ := plainElem_int_inv Tryz.underlying3 hv
 rw [h2 s] at hc
 simp only [Prod.mk.injEq, DataW.lit.injEq, Lit.int.injEq, true_and, and_true] at hc
 rw [hrun, h3 s, hc.1]
theorem num7_new {L : List ByteArray} {s : ByteArray} (h : s ∉ L) : num7 (L ++ [s]) s = L.length := by
 unfold num7
 rw [List.findIdx?_append, List.findIdx?_eq_none_iff.2 (fun x hx => by simp; rintro rfl; exact h hx)]
 simp
theorem num7_other {L : List ByteArray} {s t : ByteArray} (h : t ≠ s) : num7 (L ++ [s]) t = num7 L t := by
 unfold num7
 rw [List.findIdx?_append]
 have : [s].findIdx? (fun x => decide (x = t)) = none := by simp [Ne.symm h]
 rw [this]
 simp
theorem Nums.store {w : World} {b : Nat} {L : List ByteArray} (h : Nums w b L) {s : ByteArray} (hs : s.size ≤ maxLen) (hn : s ∉ L) (hl : L.length < maxLen) :
  ∃ w', (Instr.mapUpdate 120 (.map (some b)) (.string s) (.int .i64 ((L.length : Nat) : Int))).run Tryz.prog w = .ok () w' ∧ Nums w' b (L ++ [s]) ∧ w.grownBy w' (some b) := by
 obtain ⟨D, h1, h2, h3⟩ := h
 have hw : (Lit.int .i64 ((L.length : Nat) : Int)).wf = true := by
  unfold maxLen at hl
  exact WalkArith.wf_i64 (by omega)
 obtain ⟨w', hrun, hown, hg⟩ := h1.update keyLaw7 Tryz.underlying120 hl (lit7_of hs) (plainElem_int Tryz.underlying3 hw)
 have hD : IsMap D := h1.isMap
 refine ⟨w', hrun, ⟨_, ⟨by rw [List.length_append]; exact hown, fun t => ?_, fun t => ?_⟩⟩, hg⟩
 ·by_cases ht : t = s
  ·subst ht
   rw [atKey_put_same hD (lit7_key t), num7_new hn]
  ·rw [atKey_put_other (fun e => ht (lit7_inj e)), h2 t, num7_other ht]
 ·by_cases ht : t = s
  ·subst ht
   rw [has_put_same hD (lit7_key t)]; simp
  ·rw [has_put_other (fun e => ht (lit7_inj e)), h3 t]; simp [ht]
def MatA (w : World) (v : Value) (n : Nat) (ln : Nat → Nat) (G : Nat → Nat → ByteArray) : Prop :=
 ∃ rs : Nat → Value, RowR w v n rs ∧ ∀ i, i < n → RowR w (rs i) (ln i) (fun j => .string (G i j))
theorem MatA.grown {w w' : World} {v : Value} {n : Nat} {ln : Nat → Nat} {G : Nat → Nat → ByteArray} (h : MatA w v n ln G) (hg : w.grownBy w' none) : MatA w' v n ln G := by
 obtain ⟨rs, h1, h2⟩ := h
 exact ⟨rs, h1.grown hg, fun i hi => (h2 i hi).grown hg⟩
def IsMat7 (k : Int) (n : Nat) (ln : Nat → Nat) (G : Nat → Nat → ByteArray) : Prop := IsKind k ∧ (∀ i, i < n → ln i = n) ∧ ∀ i j, i < n → j < n → ∃ v, Val k (G i j) v
def BoolIs7 (P : Prop) (w : World) (e : Ending) (w' : World) : Prop := ∃ b : Bool, e = .returned (.bool b) ∧ (b = true ↔ P) ∧ w.grownBy w' none
theorem BoolIs7.yes {P : Prop} {w w' : World} (h : P) (hg : w.grownBy w' none) : BoolIs7 P w (.returned (.bool true)) w' := ⟨true, rfl, ⟨fun _ => h, fun _ => rfl⟩, hg⟩
theorem BoolIs7.no {P : Prop} {w w' : World} (h : ¬ P) (hg : w.grownBy w' none) : BoolIs7 P w (.returned (.bool false)) w' := ⟨false, rfl, ⟨fun e => by simp at e, fun e => absurd e h⟩, hg⟩
theorem val_one7 {k : Int} (hk : IsKind k) : Val k (oneT k) (srE k hk).one.1 := ⟨oneT_is hk, (srE k hk).one.2⟩
theorem no_kind7 {k : Int} (hk : ¬ IsKind k) (a : ByteArray) : NoVal k a := fun v _ => by
 unfold IsKind at hk
 have h1 : ¬ k = 1 := fun h => hk (.inl h)
 have h2 : ¬ k = 2 := fun h => hk (.inr (.inl h))
 have h3 : ¬ k = 3 := fun h => hk (.inr (.inr h))
 rcases v with (_ | _) | x <;> simp [hasE, kindB, h1, h2, h3]
theorem oneT_size (k : Int) : (oneT k).size ≤ maxLen := by
 unfold oneT maxLen
 split
 ·decide
 ·split <;> decide
structure MatInv (k : Int) (n : Nat) (G : Nat → Nat → ByteArray) (w : World) (b i j : Nat) (wr : World) : Prop where
 gr : w.grownBy wr none
 hb : w.heap.size ≤ b
 map : ∃ f, Marks wr b (i * n + j) f ∧ ∀ s, f s = true → ∃ v, Val k s v
 ok : ∀ x y, (x < i ∧ y < n) ∨ (x = i ∧ y < j) → ∃ v, Val k (G x y) v
set_option maxRecDepth 20000 in
set_option maxHeartbeats 4000000 in
theorem isMatrix_any (k : Int) (n : Nat) (ln : Nat → Nat) (G : Nat → Nat → ByteArray) (av : Value) (w : World) (hn : n ≤ 10000) (ha : MatA w av n ln G) (hs : ∀ i j, (G i j).size ≤ maxLen) :
  Calls Tryz.prog 39 #[.int .i64 k, av] w (BoolIs7 (IsMat7 k n ln G) w) := by
 obtain ⟨rs, ⟨A, c, rfl, ha1, ha2, ha3⟩, hr⟩ := ha
 have HA := Lib.hid ha3; have HR := Lib.hid hr; have HN := Lib.hid hn; have HS := Lib.hid hs
 have hend : ∀ w' : World, ∃ b : Bool, (b = true ↔ IsKind k) ∧ Calls Tryz.prog 71 #[.int .i64 k, .string (oneT k)] w' (ValPost (.bool b) w') := fun w' => by
  by_cases hk : IsKind k
  ·exact ⟨true, by simp [hk], svalid_yes (val_one7 hk) w'⟩
  ·exact ⟨false, by simp [hk], svalid_no (no_kind7 hk _) (oneT_size k) w'⟩
 have hone := fun w' => sone_any k w'
 have hmm : ∀ w : World, (Instr.makeMap 92 none).run Tryz.prog w = .ok (.map (some w.heap.size)) (w.alloc (.map #[] 0)) := fun w => run_makeMap _ w
 have HE := Lib.hid hend; have HO := Lib.hid hone
 clear ha1 ha2 ha3 hr hn hs hend hone
 go_enter Tryz.func39, Tryz.ntmps39
 go_wp2
 go_loopw [14] (fun iv wr => ∃ i : Nat, i ≤ n ∧ iv = .int .i64 (i : Int) ∧ w = wr ∧ ∀ x, x < i → ln x = n) (fun iv _ => n - (intOf iv).toNat)
 case atStart => exact ⟨0, Nat.zero_le _, rfl, rfl, fun x hx => absurd hx (by omega)⟩
 case round =>
  obtain ⟨i, hi, rfl, rfl, hl⟩ := hrel
  by_cases hin : i < n
  ·obtain ⟨ad, rfl, hb, hc⟩ := HA.out i hin
   obtain ⟨Ai, ci, hre, _⟩ := HR.out i hin
   rw [hre] at hc
   have t1 : decide (i < n) = true := by simpa using hin
   have t1' : decide ((i : Int) < (n : Int)) = true := by simpa using hin
   have hit : (i : Int) < (n : Int) := by omega
   have n1 : IntKind.i64.wrap ((i : Int) + 1) = (i : Int) + 1 := by have := HN.out; rw [IntKind.wrap_i64]; omega
   by_cases he : ln i = n
   ·have t2 : ((ln i : Int) == (n : Int)) = true := by simp [he]
    have t3 : ((ln i : Int) != (n : Int)) = false := by simp [he]
    have HI := Lib.hid (And.intro hin (And.intro hl he))
    clear hi hl hb hre hin he
    go_wp2
    refine ⟨⟨i + 1, HI.out.1, by simp, by first | rfl | trivial, fun x hx => ?_⟩, by have := HI.out.1; simp [intOf]; omega⟩
    by_cases e : x < i
    ·exact HI.out.2.1 x e
    ·rw [show x = i by omega]; exact HI.out.2.2
   ·have t2 : ((ln i : Int) == (n : Int)) = false := by simp; omega
    have t3 : ((ln i : Int) != (n : Int)) = true := by simp [bne]; omega
    have HI := Lib.hid (And.intro hin he)
    clear hi hl hb hre hin he
    go_wp2
    go_ret
    exact BoolIs7.no (fun h => HI.out.2 (h.2.1 i HI.out.1)) (World.grownBy.refl _ _)
  ·obtain rfl : i = n := by omega
   have t1 : decide (i < i) = false := by simp
   have t1' : decide ((i : Int) < (i : Int)) = false := by simp
   have HL := Lib.hid hl
   clear hi hin hl
   go_wp2
   have h0 : MatInv k i G w w.heap.size 0 0 (w.alloc (.map #[] 0)) := ⟨World.grownBy_alloc _ _ none, Nat.le_refl _, ⟨fun _ => false, by simpa using Marks.made w, fun s h => by simp at h⟩, fun x y h => by omega⟩
   have H0 := Lib.hid h0
   clear h0
   go_loopw [27] (fun iv wr => ∃ x : Nat, x ≤ i ∧ iv = .int .i64 (x : Int) ∧ MatInv k i G w w.heap.size x 0 wr) (fun iv _ => i - (intOf iv).toNat)
   case atStart => exact ⟨0, Nat.zero_le _, rfl, H0.out⟩
   case round =>
    obtain ⟨x, hx, rfl, hinv⟩ := hrel
    by_cases hxi : x < i
    ·obtain ⟨ad, rfl, hb, hc⟩ := HA.out x hxi
     obtain ⟨Ai, ci, hre, hi1, hi2, hi3⟩ := HR.out x hxi
     rw [hre] at hc
     have hc2 : wr.cell? (ad.add x) = some (.slice Ai (ln x) ci) := (cell_same (ad := ad.add x) (by rw [add_block7]; exact hinv.gr.block ad.block hb (by simp))).trans hc
     rw [HL.out x hxi] at hc2 hi3
     have t1 : decide (x < i) = true := by simpa using hxi
     have t1' : decide ((x : Int) < (i : Int)) = true := by simpa using hxi
     have hit : (x : Int) < (i : Int) := by omega
     have n1 : IntKind.i64.wrap ((x : Int) + 1) = (x : Int) + 1 := by have := HN.out; rw [IntKind.wrap_i64]; omega
     have HI := Lib.hid (And.intro hxi hinv); have H3 := Lib.hid hi3
     clear hx hb hc hre hi1 hi2 hi3 hxi hinv
     go_wp2
     generalize wr = wq at *
     go_loopw [33] (fun jv wr => ∃ y : Nat, y ≤ i ∧ jv = .int .i64 (y : Int) ∧ MatInv k i G w w.heap.size x y wr) (fun jv _ => i - (intOf jv).toNat)
     case atStart => exact ⟨0, Nat.zero_le _, rfl, HI.out.2⟩
     case round =>
      obtain ⟨y, hy, rfl, hinv⟩ := hrel
      by_cases hyi : y < i
      ·obtain ⟨ay, rfl, hby, hcy⟩ := H3.out y hyi
       have hcy2 : wr.cell? (ay.add y) = some (.string (G x y)) := (cell_same (ad := ay.add y) (by rw [add_block7]; exact hinv.gr.block ay.block hby (by simp))).trans hcy
       obtain ⟨f, hm, hf⟩ := hinv.map
       have hlook := hm.look (HS.out x y)
       have u1 : decide (y < i) = true := by simpa using hyi
       have u1' : decide ((y : Int) < (i : Int)) = true := by simpa using hyi
       have hiy : (y : Int) < (i : Int) := by omega
       have n2 : IntKind.i64.wrap ((y : Int) + 1) = (y : Int) + 1 := by have := HN.out; rw [IntKind.wrap_i64]; omega
       have hnn : x * i + y < maxLen := by
        have h1 := HI.out.1
        have h2 := HN.out
        have h3 : x * i ≤ 10000 * 10000 := Nat.mul_le_mul (by omega) h2
        unfold maxLen
        omega
       have HV := Lib.hid (And.intro hyi hinv); have HM := Lib.hid (And.intro hm (And.intro hf hnn))
       clear hy hyi hinv hby hcy hm hf hnn
       cases hfy : f (G x y)
       ·rw [hfy] at hlook
        rcases val_or k (G x y) with ⟨v, hv⟩ | hnv
        ·have hcall := fun w' => svalid_yes hv w'
         have HC := Lib.hid hcall; have HVV := Lib.hid hv
         clear hcall hv
         go_wp2_with fail
         refine (HC.out _).mono ?_
         rintro e w5 ⟨rfl, hg5⟩
         obtain ⟨hm, hf, hnn⟩ := HM.out
         obtain ⟨w6, hst, hm6, hg6⟩ := (hm.kept hg5 (by simp)).store (HS.out x y) hnn
         have H6 := Lib.hid (And.intro hm6 (And.intro hg5 hg6)); have HF := Lib.hid hf
         clear hm hf hnn hm6 hg5 hg6
         go_wp2
         obtain ⟨hm6, hg5, hg6⟩ := H6.out
         refine ⟨⟨y + 1, HV.out.1, by simp, grown_step (grown_trans HV.out.2.gr hg5) hg6 (Nat.le_refl _), Nat.le_refl _, ⟨_, hm6, fun s hs => ?_⟩, fun a b hab => ?_⟩, by have := HV.out.1; simp [intOf]; omega⟩
         ·by_cases e : s = G x y
          ·exact ⟨_, e ▸ HVV.out⟩
          ·simp [e] at hs; exact HF.out s hs
         ·by_cases e : a = x ∧ b = y
          ·rw [e.1, e.2]; exact ⟨_, HVV.out⟩
          ·exact HV.out.2.ok a b (by omega)
        ·have hcall := fun w' => svalid_no hnv (HS.out x y) w'
         have HC := Lib.hid hcall; have HVV := Lib.hid hnv
         clear hcall hnv
         go_wp2_with fail
         refine (HC.out _).mono ?_
         rintro e w5 ⟨rfl, hg5⟩
         have HG := Lib.hid hg5
         clear hg5
         go_wp2
         go_ret
         refine BoolIs7.no (fun h => ?_) (grown_trans HV.out.2.gr HG.out)
         obtain ⟨v, hv⟩ := h.2.2 x y HI.out.1 HV.out.1
         have := HVV.out v hv.e
         rw [hv.has] at this
         cases this
       ·rw [hfy] at hlook
        obtain ⟨hm, hf, hnn⟩ := HM.out
        obtain ⟨w6, hst, hm6, hg6⟩ := hm.store (HS.out x y) hnn
        have H6 := Lib.hid (And.intro hm6 (And.intro hg6 (hf _ hfy))); have HF := Lib.hid hf
        clear hm hf hnn hm6 hg6
        go_wp2
        obtain ⟨hm6, hg6, hvv⟩ := H6.out
        refine ⟨⟨y + 1, HV.out.1, by simp, grown_step HV.out.2.gr hg6 (Nat.le_refl _), Nat.le_refl _, ⟨_, hm6, fun s hs => ?_⟩, fun a b hab => ?_⟩, by have := HV.out.1; simp [intOf]; omega⟩
        ·by_cases e : s = G x y
         ·rw [e]; exact hvv
         ·simp [e] at hs; exact HF.out s hs
        ·by_cases e : a = x ∧ b = y
         ·rw [e.1, e.2]; exact hvv
         ·exact HV.out.2.ok a b (by omega)
      ·obtain rfl : y = i := by omega
       have u1 : decide (y < y) = false := by simp
       have u1' : decide ((y : Int) < (y : Int)) = false := by simp
       have HV := Lib.hid hinv
       clear hy hyi hinv
       go_wp2
       have hx1 := HI.out.1
       refine ⟨⟨x + 1, hx1, by simp, HV.out.gr, Nat.le_refl _, ?_, fun a b hab => HV.out.ok a b (by omega)⟩, by simp [intOf]; omega⟩
       obtain ⟨f, hm, hf⟩ := HV.out.map
       exact ⟨f, by rw [Nat.add_mul, Nat.one_mul, Nat.add_zero]; exact hm, hf⟩
    ·obtain rfl : x = i := by omega
     have t1 : decide (x < x) = false := by simp
     have t1' : decide ((x : Int) < (x : Int)) = false := by simp
     have HI := Lib.hid hinv
     clear hx hxi hinv
     go_wp2_with fail
     refine (HO.out _).mono ?_
     rintro e w5 ⟨rfl, hg5⟩
     obtain ⟨b, hbk, hcall⟩ := HE.out w5
     have HC := Lib.hid hcall; have HB := Lib.hid hbk; have HG := Lib.hid hg5
     clear hcall hbk hg5
     go_wp2_with fail
     refine HC.out.mono ?_
     rintro e w6 ⟨rfl, hg6⟩
     have HG6 := Lib.hid hg6
     clear hg6
     go_wp2
     go_ret
     refine ⟨b, rfl, HB.out.trans ⟨fun h => ⟨h, HL.out, fun a b ha hb => HI.out.ok a b (.inl ⟨ha, hb⟩)⟩, fun h => h.1⟩, grown_trans (grown_trans HI.out.gr HG.out) HG6.out⟩
end Go.Proofs.YtaogepcaoogpgaaGreatDoor
