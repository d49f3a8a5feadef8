/- UA3 -/
import Derived.Test.YtaogepcaoogpgaaGreatDoorV42
import Derived.Test.YtaogepcaoogpgaaGreatDoorV34
import Derived.Test.YtaogepcaoogpgaaGreatDoorV44
import Derived.Test.YtaogepcaoogpgaaGreatDoorV45
set_option linter.unusedVariables false
set_option linter.unusedSimpArgs false
namespace Go.Proofs.YtaogepcaoogpgaaGreatDoor
open Go.RowKit
section
variable {k : Int}
theorem star_lit (hk : IsKind k) {n : Nat} {A0 : Nat → Nat → El k} {G : Nat → Nat → ByteArray} {ln : Nat → Nat} (h5 : n ≤ 5) (hG : ∀ i, i < n → ∀ j, j < n → G i j = tx (A0 i j)) (hf : ∀ i, i < n → ∀ j, j < n → FitE (A0 i j))
  (hs : ∀ i, i < n → ∀ j, j < n → Sh4 (A0 i j).1) (ten : ns n (fun x => (nzL (srE k hk) (A0 x) n).length) ≤ 10) (hl : ∀ i, i < n → ln i = n) {w : World} {e : Ending} {w' : World} (h : StarPost k n ln G w e w') :
  w.grownBy w' none ∧ ∃ v, e = .returned (.tuple #[v, .int .i64 0]) ∧ MatV w' v n n (stM (srE k hk) A0 n) := by
 obtain ⟨hg, h⟩ := h
 refine ⟨hg, ?_⟩
 have hm : IsMat7 k n ln G := ⟨hk, hl, fun i j hi hj => ⟨_, by rw [hG i hi j hj]; exact tx_val (hf i hi j hj)⟩⟩
 rcases h with ⟨hn, _⟩ | ⟨_, h60, _⟩ | ⟨_, _, hk2, A, hA, h⟩
 ·exact absurd hm hn
 ·omega
 ·have hAA : ∀ i j, i < n → j < n → A i j = A0 i j := fun i j hi hj => tx_inj (hA i hi j hj).2 (hf i hi j hj) (by rw [← (hA i hi j hj).1, hG i hi j hj])
  have hfew : Few (srE k hk) (fun v => Sh4 v.1) A n (fun x => nzL (srE k hk) (A0 x) n) := ⟨h5, fun x y hx hy => by rw [hAA x y hx hy, nzL_cs, if_pos hy], fun x hx e he => by
   obtain ⟨h1, h2⟩ := nzL_lt _ _ he
   rw [h2]; exact hs x hx _ h1, fun x hx e he => (nzL_lt _ _ he).1, ten⟩
  have hsf := star_fits hk hfew (Nat.le_refl n)
  rcases h with ⟨_, v, h1, h2⟩ | ⟨hn, _⟩
  ·exact ⟨v, h1, h2.congr (fun i hi j hj => stM_congr (srE k hk) hAA hi hj)⟩
  ·exact absurd hsf hn
noncomputable def arcL (hk : IsKind k) (l : List MArc) : List (Nat × El k) := l.map (fun a => (a.t.toNat, vE hk a.w))
theorem mrgP_cs (hk : IsKind k) (l : List MArc) (d : Nat) : ∀ t, t ≤ l.length → mrgP hk (arcF hk l) (arcK l) t d = cs (srE k hk) ((arcL hk l).take t) d
 | 0, _ => rfl
 | t + 1, ht => by
  have ha : l[t]? = some (l[t]'(by omega)) := List.getElem?_eq_getElem (by omega)
  have e1 : (arcL hk l).take (t + 1) = (arcL hk l).take t ++ [(arcK l t, arcF hk l t)] := by
   rw [List.take_add_one]
   congr 1
   unfold arcL
   rw [List.getElem?_map, ha, arcK_at ha, arcF_at hk ha]
   rfl
  rw [e1, cs_snoc, ← mrgP_cs hk l d t (by omega)]
  show (srE k hk).add (mrgP hk (arcF hk l) (arcK l) t d) (if arcK l t = d then arcF hk l t else (srE k hk).zero) = _
  dsimp only
  split
  ·rfl
  ·exact (srE k hk).add_zero _
theorem arcM_cs (hk : IsKind k) (l : List MState) (i d : Nat) : arcM hk l i d = cs (srE k hk) (arcL hk (stA l i)) d := by
 unfold arcM
 rw [mrgP_cs hk _ d _ (Nat.le_refl _)]
 congr 1
 exact List.take_of_length_le (by unfold arcL; simp)
def shortB7 (a : ByteArray) : Prop := dgs7 a.data.toList ≤ 4
theorem vE_sh4 (hk : IsKind k) {a : ByteArray} (h : ∃ v, Val k a v) (hs : shortB7 a) : Sh4 (vE hk a).1 := by
 obtain ⟨v, hv⟩ := h
 rw [vE_is hk hv]
 exact sh4_of hv.e hs
structure LitM (k : Int) (l : List MState) : Prop where
 n5 : l.length ≤ 5
 ten : ns l.length (fun i => (stA l i).length) ≤ 10
 arcs : ∀ i, i < l.length → ∀ a ∈ stA l i, shortB7 a.w
 fins : ∀ i, i < l.length → shortB7 (stF l i)
theorem finM_sh4 (hk : IsKind k) {l : List MState} (hl : LitM k l) (hok : StsOk k l) {i : Nat} (hi : i < l.length) : Sh4 (finM hk l i).1 := by
 unfold finM finE
 split
 ·exact sh4_zero hk
 ·next hn => exact vE_sh4 hk ((hok.fins i hi).resolve_left hn) (hl.fins i hi)
theorem lit_few (hk : IsKind k) {l : List MState} (hl : LitM k l) (hok : StsOk k l) : Few (srE k hk) (fun v => Sh4 v.1) (arcM hk l) l.length (fun i => arcL hk (stA l i)) where
 n5 := hl.n5
 a x y hx hy := arcM_cs hk l x y
 sh x hx e he := by
  obtain ⟨a, ha, rfl⟩ := List.mem_map.1 he
  exact vE_sh4 hk ((hok.arcs x hx).1 a ha).2.2 (hl.arcs x hx a ha)
 lt x hx e he := by
  obtain ⟨a, ha, rfl⟩ := List.mem_map.1 he
  have := (hok.arcs x hx).1 a ha
  show a.t.toNat < _
  omega
 ten := by
  have e : (fun x => (arcL hk (stA l x)).length) = fun i => (stA l i).length := by funext i; unfold arcL; simp
  rw [e]; exact hl.ten
theorem ns_le (f : Nat → Nat) : ∀ {n i : Nat}, i < n → f i ≤ ns n f
 | n + 1, i, h => by
  show f i ≤ ns n f + f n
  by_cases e : i < n
  ·have := ns_le f e; omega
  ·rw [show i = n by omega]; omega
theorem lit_arcs (hk : IsKind k) {l : List MState} (hl : LitM k l) (hok : StsOk k l) : ArcFits hk l := fun i hi s hs => by
 rw [mrgP_cs hk _ _ _ (by omega)]
 have h1 := ns_le (fun i => (stA l i).length) hi
 have h2 := hl.ten
 have ha : (stA l i)[s]? = some ((stA l i)[s]) := List.getElem?_eq_getElem hs
 have h3 := (hok.arcs i hi).1 _ (List.mem_of_getElem? ha)
 have h5 := hl.n5
 refine (cs_little hk (fun e he => (lit_few hk hl hok).sh i hi e (List.mem_of_mem_take he)) ?_ ?_).fits (by omega)
 ·rw [List.length_take]
  unfold arcL
  rw [List.length_map]
  omega
 ·rw [arcK_at ha]; omega
theorem lit_to (hk : IsKind k) {l : List MState} (hl : LitM k l) (hok : StsOk k l) : ToFits hk l := ⟨lit_arcs hk hl hok, col_fits hk (lit_few hk hl hok) (fun x hx => finM_sh4 hk hl hok hx) (Nat.le_refl _)⟩
end
open Go.RowKit
section
variable {k : Int}
theorem arcM_no (hk : IsKind k) {m : Mach} {x y : Nat} (h : y ∉ stepsM m x) : arcM hk m.states x y = (srE k hk).zero := by
 rw [arcM_cs]
 refine cs_none _ _ (fun e he => ?_)
 obtain ⟨a, ha, rfl⟩ := List.mem_map.1 he
 intro e2
 apply h
 cases hs : m.states[x]? with
 | none => unfold stA at ha; rw [hs] at ha; cases ha
 | some s =>
  rw [stA_at hs] at ha
  rw [stepsM_at hs]
  exact List.mem_map.2 ⟨a, ha, e2⟩
theorem finM_no (hk : IsKind k) {m : Mach} {x : Nat} (h : ¬ isFin m x) : finM hk m.states x = (srE k hk).zero := by
 unfold finM finE
 rw [if_pos]
 cases hs : m.states[x]? with
 | none => unfold stF; rw [hs]; rfl
 | some s =>
  rw [stF_at hs]
  by_cases hz : s.fin.size = 0
  ·exact ByteArray.ext (Array.eq_empty_of_size_eq_zero hz)
  ·exact absurd ⟨s, hs, hz⟩ h
theorem dead_zero (hk : IsKind k) {m : Mach} {x : Nat} (hx : x < m.states.length) (h : ¬ RFrom (backM m) (isFin m) x) : toE hk m.states x = (srE k hk).zero := by
 classical
 have key := xsol_least (srE k hk) (arcM hk m.states) (n := m.states.length) (finM hk m.states) (fun j => if RFrom (backM m) (isFin m) j then toE hk m.states j else (srE k hk).zero) (fun i hi => ?_) hx
 ·rw [if_neg h] at key
  exact (srE k hk).le_anti _ _ key ((srE k hk).zero_le _)
 ·try dsimp only
  by_cases hc : RFrom (backM m) (isFin m) i
  ·rw [if_pos hc]
   show (srE k hk).le _ (xsol (srE k hk) (arcM hk m.states) m.states.length (finM hk m.states) i)
   rw [xsol_eq (srE k hk) (arcM hk m.states) m.states.length (finM hk m.states) hi]
   refine (srE k hk).add_mono _ _ _ _ ((srE k hk).le_refl _) (sm_mono _ (fun j hj => (srE k hk).mul_mono _ _ _ ?_))
   by_cases hj2 : RFrom (backM m) (isFin m) j
   ·rw [if_pos hj2]; exact (srE k hk).le_refl _
   ·rw [if_neg hj2]; exact (srE k hk).zero_le _
  ·rw [if_neg hc, finM_no hk (fun hf => hc (.start hf)), sm_none _ (fun j hj => ?_), (srE k hk).add_zero]
   ·exact (srE k hk).le_refl _
   ·by_cases hj2 : RFrom (backM m) (isFin m) j
    ·rw [arcM_no hk (fun hs => hc (.step hj2 (back_mem.2 hs))), (srE k hk).zero_mul]
    ·rw [if_neg hj2, (srE k hk).mul_zero]
def lsm {α : Type} (S : Sr α) (l : List Nat) (f : Nat → α) : α := sm S l.length (fun d => f (l.getD d 0))
theorem lsm_snoc {α : Type} (S : Sr α) (l : List Nat) (x : Nat) (f : Nat → α) : lsm S (l ++ [x]) f = S.add (lsm S l f) (f x) := by
 unfold lsm
 rw [List.length_append]
 show S.add (sm S l.length _) (f ((l ++ [x]).getD l.length 0)) = _
 rw [getD_append_at, sm_congr S (g := fun d => f (l.getD d 0)) (fun d hd => by rw [getD_append_left hd])]
theorem sm_filter {α : Type} (S : Sr α) (p : Nat → Bool) (f : Nat → α) : ∀ n, (∀ j, j < n → p j = false → f j = S.zero) → sm S n f = lsm S ((List.range n).filter p) f
 | 0, _ => rfl
 | n + 1, h => by
  rw [List.range_succ, List.filter_append]
  show S.add (sm S n f) (f n) = _
  rw [sm_filter S p f n (fun j hj => h j (by omega))]
  cases hp : p n
  ·rw [h n (by omega) hp, S.add_zero]
   simp [hp]
  ·rw [show [n].filter p = [n] by simp [hp], lsm_snoc]
theorem cs_keep (hk : IsKind k) {L : List Nat} (hn : L.Nodup) {d : Nat} (hd : d < L.length) : ∀ (l : List MArc), cs (srE k hk) (arcL hk (l.filterMap (keepA L))) d = cs (srE k hk) (arcL hk l) (L.getD d 0)
 | [] => rfl
 | a :: l => by
  have ih := cs_keep hk hn hd l
  have hgd : L.getD d 0 = L[d] := by rw [List.getD_eq_getElem?_getD, List.getElem?_eq_getElem hd]; rfl
  show _ = (if a.t.toNat = L.getD d 0 then _ else _)
  by_cases hm : a.t.toNat ∈ L
  ·rw [List.filterMap_cons, keepA_yes hm]
   show (if ((L.idxOf a.t.toNat : Nat) : Int).toNat = d then _ else _) = _
   rw [Int.toNat_natCast]
   by_cases e : a.t.toNat = L.getD d 0
   ·have e2 : L.idxOf a.t.toNat = d := by rw [e, hgd]; exact List.Nodup.idxOf_getElem hn d hd
    rw [if_pos e2, if_pos e]
    show (srE k hk).add (vE hk a.w) (cs (srE k hk) (arcL hk (l.filterMap (keepA L))) d) = _
    rw [ih]
    rfl
   ·have e2 : ¬ L.idxOf a.t.toNat = d := fun h => e (by rw [hgd]; subst h; exact (List.getElem_idxOf (List.idxOf_lt_length_of_mem hm)).symm)
    rw [if_neg e2, if_neg e]
    exact ih
  ·rw [List.filterMap_cons, keepA_no hm]
   have e : ¬ a.t.toNat = L.getD d 0 := fun h => hm (by rw [h, hgd]; exact List.getElem_mem hd)
   rw [if_neg e]
   exact ih
theorem stA_renum {m : Mach} {L : List Nat} (hL : ∀ x ∈ L, x < m.states.length) {c : Nat} (hc : c < L.length) : stA (renumM m L).states c = (stA m.states (L.getD c 0)).filterMap (keepA L) ∧ stF (renumM m L).states c = stF m.states (L.getD c 0) := by
 have hgd : L.getD c 0 = L[c] := by rw [List.getD_eq_getElem?_getD, List.getElem?_eq_getElem hc]; rfl
 have hx := hL L[c] (List.getElem_mem hc)
 have hs : m.states[L[c]]? = some m.states[L[c]] := List.getElem?_eq_getElem hx
 have h : (renumM m L).states[c]? = some (renumS L (stOf m L[c])) := by
  unfold renumM
  rw [List.getElem?_map, List.getElem?_eq_getElem hc]
  rfl
 rw [stA_at h, stF_at h, hgd, stA_at hs, stF_at hs, stOf_at hs]
 exact ⟨rfl, rfl⟩
theorem trim_tot (hk : IsKind k) {m : Mach} (hw : Wf m) : totE hk (trimM m).states (trimM m).lead (trimM m).start.toNat = totE hk m.states m.lead m.start.toNat := by
 unfold totE
 have hst : m.start.toNat < m.states.length := by have := hw.start; omega
 by_cases hu : usefulL m = []
 ·have hns := (useful_nil hw).1 hu
  rw [dead_zero hk hst (fun h => hns ⟨.start rfl, h⟩), (srE k hk).mul_zero, trimM_nil hu]
  have e : toE hk (noneM m.kind).states (noneM m.kind).start.toNat = (srE k hk).zero := by
   refine dead_zero hk (m := noneM m.kind) (by show (0 : Int).toNat < 1; decide) (fun h => ?_)
   have hno : ∀ x, ¬ isFin (noneM m.kind) x := fun x ⟨s, hs, hz⟩ => by
    cases x with
    | zero => simp [noneM] at hs; subst hs; exact hz rfl
    | succ x => simp [noneM] at hs
   have hnr : ∀ x, ¬ RFrom (backM (noneM m.kind)) (isFin (noneM m.kind)) x := fun x h => by
    induction h with
    | start h => exact hno _ h
    | step _ _ ih => exact ih
   exact hnr _ h
  rw [e, (srE k hk).mul_zero]
 ·rw [trimM_some hu]
  have hsu : m.start.toNat ∈ usefulL m := by
   obtain ⟨x, r, hx⟩ : ∃ x r, usefulL m = x :: r := by
    cases h : usefulL m with
    | nil => exact absurd h hu
    | cons x r => exact ⟨x, r, rfl⟩
   have : x ∈ usefulL m := by rw [hx]; simp
   exact (useful_mem hw).2 (useful_start ((useful_mem hw).1 this))
  have hnd : (usefulL m).Nodup := List.nodup_range.filter _
  have hlt : ∀ x ∈ usefulL m, x < m.states.length := fun x hx => by
   unfold usefulL at hx
   exact List.mem_range.1 (List.mem_filter.1 hx).1
  have hgd : ∀ c, c < (usefulL m).length → (usefulL m).getD c 0 ∈ usefulL m := fun c hc => by
   rw [List.getD_eq_getElem?_getD, List.getElem?_eq_getElem hc]; exact List.getElem_mem hc
  have hout : ∀ j, j < m.states.length → (∀ d, d < (usefulL m).length → (usefulL m).getD d 0 ≠ j) → j ∉ usefulL m := fun j hj h hm => by
   obtain ⟨d, hd, e⟩ := List.getElem_of_mem hm
   refine h d hd ?_
   rw [List.getD_eq_getElem?_getD, List.getElem?_eq_getElem hd]; exact e
  have hA : ∀ c d, c < (usefulL m).length → d < (usefulL m).length → arcM hk (renumM m (usefulL m)).states c d = arcM hk m.states ((usefulL m).getD c 0) ((usefulL m).getD d 0) := fun c d hc hd => by
   rw [arcM_cs, arcM_cs, (stA_renum hlt hc).1, cs_keep hk hnd hd]
  have hpart := xsol_part (srE k hk) (arcM hk m.states) (arcM hk (renumM m (usefulL m)).states) (n := m.states.length) (k := (usefulL m).length) (finM hk m.states) (finM hk (renumM m (usefulL m)).states) (fun c => (usefulL m).getD c 0)
   (fun c hc => hlt _ (hgd c hc))
   (fun c hc X hX => by
    rw [sm_filter (srE k hk) (fun j => decide (j ∈ usefulL m)) _ m.states.length (fun j hj hp => hX j hj (fun d hd e => by
     have h1 := hgd d hd
     rw [e] at h1
     simp [h1] at hp))]
    have e : (List.range m.states.length).filter (fun j => decide (j ∈ usefulL m)) = usefulL m := by
     conv => rhs; unfold usefulL
     refine List.filter_congr (fun x hx => ?_)
     rw [decide_eq_decide]
     exact useful_mem hw
    rw [e]
    unfold lsm
    exact sm_congr _ (fun d hd => by rw [hA c d hc hd]))
   (fun c hc => by unfold finM; rw [(stA_renum hlt hc).2])
   (fun c hc j hj hj2 => by
    by_cases hs : j ∈ stepsM m ((usefulL m).getD c 0)
    ·have hu1 := (useful_mem hw).1 (hgd c hc)
     have hd := dead_zero hk hj (fun h => hout j hj hj2 ((useful_mem hw).2 ⟨.step hu1.1 hs, h⟩))
     unfold toE at hd
     rw [hd, (srE k hk).mul_zero]
    ·rw [arcM_no hk hs, (srE k hk).zero_mul])
   (fun c d hc hd e => by
    try dsimp only at e
    rw [List.getD_eq_getElem?_getD, List.getElem?_eq_getElem hc, List.getD_eq_getElem?_getD, List.getElem?_eq_getElem hd] at e
    have h1 := List.Nodup.idxOf_getElem hnd c hc
    have h2 := List.Nodup.idxOf_getElem hnd d hd
    have e3 : (usefulL m)[c] = (usefulL m)[d] := e
    rw [e3] at h1
    exact h1.symm.trans h2)
   (c := (usefulL m).idxOf m.start.toNat) (List.idxOf_lt_length_of_mem hsu)
  have e1 : (renumM m (usefulL m)).start.toNat = (usefulL m).idxOf m.start.toNat := rfl
  rw [e1]
  have e2 : (usefulL m).getD ((usefulL m).idxOf m.start.toNat) 0 = m.start.toNat := by
   rw [List.getD_eq_getElem?_getD, List.getElem?_eq_getElem (List.idxOf_lt_length_of_mem hsu)]
   exact List.getElem_idxOf _
  rw [e2] at hpart
  show (srE k hk).mul _ (xsol (srE k hk) (arcM hk (renumM m (usefulL m)).states) (renumM m (usefulL m)).states.length (finM hk (renumM m (usefulL m)).states) _) = _
  rw [renum_len, hpart]
  rfl
end
open Go.RowKit
section
variable {k : Int}
theorem ns_mono7 {f g : Nat → Nat} : ∀ {n : Nat}, (∀ x, x < n → f x ≤ g x) → ns n f ≤ ns n g
 | 0, _ => Nat.le_refl _
 | n + 1, h => by
  show ns n f + f n ≤ ns n g + g n
  have := ns_mono7 (f := f) (g := g) (n := n) (fun x hx => h x (by omega))
  have := h n (by omega)
  omega
theorem lit_trim {m : Mach} (hv : validB m = true) (hl : LitM m.kind m.states) : LitM (trimM m).kind (trimM m).states := by
 have hw := valid_wf hv
 rw [trimM_kind]
 by_cases hu : usefulL m = []
 ·rw [trimM_nil hu]
  refine ⟨by show 1 ≤ 5; omega, by show (0 + 0 : Nat) ≤ 10; omega, fun i hi a ha => ?_, fun i hi => ?_⟩
  ·obtain rfl : i = 0 := by have : i < 1 := hi; omega
   cases ha
  ·obtain rfl : i = 0 := by have : i < 1 := hi; omega
   show (([] : List UInt8).filter isDg).length ≤ 4
   decide
 ·rw [trimM_some hu]
  have hlt : ∀ x ∈ usefulL m, x < m.states.length := fun x hx => by
   unfold usefulL at hx
   exact List.mem_range.1 (List.mem_filter.1 hx).1
  have hgd : ∀ c, c < (usefulL m).length → (usefulL m).getD c 0 ∈ usefulL m := fun c hc => by
   rw [List.getD_eq_getElem?_getD, List.getElem?_eq_getElem hc]; exact List.getElem_mem hc
  have hlen := trim_len7 hv
  rw [trimM_some hu, renum_len] at hlen
  refine ⟨by rw [renum_len]; have := hl.n5; omega, ?_, fun i hi a ha => ?_, fun i hi => ?_⟩
  ·rw [renum_len]
   have hpw : (usefulL m).Pairwise (· < ·) := List.pairwise_lt_range.filter _
   have h1 := ns_list (fun x => (stA m.states x).length) (usefulL m) (usefulL m).length (Nat.le_refl _)
   rw [List.take_length] at h1
   have h2 := ns_sub (fun x => (stA m.states x).length) m.states.length (usefulL m) hpw hlt
   have h3 : ns (usefulL m).length (fun i => (stA (renumM m (usefulL m)).states i).length) ≤ ns (usefulL m).length (fun c => (stA m.states ((usefulL m).getD c 0)).length) := ns_mono7 (fun c hc => by
    rw [(stA_renum hlt hc).1]
    exact List.length_filterMap_le _ _)
   have h4 := hl.ten
   omega
  ·rw [renum_len] at hi
   rw [(stA_renum hlt hi).1] at ha
   obtain ⟨b, hb, he⟩ := List.mem_filterMap.1 ha
   unfold keepA at he
   split at he
   ·cases he
    exact hl.arcs _ (hlt _ (hgd i hi)) b hb
   ·cases he
  ·rw [renum_len] at hi
   rw [(stA_renum hlt hi).2]
   exact hl.fins _ (hlt _ (hgd i hi))
theorem lit_littleM (hk : IsKind k) {l : List MState} (hl : LitM k l) (hok : StsOk k l) : LittleM k hk (arcM hk l) (finM hk l) l.length (fun i => arcL hk (stA l i)) :=
 ⟨hl.n5, (lit_few hk hl hok).a, fun x hx e he => ⟨(lit_few hk hl hok).lt x hx e he, (lit_few hk hl hok).sh x hx e he⟩, (lit_few hk hl hok).ten, fun x hx => finM_sh4 hk hl hok hx⟩
theorem tot_fit (hk : IsKind k) {l : List MState} {ld : ByteArray} {s0 : Nat} (hl : LitM k l) (hok : StsOk k l) (hld : ∃ v, Val k ld v) (hs : shortB7 ld) (h0 : s0 < l.length) : FitE (totE hk l ld s0) :=
 ((lit_littleM hk hl hok).total (vE_sh4 hk hld hs).wide h0).fits (by omega)
theorem lit_total {m : Mach} (hk : IsKind m.kind) (hv : validB m = true) (hl : LitM m.kind m.states) (hs : shortB7 m.lead) : TotFits hk (trimM m).states (trimM m).lead (trimM m).start.toNat := by
 have hok := valid_ok7 hv
 have hokt := valid_ok7 (trim_valid hv)
 have hlt := lit_trim hv hl
 have e := trimM_kind m
 have hst : StsOk (trimM m).kind (trimM m).states := hokt.sts (by have := hlt.n5; omega)
 rw [e] at hlt hst
 refine ⟨lit_to hk hlt hst, ?_⟩
 rw [trim_tot hk (valid_wf hv)]
 obtain ⟨s0, h1, h2⟩ := hok.start
 exact tot_fit hk hl (hok.sts (by have := hl.n5; omega)) hok.lead hs (by rw [h1]; exact h2)
def turnL {α : Type} (M : Nat → List (Nat × α)) (n x : Nat) : List (Nat × α) := (List.range n).flatMap (fun i => ((M i).filter (fun e => decide (e.1 = x))).map (fun e => (i, e.2)))
theorem cs_append7 {α : Type} (S : Sr α) (y : Nat) : ∀ (l m : List (Nat × α)), cs S (l ++ m) y = S.add (cs S l y) (cs S m y)
 | [], m => (S.zero_add _).symm
 | e :: l, m => by
  show (if e.1 = y then S.add e.2 (cs S (l ++ m) y) else cs S (l ++ m) y) = S.add (if e.1 = y then S.add e.2 (cs S l y) else cs S l y) (cs S m y)
  rw [cs_append7 S y l m]
  split
  ·rw [S.add_assoc]
  ·rfl
theorem cs_block {α : Type} (S : Sr α) (x i y : Nat) : ∀ (l : List (Nat × α)), cs S ((l.filter (fun e => decide (e.1 = x))).map (fun e => (i, e.2))) y = if i = y then cs S l x else S.zero
 | [] => by show S.zero = if i = y then S.zero else S.zero; split <;> rfl
 | e :: l => by
  have ih := cs_block S x i y l
  by_cases h : e.1 = x
  ·rw [List.filter_cons_of_pos (by simpa using h)]
   show (if i = y then S.add e.2 (cs S ((l.filter (fun e => decide (e.1 = x))).map (fun e => (i, e.2))) y) else cs S ((l.filter (fun e => decide (e.1 = x))).map (fun e => (i, e.2))) y) = if i = y then (if e.1 = x then S.add e.2 (cs S l x) else cs S l x) else S.zero
   rw [ih, if_pos h]
   split
   ·rfl
   ·rfl
  ·rw [List.filter_cons_of_neg (by simpa using h), ih]
   show _ = if i = y then (if e.1 = x then S.add e.2 (cs S l x) else cs S l x) else S.zero
   rw [if_neg h]
theorem cs_turn {α : Type} (S : Sr α) (M : Nat → List (Nat × α)) (x y : Nat) : ∀ n, cs S (turnL M n x) y = if y < n then cs S (M y) x else S.zero
 | 0 => rfl
 | n + 1 => by
  have e : turnL M (n + 1) x = turnL M n x ++ ((M n).filter (fun e => decide (e.1 = x))).map (fun e => (n, e.2)) := by
   unfold turnL
   rw [List.range_succ, List.flatMap_append]
   simp
  rw [e, cs_append7, cs_turn S M x y n, cs_block]
  by_cases h : n = y
  ·subst h
   rw [if_pos rfl, if_neg (by omega), if_pos (by omega), S.zero_add]
  ·rw [if_neg h, S.add_zero]
   by_cases h2 : y < n
   ·rw [if_pos h2, if_pos (by omega)]
   ·rw [if_neg h2, if_neg (by omega)]
theorem count_le {α : Type} : ∀ (l : List (Nat × α)) (n : Nat), ns n (fun x => (l.filter (fun e => decide (e.1 = x))).length) ≤ l.length
 | [], n => by
  have : ns n (fun x => (([] : List (Nat × α)).filter (fun e => decide (e.1 = x))).length) = 0 := by
   induction n with
   | zero => rfl
   | succ n ih => show ns n _ + 0 = 0; rw [ih]
  omega
 | e :: l, n => by
  have ih := count_le l n
  have h : ∀ n, ns n (fun x => ((e :: l).filter (fun e => decide (e.1 = x))).length) = ns n (fun x => (l.filter (fun e => decide (e.1 = x))).length) + (if e.1 < n then 1 else 0) := by
   intro n
   induction n with
   | zero => rfl
   | succ n ih2 =>
    show ns n _ + ((e :: l).filter (fun e => decide (e.1 = n))).length = ns n _ + (l.filter (fun e => decide (e.1 = n))).length + _
    rw [ih2]
    by_cases he : e.1 = n
    ·rw [List.filter_cons_of_pos (by simpa using he), List.length_cons, if_neg (by omega), if_pos (by omega)]
     omega
    ·rw [List.filter_cons_of_neg (by simpa using he)]
     by_cases h3 : e.1 < n
     ·rw [if_pos h3, if_pos (by omega)]; omega
     ·rw [if_neg h3, if_neg (by omega)]; omega
  rw [h n, List.length_cons]
  split <;> omega
theorem ns_add7 (f g : Nat → Nat) : ∀ n, ns n (fun x => f x + g x) = ns n f + ns n g
 | 0 => rfl
 | n + 1 => by
  show ns n (fun x => f x + g x) + (f n + g n) = (ns n f + f n) + (ns n g + g n)
  rw [ns_add7 f g n]; omega
theorem turn_count {α : Type} (M : Nat → List (Nat × α)) (q : Nat) : ∀ n, ns q (fun x => (turnL M n x).length) ≤ ns n (fun i => (M i).length)
 | 0 => by
  have h : ∀ q, ns q (fun x => (turnL M 0 x).length) = 0 := by
   intro q
   induction q with
   | zero => rfl
   | succ q ih => show ns q _ + 0 = 0; rw [ih]
  rw [h q]
  exact Nat.zero_le _
 | n + 1 => by
  have ih := turn_count M q n
  have e : (fun x => (turnL M (n + 1) x).length) = fun x => (turnL M n x).length + ((M n).filter (fun e => decide (e.1 = x))).length := by
   funext x
   unfold turnL
   rw [List.range_succ, List.flatMap_append, List.length_append]
   simp
  rw [e, ns_add7]
  have := count_le (M n) q
  show _ ≤ ns n (fun i => (M i).length) + (M n).length
  omega
theorem turn_few (hk : IsKind k) {l : List MState} (hl : LitM k l) (hok : StsOk k l) : Few (srE k hk) (fun v => Sh4 v.1) (fun x y => arcM hk l y x) l.length (turnL (fun i => arcL hk (stA l i)) l.length) where
 n5 := hl.n5
 a x y hx hy := by rw [cs_turn, if_pos hy]; exact arcM_cs hk l y x
 sh x hx e he := by
  obtain ⟨i, hi, h⟩ := List.mem_flatMap.1 he
  obtain ⟨e2, h2, rfl⟩ := List.mem_map.1 h
  exact (lit_few hk hl hok).sh i (List.mem_range.1 hi) e2 (List.mem_filter.1 h2).1
 lt x hx e he := by
  obtain ⟨i, hi, h⟩ := List.mem_flatMap.1 he
  obtain ⟨e2, h2, rfl⟩ := List.mem_map.1 h
  exact List.mem_range.1 hi
 ten := Nat.le_trans (turn_count _ _ _) (lit_few hk hl hok).ten
theorem lit_from (hk : IsKind k) {l : List MState} {ld : ByteArray} {s0 : Nat} (hl : LitM k l) (hok : StsOk k l) (hld : ∃ v, Val k ld v) (hs : shortB7 ld) : FromFits hk l ld s0 :=
 ⟨lit_arcs hk hl hok, col_fits hk (turn_few hk hl hok) (fun x hx => by
  unfold leadM
  split
  ·exact vE_sh4 hk hld hs
  ·exact sh4_zero hk) (Nat.le_refl _)⟩
end
end Go.Proofs.YtaogepcaoogpgaaGreatDoor
