/- A region that draws its order, its last operation waiting for all others: it comes last. · A region that draws its order, whose last operation waits for all others, if need be through others: it comes last. -/
import Derived.OrdersHeld
import Derived.Deep.RegionHeld3
set_option linter.unusedVariables false
set_option linter.unusedSimpArgs false
namespace Go.Proofs.YtbmonhnojkiapaaGreatDoor
variable {P : Program} {ops : Array Oper} {Q : Exit → Act → World → Prop} {md : Region.Mode}

/-- Behind all others operation e comes. -/
def LastQ (P : Program) (ops : Array Oper) (Q : Exit → Act → World → Prop) (e : Nat) : Exit → Act → World → Prop
  | .normal, a, w => wpOp P ops Q e (fun a' w' => Q .normal a' w') a w
  | x, a, w => Q x a w
theorem upon_last {e : Nat} {o : Oper} {a : Act} {K : Act → World → Prop} {r : Result Next} (h : o.upon P a K (LastQ P ops Q e) r) : o.upon P a K Q r := by
  cases r with
  | ok n w' =>
    cases n <;> simp only [Oper.upon] at h ⊢
    case enter f args =>
      refine Calls.mono h fun x w'' he => ?_
      cases x with
      | returned u => exact he
      | panicked c => exact he
      | outgrown => exact he
    all_goals exact h
  | halt x w' =>
    cases x <;> simp only [Oper.upon] at h ⊢
    case panic u => exact h
theorem wpOp_last {e i : Nat} {a : Act} {w : World} {K : Act → World → Prop} (h : wpOp P ops (LastQ P ops Q e) i K a w) : wpOp P ops Q i K a w := by
  unfold wpOp at *
  split
  · rename_i ho; simpa [ho] using h
  · rename_i o ho
    simp only [ho] at h
    split
    · rename_i hw
      simp only [hw, if_true] at h
      rcases h with h | ⟨h1, h2⟩
      · exact .inl (upon_last h)
      · exact .inr ⟨h1, h2⟩
    · rename_i hw
      simp only [hw] at h
      exact h
/-- Each operation waits for earlier ones alone; e for all. -/
def lastOK (md : Region.Mode) (ops : Array Oper) (e : Nat) : Bool :=
  (List.range ops.size).all (fun i => ((ops[i]?).map (fun o => o.after.all fun x => !Region.binds md x || decide (x.on < i))).getD false && (i == e || ((ops[e]?).map (fun o => o.after.any fun x => Region.binds md x && x.on == i)).getD false)) && decide (e < ops.size)
structure LastOK (md : Region.Mode) (ops : Array Oper) (e : Nat) : Prop where
  he : e < ops.size
  fwd : ∀ (i : Nat) (o : Oper), ops[i]? = some o → ∀ x ∈ o.after, Region.binds md x = true → x.on < i
  all : ∀ (i : Nat), i < ops.size → i ≠ e → ∃ o, ops[e]? = some o ∧ ∃ x ∈ o.after, Region.binds md x = true ∧ x.on = i
theorem lastOK_spec {e : Nat} (h : lastOK md ops e = true) : LastOK md ops e := by
  unfold lastOK at h
  simp only [Bool.and_eq_true, List.all_eq_true, List.mem_range, decide_eq_true_eq] at h
  obtain ⟨h1, h2⟩ := h
  refine ⟨h2, fun i o ho x hx hb => ?_, fun i hi hne => ?_⟩
  · have h3 := (h1 i (Array.getElem?_eq_some_iff.1 ho).1).1
    simp only [ho, Option.map_some, Option.getD_some, Array.all_eq_true_iff_forall_mem] at h3
    have h4 := h3 x hx
    simpa [hb] using h4
  · have h3 := (h1 i hi).2
    cases ho : ops[e]? with
    | none => simp [ho, hne] at h3
    | some o =>
      simp only [ho, Option.map_some, Option.getD_some, Bool.or_eq_true, beq_iff_eq, hne, false_or] at h3
      obtain ⟨k, hk, hb⟩ := Array.any_eq_true.1 h3
      simp only [Bool.and_eq_true, beq_iff_eq] at hb
      exact ⟨o, rfl, _, Array.getElem_mem hk, hb.1, hb.2⟩
theorem not_ready_all {listed : Array Bool} {e : Nat} (hok : LastOK md ops e) (hl : listed.size = ops.size) (h : ∀ i, i ≠ e → i ∉ Region.ready md ops listed) : ∀ i, i < ops.size → i ≠ e → listed.getD i false = true := by
  intro i
  induction i using Nat.strongRecOn with
  | ind i ih =>
    intro hi hne
    apply Classical.byContradiction
    intro hn
    have hn : listed.getD i true = false := by
      have hi2 : i < listed.size := by omega
      simp [hi2] at hn ⊢
      exact hn
    refine h i hne ?_
    rw [mem_ready]
    refine ⟨hn, ops[i], Array.getElem?_eq_getElem hi, fun x hx hb => ?_⟩
    have hlt := hok.fwd i _ (Array.getElem?_eq_getElem hi) x hx hb
    by_cases hxe : x.on = e
    · obtain ⟨oe, hoe, y, hy, hyb, hyi⟩ := hok.all i hi hne
      have := hok.fwd e oe hoe y hy hyb
      omega
    · exact ih x.on hlt (by omega) hxe
theorem ready_last {listed : Array Bool} {e : Nat} (hok : LastOK md ops e) (hl : listed.size = ops.size) (he : listed.getD e true = false) (h : ∀ i, i < ops.size → i ≠ e → listed.getD i false = true) : e ∈ Region.ready md ops listed := by
  rw [mem_ready]
  refine ⟨he, ops[e]'hok.he, Array.getElem?_eq_getElem hok.he, fun x hx hb => ?_⟩
  have hlt := hok.fwd e _ (Array.getElem?_eq_getElem hok.he) x hx hb
  exact h x.on (by have := hok.he; omega) (by omega)
theorem last_ready {listed : Array Bool} {e : Nat} (hok : LastOK md ops e) (hl : listed.size = ops.size) (he : e ∈ Region.ready md ops listed) : Region.ready md ops (listed.setIfInBounds e true) = [] := by
  rw [List.eq_nil_iff_forall_not_mem]
  intro i hi
  rw [mem_ready] at hi he
  obtain ⟨h1, o, ho, _⟩ := hi
  obtain ⟨h2, oe, hoe, h3⟩ := he
  have hil : i < ops.size := (Array.getElem?_eq_some_iff.1 ho).1
  by_cases hie : i = e
  · subst hie
    have : i < listed.size := by omega
    simp [this] at h1
  · rw [getD_set_ne true (Ne.symm hie)] at h1
    obtain ⟨o2, ho2, x, hx, hb, hxi⟩ := hok.all i hil hie
    rw [hoe] at ho2
    cases ho2
    have h4 := h3 x hx hb
    rw [hxi] at h4
    have : i < listed.size := by omega
    simp [this] at h1 h4
    rw [h1] at h4; cases h4
theorem wpAny_last {e : Nat} (hok : LastOK md ops e) : ∀ (fuel : Nat) (listed : Array Bool) (a : Act) (w : World), listed.size = ops.size → listed.getD e true = false →
    wpAny P md ops (LastQ P ops Q e) fuel (listed.setIfInBounds e true) a w → wpAny P md ops Q (fuel + 1) listed a w := by
  intro fuel
  have fin : ∀ (n : Nat) (listed : Array Bool) (a : Act) (w : World), Region.ready md ops (listed.setIfInBounds e true) = [] → LastQ P ops Q e .normal a w → wpOp P ops Q e (wpAny P md ops Q n (listed.setIfInBounds e true)) a w := by
    intro n listed a w hr h
    refine wpOp_mono (fun a' w' h' => ?_) h
    cases n with
    | zero => exact ⟨hr, h'⟩
    | succ n => exact ⟨fun _ => h', by rw [hr]; simp⟩
  induction fuel with
  | zero =>
    intro listed a w hl he h
    have hall := not_ready_all hok hl (fun i hi hr => by have := ready_mono hr hi; rw [h.1] at this; cases this)
    have hre := ready_last hok hl he hall
    refine ⟨fun h0 => (by rw [h0] at hre; cases hre), fun i hi => ?_⟩
    by_cases hie : i = e
    · subst hie; exact fin 0 listed a w h.1 h.2
    · have := ready_mono hi hie
      rw [h.1] at this; cases this
  | succ fuel ih =>
    intro listed a w hl he h
    refine ⟨fun h0 => ?_, fun i hi => ?_⟩
    · have hre := ready_last hok hl he (not_ready_all hok hl (fun i _ hr => by rw [h0] at hr; cases hr))
      rw [h0] at hre; cases hre
    · by_cases hie : i = e
      · subst hie
        have hr := last_ready hok hl hi
        exact fin (fuel + 1) listed a w hr (h.1 hr)
      · have h1 := wpOp_last (h.2 i (ready_mono hi hie))
        refine wpOp_mono (fun a' w' h' => ?_) h1
        refine ih (listed.setIfInBounds i true) a' w' (by simpa using hl) (by rw [getD_set_ne true hie]; exact he) ?_
        rw [Array.setIfInBounds_comm _ _ hie]
        exact h'
theorem lastQ_step {e : Nat} {o : Oper} {a : Act} {w : World} (ho : ops[e]? = some o)
    (h : ∀ K' : Act → World → Prop, (∀ a w, Q .normal a w → K' a w) → if Region.wanted o (yielded ops a.tmps) = true then Oper.wp P o a w K' Q else K' (a.put o.dst undef) w) : LastQ P ops Q e .normal a w := wpOp_step ho h
/-- The beginning: e as if it had come; behind the others it comes. -/
theorem wp_region_last {id e n : Nat} {a : Act} {w : World} (S : World → Prop) (hm : P.follows .mixedOrders = true) (hok : lastOK .any ops e = true) (hn : ops.size = n + 1)
    (h : wpAnyH P .any ops (LastQ P ops Q e) S n ((Array.replicate ops.size false).setIfInBounds e true) a w.drew) : (Code.region id ops true).wp P Q a w := by
  refine wp_region_any hm ?_
  rw [hn]
  have hs := lastOK_spec hok
  have h1 := wpAny_last hs n (Array.replicate ops.size false) a w.drew (by simp) (by have := hs.he; simp [this]) (wpAny_of_held _ _ _ _ h)
  rw [hn] at h1
  exact h1
end Go.Proofs.YtbmonhnojkiapaaGreatDoor
set_option linter.unusedVariables false
set_option linter.unusedSimpArgs false
namespace Go.Proofs.YtbmonhnojkiapaaGreatDoor
variable {P : Program} {ops : Array Oper} {Q : Exit → Act → World → Prop} {md : Region.Mode}

def chainOK (md : Region.Mode) (ops : Array Oper) (e : Nat) : Bool :=
  (List.range ops.size).all (fun i => ((ops[i]?).map (fun o => o.after.all fun x => !Region.binds md x || decide (x.on < i))).getD false && (i == e || (List.range ops.size).any (fun j => ((ops[j]?).map (fun o => o.after.any fun x => Region.binds md x && x.on == i)).getD false))) && decide (e + 1 = ops.size)
structure ChainOK (md : Region.Mode) (ops : Array Oper) (e : Nat) : Prop where
  he : e + 1 = ops.size
  fwd : ∀ (i : Nat) (o : Oper), ops[i]? = some o → ∀ x ∈ o.after, Region.binds md x = true → x.on < i
  all : ∀ (i : Nat), i < ops.size → i ≠ e → ∃ (j : Nat) (o : Oper), ops[j]? = some o ∧ ∃ x ∈ o.after, Region.binds md x = true ∧ x.on = i
theorem chainOK_spec {e : Nat} (h : chainOK md ops e = true) : ChainOK md ops e := by
  unfold chainOK at h
  simp only [Bool.and_eq_true, List.all_eq_true, List.mem_range, decide_eq_true_eq] at h
  obtain ⟨h1, h2⟩ := h
  refine ⟨h2, fun i o ho x hx hb => ?_, fun i hi hne => ?_⟩
  · have h3 := (h1 i (Array.getElem?_eq_some_iff.1 ho).1).1
    simp only [ho, Option.map_some, Option.getD_some, Array.all_eq_true_iff_forall_mem] at h3
    have h4 := h3 x hx
    simpa [hb] using h4
  · have h3 := (h1 i hi).2
    simp only [Bool.or_eq_true, beq_iff_eq, hne, false_or, List.any_eq_true, List.mem_range] at h3
    obtain ⟨j, hj, h3⟩ := h3
    cases ho : ops[j]? with
    | none => simp [ho] at h3
    | some o =>
      simp only [ho, Option.map_some, Option.getD_some] at h3
      obtain ⟨k, hk, hb⟩ := Array.any_eq_true.1 h3
      simp only [Bool.and_eq_true, beq_iff_eq] at hb
      exact ⟨j, o, ho, _, Array.getElem_mem hk, hb.1, hb.2⟩
/-- What has come waited for what has come. -/
def Closed (md : Region.Mode) (ops : Array Oper) (listed : Array Bool) : Prop := ∀ (i : Nat) (o : Oper), ops[i]? = some o → listed.getD i false = true → ∀ x ∈ o.after, Region.binds md x = true → listed.getD x.on false = true
theorem closed_start (n : Nat) : Closed md ops (Array.replicate n false) := by
  intro i o _ h
  rw [Array.getD_eq_getD_getElem?, Array.getElem?_replicate] at h
  split at h <;> simp at h
theorem getD_set_keep {l : Array Bool} {i j : Nat} (h : l.getD j false = true) : (l.setIfInBounds i true).getD j false = true := by
  by_cases e : i = j
  · subst e
    simp at h ⊢
    obtain ⟨h1, _⟩ := Array.getElem?_eq_some_iff.1 (show l[i]? = some true by cases hx : l[i]? with | none => simp [hx] at h | some b => simp [hx] at h; rw [h])
    simp [h1]
  · rw [getD_set_ne false e]; exact h
theorem closed_next {listed : Array Bool} {i : Nat} (hc : Closed md ops listed) (hi : i ∈ Region.ready md ops listed) : Closed md ops (listed.setIfInBounds i true) := by
  intro k o ho hk x hx hb
  by_cases e : i = k
  · subst e
    rw [mem_ready] at hi
    obtain ⟨_, o2, ho2, h3⟩ := hi
    rw [ho] at ho2
    cases ho2
    exact getD_set_keep (h3 x hx hb)
  · rw [getD_set_ne false e] at hk
    exact getD_set_keep (hc k o ho hk x hx hb)
theorem chain_all {listed : Array Bool} {e : Nat} (hok : ChainOK md ops e) (hc : Closed md ops listed) (he : e ∈ Region.ready md ops listed) : ∀ d i, i + d = e → i < e → listed.getD i false = true := by
  intro d
  induction d using Nat.strongRecOn with
  | ind d ih =>
    intro i hd hi
    obtain ⟨j, o, ho, x, hx, hb, hxi⟩ := hok.all i (by have := hok.he; omega) (by omega)
    have hlt := hok.fwd j o ho x hx hb
    have hjl : j < ops.size := (Array.getElem?_eq_some_iff.1 ho).1
    have hje : j ≤ e := by have := hok.he; omega
    by_cases e2 : j = e
    · subst e2
      rw [mem_ready] at he
      obtain ⟨_, o2, ho2, h3⟩ := he
      rw [ho] at ho2
      cases ho2
      rw [← hxi]; exact h3 x hx hb
    · have := ih (e - j) (by omega) j (by omega) (by omega)
      rw [← hxi]; exact hc j o ho this x hx hb
theorem chain_last {listed : Array Bool} {e : Nat} (hok : ChainOK md ops e) (hc : Closed md ops listed) (hl : listed.size = ops.size) (he : e ∈ Region.ready md ops listed) : Region.ready md ops (listed.setIfInBounds e true) = [] := by
  have hall := chain_all hok hc he
  rw [List.eq_nil_iff_forall_not_mem]
  intro i hi
  rw [mem_ready] at hi
  obtain ⟨h1, o, ho, _⟩ := hi
  have hil : i < ops.size := (Array.getElem?_eq_some_iff.1 ho).1
  by_cases hie : i = e
  · subst hie
    have : i < listed.size := by omega
    simp [this] at h1
  · rw [getD_set_ne true (Ne.symm hie)] at h1
    have h4 := hall (e - i) i (by have := hok.he; omega) (by have := hok.he; omega)
    have : i < listed.size := by omega
    simp [this] at h1 h4
    rw [h1] at h4; cases h4
theorem chain_not_ready {listed : Array Bool} {e : Nat} (hok : ChainOK md ops e) (hl : listed.size = ops.size) (h : ∀ i, i ≠ e → i ∉ Region.ready md ops listed) : ∀ i, i < ops.size → i ≠ e → listed.getD i false = true := by
  intro i
  induction i using Nat.strongRecOn with
  | ind i ih =>
    intro hi hne
    apply Classical.byContradiction
    intro hn
    have hn : listed.getD i true = false := by
      have hi2 : i < listed.size := by omega
      simp [hi2] at hn ⊢
      exact hn
    refine h i hne ?_
    rw [mem_ready]
    refine ⟨hn, ops[i], Array.getElem?_eq_getElem hi, fun x hx hb => ?_⟩
    have hlt := hok.fwd i _ (Array.getElem?_eq_getElem hi) x hx hb
    exact ih x.on hlt (by omega) (by have := hok.he; omega)
theorem chain_ready {listed : Array Bool} {e : Nat} (hok : ChainOK md ops e) (he : listed.getD e true = false) (h : ∀ i, i < ops.size → i ≠ e → listed.getD i false = true) : e ∈ Region.ready md ops listed := by
  rw [mem_ready]
  have hel : e < ops.size := by have := hok.he; omega
  refine ⟨he, ops[e]'hel, Array.getElem?_eq_getElem hel, fun x hx hb => ?_⟩
  have hlt := hok.fwd e _ (Array.getElem?_eq_getElem hel) x hx hb
  exact h x.on (by omega) (by omega)
theorem wpAny_chain {e : Nat} (hok : ChainOK md ops e) : ∀ (fuel : Nat) (listed : Array Bool) (a : Act) (w : World), listed.size = ops.size → listed.getD e true = false → Closed md ops listed →
    wpAny P md ops (LastQ P ops Q e) fuel (listed.setIfInBounds e true) a w → wpAny P md ops Q (fuel + 1) listed a w := by
  intro fuel
  have fin : ∀ (n : Nat) (listed : Array Bool) (a : Act) (w : World), Region.ready md ops (listed.setIfInBounds e true) = [] → LastQ P ops Q e .normal a w → wpOp P ops Q e (wpAny P md ops Q n (listed.setIfInBounds e true)) a w := by
    intro n listed a w hr h
    refine wpOp_mono (fun a' w' h' => ?_) h
    cases n with
    | zero => exact ⟨hr, h'⟩
    | succ n => exact ⟨fun _ => h', by rw [hr]; simp⟩
  induction fuel with
  | zero =>
    intro listed a w hl he hc h
    have hall := chain_not_ready hok hl (fun i hi hr => by have := ready_mono hr hi; rw [h.1] at this; cases this)
    have hre := chain_ready hok he hall
    refine ⟨fun h0 => (by rw [h0] at hre; cases hre), fun i hi => ?_⟩
    by_cases hie : i = e
    · subst hie; exact fin 0 listed a w h.1 h.2
    · have := ready_mono hi hie
      rw [h.1] at this; cases this
  | succ fuel ih =>
    intro listed a w hl he hc h
    refine ⟨fun h0 => ?_, fun i hi => ?_⟩
    · have hre := chain_ready hok he (chain_not_ready hok hl (fun i _ hr => by rw [h0] at hr; cases hr))
      rw [h0] at hre; cases hre
    · by_cases hie : i = e
      · subst hie
        have hr := chain_last hok hc hl hi
        exact fin (fuel + 1) listed a w hr (h.1 hr)
      · have h1 := wpOp_last (h.2 i (ready_mono hi hie))
        refine wpOp_mono (fun a' w' h' => ?_) h1
        refine ih (listed.setIfInBounds i true) a' w' (by simpa using hl) (by rw [getD_set_ne true hie]; exact he) (closed_next hc hi) ?_
        rw [Array.setIfInBounds_comm _ _ hie]
        exact h'
theorem wp_region_chain {id e n : Nat} {a : Act} {w : World} (S : World → Prop) (hm : P.follows .mixedOrders = true) (hok : chainOK .any ops e = true) (hn : ops.size = n + 1)
    (h : wpAnyH P .any ops (LastQ P ops Q e) S n ((Array.replicate ops.size false).setIfInBounds e true) a w.drew) : (Code.region id ops true).wp P Q a w := by
  refine wp_region_any hm ?_
  rw [hn]
  have hs := chainOK_spec hok
  have h1 := wpAny_chain hs n (Array.replicate ops.size false) a w.drew (by simp) (by have := hs.he; simp [this, show e < ops.size by omega]) (closed_start _) (wpAny_of_held _ _ _ _ h)
  rw [hn] at h1
  exact h1
end Go.Proofs.YtbmonhnojkiapaaGreatDoor
