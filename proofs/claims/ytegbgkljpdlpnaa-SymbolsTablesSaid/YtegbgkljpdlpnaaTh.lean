/- slices.Clone; the program's Add, by contract. -/
import Derived.Test.YtegbgkljpdlpnaaTg
import Derived.Laws.AppendOwnNone
import Derived.WalkSpells
import Derived.WalkLawsBesides
set_option linter.unusedVariables false
set_option linter.unusedSimpArgs false
namespace Go.Proofs.Ytegbgkljpdlpnaa
open Go.RowKit

/-- A list of strings that came in: nil, or a row. -/
def StrArg (w : World) (v : Value) (L : List ByteArray) : Prop := (v = .slice none 0 0 ∧ L = []) ∨ ∃ ad cap, v = .slice (some ad) L.length cap ∧ Reads w w.heap.size 1 (some ad) L.length (L.map Value.string)
theorem StrArg.sl {w : World} {v : Value} {L : List ByteArray} (h : StrArg w v L) : StrSl w v L := by
  rcases h with ⟨rfl, rfl⟩ | ⟨ad, cap, rfl, hr⟩
  · exact StrSl.nil w
  · exact ⟨some ad, cap, rfl, hr⟩
theorem StrArg.below {w w' : World} {v : Value} {L : List ByteArray} (h : StrArg w v L) (hb : Below w.heap.size w w') : StrArg w' v L := by
  rcases h with ⟨rfl, rfl⟩ | ⟨ad, cap, rfl, hr⟩
  · exact .inl ⟨rfl, rfl⟩
  · exact .inr ⟨ad, cap, rfl, (hr.below hb).more hb.size⟩
theorem StrArg.form {w : World} {v : Value} {L : List ByteArray} (h : StrArg w v L) : ∃ A ca, v = .slice A L.length ca ∧ (A = none → L.length = 0 ∧ ca = 0) ∧ ∀ ad, A = some ad → ∀ j u, (L.map Value.string)[j]? = some u → w.cell? (ad.add j) = some u := by
  rcases h with ⟨rfl, rfl⟩ | ⟨ad, cap, rfl, hr⟩
  · exact ⟨none, 0, rfl, fun _ => ⟨rfl, rfl⟩, fun ad e => by cases e⟩
  · refine ⟨some ad, cap, rfl, fun e => (by cases e), fun ad' e j u hu => ?_⟩
    cases e
    have hj : j < L.length := by
      have := (List.getElem?_eq_some_iff.1 hu).1
      simpa using this
    obtain ⟨ad', e', _, hc⟩ := hr.2 (by omega)
    cases e'
    exact hc j u hu
theorem info_strT : (Try.prog.info? 9).map (fun i => (i.zero, i.size, i.bytes)) = some (some (.string ⟨#[]⟩), 1, 16) := by kernel_rfl
theorem strs_one (L : List ByteArray) : ∀ u ∈ L.map Value.string, u.oneCell' = true := by
  intro u hu
  obtain ⟨x, _, rfl⟩ := List.mem_map.1 hu
  rfl

/-- append(own, src...), src nil or a row. -/
theorem wpList_append_src {P : Program} (w : World) {ops : Array Oper} {rest : List Oper} {o : Oper} {a : Act} {Q : Exit → Act → World → Prop} (hgd : o.guard = none) (s x : Operand) (t : TypeId)
    (ho : o.op = .call { callee := .builtin .append, args := #[s, x], argTypes := #[t, t] })
    (base : Nat) (e : TypeId) (i : TypeInfo) (z : Value) (size bytes : Nat) (ht : P.underlying t = some (.slice e)) (hi : P.info? e = some i) (hz : i.zero = some z)
    (hsize : i.size = size) (hby : i.bytes = bytes) (hzs : z.cells.size = size) (hsz : 0 < size)
    (v : Value) (n : Nat) (xs : List Value) (hs : a.eval s = v) (hown : w.ownsRow base e size v n xs)
    (ao : Option Addr) (m c : Nat) (news : List Value) (hx : a.eval x = .slice ao m c) (hnone : ao = none → m = 0 ∧ c = 0) (hl : news.length = m * size)
    (hnews : ∀ ad, ao = some ad → ∀ j u, news[j]? = some u → w.cell? (ad.add j) = some u) (h1 : ∀ u ∈ news, u.oneCell' = true)
    (h63 : n + m ≤ maxLen) (hbytes : (n + m) * bytes ≤ 140737488355328) (hbase : base ≤ w.heap.size)
    (h : ∀ v' w', w'.ownsRow base e size v' (n + m) (xs ++ news) → w.grownBy w' v.ownBlock → wpList P ops Q rest (a.put o.dst v') w') :
    wpList P ops Q (o :: rest) a w := by
  cases ao with
  | some ad => exact wpList_append_own_at w hgd s x t ho base e i z size bytes ht hi hz hsize hby hzs hsz v n xs hs hown ad m c news hx hl (hnews ad rfl) h1 h63 hbytes hbase (fun v' w' k1 k2 _ _ => h v' w' k1 k2)
  | none =>
    obtain ⟨rfl, rfl⟩ := hnone rfl
    have hn : news = [] := List.eq_nil_of_length_eq_zero (by simpa using hl)
    subst hn
    refine wpList_plain hgd fun K hK => ?_
    have hrun := run_append_owned_none (P := P) (w := w) base t o.type e i size ht hi v n xs hown
    unfold Oper.wp
    simp [execOp, ho, resolve, invoke, builtin, hs, hx, hrun, Result.andThen]
    exact hK _ _ (h v w (by simpa using hown) (World.grownBy.refl _ _))

/-- A copy. -/
def ClonePost (L : List ByteArray) (w : World) (e : Ending) (w' : World) : Prop := ∃ v, e = .returned v ∧ w'.ownsRow w.heap.size 9 1 v L.length (L.map Value.string) ∧ Below w.heap.size w w'
set_option maxHeartbeats 1000000 in
theorem clone_any {w : World} {v : Value} {L : List ByteArray} (hv : StrArg w v L) (hl : L.length ≤ 1000) :
    Calls Try.prog 37 #[v] w (ClonePost L w) := by
  obtain ⟨i0, hi, hz0, hz1, hz2⟩ := info_parts info_strT
  rcases hv with ⟨rfl, rfl⟩ | ⟨ad, cap, rfl, hr⟩
  · have hq := fun w => Lib.run_eql_slice_nil (P := Try.prog) w 22 9 none 0 0 0 0 Try.underlying22
    go_enter Try.func37, Try.ntmps37
    go_wp2
    go_ret
    exact ⟨_, rfl, World.ownsRow_nil _ _ _ _, Below.refl _ _⟩
  · have hcell : ∀ j u, (L.map Value.string)[j]? = some u → w.cell? (ad.add j) = some u := by
      obtain ⟨A, ca, h1, _, h2⟩ := StrArg.form (w := w) (L := L) (.inr ⟨ad, cap, rfl, hr⟩)
      cases h1
      exact h2 ad rfl
    have hlt : ∀ j u, (L.map Value.string)[j]? = some u → (ad.add j).block < w.heap.size := by
      intro j u hu
      have hj : j < L.length := by
        have := (List.getElem?_eq_some_iff.1 hu).1
        simpa using this
      obtain ⟨ad', e', hb, _⟩ := hr.2 (by omega)
      cases e'
      rw [block_of_add]; exact hb
    have hown : (w.alloc (.cells #[] 9)).ownsRow w.heap.size 9 1 (.slice (some ⟨w.heap.size, 0, none⟩) 0 0) 0 [] := World.ownsRow_lit w #[] 0 (Nat.le_refl _) (by decide) rfl
    have hq := fun w => Lib.run_eql_slice_nil (P := Try.prog) w 22 9 (some ad) L.length cap 0 0 Try.underlying22
    clear hr
    go_enter Try.func37, Try.ntmps37
    go_wp2_with (at_builtin; refine wpList_append_src _ rfl _ _ 22 rfl w.heap.size 9 i0 (.string ⟨#[]⟩) 1 16 Try.underlying22 hi hz0 hz1 hz2 rfl (by decide) _ _ _ rfl hown (some ad) L.length cap (L.map Value.string) rfl (fun e => by cases e) (by simp) ?c1 (strs_one L) ?c3 ?c4 ?c5 ?_)
    case c1 => intro ad' e j u hu; cases e; rw [World.cell?_alloc_lt _ _ _ (hlt j u hu)]; exact hcell j u hu
    case c3 => unfold maxLen; omega
    case c4 => omega
    case c5 => simp
    intro v' w1 hown' hgrow
    have hb : Below w.heap.size w w1 := ((Below.refl _ w).alloc (Nat.le_refl _) _).grown hgrow (by simp) (fun g e => by cases e; simp)
    go_wp2
    go_ret
    exact ⟨_, rfl, hown', hb⟩

/-- Where the program keeps the names of a table. -/
structure NamesAt (w W : World) (g b : Nat) (L : List ByteArray) : Prop where
  tab : TabAt W g (.map (some b)) (wide L : Int)
  map : IsMapOf W b L
  below : Below w.heap.size w W
  gl : w.heap.size ≤ g
  bl : w.heap.size ≤ b
theorem NamesAt.start {w W : World} {b : Nat} {L : List ByteArray} (hm : IsMapOf W b L) (hb : Below w.heap.size w W) (hl : w.heap.size ≤ b) :
    NamesAt w (W.alloc (.cells #[.map (some b), .int .i64 (wide L : Int)] 48)) W.heap.size b L := by
  refine ⟨?_, hm.kept (World.grownBy_alloc W _ none) (by simp), hb.alloc hb.size _, hb.size, hl⟩
  show (W.heap.push _)[W.heap.size]? = _
  rw [Array.getElem?_push_size]
theorem NamesAt.next {w W W' : World} {g b : Nat} {L : List ByteArray} (h : NamesAt w W g b L) (hb : Below W.heap.size W W') : NamesAt w W' g b L :=
  ⟨h.tab.below hb h.tab.lt, h.map.below hb h.map.lt, h.below.trans (hb.mono h.below.size), h.gl, h.bl⟩
theorem NamesAt.alloc {w W : World} {g b : Nat} {L : List ByteArray} (h : NamesAt w W g b L) (o : Obj) : NamesAt w (W.alloc o) g b L := h.next ((Below.refl _ _).alloc (Nat.le_refl _) o)
theorem NamesAt.grown {w W W' : World} {g b : Nat} {L : List ByteArray} {r : Option Nat} (h : NamesAt w W g b L) (hg : W.grownBy W' r) (hr : ∀ x, r = some x → g < x ∧ b < x) : NamesAt w W' g b L :=
  ⟨h.tab.grown hg (fun e => by have := hr g e.symm; omega), h.map.kept hg (fun e => by have := hr b e.symm; omega), h.below.grown hg h.below.size (fun x e => by have := hr x e; have := h.gl; omega), h.gl, h.bl⟩

theorem own_form {w : World} {base n : Nat} {e : TypeId} {v : Value} {xs : List Value} (h : w.ownsRow base e 1 v n xs) : ∃ A c, v = .slice A n c := by
  rcases h.2 with ⟨rfl, rfl⟩ | ⟨g, cap, cur, rfl, _⟩
  · exact ⟨none, 0, rfl⟩
  · exact ⟨_, cap, rfl⟩
/-- What Add answers. -/
def addL (L : List ByteArray) (s : ByteArray) : List ByteArray × Nat × Nat :=
  if tableB L && nameB s then (if s ∈ L then (L, pos L s, 0) else if 500 ≤ L.length then ([], 0, 2) else (L ++ [s], L.length + 1, 0)) else ([], 0, 1)
def AddPost (r : List ByteArray × Nat × Nat) (w : World) (e : Ending) (w' : World) : Prop :=
  ∃ v, e = .returned (.tuple #[v, .int .i64 (r.2.1 : Int), .int .i64 (r.2.2 : Int)]) ∧ StrSl w' v r.1 ∧ Below w.heap.size w w'

set_option maxHeartbeats 4000000 in
theorem add_any {w : World} {v : Value} {L : List ByteArray} (hv : StrArg w v L) (hl : L.length ≤ maxLen) (s : ByteArray) :
    Calls Try.prog 16 #[v, .string s] w (AddPost (addL L s) w) := by
  obtain ⟨i0, hi, hz0, hz1, hz2⟩ := info_parts info_strT
  obtain ⟨A, ca, hvv, _⟩ := hv.form
  subst hvv
  have hnm := fun w => isName_any s w
  cases hT : tableB L
  · have hV : addL L s = ([], 0, 1) := by unfold addL; rw [hT]; rfl
    have HV := Lib.hid hV
    have h := read_no hv.sl hl hT
    unfold noTab at h
    clear hV hT hv hnm
    go_enter Try.func16, Try.ntmps16
    go_wp2_with fail
    refine h.mono ?_
    rintro e w1 ⟨rfl, hb⟩
    go_wp2
    go_ret3
    exact ⟨.slice none 0 0, by rw [HV.out]; rfl, by rw [HV.out]; exact StrSl.nil _, hb.alloc hb.size _⟩
  have h := read_yes hv.sl hl hT
  unfold ReadPost tabV at h
  have hL500 := (tableB_iff.1 hT).1
  have HVA := Lib.hid hv
  clear hv
  cases hN : nameB s
  · rw [hN] at hnm
    have hV : addL L s = ([], 0, 1) := by unfold addL; rw [hT, hN]; rfl
    have HV := Lib.hid hV
    clear hV hT hN
    go_enter Try.func16, Try.ntmps16
    go_wp2_with fail
    refine h.mono ?_
    rintro e w1 ⟨b, rfl, hm, hbl, hb⟩
    have N1 := Lib.hid (NamesAt.start hm hb hbl)
    clear hm hbl hb
    go_wp2_with fail
    refine (hnm _).mono ?_
    rintro e w2 ⟨rfl, hb2⟩
    have N2 := N1.out.next hb2
    go_wp2
    go_ret3
    exact ⟨.slice none 0 0, by rw [HV.out]; rfl, by rw [HV.out]; exact StrSl.nil _, N2.below⟩
  rw [hN] at hnm
  have hsm := name_small hN
  have hV : addL L s = (if s ∈ L then (L, pos L s, 0) else if 500 ≤ L.length then ([], 0, 2) else (L ++ [s], L.length + 1, 0)) := by unfold addL; rw [hT, hN]; rfl
  have HV := Lib.hid hV
  clear hV hT hN
  go_enter Try.func16, Try.ntmps16
  go_wp2_with fail
  refine h.mono ?_
  rintro e w1 ⟨b, rfl, hm, hbl, hb⟩
  have N1 := Lib.hid (NamesAt.start hm hb hbl)
  clear hm hbl hb h
  go_wp2_with fail
  refine (hnm _).mono ?_
  rintro e w2 ⟨rfl, hb2⟩
  have N2 := Lib.hid (N1.out.next hb2)
  clear N1 hb2 hnm
  go_wp2_with fail
  refine (clone_any (HVA.out.below N2.out.below) (by omega)).mono ?_
  rintro e w3 ⟨x, rfl, hown, hb3⟩
  have N3 := Lib.hid (N2.out.next hb3)
  have hlk := N3.out.map.look_ok hsm
  obtain ⟨c0, c1, f0, f1⟩ := N3.out.tab.cells
  have hg2 := N2.out.tab.lt
  have hb2 := N2.out.map.lt
  have hs3 := hb3.size
  clear hb3 N2
  by_cases hmem : s ∈ L
  · have hV := HV.out
    rw [if_pos hmem] at hV
    have HV2 := Lib.hid hV
    rw [show decide (s ∈ L) = true by simpa using hmem] at hlk
    clear hV HV hmem
    go_wp2
    go_ret3
    exact ⟨x, by rw [HV2.out]; rfl, by rw [HV2.out]; exact StrSl.of_own hown, N3.out.below⟩
  · rw [show decide (s ∈ L) = false by simpa using hmem] at hlk
    have hV := HV.out
    rw [if_neg hmem] at hV
    by_cases h500 : 500 ≤ L.length
    · rw [if_pos h500] at hV
      have HV2 := Lib.hid hV
      have f5 : ((L.length : Int) == 500) = true := by simp; omega
      clear hV HV hmem
      go_wp2
      go_ret3
      exact ⟨.slice none 0 0, by rw [HV2.out]; rfl, by rw [HV2.out]; exact StrSl.nil _, N3.out.below⟩
    · rw [if_neg h500] at hV
      have HV2 := Lib.hid hV
      have f5 : ((L.length : Int) == 500) = false := by simp; omega
      clear hV HV hmem
      go_wp2_with (at_builtin; refine wpList_append_own_at _ rfl _ _ 22 rfl w2.heap.size 9 i0 (.string ⟨#[]⟩) 1 16 Try.underlying22 hi hz0 hz1 hz2 rfl (by decide) _ _ _ rfl (hown.alloc _) ⟨w3.heap.size, 0, none⟩ 1 1 [.string s] rfl rfl ?c1 ?c2 ?c3 ?c4 ?c5 ?_)
      case c1 => exact cell_one_new _ _ _
      case c2 => intro u hu; simp at hu; subst hu; rfl
      case c3 => unfold maxLen; omega
      case c4 => omega
      case c5 => simp; omega
      intro v' w4 hown' hgrow _ _
      obtain ⟨B, cb, rfl⟩ := own_form hown'
      have N4 := Lib.hid ((N3.out.alloc _).grown hgrow (fun g e => by have := (hown.lt g e).1; omega))
      have n1 : IntKind.i64.wrap ((L.length : Int) + 1) = ((L.length + 1 : Nat) : Int) := by rw [IntKind.wrap_i64]; omega
      clear hown hgrow c0 c1 f0 f1 hlk
      go_wp2
      go_ret3
      exact ⟨.slice B (L.length + 1) cb, by rw [HV2.out]; rfl, by rw [HV2.out]; exact StrSl.of_own (l := L ++ [s]) (by rw [List.length_append, List.map_append]; exact hown'), N4.out.below⟩
end Go.Proofs.Ytegbgkljpdlpnaa
