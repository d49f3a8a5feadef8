/- The program's Valid, Find, has, Name, Tokens, by contract. -/
import Derived.Test.YtegbgkljpdlpnaaTf
set_option linter.unusedVariables false
set_option linter.unusedSimpArgs false
namespace Go.Proofs.Ytegbgkljpdlpnaa
open Go.RowKit

theorem read_sl {w : World} {v : Value} {L : List ByteArray} (hv : StrSl w v L) (hl : L.length ≤ maxLen) :
    Calls Try.prog 31 #[v] w fun e w' => (tableB L = true ∧ ReadPost L w e w') ∨ (tableB L = false ∧ ValPost (.tuple #[noTab, .bool false]) w e w') := by
  obtain ⟨A, ca, rfl, hr⟩ := hv
  exact read_any L A ca w hr hl
theorem read_yes {w : World} {v : Value} {L : List ByteArray} (hv : StrSl w v L) (hl : L.length ≤ maxLen) (h : tableB L = true) :
    Calls Try.prog 31 #[v] w (ReadPost L w) :=
  (read_sl hv hl).mono fun e w' k => by
    rcases k with k | k
    · exact k.2
    · rw [h] at k; cases k.1
theorem read_no {w : World} {v : Value} {L : List ByteArray} (hv : StrSl w v L) (hl : L.length ≤ maxLen) (h : tableB L = false) :
    Calls Try.prog 31 #[v] w (ValPost (.tuple #[noTab, .bool false]) w) :=
  (read_sl hv hl).mono fun e w' k => by
    rcases k with k | k
    · rw [h] at k; cases k.1
    · exact k.2

set_option maxHeartbeats 1000000 in
theorem valid_any {w : World} {v : Value} {L : List ByteArray} (hv : StrSl w v L) (hl : L.length ≤ maxLen) :
    Calls Try.prog 20 #[v] w (ValPost (.bool (tableB L)) w) := by
  cases hT : tableB L
  · have h := read_no hv hl hT
    unfold noTab at h
    clear hv hT
    go_enter Try.func20, Try.ntmps20
    go_wp2_with fail
    refine h.mono ?_
    rintro e w1 ⟨rfl, hb⟩
    go_wp2
    go_ret
    exact ⟨rfl, hb⟩
  · have h := read_yes hv hl hT
    unfold ReadPost tabV at h
    clear hv hT
    go_enter Try.func20, Try.ntmps20
    go_wp2_with fail
    refine h.mono ?_
    rintro e w1 ⟨b, rfl, _, _, hb⟩
    go_wp2
    go_ret
    exact ⟨rfl, hb⟩

/-- What Find answers. -/
def findV (L : List ByteArray) (s : ByteArray) : Value := if tableB L then .tuple #[.int .i64 (pos L s : Int), .bool (decide (s ∈ L))] else .tuple #[.int .i64 0, .bool false]
set_option maxHeartbeats 1000000 in
theorem find_any {w : World} {v : Value} {L : List ByteArray} (hv : StrSl w v L) (hl : L.length ≤ maxLen) (s : ByteArray) (hs : s.size ≤ maxLen) :
    Calls Try.prog 12 #[v, .string s] w (ValPost (findV L s) w) := by
  cases hT : tableB L
  · have h := read_no hv hl hT
    unfold noTab at h
    have hlk := look_nil_ok hs
    have hV : findV L s = .tuple #[.int .i64 0, .bool false] := by unfold findV; rw [hT]; rfl
    rw [hV]
    clear hv hT hV
    go_enter Try.func12, Try.ntmps12
    go_wp2_with fail
    refine h.mono ?_
    rintro e w1 ⟨rfl, hb⟩
    go_wp2
    go_ret2
    exact ⟨rfl, hb.alloc hb.size _⟩
  · have h := read_yes hv hl hT
    unfold ReadPost tabV at h
    have hV : findV L s = .tuple #[.int .i64 (pos L s : Int), .bool (decide (s ∈ L))] := by unfold findV; rw [hT]; rfl
    rw [hV]
    clear hv hT hV
    go_enter Try.func12, Try.ntmps12
    go_wp2_with fail
    refine h.mono ?_
    rintro e w1 ⟨b, rfl, hm, _, hb⟩
    have hlk := fun o => IsMapOf.look_ok (hm.kept (World.grownBy_alloc w1 o none) (by simp)) hs
    go_wp2
    go_ret2
    exact ⟨rfl, hb.alloc hb.size _⟩

/-- s is a symbol of a table of n names. -/
def hasB (n : Nat) (s : Int) : Bool := decide (1 ≤ s) && decide (s ≤ (n : Int))
set_option maxHeartbeats 400000 in
theorem has_any (A : Option Addr) (n ca : Nat) (s : Int) (w : World) :
    Calls Try.prog 32 #[.slice A n ca, .int .i64 s] w fun e w' => e = .returned (.bool (hasB n s)) ∧ w = w' := by
  unfold hasB
  obtain ⟨B, hB⟩ : ∃ B, decide (1 ≤ s) = B := ⟨_, rfl⟩
  obtain ⟨C, hC⟩ : ∃ C, decide (s ≤ (n : Int)) = C := ⟨_, rfl⟩
  rw [hB, hC]
  cases B
  all_goals
    go_enter Try.func32, Try.ntmps32
    go_wp2
    go_ret
    exact ⟨rfl, rfl⟩

/-- What Name answers. -/
def nameV (L : List ByteArray) (s : Int) : Value := if tableB L && hasB L.length s then .tuple #[.string (L.getD (s - 1).toNat ⟨#[]⟩), .bool true] else .tuple #[.string ⟨#[]⟩, .bool false]
set_option maxHeartbeats 1000000 in
theorem name_any {w : World} {v : Value} {L : List ByteArray} (hv : StrSl w v L) (hl : L.length ≤ maxLen) (s : Int) :
    Calls Try.prog 13 #[v, .int .i64 s] w (ValPost (nameV L s) w) := by
  have hva := valid_any hv hl
  obtain ⟨A, ca, rfl, hr⟩ := hv
  cases hT : tableB L
  · rw [hT] at hva
    have hV : nameV L s = .tuple #[.string ⟨#[]⟩, .bool false] := by unfold nameV; rw [hT]; rfl
    rw [hV]
    clear hV hT
    go_enter Try.func13, Try.ntmps13
    go_wp2_with fail
    refine hva.mono ?_
    rintro e w1 ⟨rfl, hb⟩
    go_wp2
    go_ret2
    exact ⟨rfl, hb⟩
  · rw [hT] at hva
    have hh := fun w => has_any A L.length ca s w
    cases hH : hasB L.length s
    · rw [hH] at hh
      have hV : nameV L s = .tuple #[.string ⟨#[]⟩, .bool false] := by unfold nameV; rw [hT, hH]; rfl
      rw [hV]
      clear hV hT hH
      go_enter Try.func13, Try.ntmps13
      go_wp2_with fail
      refine hva.mono ?_
      rintro e w1 ⟨rfl, hb⟩
      go_wp2_with fail
      refine (hh _).mono ?_
      rintro e w2 ⟨rfl, rfl⟩
      go_wp2
      go_ret2
      exact ⟨rfl, hb⟩
    · rw [hH] at hh
      have hH2 := hH
      unfold hasB at hH2
      simp only [Bool.and_eq_true, decide_eq_true_eq] at hH2
      obtain ⟨k, hk⟩ : ∃ k : Nat, s - 1 = (k : Int) := ⟨(s - 1).toNat, by omega⟩
      have hk2 : (s - 1).toNat = k := by omega
      obtain ⟨ad, x, rfl, hab, hx, hc0⟩ := row_str hr (show k < L.length by omega)
      have hV : nameV L s = .tuple #[.string x, .bool true] := by
        unfold nameV; rw [hT, hH, hk2, List.getD_eq_getElem?_getD, hx]; rfl
      rw [hV]
      have n1 : IntKind.i64.wrap (s - 1) = (k : Int) := by rw [IntKind.wrap_i64]; unfold maxLen at hl; omega
      have n2 : (k : Int) < (L.length : Int) := by omega
      clear hV hT hH hH2 hk hk2
      go_enter Try.func13, Try.ntmps13
      go_wp2_with fail
      refine hva.mono ?_
      rintro e w1 ⟨rfl, hb⟩
      have hc : w1.cell? (ad.add k) = some (.string x) := (hb.cell (by rw [block_of_add]; exact hab)).trans hc0
      go_wp2_with fail
      refine (hh _).mono ?_
      rintro e w2 ⟨rfl, rfl⟩
      go_wp2
      go_ret2
      exact ⟨rfl, hb⟩

/-- What Tokens returns. -/
def TokPost (r : List Nat × Nat × Nat) (w : World) (e : Ending) (w' : World) : Prop :=
  ∃ v, e = .returned (.tuple #[v, .int .i64 (r.2.1 : Int), .int .i64 (r.2.2 : Int)]) ∧ IntSl w' v (ofNats r.1) ∧ Below w.heap.size w w'
theorem IntSl.len {w : World} {v : Value} {l : List Nat} (h : IntSl w v (ofNats l)) : ∃ A ca, v = .slice A l.length ca := by
  obtain ⟨A, ca, rfl, _⟩ := h
  exact ⟨A, ca, by simp [ofNats]⟩

set_option maxHeartbeats 4000000 in
theorem tokens_any {w : World} {v : Value} {L : List ByteArray} (hv : StrSl w v L) (hl : L.length ≤ maxLen) (t : ByteArray) :
    Calls Try.prog 14 #[v, .string t] w (TokPost (tokL L t) w) := by
  cases hT : tableB L
  · have hV : tokL L t = ([], 0, 1) := by unfold tokL; rw [hT]; rfl
    rw [hV]
    have h := read_no hv hl hT
    unfold noTab at h
    clear hV hT hv
    go_enter Try.func14, Try.ntmps14
    go_wp2_with fail
    refine h.mono ?_
    rintro e w1 ⟨rfl, hb⟩
    go_wp2
    go_ret3
    exact ⟨_, rfl, IntSl.nil _, hb.alloc hb.size _⟩
  have h := read_yes hv hl hT
  unfold ReadPost tabV at h
  have hgood := (tableB_iff.1 hT).2
  by_cases hbig : 16384 < t.size
  · have hV : tokL L t = ([], 0, 2) := by unfold tokL; rw [hT, if_pos rfl, if_pos hbig]
    rw [hV]
    clear hV hT hv hgood
    go_enter Try.func14, Try.ntmps14
    go_wp2_with fail
    refine h.mono ?_
    rintro e w1 ⟨b, rfl, hm, _, hb⟩
    go_wp2
    go_ret3
    exact ⟨_, rfl, IntSl.nil _, hb.alloc hb.size _⟩
  have hV : tokL L t = if (divL L t).2 < t.size then ([], (divL L t).2, 3) else if 200 < (divL L t).1.length then ([], 0, 2) else ((divL L t).1, 0, 0) := by unfold tokL; rw [hT, if_pos rfl, if_neg hbig]
  have hdv := fun (b : Nat) (w : World) (hm : IsMapOf w b L) => divide_any L t b w hm hgood (by omega)
  unfold DivPost tabV at hdv
  have HDV := Lib.hid hdv
  clear hdv hT hv
  obtain ⟨D, P, hDP⟩ : ∃ D P, divL L t = (D, P) := ⟨_, _, rfl⟩
  rw [hDP] at HDV
  have hV2 := hV
  rw [hDP] at hV2
  have HV2 := Lib.hid hV2
  clear hDP hV hV2
  go_enter Try.func14, Try.ntmps14
  go_wp2_with fail
  refine h.mono ?_
  rintro e w1 ⟨b, rfl, hm, _, hb⟩
  go_wp2_with fail
  refine (HDV.out b _ (hm.kept (World.grownBy_alloc w1 _ none) (by simp))).mono ?_
  rintro e w2 ⟨x, rfl, hx, hb2⟩
  have hb3 := (hb.alloc hb.size _).trans (hb2.mono (by simp; have := hb.size; omega))
  obtain ⟨B, cb, rfl⟩ := hx.len
  have hV2 := HV2.out
  by_cases h1 : P < t.size
  · rw [if_pos h1] at hV2
    have HH := Lib.hid hV2
    have n1 : (P : Int) < (t.size : Int) := by omega
    clear hV2 HV2
    go_wp2
    go_ret3
    exact ⟨.slice none 0 0, by rw [HH.out]; rfl, by rw [HH.out]; exact IntSl.nil _, hb3⟩
  · rw [if_neg h1] at hV2
    have n1 : ¬ (P : Int) < (t.size : Int) := by omega
    by_cases h2 : 200 < D.length
    · rw [if_pos h2] at hV2
      have HH := Lib.hid hV2
      clear hV2 HV2
      go_wp2
      go_ret3
      exact ⟨.slice none 0 0, by rw [HH.out]; rfl, by rw [HH.out]; exact IntSl.nil _, hb3⟩
    · rw [if_neg h2] at hV2
      have HH := Lib.hid hV2
      clear hV2 HV2
      go_wp2
      go_ret3
      exact ⟨.slice B D.length cb, by rw [HH.out]; rfl, by rw [HH.out]; exact hx, hb3⟩
end Go.Proofs.Ytegbgkljpdlpnaa
