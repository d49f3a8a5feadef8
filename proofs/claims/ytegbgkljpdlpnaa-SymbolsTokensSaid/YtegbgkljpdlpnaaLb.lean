/- SymbolsTables, SymbolsAdds, SymbolsTokens, SymbolsTexts, walked. -/
import Derived.Test.YtegbgkljpdlpnaaLa
import Derived.Test.YtegbgkljpdlpnaaUf
import Derived.Test.YtegbgkljpdlpnaaTz
set_option linter.unusedVariables false
set_option linter.unusedSimpArgs false
namespace Go.Proofs.Ytegbgkljpdlpnaa
open Go.RowKit

theorem findV_form (L : List ByteArray) (s : ByteArray) : ∃ (p : Int) (q : Bool), findV L s = .tuple #[.int .i64 p, .bool q] := by
  unfold findV; split
  · exact ⟨_, _, rfl⟩
  · exact ⟨_, _, rfl⟩
theorem nameV_form (L : List ByteArray) (s : Int) : ∃ (p : ByteArray) (q : Bool), nameV L s = .tuple #[.string p, .bool q] := by
  unfold nameV; split
  · exact ⟨_, _, rfl⟩
  · exact ⟨_, _, rfl⟩
theorem textV_form (L : List ByteArray) (X : List Int) : ∃ (p : ByteArray) (q : Int), textV L X = .tuple #[.string p, .int .i64 q] := by
  unfold textV; split
  · exact ⟨_, _, rfl⟩
  · exact ⟨_, _, rfl⟩
theorem rfind_val {w : World} {v : Value} {L : List ByteArray} {s : ByteArray} {r : Value} (hr : findV L s = r) (hv : StrSl w v L) (hl : L.length ≤ maxLen) :
    Calls Try.prog 23 #[v, .string s] w (ValPost r w) := by rw [← hr]; exact rfind_any hv hl s
theorem rname_val {w : World} {v : Value} {L : List ByteArray} {s : Int} {r : Value} (hr : nameV L s = r) (hv : StrSl w v L) (hl : L.length ≤ maxLen) :
    Calls Try.prog 24 #[v, .int .i64 s] w (ValPost r w) := by rw [← hr]; exact rname_any hv hl s
theorem rtext_val {w : World} {v x : Value} {L : List ByteArray} {X : List Int} {r : Value} (hr : textV L X = r) (hv : StrSl w v L) (hx : IntSl w x X) (hl : L.length ≤ maxLen) (hxl : X.length ≤ maxLen) :
    Calls Try.prog 29 #[v, x] w (ValPost r w) := by rw [← hr]; exact rtext_any hv hx hl hxl
theorem rvalid5_val {w : World} {v : Value} {L : List ByteArray} {b : Bool} (hr : tableB L = b) (hv : StrSl w v L) (hl : L.length ≤ maxLen) :
    Calls Try.prog 25 #[v] w (ValPost (.bool b) w) := by rw [← hr]; exact rvalid5_any hv hl

set_option maxRecDepth 20000 in
set_option maxHeartbeats 4000000 in
theorem tables_any (L : List ByteArray) (v : Value) (s : ByteArray) (z : Int) (w : World) (hv : StrArg w v L) (hl : L.length ≤ maxLen) (hs : s.size ≤ maxLen) :
    Calls Try.prog 4 #[v, .string s, .int .i64 z] w (BoolPost true w) := by
  obtain ⟨A, ca, hvv, _⟩ := hv.form
  subst hvv
  have hlg := large_any A L.length ca w
  by_cases hbig : 600 < L.length
  · rw [show decide (600 < L.length) = true by simpa using hbig] at hlg
    clear hv hl hs hbig
    go_enter Try.func4, Try.ntmps4
    go_wp2_with fail
    refine hlg.mono ?_
    rintro e w1 ⟨rfl, rfl⟩
    go_wp2_with fail
    refine (awake_any _).mono ?_
    rintro e w2 ⟨rfl, hb⟩
    go_wp2
    go_ret
    exact ⟨rfl, hb⟩
  rw [show decide (600 < L.length) = false by simpa using hbig] at hlg
  have HVA := Lib.hid hv
  obtain ⟨p, q, hf⟩ := findV_form L s
  obtain ⟨x, y, hn⟩ := nameV_form L z
  obtain ⟨T, hT⟩ : ∃ T, tableB L = T := ⟨_, rfl⟩
  have HF := Lib.hid hf; have HN := Lib.hid hn; have HT := Lib.hid hT
  clear hv hbig hf hn hT
  go_enter Try.func4, Try.ntmps4
  go_wp2_with fail
  refine hlg.mono ?_
  rintro e w0 ⟨rfl, rfl⟩
  clear hlg
  go_wp2_with fail
  refine (find_val HF.out HVA.out.sl hl hs).mono ?_
  rintro e w1 ⟨rfl, hb⟩
  have B1 := Lib.hid hb
  clear hb
  go_wp2_with fail
  refine (rfind_val HF.out (HVA.out.below B1.out).sl hl).mono ?_
  rintro e w2 ⟨rfl, hb⟩
  have B2 := Lib.hid (below_chain B1.out hb)
  clear hb B1
  go_wp2_with fail
  refine (name_val HN.out (HVA.out.below B2.out).sl hl).mono ?_
  rintro e w3 ⟨rfl, hb⟩
  have B3 := Lib.hid (below_chain B2.out hb)
  clear hb B2
  go_wp2_with fail
  refine (rname_val HN.out (HVA.out.below B3.out).sl hl).mono ?_
  rintro e w4 ⟨rfl, hb⟩
  have B4 := Lib.hid (below_chain B3.out hb)
  clear hb B3
  go_wp2_with fail
  refine (valid_val HT.out (HVA.out.below B4.out).sl hl).mono ?_
  rintro e w5 ⟨rfl, hb⟩
  have B5 := Lib.hid (below_chain B4.out hb)
  clear hb B4
  go_wp2_with fail
  refine (rvalid5_val HT.out (HVA.out.below B5.out).sl hl).mono ?_
  rintro e w6 ⟨rfl, hb⟩
  have B6 := Lib.hid (below_chain B5.out hb)
  clear hb B5
  go_wp2_with fail
  refine (awake_any _).mono ?_
  rintro e w7 ⟨rfl, hb⟩
  have B7 := Lib.hid (below_chain B6.out hb)
  clear hb B6
  go_wp2
  go_ret
  exact ⟨rfl, B7.out⟩

set_option maxRecDepth 20000 in
set_option maxHeartbeats 4000000 in
theorem adds_any (L : List ByteArray) (v : Value) (s : ByteArray) (w : World) (hv : StrArg w v L) (hl : L.length ≤ maxLen) (hs : s.size ≤ maxLen) :
    Calls Try.prog 5 #[v, .string s] w (BoolPost true w) := by
  obtain ⟨A, ca, hvv, _⟩ := hv.form
  subst hvv
  have hlg := large_any A L.length ca w
  by_cases hbig : 600 < L.length
  · rw [show decide (600 < L.length) = true by simpa using hbig] at hlg
    clear hv hl hs hbig
    go_enter Try.func5, Try.ntmps5
    go_wp2_with fail
    refine hlg.mono ?_
    rintro e w1 ⟨rfl, rfl⟩
    go_wp2_with fail
    refine (awake_any _).mono ?_
    rintro e w2 ⟨rfl, hb⟩
    go_wp2
    go_ret
    exact ⟨rfl, hb⟩
  rw [show decide (600 < L.length) = false by simpa using hbig] at hlg
  have HVA := Lib.hid hv
  have h1 := fun w' (hb : Below w.heap.size w w') => add_any (hv.below hb) hl s
  have h2 := fun w' (hb : Below w.heap.size w w') => radd_any (hv.below hb) hl s
  have hlen : (addL L s).1.length ≤ 1000 := by
    unfold addL
    split
    · split
      · show L.length ≤ 1000; omega
      · split
        · simp
        · simp; omega
    · simp
  unfold AddPost at h1 h2
  obtain ⟨R, hR⟩ : ∃ R, addL L s = R := ⟨_, rfl⟩
  rw [hR] at h1 h2 hlen
  obtain ⟨l, p, q⟩ := R
  simp only at h1 h2 hlen
  have H1 := Lib.hid h1; have H2 := Lib.hid h2
  clear hv hbig h1 h2 hR
  go_enter Try.func5, Try.ntmps5
  go_wp2_with fail
  refine hlg.mono ?_
  rintro e w0 ⟨rfl, rfl⟩
  clear hlg
  go_wp2_with fail
  refine (H1.out _ (Below.refl _ _)).mono ?_
  rintro e w1 ⟨x1, rfl, hx, hb⟩
  have X1 := Lib.hid hx; have B1 := Lib.hid hb
  clear hx hb
  go_wp2_with fail
  refine (H2.out _ B1.out).mono ?_
  rintro e w2 ⟨x2, rfl, hy, hb⟩
  have hx := X1.out.below hb
  have B2 := Lib.hid (below_chain B1.out hb)
  clear hb B1 X1
  go_wp2_with fail
  refine (sameList_any _ _ _ _ _ hx hy (by omega)).mono ?_
  unfold SamePost
  rintro e w3 ⟨rfl, n3, rfl⟩
  have B3 := Lib.hid (below_drewN3 B2.out n3)
  clear hx hy B2
  generalize World.drewN _ n3 = w3 at *
  rw [show decide (l = l) = true by simp]
  go_wp2_with fail
  refine (awake_any _).mono ?_
  rintro e w4 ⟨rfl, hb⟩
  have B4 := Lib.hid (below_chain B3.out hb)
  clear hb B3
  go_wp2
  go_ret
  exact ⟨rfl, B4.out⟩

set_option maxRecDepth 20000 in
set_option maxHeartbeats 4000000 in
theorem toks_any (L : List ByteArray) (v : Value) (t : ByteArray) (w : World) (hv : StrArg w v L) (hl : L.length ≤ maxLen) (hs : t.size ≤ maxLen) :
    Calls Try.prog 7 #[v, .string t] w (BoolPost true w) := by
  obtain ⟨A, ca, hvv, _⟩ := hv.form
  subst hvv
  have hlg := large_any A L.length ca w
  by_cases hbig : 600 < L.length
  · rw [show decide (600 < L.length) = true by simpa using hbig] at hlg
    clear hv hl hs hbig
    go_enter Try.func7, Try.ntmps7
    go_wp2_with fail
    refine hlg.mono ?_
    rintro e w1 ⟨rfl, rfl⟩
    go_wp2_with fail
    refine (awake_any _).mono ?_
    rintro e w2 ⟨rfl, hb⟩
    go_wp2
    go_ret
    exact ⟨rfl, hb⟩
  rw [show decide (600 < L.length) = false by simpa using hbig] at hlg
  by_cases hbt : 20000 < t.size
  · have f1 : decide ((20000 : Int) < (t.size : Int)) = true := by simp; omega
    clear hv hl hs hbig
    go_enter Try.func7, Try.ntmps7
    go_wp2_with fail
    refine hlg.mono ?_
    rintro e w1 ⟨rfl, rfl⟩
    go_wp2_with fail
    refine (awake_any _).mono ?_
    rintro e w2 ⟨rfl, hb⟩
    go_wp2
    go_ret
    exact ⟨rfl, hb⟩
  have f1 : decide ((20000 : Int) < (t.size : Int)) = false := by simp; omega
  have h1 := fun w' (hb : Below w.heap.size w w') => tokens_any (hv.below hb).sl hl t
  have h2 := fun w' (hb : Below w.heap.size w w') => rtokens_any (hv.below hb).sl hl t
  have hlen : (tokL L t).1.length ≤ 200 := tok_len L t
  unfold TokPost at h1 h2
  obtain ⟨R, hR⟩ : ∃ R, tokL L t = R := ⟨_, rfl⟩
  rw [hR] at h1 h2 hlen
  obtain ⟨l, p, q⟩ := R
  simp only at h1 h2 hlen
  have H1 := Lib.hid h1; have H2 := Lib.hid h2
  clear hv hbig h1 h2 hR
  go_enter Try.func7, Try.ntmps7
  go_wp2_with fail
  refine hlg.mono ?_
  rintro e w0 ⟨rfl, rfl⟩
  clear hlg
  go_wp2_with fail
  refine (H1.out _ (Below.refl _ _)).mono ?_
  rintro e w1 ⟨x1, rfl, hx, hb⟩
  have X1 := Lib.hid hx; have B1 := Lib.hid hb
  clear hx hb
  go_wp2_with fail
  refine (H2.out _ B1.out).mono ?_
  rintro e w2 ⟨x2, rfl, hy, hb⟩
  have hx := X1.out.below hb
  have B2 := Lib.hid (below_chain B1.out hb)
  clear hb B1 X1
  go_wp2_with fail
  refine (sameInts_any _ _ _ _ _ hx hy (by simp [ofNats]; omega)).mono ?_
  rintro e w3 ⟨rfl, n3, rfl⟩
  have B3 := Lib.hid (below_drewN3 B2.out n3)
  clear hx hy B2
  generalize World.drewN _ n3 = w3 at *
  rw [show decide (ofNats l = ofNats l) = true by simp]
  go_wp2_with fail
  refine (awake_any _).mono ?_
  rintro e w4 ⟨rfl, hb⟩
  have B4 := Lib.hid (below_chain B3.out hb)
  clear hb B3
  go_wp2
  go_ret
  exact ⟨rfl, B4.out⟩

set_option maxRecDepth 20000 in
set_option maxHeartbeats 4000000 in
theorem texts_any (L : List ByteArray) (X : List Int) (v x : Value) (w : World) (hv : StrArg w v L) (hx : IntSl w x X) (hl : L.length ≤ maxLen) (hxl : X.length ≤ maxLen) :
    Calls Try.prog 8 #[v, x] w (BoolPost true w) := by
  obtain ⟨A, ca, hvv, _⟩ := hv.form
  subst hvv
  have hx0 := hx
  obtain ⟨C, cc, hxx, _⟩ := hx0
  subst hxx
  have hlg := large_any A L.length ca w
  by_cases hbig : 600 < L.length
  · rw [show decide (600 < L.length) = true by simpa using hbig] at hlg
    clear hv hl hbig hx
    go_enter Try.func8, Try.ntmps8
    go_wp2_with fail
    refine hlg.mono ?_
    rintro e w1 ⟨rfl, rfl⟩
    go_wp2_with fail
    refine (awake_any _).mono ?_
    rintro e w2 ⟨rfl, hb⟩
    go_wp2
    go_ret
    exact ⟨rfl, hb⟩
  rw [show decide (600 < L.length) = false by simpa using hbig] at hlg
  by_cases hbt : 300 < X.length
  · have f1 : decide ((300 : Int) < (X.length : Int)) = true := by simp; omega
    clear hv hl hbig hx
    go_enter Try.func8, Try.ntmps8
    go_wp2_with fail
    refine hlg.mono ?_
    rintro e w1 ⟨rfl, rfl⟩
    go_wp2_with fail
    refine (awake_any _).mono ?_
    rintro e w2 ⟨rfl, hb⟩
    go_wp2
    go_ret
    exact ⟨rfl, hb⟩
  have f1 : decide ((300 : Int) < (X.length : Int)) = false := by simp; omega
  obtain ⟨p, q, hT⟩ := textV_form L X
  have HT := Lib.hid hT; have HVA := Lib.hid hv; have HX := Lib.hid hx
  clear hv hbig hT hx
  go_enter Try.func8, Try.ntmps8
  go_wp2_with fail
  refine hlg.mono ?_
  rintro e w0 ⟨rfl, rfl⟩
  clear hlg
  go_wp2_with fail
  refine (text_val HT.out HVA.out.sl HX.out hl hxl).mono ?_
  rintro e w1 ⟨rfl, hb⟩
  have B1 := Lib.hid hb
  clear hb
  go_wp2_with fail
  refine (rtext_val HT.out (HVA.out.below B1.out).sl (HX.out.below B1.out) hl hxl).mono ?_
  rintro e w2 ⟨rfl, hb⟩
  have B2 := Lib.hid (below_chain B1.out hb)
  clear hb B1
  go_wp2_with fail
  refine (awake_any _).mono ?_
  rintro e w4 ⟨rfl, hb⟩
  have B4 := Lib.hid (below_chain B2.out hb)
  clear hb B2
  go_wp2
  go_ret
  exact ⟨rfl, B4.out⟩
end Go.Proofs.Ytegbgkljpdlpnaa
