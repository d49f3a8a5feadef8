/- The walk of LettersCase, over texts that are all letters. -/
import Derived.Test.YtpchdggppkenkaaDoorLk
set_option linter.unusedVariables false
set_option linter.unusedSimpArgs false
namespace Go.Proofs.YtpchdggppkenkaaDoor
open Go.RowKit

theorem row_get {α : Type} (L : List α) (k : Nat) (x : α) (r : List α) (h : L.drop k = x :: r) : L[k]? = some x ∧ k < L.length ∧ L.drop (k + 1) = r := by
  have h' : L.drop k = [x] ++ r := h
  obtain ⟨a, b⟩ := drop_get L k 0 [x] r h' x rfl
  exact ⟨a, b, drop_more L k [x] r h'⟩

set_option maxHeartbeats 4000000 in
set_option maxRecDepth 20000 in
theorem case_good (s : ByteArray) (w : World) (hs : s.size ≤ 2000) (hbad : badFrom s s.size 0 = none) (hT : Tabs w) :
    Calls Tryd.prog 7 #[.string s] w fun e w' => e = .returned (.bool true) ∧ Below w.heap.size w w' := by
  have f1 : decide ((2000 : Int) < (s.size : Int)) = false := by simp; omega
  have HT := Lib.hid hT
  obtain ⟨A, hA⟩ : ∃ A, chT lowR s = A := ⟨_, rfl⟩
  obtain ⟨B, hB⟩ : ∃ B, chT upR s = B := ⟨_, rfl⟩
  have hAz : A.size = s.size := by rw [← hA]; exact chT_size _ low_tr s
  have hBz : B.size = s.size := by rw [← hB]; exact chT_size _ up_tr s
  have h1 : ∀ w, Tabs w → Calls Tryd.prog 26 #[.string s] w fun e w' => e = .returned (.string A) ∧ Below w.heap.size w w' := by
    intro w hT; rw [← hA]; exact lower_any s w (by omega) hT
  have h2 : ∀ w, Tabs w → Calls Tryd.prog 28 #[.string s] w fun e w' => e = .returned (.string B) ∧ Below w.heap.size w w' := by
    intro w hT; rw [← hB]; exact upper_any s w (by omega) hT
  have h3 : ∀ w, Tabs w → Calls Tryd.prog 26 #[.string B] w fun e w' => e = .returned (.string A) ∧ Below w.heap.size w w' := by
    intro w hT
    have e : A = ⟨(chS lowR B).toArray⟩ := by rw [← hA, ← hB, twice upR lowR lowR up_tr low_up s]; rfl
    rw [e]; exact lower_any B w (by omega) hT
  have h4 : ∀ w, Tabs w → Calls Tryd.prog 28 #[.string A] w fun e w' => e = .returned (.string B) ∧ Below w.heap.size w w' := by
    intro w hT
    have e : B = ⟨(chS upR A).toArray⟩ := by rw [← hA, ← hB, twice lowR upR upR low_tr up_low s]; rfl
    rw [e]; exact upper_any A w (by omega) hT
  have hsS := split_none s (by omega) hbad
  have hsA := split_none A (by omega) (by rw [hAz, ← hA, bad_ch _ low_tr]; exact hbad)
  have hsB := split_none B (by omega) (by rw [hBz, ← hB, bad_ch _ up_tr]; exact hbad)
  have h5 := fun w => split_any s w (by omega)
  have h6 := fun w => split_any A w (by omega)
  have h7 := fun w => split_any B w (by omega)
  unfold SplitPost at h5 h6 h7
  simp only [hsS] at h5
  simp only [hsA] at h6
  simp only [hsB] at h7
  have hlA : (piecesFrom A A.size 0).length = (piecesFrom s s.size 0).length := by rw [hAz, ← hA]; exact len_ch _ low_tr s _ _
  have hlB : (piecesFrom B B.size 0).length = (piecesFrom s s.size 0).length := by rw [hBz, ← hB]; exact len_ch _ up_tr s _ _
  have hll := piecesFrom_len s s.size 0
  obtain ⟨L, hL⟩ : ∃ L, piecesFrom s s.size 0 = L := ⟨_, rfl⟩
  obtain ⟨M, hM⟩ : ∃ M, piecesFrom A A.size 0 = M := ⟨_, rfl⟩
  obtain ⟨N, hN⟩ : ∃ N, piecesFrom B B.size 0 = N := ⟨_, rfl⟩
  rw [hL] at hlA hlB hll h5
  rw [hM] at hlA h6
  rw [hN] at hlB h7
  rw [hAz] at hM
  rw [hBz] at hN
  have HA := Lib.hid hA; have HB := Lib.hid hB; have HL := Lib.hid hL; have HM := Lib.hid hM; have HN := Lib.hid hN; have HBD := Lib.hid hbad
  have g5 : ((L.length : Int) != (M.length : Int)) = false := by rw [hlA]; simp
  have g6 : ((L.length : Int) != (N.length : Int)) = false := by rw [hlB]; simp
  have H1 := Lib.hid h1; have H2 := Lib.hid h2; have H3 := Lib.hid h3; have H4 := Lib.hid h4; have H5 := Lib.hid h5; have H6 := Lib.hid h6; have H7 := Lib.hid h7
  have g3 : ((A.size : Int) != (s.size : Int)) = false := by rw [hAz]; simp
  have g4 : ((B.size : Int) != (s.size : Int)) = false := by rw [hBz]; simp
  clear hT h1 h2 h3 h4 h5 h6 h7 hsS hsA hsB hA hB hbad hL hM hN
  have HAZ := Lib.hid hAz; have HBZ := Lib.hid hBz; have HLA := Lib.hid hlA; have HLB := Lib.hid hlB
  clear hAz hBz hlA hlB
  go_enter Tryd.func7, Tryd.ntmps7
  go_wp2_with fail
  refine (H1.out _ HT.out).mono ?_
  rintro e w1 ⟨rfl, hb1⟩
  go_wp2_with fail
  refine (H2.out _ (HT.out.below hb1)).mono ?_
  rintro e w2 ⟨rfl, hb⟩
  have hb2 := hb1.trans (hb.mono hb1.size); clear hb hb1
  go_wp2_with fail
  refine (H3.out _ (HT.out.below hb2)).mono ?_
  rintro e w3 ⟨rfl, hb⟩
  have hb3 := hb2.trans (hb.mono hb2.size); clear hb hb2
  go_wp2_with fail
  refine (H4.out _ (HT.out.below hb3)).mono ?_
  rintro e w4 ⟨rfl, hb⟩
  have hb4 := hb3.trans (hb.mono hb3.size); clear hb hb3
  go_wp2_with fail
  refine (H5.out _).mono ?_
  rintro e w5 ⟨v5, rfl, hv5, hb⟩
  have hb5 := hb4.trans (hb.mono hb4.size); clear hb hb4
  obtain ⟨A5, c5, rfl, r5⟩ := hv5
  go_wp2_with fail
  refine (H6.out _).mono ?_
  rintro e w6 ⟨v6, rfl, hv6, hb⟩
  have r5' := (r5.below hb).more hb.size; clear r5
  have hb6 := hb5.trans (hb.mono hb5.size); clear hb hb5
  obtain ⟨A6, c6, rfl, r6⟩ := hv6
  go_wp2_with fail
  refine (H7.out _).mono ?_
  rintro e w7 ⟨v7, rfl, hv7, hb⟩
  have r5 := (r5'.below hb).more hb.size; clear r5'
  have r6' := (r6.below hb).more hb.size; clear r6
  have hb7 := hb6.trans (hb.mono hb6.size); clear hb hb6
  obtain ⟨A7, c7, rfl, r7⟩ := hv7
  go_wp2
  have hsz := hb7.size
  go_loopw [14] (fun i wr => ∃ (k pos f : Nat), i = .int .i64 k ∧ (L.drop k = piecesFrom s f pos ∧ M.drop k = piecesFrom A f pos ∧ N.drop k = piecesFrom B f pos ∧ badFrom s f pos = none ∧ Cut lowR s f pos ∧ Cut upR s f pos) ∧ pos ≤ s.size ∧ s.size ≤ pos + f ∧ k ≤ L.length ∧ Below w7.heap.size w7 wr) (fun i _ => L.length - (intOf i).toNat)
  case atStart => exact ⟨0, 0, s.size, rfl, ⟨by rw [List.drop_zero]; exact HL.out.symm, by rw [List.drop_zero]; exact HM.out.symm, by rw [List.drop_zero]; exact HN.out.symm, HBD.out, cut_zero _ s, cut_zero _ s⟩, by omega, by omega, by omega, Below.refl _ _⟩
  case round =>
    obtain ⟨k, pos, f, rfl, hinv, hps, hpf, hkl, hbr⟩ := hrel
    have HINV := Lib.hid hinv
    clear hinv
    by_cases hp : pos < s.size
    · obtain ⟨f, rfl⟩ : ∃ f', f = f' + 1 := ⟨f - 1, by omega⟩
      obtain ⟨d1, d2, d3, d4, d5, d6⟩ := HINV.out
      have hpA : pos < A.size := by rw [HAZ.out]; exact hp
      have hpB : pos < B.size := by rw [HBZ.out]; exact hp
      have hns : stray s pos = false := by
        cases e : stray s pos
        · rfl
        · rw [badFrom_hit s f pos hp e] at d4; cases d4
      rw [badFrom_miss s f pos hp hns] at d4
      rw [piecesFrom_step _ f pos hp] at d1
      rw [piecesFrom_step _ f pos hpA] at d2
      rw [piecesFrom_step _ f pos hpB] at d3
      have hpwA : pw A pos = pw s pos := by rw [← HA.out]; exact chT_pw _ low_tr s pos hp
      have hpwB : pw B pos = pw s pos := by rw [← HB.out]; exact chT_pw _ up_tr s pos hp
      have x1 := row_get L k (piece s pos) _ d1
      have x2 := row_get M k (piece A pos) _ d2
      have x3 := row_get N k (piece B pos) _ d3
      rw [hpwA] at x2
      rw [hpwB] at x3
      have n5 := cut_next _ low_tr s f pos hp d5
      have n6 := cut_next _ up_tr s f pos hp d6
      have cP := clsD_letter s pos hp hns
      have cA : clsD (piece A pos) = cls (lowR ((Utf8.decode s pos).1 : Int)) := by rw [← HA.out]; exact cls_ch _ low_tr s f pos hp d5 hns
      have cB : clsD (piece B pos) = cls (upR ((Utf8.decode s pos).1 : Int)) := by rw [← HB.out]; exact cls_ch _ up_tr s f pos hp d6 hns
      have sA : lowR ((Utf8.decode s pos).1 : Int) = ((Utf8.decode s pos).1 : Int) → piece A pos = piece s pos := by rw [← HA.out]; exact piece_same _ low_tr s f pos hp d5 hns
      have sB : upR ((Utf8.decode s pos).1 : Int) = ((Utf8.decode s pos).1 : Int) → piece B pos = piece s pos := by rw [← HB.out]; exact piece_same _ up_tr s f pos hp d6 hns
      have HNX := Lib.hid (show L.drop (k + 1) = piecesFrom s f (pos + pw s pos) ∧ M.drop (k + 1) = piecesFrom A f (pos + pw s pos) ∧ N.drop (k + 1) = piecesFrom B f (pos + pw s pos) ∧ badFrom s f (pos + pw s pos) = none ∧ Cut lowR s f (pos + pw s pos) ∧ Cut upR s f (pos + pw s pos) from ⟨x1.2.2, x2.2.2, x3.2.2, d4, n5, n6⟩)
      have hpw := pw_within s pos hp
      have hp1 := pw_pos s pos
      have hq4 := pw_le s pos hp
      have zP : (piece s pos).size ≤ 4 := by rw [piece_size s pos hp]; exact hq4
      have zA : (piece A pos).size ≤ 4 := by rw [piece_size A pos hpA, hpwA]; exact hq4
      have zB : (piece B pos).size ≤ 4 := by rw [piece_size B pos hpB, hpwB]; exact hq4
      have hkL := x1.2.1
      have n1 : (k : Int) < (L.length : Int) := by omega
      have n2 : (k : Int) < (M.length : Int) := by have := x2.2.1; omega
      have n3 : (k : Int) < (N.length : Int) := by have := x3.2.1; omega
      obtain ⟨aL, rfl, bL, cL0⟩ := str_at r5 x1.1
      obtain ⟨aM, rfl, bM, cM0⟩ := str_at r6' x2.1
      obtain ⟨aN, rfl, bN, cN0⟩ := str_at r7 x3.1
      have cL := cell_later hbr ⟨bL, cL0⟩
      have cM := cell_later hbr ⟨bM, cM0⟩
      have cN := cell_later hbr ⟨bN, cN0⟩
      have eM : (aM.add k).block < wr.heap.size := by rw [block_of_add]; have := hbr.size; omega
      have eN : (aN.add k).block < wr.heap.size := by rw [block_of_add]; have := hbr.size; omega
      have eL : (aL.add k).block < wr.heap.size := by rw [block_of_add]; have := hbr.size; omega
      have HTr := Lib.hid ((HT.out.below hb7).below hbr)
      have hcls := fun (P : ByteArray) (h : P.size ≤ 4) w hT => class_any P w (by omega) hT
      simp only [clsS_eq] at hcls
      have HCP := Lib.hid (hcls (piece s pos) zP); have HCA := Lib.hid (hcls (piece A pos) zA); have HCB := Lib.hid (hcls (piece B pos) zB)
      clear hcls x1 x2 x3 d1 d2 d3 d4 d5 d6 n5 n6 cL0 cM0 cN0 HINV zP zA zB hpwA hpwB
      by_cases h12 : cls ((Utf8.decode s pos).1 : Int) = 1 ∨ cls ((Utf8.decode s pos).1 : Int) = 2
      · have kA := cA.trans (low_cls _ h12)
        have kB : clsD (piece B pos) = 1 ∨ clsD (piece B pos) = 2 := by rw [cB]; exact up_cls _ h12
        rw [← cP] at h12
        clear cP cA cB sA sB
        generalize piece s pos = P at *
        generalize piece A pos = PA at *
        generalize piece B pos = PB at *
        generalize pw s pos = q4 at *
        have jA : (clsD PA != 1) = false := by rw [kA]; rfl
        have jP : (clsD P == 1) = true ∨ ((clsD P == 1) = false ∧ (clsD P == 2) = true) := by
          by_cases g : clsD P = 1
          · exact Or.inl (by rw [g]; rfl)
          · exact Or.inr ⟨by simpa using g, by rw [h12.resolve_left g]; rfl⟩
        have jB : (clsD PB != 1) = false ∨ ((clsD PB != 1) = true ∧ (clsD PB != 2) = false) := by
          by_cases g : clsD PB = 1
          · exact Or.inl (by rw [g]; rfl)
          · exact Or.inr ⟨bne_iff_ne.2 g, by rw [kB.resolve_left g]; rfl⟩
        clear kA kB h12
        generalize clsD P = cp at *
        generalize clsD PA = ca at *
        generalize clsD PB = cb at *
        rcases jP with jP | ⟨jP, jP2⟩ <;> rcases jB with jB | ⟨jB, jB2⟩
        case inl.inl | inr.inl =>
          go_wp2_with fail
          refine (HCP.out _ HTr.out).mono ?_
          rintro e y1 ⟨rfl, hy1⟩
          have cM1 := (hy1.cell eM).trans cM
          have cN1 := (hy1.cell eN).trans cN
          have T1 := Lib.hid (HTr.out.below hy1)
          have hend := hbr.trans (hy1.mono hbr.size)
          have eN1 : (aN.add k).block < y1.heap.size := by have := hy1.size; omega
          clear cL cM cN hy1 hbr
          go_wp2_with fail
          refine (HCA.out _ T1.out).mono ?_
          rintro e y2 ⟨rfl, hy2⟩
          have cN2 := (hy2.cell eN1).trans cN1
          have T2 := Lib.hid (T1.out.below hy2)
          have hend2 := hend.trans (hy2.mono hend.size)
          clear cM1 cN1 hend hy2
          go_wp2_with fail
          refine (HCB.out _ T2.out).mono ?_
          rintro e y3 ⟨rfl, hy3⟩
          have hend3 := hend2.trans (hy3.mono hend2.size)
          clear cN2 hend2 hy3
          go_wp2
          go_roundw
          case rel => exact ⟨k + 1, pos + q4, f, by go_num, HNX.out, by omega, by omega, by omega, hend3⟩
          case measure => simp [intOf]; omega
        case inl.inr | inr.inr =>
          go_wp2_with fail
          refine (HCP.out _ HTr.out).mono ?_
          rintro e y1 ⟨rfl, hy1⟩
          have cM1 := (hy1.cell eM).trans cM
          have cN1 := (hy1.cell eN).trans cN
          have T1 := Lib.hid (HTr.out.below hy1)
          have hend := hbr.trans (hy1.mono hbr.size)
          have eN1 : (aN.add k).block < y1.heap.size := by have := hy1.size; omega
          clear cL cM cN hy1 hbr
          go_wp2_with fail
          refine (HCA.out _ T1.out).mono ?_
          rintro e y2 ⟨rfl, hy2⟩
          have cN2 := (hy2.cell eN1).trans cN1
          have T2 := Lib.hid (T1.out.below hy2)
          have hend2 := hend.trans (hy2.mono hend.size)
          have eN2 : (aN.add k).block < y2.heap.size := by have := hy2.size; omega
          clear cM1 cN1 hend hy2
          go_wp2_with fail
          refine (HCB.out _ T2.out).mono ?_
          rintro e y3 ⟨rfl, hy3⟩
          have cN3 := (hy3.cell eN2).trans cN2
          have T3 := Lib.hid (T2.out.below hy3)
          have hend3 := hend2.trans (hy3.mono hend2.size)
          clear cN2 hend2 hy3
          go_wp2_with fail
          refine (HCB.out _ T3.out).mono ?_
          rintro e y4 ⟨rfl, hy4⟩
          have hend4 := hend3.trans (hy4.mono hend3.size)
          clear cN3 hend3 hy4
          go_wp2
          go_roundw
          case rel => exact ⟨k + 1, pos + q4, f, by go_num, HNX.out, by omega, by omega, by omega, hend4⟩
          case measure => simp [intOf]; omega
      · have kA := sA (low_id _ (fun g => h12 (Or.inr g)))
        have kB := sB (up_id _ (fun g => h12 (Or.inl g)))
        rw [kA] at cM
        rw [kB] at cN
        rw [← cP] at h12
        have jP : (clsD (piece s pos) == 1) = false := by simp; exact fun g => h12 (Or.inl g)
        have jP2 : (clsD (piece s pos) == 2) = false := by simp; exact fun g => h12 (Or.inr g)
        clear cP cA cB sA sB h12 kA kB HCA HCB
        generalize piece s pos = P at *
        generalize pw s pos = q4 at *
        generalize clsD P = cp at *
        go_wp2_with fail
        refine (HCP.out _ HTr.out).mono ?_
        rintro e y1 ⟨rfl, hy1⟩
        have cL1 := (hy1.cell eL).trans cL
        have cM1 := (hy1.cell eM).trans cM
        have cN1 := (hy1.cell eN).trans cN
        have hend := hbr.trans (hy1.mono hbr.size)
        clear cL cM cN hy1 hbr
        have jS : (P.toList != P.toList) = false := by simp
        go_wp2_with fail
        go_quiet (fail)
        go_wp2
        go_roundw
        case rel => exact ⟨k + 1, pos + q4, f, by go_num, HNX.out, by omega, by omega, by omega, below_drewN hend _⟩
        case measure => simp [intOf]; omega
    · obtain ⟨d1, d2, d3, d4, d5, d6⟩ := HINV.out
      rw [piecesFrom_end s f pos hp, List.drop_eq_nil_iff] at d1
      have ek : k = L.length := by omega
      have hbe := hb7.trans (hbr.mono hsz)
      have hk := awake_any wr (HT.out.below hbe)
      clear d1 d2 d3 d4 d5 d6 HINV hbr
      subst ek
      go_wp2_with fail
      refine hk.mono ?_
      rintro e w8 ⟨rfl, hb8⟩
      have hb8' := hbe.trans (hb8.mono hbe.size)
      clear hk hbe hb8
      go_wp2
      go_ret
      exact ⟨rfl, hb8'⟩

set_option maxHeartbeats 2000000 in
set_option maxRecDepth 20000 in
theorem case_big (s : ByteArray) (w : World) (hbig : 2000 < s.size) (hT : Tabs w) :
    Calls Tryd.prog 7 #[.string s] w fun e w' => e = .returned (.bool true) ∧ Below w.heap.size w w' := by
  have hk := awake_any w hT
  have f1 : decide ((2000 : Int) < (s.size : Int)) = true := by simp; omega
  clear hT hbig
  go_enter Tryd.func7, Tryd.ntmps7
  go_wp2_with fail
  refine hk.mono ?_
  rintro e w1 ⟨rfl, hb⟩
  go_wp2
  go_ret
  exact ⟨rfl, hb⟩

theorem case_walk (s : ByteArray) (w : World) (_hm : s.size ≤ maxLen) (hT : Tabs w) :
    Calls Tryd.prog 7 #[.string s] w fun e w' => e = .returned (.bool true) ∧ Below w.heap.size w w' := by
  by_cases h : s.size ≤ 2000
  · cases hb : badFrom s s.size 0 with
    | none => exact case_good s w h hb hT
    | some p => exact case_bad s w h p hb hT
  · exact case_big s w (by omega) hT
end Go.Proofs.YtpchdggppkenkaaDoor
