/- The walk of LettersUnits. -/
import Derived.Test.YtpchdggppkenkaaDoorLq
import Derived.Test.YtpchdggppkenkaaDoorLc
import Derived.Test.YtpchdggppkenkaaDoorVb
import Derived.Test.YtpchdggppkenkaaDoorPs
import Derived.IntWalk
set_option linter.unusedVariables false
set_option linter.unusedSimpArgs false
namespace Go.Proofs.YtpchdggppkenkaaDoor
open Go.RowKit

theorem str_at2 {ad : Addr} {w : World} {L : List ByteArray} {k : Nat} {x : ByteArray} (h : Reads w w.heap.size 1 (some ad) L.length (L.map Value.string)) (hx : L[k]? = some x) :
    ad.block < w.heap.size ∧ w.cell? (ad.add k) = some (.string x) := by
  obtain ⟨ad', e, h1, h2⟩ := str_at h hx
  cases e
  exact ⟨h1, h2⟩
theorem cell_later {w wr : World} {ad : Addr} {k : Nat} {x : ByteArray} (hbr : Below w.heap.size w wr) (h : ad.block < w.heap.size ∧ w.cell? (ad.add k) = some (.string x)) : wr.cell? (ad.add k) = some (.string x) :=
  (hbr.cell (by rw [block_of_add]; exact h.1)).trans h.2

theorem cell_far {w : World} {ad : Addr} {k j : Nat} {x : Value} (h : w.cell? (ad.add (k + (j + 1))) = some x) : w.cell? { block := ad.block, off := ad.off + (k + (j + 1)), spot := none } = some x := by
  have e : ad.add (k + (j + 1)) = { block := ad.block, off := ad.off + (k + (j + 1)), spot := none } := by unfold Addr.add; rw [if_neg (by omega)]
  rw [← e]; exact h
theorem add_zero (ad : Addr) : ad.add 0 = ad := by cases ad; simp [Addr.add]

set_option maxHeartbeats 4000000 in
set_option maxRecDepth 20000 in
theorem units_small (s : ByteArray) (w : World) (hs : s.size ≤ 2000) (h0 : 0 < s.size) (hT : Tabs w) :
    Calls Tryd.prog 10 #[.string s] w fun e w' => e = .returned (.bool true) ∧ Below w.heap.size w w' := by
  have f1 : decide ((2000 : Int) < (s.size : Int)) = false := by simp; omega
  have HT := Lib.hid hT
  have hl := quoteL_len s
  have h1 := quote_any s w (by omega) hT
  have h2 := fun w => split_any ⟨(quoteL s).toArray⟩ w (by rw [len_q]; omega)
  unfold QuotePost at h1
  unfold SplitPost at h2
  simp only [split_quote s (by omega)] at h2
  have huL : uL s = uFrom s s.size 0 := by unfold uL; rw [if_neg (by omega)]
  have hne := uFrom_ne s h0
  have hnot := uL_not_empty s h0
  rw [huL] at h2
  obtain ⟨L, hL⟩ : ∃ L, uFrom s s.size 0 = L := ⟨_, rfl⟩
  rw [hL] at h2 hne hnot
  have HL := Lib.hid hL
  have hpos : 0 < L.length := List.length_pos_iff.2 hne
  have hll : L.length ≤ 11000 := by
    have := splitL_len ⟨(quoteL s).toArray⟩
    rw [split_quote s (by omega), huL, hL, len_q] at this
    show L.length ≤ 11000
    simp only at this
    omega
  have H2 := Lib.hid h2
  have f2 : ((L.length : Int) == 0) = false := by rw [beq_eq_false_iff_ne]; omega
  clear hT h2 hl hne huL hL
  generalize quoteL s = q at *
  go_enter Tryd.func10, Tryd.ntmps10
  go_wp2_with fail
  refine h1.mono ?_
  rintro e w1 ⟨rfl, hb1⟩
  clear h1
  go_wp2_with fail
  refine (H2.out _).mono ?_
  rintro e w2 ⟨v, rfl, hv, hb2⟩
  have hb : Below w.heap.size w w2 := hb1.trans (hb2.mono hb1.size)
  obtain ⟨A, ca, rfl, ra⟩ := hv
  clear hb1 hb2
  have h0L : ∃ a, L[0]? = some a := ⟨L[0], List.getElem?_eq_getElem hpos⟩
  obtain ⟨a, ha⟩ := h0L
  obtain ⟨ad, rfl, hadb, hc0'⟩ := str_at ra ha
  have hc0 : w2.cell? ad = some (.string a) := by rw [add_zero] at hc0'; exact hc0'
  clear hc0'
  go_upto_region 6 with (fail)
  go_cut [41] from 27 to 46 (fun b wx => b = .bool false ∧ wx = w2)
  case first =>
    by_cases hl2 : L.length = 2
    · obtain ⟨b, hbb⟩ : ∃ b, L[1]? = some b := ⟨L[1]'(by omega), List.getElem?_eq_getElem (by omega)⟩
      obtain ⟨_, hc1'⟩ := str_at2 ra hbb
      have hc1 : w2.cell? { block := ad.block, off := ad.off + 1, spot := none } = some (.string b) := by simpa [Addr.add] using hc1'
      have hLe : L = [a, b] := by
        apply List.ext_getElem?
        intro i
        match i with
        | 0 => rw [ha]; rfl
        | 1 => rw [hbb]; rfl
        | i + 2 => rw [List.getElem?_eq_none (by omega)]; rfl
      have hn := hnot a b hLe
      have g1 : ((L.length : Int) == 2) = true := by rw [hl2]; rfl
      have k0 : (0 : Int) < (L.length : Int) := by omega
      have k1 : (1 : Int) < (L.length : Int) := by omega
      have hw : (a.toList == [37]) = false ∨ ((a.toList == [37]) = true ∧ (b.toList == [48]) = false) := by
        rw [Lib.toList_data, Lib.toList_data, beq_eq_false_iff_ne, beq_iff_eq, beq_eq_false_iff_ne]
        by_cases g : a.data.toList = [37]
        · exact Or.inr ⟨g, fun h => hn ⟨g, h⟩⟩
        · exact Or.inl g
      clear hnot hLe hn ha hbb H2 hpos hll hl2
      rcases hw with g2 | ⟨g2, g3⟩
      · go_wp2
        go_meet
        case rel => exact ⟨rfl, rfl⟩
      · go_wp2
        go_meet
        case rel => exact ⟨rfl, rfl⟩
    · have g1 : ((L.length : Int) == 2) = false := by rw [beq_eq_false_iff_ne]; omega
      go_wp2
      go_meet
      case rel => exact ⟨rfl, rfl⟩
  case rest =>
    obtain ⟨rfl, rfl⟩ := hcut
    clear hnot ha hc0
    have hsz := hb.size
    go_wp2
    go_loopw [6] (fun i wr => ∃ (k pos f : Nat), i = .int .i64 k ∧ L.drop k = uFrom s f pos ∧ pos ≤ s.size ∧ s.size ≤ pos + f ∧ k ≤ L.length ∧ Below wc.heap.size wc wr) (fun i _ => L.length - (intOf i).toNat)
    case atStart => exact ⟨0, 0, s.size, rfl, by rw [List.drop_zero]; exact HL.out.symm, by omega, by omega, by omega, Below.refl _ _⟩
    case round =>
      obtain ⟨k, pos, f, rfl, hdr, hps, hpf, hkl, hbr⟩ := hrel
      have HDR := Lib.hid hdr
      clear hdr
      have HTr := Lib.hid ((HT.out.below hb).below hbr)
      have hcls := fun (P : ByteArray) (h : P.size ≤ 4) w hT => class_any P w (by omega) hT
      simp only [clsS_eq] at hcls
      have HCL := Lib.hid hcls
      clear hcls
      by_cases hp : pos < s.size
      · obtain ⟨f, rfl⟩ : ∃ f', f = f' + 1 := ⟨f - 1, by omega⟩
        have hdr1 := HDR.out
        rw [uFrom_step s f pos hp] at hdr1
        have hdr2 := drop_more L k _ _ hdr1
        have hpw := pw_within s pos hp
        have hp1 := pw_pos s pos
        have hq4 := pw_le s pos hp
        have hszp := piece_size s pos hp
        rcases uP_ways s pos hp with ⟨m, n, hm, hn, hu⟩ | ⟨hu, hcm, hg32⟩ | ⟨hu, hc4, hc5, hg32, hg127⟩
        · rw [hu] at hdr1 hdr2
          obtain ⟨hx0, hk0⟩ := drop_get L k 0 _ _ hdr1 ⟨[37].toArray⟩ rfl
          obtain ⟨hx1, hk1⟩ := drop_get L k 1 _ _ hdr1 ⟨[120].toArray⟩ rfl
          obtain ⟨hx2, hk2⟩ := drop_get L k 2 _ _ hdr1 ⟨[hexD m].toArray⟩ rfl
          obtain ⟨hx3, hk3⟩ := drop_get L k 3 _ _ hdr1 ⟨[hexD n].toArray⟩ rfl
          have hcell := cell_later hbr (str_at2 ra hx0)
          have hcell1 := cell_later hbr (str_at2 ra hx1)
          have hcell2 := cell_later hbr (str_at2 ra hx2)
          have hcell3 := cell_later hbr (str_at2 ra hx3)
          simp only [Nat.add_zero] at hcell hk0
          have n1 : (k : Int) < (L.length : Int) := by omega
          have m1 : (0 : Int) ≤ (k : Int) + 1 := by omega
          have m2 : ((k : Int) + 1).toNat = k + 1 := by omega
          have m3 : (k : Int) + 1 < (L.length : Int) := by omega
          have m4 : decide ((L.length : Int) ≤ (k : Int) + 1) = false := by simp; omega
          have m5 : (0 : Int) ≤ (k : Int) + 2 := by omega
          have m6 : ((k : Int) + 2).toNat = k + 2 := by omega
          have m7 : (k : Int) + 2 < (L.length : Int) := by omega
          have m8 : (0 : Int) ≤ (k : Int) + 3 := by omega
          have m9 : ((k : Int) + 3).toNat = k + 3 := by omega
          have m10 : (k : Int) + 3 < (L.length : Int) := by omega
          have m11 : decide ((L.length : Int) ≤ (k : Int) + 3) = false := by simp; omega
          have e0 : ((⟨[37].toArray⟩ : ByteArray).toList == [37]) = true := by rw [Lib.toList_data]; rfl
          have e1 : ((⟨[120].toArray⟩ : ByteArray).toList == [120]) = true := by rw [Lib.toList_data]; rfl
          have hcl := HCL.out ⟨[120].toArray⟩ (by decide) wr HTr.out
          have hX2 : HexS ⟨[hexD m].toArray⟩ := ⟨m, hm, rfl⟩
          have hX3 : HexS ⟨[hexD n].toArray⟩ := ⟨n, hn, rfl⟩
          have HD2 := Lib.hid hdr2
          have hadk : ad.block < wr.heap.size := by have := hbr.size; omega
          have hcf := cell_far (j := 0) hcell1
          clear hdr1 hdr2 hx0 hx1 hx2 hx3 HDR hu
          generalize (⟨[37].toArray⟩ : ByteArray) = p37 at *
          generalize (⟨[120].toArray⟩ : ByteArray) = p120 at *
          generalize (⟨[hexD m].toArray⟩ : ByteArray) = pm at *
          generalize (⟨[hexD n].toArray⟩ : ByteArray) = pn at *
          generalize pw s pos = q4 at *
          generalize clsD p120 = cl at *
          go_wp2_with fail
          refine hcl.mono ?_
          rintro e w5 ⟨rfl, hb5⟩
          have hcell1' := cell_far (j := 0) ((hb5.cell (by rw [block_of_add]; exact hadk)).trans hcell1)
          have hcell2' := cell_far (j := 1) ((hb5.cell (by rw [block_of_add]; exact hadk)).trans hcell2)
          have hcell3' := cell_far (j := 2) ((hb5.cell (by rw [block_of_add]; exact hadk)).trans hcell3)
          have hx1' := (hb5.cell (by rw [block_of_add]; exact hadk)).trans hcell1
          have hx2' := (hb5.cell (by rw [block_of_add]; exact hadk)).trans hcell2
          have hx3' := (hb5.cell (by rw [block_of_add]; exact hadk)).trans hcell3
          have hend := hbr.trans (hb5.mono hbr.size)
          clear hcl hcell hcell1 hcell2 hcell3 hcf hbr hb5
          go_wp2_with (go_at_call 32; refine (ldigit_s _ ?_ _).mono ?_; assumption; rintro e w' ⟨rfl, rfl⟩)
          go_roundw
          case rel => exact ⟨k + 4, pos + q4, f, by go_num, HD2.out, by omega, by omega, by omega, hend⟩
          case measure => simp [intOf]; omega
        · rw [hu] at hdr1 hdr2
          obtain ⟨hx0, hk0⟩ := drop_get L k 0 _ _ hdr1 ⟨[37].toArray⟩ rfl
          obtain ⟨hx1, hk1⟩ := drop_get L k 1 _ _ hdr1 (piece s pos) rfl
          have hcell := cell_later hbr (str_at2 ra hx0)
          have hcell1 := cell_later hbr (str_at2 ra hx1)
          simp only [Nat.add_zero] at hcell hk0
          have n1 : (k : Int) < (L.length : Int) := by omega
          have m1 : (0 : Int) ≤ (k : Int) + 1 := by omega
          have m2 : ((k : Int) + 1).toNat = k + 1 := by omega
          have m3 : (k : Int) + 1 < (L.length : Int) := by omega
          have m4 : decide ((L.length : Int) ≤ (k : Int) + 1) = false := by simp; omega
          have hlen : 0 < (piece s pos).size := by omega
          have hg0 : ((piece s pos)[0]'hlen).toNat = gb (piece s pos) 0 := (gb_pos _ 0 hlen).symm
          have e0 : ((⟨[37].toArray⟩ : ByteArray).toList == [37]) = true := by rw [Lib.toList_data]; rfl
          have e1 : ((piece s pos).toList == [120]) = false := by rw [Lib.toList_data, beq_eq_false_iff_ne]; exact not_x _ hcm
          have e4 : decide ((gb (piece s pos) 0 : Int) < 32) = false := by simp; omega
          have hw : (clsD (piece s pos) != 4) = false ∨ ((clsD (piece s pos) != 4) = true ∧ (clsD (piece s pos) != 5) = false) := by
            by_cases g : clsD (piece s pos) = 4
            · exact Or.inl (by rw [g]; rfl)
            · exact Or.inr ⟨bne_iff_ne.2 g, by rw [hcm.resolve_left g]; rfl⟩
          have hcl := HCL.out (piece s pos) (by omega) wr HTr.out
          have HD2 := Lib.hid hdr2
          have hadr : (ad.add (k + 1)).block < wr.heap.size := by rw [block_of_add]; have := hbr.size; omega
          have hcf := cell_far (j := 0) hcell1
          clear hdr1 hdr2 hx0 hx1 HDR hu hcm hg32
          generalize piece s pos = P at *
          generalize (⟨[37].toArray⟩ : ByteArray) = p37 at *
          generalize pw s pos = q4 at *
          generalize gb P 0 = c0 at *
          generalize clsD P = cl at *
          rcases hw with e2 | ⟨e2, e3⟩
          all_goals
            go_wp2_with fail
            refine hcl.mono ?_
            rintro e w5 ⟨rfl, hb5⟩
            have hcell5 := (hb5.cell hadr).trans hcell1
            have hcell6 := cell_far (j := 0) hcell5
            have hend := hbr.trans (hb5.mono hbr.size)
            clear hcl hcell hcell1 hcf hbr hb5
            go_wp2
            go_roundw
            case rel => exact ⟨k + 2, pos + q4, f, by go_num, HD2.out, by omega, by omega, by omega, hend⟩
            case measure => simp [intOf]; omega
        · rw [hu] at hdr1 hdr2
          obtain ⟨hx0, hk0⟩ := drop_get L k 0 _ _ hdr1 (piece s pos) rfl
          have hcell := cell_later hbr (str_at2 ra hx0)
          simp only [Nat.add_zero] at hcell hk0
          have hlen : 0 < (piece s pos).size := by omega
          have hg0 : ((piece s pos)[0]'hlen).toNat = gb (piece s pos) 0 := (gb_pos _ 0 hlen).symm
          have n1 : (k : Int) < (L.length : Int) := by omega
          have e1 : ((piece s pos).toList == [37]) = false := by rw [Lib.toList_data, beq_eq_false_iff_ne]; exact not_pct _ hc5
          have e2 : (clsD (piece s pos) == 4) = false := by rw [beq_eq_false_iff_ne]; exact hc4
          have e3 : (clsD (piece s pos) == 5) = false := by rw [beq_eq_false_iff_ne]; exact hc5
          have e4 : decide ((gb (piece s pos) 0 : Int) < 32) = false := by simp; omega
          have e5 : ((gb (piece s pos) 0 : Int) == 127) = false := by rw [beq_eq_false_iff_ne]; omega
          have hcl := HCL.out (piece s pos) (by omega) wr HTr.out
          have HD2 := Lib.hid hdr2
          have hadr : (ad.add k).block < wr.heap.size := by rw [block_of_add]; have := hbr.size; omega
          clear hdr1 hdr2 hx0 HDR hu hc4 hc5 hg32 hg127
          generalize piece s pos = P at *
          generalize pw s pos = q4 at *
          generalize gb P 0 = c0 at *
          generalize clsD P = cl at *
          go_wp2_with fail
          refine hcl.mono ?_
          rintro e w5 ⟨rfl, hb5⟩
          have hcell5 := (hb5.cell hadr).trans hcell
          have hend := hbr.trans (hb5.mono hbr.size)
          clear hcl hcell hbr hb5
          go_wp2
          go_roundw
          case rel => exact ⟨k + 1, pos + q4, f, by go_num, HD2.out, by omega, by omega, by omega, hend⟩
          case measure => simp [intOf]; omega
      · have hdr1 := HDR.out
        rw [uFrom_end s f pos hp, List.drop_eq_nil_iff] at hdr1
        have ek : k = L.length := by omega
        have hbe := hb.trans (hbr.mono hsz)
        have hk := awake_any wr HTr.out
        clear HDR hdr1 hbr
        subst ek
        go_wp2_with fail
        refine hk.mono ?_
        rintro e w8 ⟨rfl, hb8⟩
        have hb8' := hbe.trans (hb8.mono hbe.size)
        clear hk hbe hb8
        go_wp2
        go_ret
        exact ⟨rfl, hb8'⟩

set_option maxHeartbeats 2000000 in
set_option maxRecDepth 20000 in
theorem units_none (s : ByteArray) (w : World) (h0 : s.size = 0) (hT : Tabs w) :
    Calls Tryd.prog 10 #[.string s] w fun e w' => e = .returned (.bool true) ∧ Below w.heap.size w w' := by
  have f1 : decide ((2000 : Int) < (s.size : Int)) = false := by simp; omega
  have he : s.toList.isEmpty = true := by rw [Lib.toList_data, List.isEmpty_iff, ← List.length_eq_zero_iff, len_list]; exact h0
  have HT := Lib.hid hT
  have hl := quoteL_len s
  have h1 := quote_any s w (by omega) hT
  have h2 := fun w => split_any ⟨(quoteL s).toArray⟩ w (by rw [len_q]; omega)
  unfold QuotePost at h1
  unfold SplitPost at h2
  simp only [split_quote s (by omega)] at h2
  have huL : uL s = [⟨[37].toArray⟩, ⟨[48].toArray⟩] := by unfold uL; rw [if_pos h0]
  rw [huL] at h2
  have e0 : ((⟨[37].toArray⟩ : ByteArray).toList == [37]) = true := by rw [Lib.toList_data]; rfl
  have e1 : ((⟨[48].toArray⟩ : ByteArray).toList == [48]) = true := by rw [Lib.toList_data]; rfl
  have H2 := Lib.hid h2
  clear hT h2 hl huL h0
  generalize quoteL s = q at *
  generalize (⟨[37].toArray⟩ : ByteArray) = p37 at *
  generalize (⟨[48].toArray⟩ : ByteArray) = p48 at *
  go_enter Tryd.func10, Tryd.ntmps10
  go_wp2_with fail
  refine h1.mono ?_
  rintro e w1 ⟨rfl, hb1⟩
  clear h1
  go_wp2_with fail
  refine (H2.out _).mono ?_
  rintro e w2 ⟨v, rfl, hv, hb2⟩
  have hb : Below w.heap.size w w2 := hb1.trans (hb2.mono hb1.size)
  obtain ⟨A, ca, rfl, ra⟩ := hv
  clear hb1 hb2
  obtain ⟨ad, rfl, hadb, hc0'⟩ := str_at ra (k := 0) (x := p37) rfl
  have hc0 : w2.cell? ad = some (.string p37) := by rw [add_zero] at hc0'; exact hc0'
  obtain ⟨_, hc1'⟩ := str_at2 ra (k := 1) (x := p48) rfl
  have hc1 : w2.cell? { block := ad.block, off := ad.off + 1, spot := none } = some (.string p48) := by simpa [Addr.add] using hc1'
  clear hc0' hc1' ra
  have hk := awake_any w2 (HT.out.below hb)
  go_wp2_with fail
  refine hk.mono ?_
  rintro e w8 ⟨rfl, hb8⟩
  have hb8' := hb.trans (hb8.mono hb.size)
  clear hk hb hb8
  go_wp2
  go_ret
  exact ⟨rfl, hb8'⟩

set_option maxHeartbeats 2000000 in
set_option maxRecDepth 20000 in
theorem units_big (s : ByteArray) (w : World) (hbig : 2000 < s.size) (hT : Tabs w) :
    Calls Tryd.prog 10 #[.string s] w fun e w' => e = .returned (.bool true) ∧ Below w.heap.size w w' := by
  have hk := awake_any w hT
  have f1 : decide ((2000 : Int) < (s.size : Int)) = true := by simp; omega
  clear hT hbig
  go_enter Tryd.func10, Tryd.ntmps10
  go_wp2_with fail
  refine hk.mono ?_
  rintro e w1 ⟨rfl, hb⟩
  go_wp2
  go_ret
  exact ⟨rfl, hb⟩

theorem units_walk (s : ByteArray) (w : World) (_hm : s.size ≤ maxLen) (hT : Tabs w) :
    Calls Tryd.prog 10 #[.string s] w fun e w' => e = .returned (.bool true) ∧ Below w.heap.size w w' := by
  by_cases h : s.size ≤ 2000
  · by_cases h0 : 0 < s.size
    · exact units_small s w h h0 hT
    · exact units_none s w (by omega) hT
  · exact units_big s w (by omega) hT
end Go.Proofs.YtpchdggppkenkaaDoor
