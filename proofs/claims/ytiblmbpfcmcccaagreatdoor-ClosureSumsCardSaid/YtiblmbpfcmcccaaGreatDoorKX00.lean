/- Short names for what the other texts say often. -/
import Derived.OrdersHeld
import Derived.Deep.RegionHeld3
import Derived.Lib.Hide
import Derived.Lib.ItoaNum
import Derived.Shelf.Strings.Trim
import Derived.Shelf.Small.Utf8
import Derived.Shelf.Small.Bits
import Derived.Shelf.Small.Wraps
import Derived.Shelf.Strings.Shaped
import Derived.Shelf.Strings.IndexAnyAll
import Derived.Shelf.Strings.Repeat
import Derived.Shelf.Unicode.DecodeSlow
import Derived.Shelf.Spec.BitsCarry
import Derived.Deep.AppendLies
import Derived.WalkSpells
import Derived.WalkLawsBesides
import Derived.BigQuiet
import Derived.Laws.CopyOwn
import Derived.Shelf.Strings.OnBuilder
import Derived.Laws.EntriesVeiled
import Derived.Great.Walk
import Derived.Lib.AppendZerosOnto
import Derived.Lib.JoinLaws
import Derived.Shelf.Spec.SlicesInsertGrow
import Derived.Deep.RegionHeld2
import Derived.Shelf.SlicesE.DeleteFunc
import Derived.Shelf.SortM.Plain
import Derived.Shelf.SortM.SortNone
import Derived.Shelf.SlSortCmp.NoneTotal
import Derived.StillTailTactics
import Derived.Lib.SmallJoins
import Derived.Deep.DeepHandedRow
namespace Go.Proofs
open Go.RowKit
abbrev zqaa := @List.getD_eq_getElem?_getD
abbrev zqab := @Nat.le_refl
abbrev zqac := @List.getElem?_eq_getElem
abbrev zqad := @Array.getElem?_eq_some_iff
abbrev zqae := @List.getElem?_eq_some_iff
abbrev zqaf := @List.take_of_length_le
abbrev zqag := @List.length_append
abbrev zqah := @IntKind.wrap_i64
abbrev zqai := @Rat.mul_le_mul_of_nonneg_left
abbrev zqaj := @List.getElem?_map
abbrev zqak := @List.mem_of_getElem?
abbrev zqal := @List.getElem?_append_left
abbrev zqam := @Nat.le_trans
abbrev zqan := @List.length_take
abbrev zqao := @List.mem_cons_of_mem
abbrev zqap := @List.getElem?_toArray
abbrev zqaq := @List.getElem?_append_right
abbrev zqar := @Rat.le_trans
abbrev zqas := @List.getElem?_eq_none
abbrev zqat := @Nat.zero_add
abbrev zqau := @List.mem_of_mem_take
abbrev zqav := @Nat.mul_assoc
abbrev zqaw := @Nat.zero_le
abbrev zqax := @List.length_replicate
abbrev zqay := @Nat.pow_le_pow_right
abbrev zqaz := @Array.getElem?_push_size
abbrev zqba := @Nat.lt_of_lt_of_le
abbrev zqbb := @Bool.and_eq_true
abbrev zqbc := @Nat.mul_comm
abbrev zqbd := @Nat.mul_le_mul_left
abbrev zqbe := @List.getElem?_range
abbrev zqbf := @List.mem_map
abbrev zqbg := @List.getElem?_replicate
abbrev zqbh := @Nat.mul_add
abbrev zqbi := @List.getElem?_set_self
abbrev zqbj := @List.append_assoc
abbrev zqbk := @List.mem_singleton
abbrev zqbl := @List.getElem?_set_ne
abbrev zqbm := @List.mem_cons_self
abbrev zqbn := @List.length_map
abbrev zqbo := @List.mem_append
abbrev zqbp := @Nat.pow_succ
abbrev zqbq := @List.length_singleton
abbrev zqbr := @Nat.sub_self
abbrev zqbs := @Array.length_toList
abbrev zqbt := @Nat.div_add_mod
abbrev zqbu := @List.length_cons
abbrev zqbv := @Array.getElem?_eq_getElem
abbrev zqbw := @cell_of_row
abbrev zqbx := @frozen_of_row
abbrev zqby := @bodyPost_ret
abbrev zqbz := @congrArg
abbrev zqca := @decide_eq_true_eq
abbrev zqcb := @decide_eq_false
abbrev zqcc := @wpAnyH_ready
abbrev zqcd := @heap_setCell_other
abbrev zqce := @heap_alloc_new
namespace YtiblmbpfcmcccaaGreatDoor
theorem zMF {P : Program} (fn : Fn) (first cap : Array Value) (w : World) : (Instr.makeFunc fn first cap).run P w = .ok (.func fn first cap) w := rfl
theorem zHd {p : Prop} (h : p) : Hid p := Lib.hid h
theorem zAI {a b : Prop} (h : a) (k : b) : a ∧ b := ⟨h, k⟩
theorem zGA (w : World) (o : Obj) (r : Option Nat) : w.grownBy (w.alloc o) r := World.grownBy_alloc w o r
theorem zS.{u} : (∀ {α : Type u} {l : List α} {i : Nat} (h : i < l.toArray.size), l.toArray[i]'h = l[i]'(by simpa using h)) ∧ (∀ {α : Type u} (a : α) (l : List α) (i : Nat) (h : i + 1 < (a :: l).length), (a :: l)[i + 1]'h = l[i]'(Nat.lt_of_succ_lt_succ h)) ∧ (∀ {α : Type u} (a : α) (l : List α) (h : 0 < (a :: l).length), (a :: l)[0]'h = a) ∧ (∀ {α : Type u} (l : List α) (i : Nat) (a : α), l.toArray.setIfInBounds i a = (l.set i a).toArray) ∧ (∀ {α : Type u} {x a : α} {l : List α}, (x :: l).set 0 a = a :: l) ∧ ∀ {α : Type u} {x : α} {l : List α} {i : Nat} {a : α}, (x :: l).set (i + 1) a = x :: l.set i a :=
  ⟨fun h => List.getElem_toArray h, fun a l i h => List.getElem_cons_succ a l i h, fun a l h => List.getElem_cons_zero a l h, fun l i a => List.setIfInBounds_toArray l i a, List.set_cons_zero, List.set_cons_succ⟩
theorem zTk {P : Program} {ops : Array Oper} {Q : Exit → Act → World → Prop} {md : Region.Mode} {S : World → Prop} (i : Nat) (v : Value) {oi : Oper} {fuel : Nat} {listed : Array Bool} {a : Act} {w : World} (hi : ops[i]? = some oi) (hS : S w)
    (h : wpAnyH P md ops Q S fuel (listed.setIfInBounds i true) (a.put oi.dst v) w)
    (hb : (Region.noSelect ops && Region.free md ops listed i && (Region.ready md ops listed).contains i) = true := by kernel_rfl)
    (hQ : ∀ c a w, Q (.panic c) (a.put oi.dst v) w → Q (.panic c) a w := by exact fun _ _ _ h => h)
    (hw : Region.wanted oi (yielded ops a.tmps) = true := by rfl)
    (hy : ∀ W, S W → (execOp a.eval oi).run P W = .ok (.value v) W := by intro W h; (try dsimp only at h); first | (go_simp; done) | (go_simp; rfl)) : wpAnyH P md ops Q S (fuel + 1) listed a w := by
  simp only [Bool.and_eq_true] at hb
  exact wpAnyH_take hi hb.1.1 hb.1.2 hb.2 hQ (Or.inl ⟨hw, hy⟩) hS h
theorem zTu {P : Program} {ops : Array Oper} {Q : Exit → Act → World → Prop} {md : Region.Mode} {S : World → Prop} (i : Nat) {oi : Oper} {fuel : Nat} {listed : Array Bool} {a : Act} {w : World} (hi : ops[i]? = some oi) (hS : S w)
    (h : wpAnyH P md ops Q S fuel (listed.setIfInBounds i true) (a.put oi.dst undef) w)
    (hb : (Region.noSelect ops && Region.free md ops listed i && (Region.ready md ops listed).contains i) = true := by kernel_rfl)
    (hQ : ∀ c a w, Q (.panic c) (a.put oi.dst undef) w → Q (.panic c) a w := by exact fun _ _ _ h => h)
    (hw : Region.wanted oi (yielded ops a.tmps) = false := by rfl) : wpAnyH P md ops Q S (fuel + 1) listed a w := by
  simp only [Bool.and_eq_true] at hb
  exact wpAnyH_take hi hb.1.1 hb.1.2 hb.2 hQ (Or.inr ⟨hw, rfl⟩) hS h
theorem zQaa{p:Prop}(h:p:=by go_enter func136,ntmps136;go_wp2_with fail;refine(IX.out _).mono ?_;rintro e w' ⟨rfl,rfl⟩;go_wp2_with fail;refine(S1.out _).mono ?_;rintro e w' ⟨rfl,rfl⟩;go_wp2_with fail;refine(S2.out _).mono ?_;rintro e w' ⟨rfl,rfl⟩;go_wp2;exact zqby (v:=.tuple #[.bool _,.string _,.string _,.bool _]) (by simp[results,results136,go_sem]) rfl ⟨rfl,zae _ _⟩):p:=h
theorem zQab{p:Prop}(h:p:=by go_enter func136,ntmps136;go_wp2_with fail;refine(IX.out _).mono ?_;rintro e w' ⟨rfl,rfl⟩;go_wp2_with fail;refine(S1.out _).mono ?_;rintro e w' ⟨rfl,rfl⟩;go_wp2_with fail;refine(S2.out _).mono ?_;rintro e w' ⟨rfl,rfl⟩;go_wp2_with fail;refine(GC.out _).mono ?_;rintro e w1 ⟨rfl,hg⟩;have G1:=zHd hg;clear hg;go_wp2;exact zqby (v:=.tuple #[.bool _,.string _,.string _,.bool _]) (by simp[results,results136,go_sem]) rfl ⟨rfl,G1.out⟩):p:=h
theorem zQac{p:Prop}(h:p:=by go_enter func64,ntmps64;go_wp2_with fail;refine(X.out _).mono ?_;rintro e w1 ⟨rfl,hg⟩;have G1:=zHd (hg);clear hg;go_wp2_with fail;refine(Y.out _).mono ?_;rintro e w2 ⟨rfl,hg⟩;have G2:=zHd (zaa G1.out hg);clear hg G1;go_wp2_with fail;refine(O.out _).mono ?_;rintro e w3 ⟨rfl,hg⟩;have G3:=zHd (zaa G2.out hg);clear hg G2;go_wp2;go_ret2;exact⟨rfl,G3.out⟩):p:=h
theorem zQad{p:Prop}(h:p:=by go_enter func142,ntmps142;go_wp2_with fail;refine(V.out _).mono ?_;rintro e w' ⟨rfl,rfl⟩;go_wp2_with fail;refine(U.out _).mono ?_;rintro e w' ⟨rfl,rfl⟩;go_wp2_with fail;refine(GC.out _).mono ?_;rintro e w1 ⟨rfl,hg⟩;have G1:=zHd hg;clear hg;go_wp2_with fail;refine(D1.out _).mono ?_;rintro e w2 ⟨rfl,hg⟩;have G2:=zHd (zaa G1.out hg);clear hg G1;go_wp2_with fail;refine(D2.out _).mono ?_;rintro e w3 ⟨rfl,hg⟩;have G3:=zHd (zaa G2.out hg);clear hg G2;go_wp2;go_ret2;exact⟨rfl,G3.out⟩):p:=h
theorem zQae{p:Prop}(h:p:=by go_enter func95,ntmps95;go_wp2_with fail;refine(X.out _).mono ?_;rintro e w1 ⟨rfl,hg⟩;have G1:=zHd (hg);clear hg;go_wp2_with fail;refine(O.out _).mono ?_;rintro e w2 ⟨rfl,hg⟩;have G2:=zHd (zaa G1.out hg);clear hg G1;go_wp2_with fail;refine(C.out _).mono ?_;rintro e w3 ⟨rfl,hg⟩;have G3:=zHd (zaa G2.out hg);clear hg G2;go_wp2;go_ret2;exact⟨rfl,G3.out⟩):p:=h
theorem zQaf{p:Prop}(h:p:=by obtain⟨hg4,rfl⟩:=hq2;clear hq;obtain⟨x0,x1,x2,x3⟩:=HB3.out.grown hg4;have HB4:=zHd (HB3.out.grown hg4);have HW4:=zHd (zaa HW3.out hg4);have HG4:=zHd hg4;clear hg4 y0 y1 y2 y3;go_wp2_with fail;have hrv:=zfr (HST.out _ HW4.out) HF.out;rw[HVAL.out] at hrv;refine hrv.mono ?_;rintro e w5 ⟨rfl,hg5⟩;clear hrv;obtain⟨y0,y1,y2,y3⟩:=HB4.out.grown hg5;have HB5:=zHd (HB4.out.grown hg5);have HW5:=zHd (zaa HW4.out hg5);have HG5:=zHd hg5;clear hg5 x0 x1 x2 x3;go_wp2_with fail;refine(zdx _).mono ?_;rintro e w99 ⟨rfl,hg99⟩;have HG99:=zHd (zaa HW5.out hg99);clear hg99;go_wp2;go_ret;exact⟨rfl,HG99.out⟩):p:=h
theorem zQag{p:Prop}(h:p:=by go_enter func136,ntmps136;go_wp2_with fail;refine(IX.out _).mono ?_;rintro e w' ⟨rfl,rfl⟩;go_wp2_with fail;refine(S1.out _).mono ?_;rintro e w' ⟨rfl,rfl⟩;go_wp2;exact zqby (v:=.tuple #[.bool _,.string _,.string _,.bool _]) (by simp[results,results136,go_sem]) rfl ⟨rfl,zae _ _⟩):p:=h
theorem zQah{p:Prop}(h:p:=by clear hs hh H0;obtain⟨⟨x0,x1,x2,y0,y1,y2⟩,hh⟩:=s1;go_wp2_with fail;refine(T3 _).mono ?_;rintro e v6 ⟨rfl,hg⟩;have s6:=zby w b1 b2 A B C D hg ⟨⟨x0,x1,x2,y0,y1,y2⟩,hh⟩;clear x0 x1 x2 y0 y1 y2 hh hg;obtain⟨⟨x0,x1,x2,y0,y1,y2⟩,hh⟩:=s6;go_wp2_with fail;refine(CM.out _).mono ?_;rintro e v7 ⟨rfl,hg⟩;have s7:=zby w b1 b2 A B C D hg ⟨⟨x0,x1,x2,y0,y1,y2⟩,hh⟩;clear x0 x1 x2 y0 y1 y2 hh hg;obtain⟨⟨x0,x1,x2,y0,y1,y2⟩,hh⟩:=s7;go_wp2_with fail;refine(SU.out _).mono ?_;rintro e v8 ⟨rfl,hg⟩;have s8:=zby w b1 b2 A B C D hg ⟨⟨x0,x1,x2,y0,y1,y2⟩,hh⟩;clear x0 x1 x2 y0 y1 y2 hh hg;obtain⟨⟨x0,x1,x2,y0,y1,y2⟩,hh⟩:=s8;go_wp2_with fail;refine(R.out _).mono ?_;rintro e v9 ⟨rfl,hg⟩;have s9:=zby w b1 b2 A B C D hg ⟨⟨x0,x1,x2,y0,y1,y2⟩,hh⟩;clear x0 x1 x2 y0 y1 y2 hh hg;obtain⟨zb,zS,zT,z0,z1,z2,z3,z4,z5⟩:=zim w b1 b2 A B C D s9;have hend:=zfk (a:=.bool b) (b:=.string S) (c:=.string T) s9.2.out.g (show w.heap.size<=w.heap.size+1+1 by omega);have HE:=zHd hend;clear hend s9;go_wp2;exact zqby (v:=.agg #[.bool _,.string _,.string _]) (by simp[results,results199,go_sem,z0,z1,z2,z3,z4,z5]) rfl ⟨rfl,HE.out⟩):p:=h
theorem zQai{p:Prop}(h:p:=by generalize (W.alloc (.cells zba 138)).setRow w.heap.size (zay 0)=W2 at *;change Code.wp _ _ _ ⟨#[.int .i64 0,undef,.pointer (some ⟨w.heap.size,0,none⟩),.pointer (some ⟨w.heap.size+1,0,none⟩),.agg zdz,.agg zdA,.agg zdB,.agg zdC,.agg zba,_,_,_,_,_,_,.int .i64 0,.pointer (some ⟨w.heap.size+1,0*9,none⟩),.agg (zay 0)],[]⟩ _;go_wp2;have hl:=run_loadVar_row (P:=prog) W2 w.heap.size 111 111 (zay 0) (0,0) _ hb underlying111 rfl (by as_aux_lemma=>kernel_rfl);refine zqby (v:=.agg (zay 0)) ?_ rfl ⟨rfl,hg⟩;unfold results;rw[results92];simp[asAddr,hl]):p:=h
theorem zQaj{p:Prop}(h:p:=by rintro e w1 ⟨rfl,hg⟩;have G1:=zHd hg;clear hg;go_wp2;go_ret2;exact⟨rfl,G1.out⟩):p:=h
theorem zQak{p:Prop}(h:p:=by go_wp2_with fail;refine(V.out _).mono ?_;rintro e w1 ⟨rfl,hg⟩;have G1:=zHd (hg);clear hg;go_wp2;go_ret;exact⟨rfl,G1.out⟩):p:=h
theorem zQal{p:Prop}(h:p:=by have HN:=zHd hE0;clear hE0;go_wp2_with fail;refine(zdQ k b true S _ (zbO HB1.out)).mono ?_;rintro e w2 ⟨rfl,hg2⟩;have HG2:=zHd hg2;clear hg2;go_wp2;go_ret;exact⟨zag k,true,rfl,zaa (zaa (zbh (some b) HG.out) (zac _ _ _)) (zbh (some b) HG2.out),zaH.kept (zbO HB1.out) HG2.out,⟨fun h=>(by cases h),fun h=>absurd (HE.out.1.2 h.2) HN.out⟩,fun h=>(by cases h),⟨(srE k HK.out).zero,zce HK.out,(zdj HK.out).symm⟩⟩):p:=h
theorem zQam{p:Prop}(h:p:=by go_wp2_with fail;refine(K.out _).mono ?_;rintro e w' ⟨rfl,rfl⟩;go_wp2;go_ret;exact⟨rfl,zae _ _⟩):p:=h
theorem zQan{p:Prop}(h:p:=by go_wp2_with fail;refine(zdQ k b false S _ (zbO HB1.out)).mono ?_;rintro e w2 ⟨rfl,hg2⟩;have HG2:=zHd hg2;clear hg2;go_wp2;go_ret;exact⟨S,false,rfl,zaa (zaa (zbh (some b) HG.out) (zac _ _ _)) (zbh (some b) HG2.out),zaH.kept (zbO HB1.out) HG2.out,⟨fun _=>⟨rfl,HE.out.1.1 (by simp)⟩,fun _=>rfl⟩,fun _=>HE.out.2 (by simp),⟨_,HE.out.1.1 (by simp),HE.out.2 (by simp)⟩⟩):p:=h
theorem zQao{p:Prop}(h:p:=by have HFL:=zHd zF;have HK:=zHd hzk;have HR:=zHd zR;rw[hzk];clear zR;clear zF hk hle hzk;go_wp2;go_ret;have hzk:=HK.out;exact .inl ⟨fun i hi=>by obtain⟨_,_,_,_,_,_,_,_,h⟩:=HR.out i (by omega);exact h,_,rfl,⟨zs,rfl,hzk,HFL.out.rowAt hzk,fun i hi=>by obtain⟨gi,oi,ci,e1,e2,e3,e4,e5,e6⟩:=HR.out i (by omega);exact⟨gi,oi,ci,e1,e2,e3,e4,e5⟩⟩,HFL.out.gr⟩):p:=h
theorem zQap{p:Prop}(h:p:=by go_wp2_with fail;refine(zdQ k b true S _ (zbO HB1.out)).mono ?_;rintro e w2 ⟨rfl,hg2⟩;have HG2:=zHd hg2;clear hg2;go_wp2;go_ret;exact⟨zag k,true,rfl,zaa (zaa (zbh (some b) HG.out) (zac _ _ _)) (zbh (some b) HG2.out),zaH.kept (zbO HB1.out) HG2.out,⟨fun h=>(by cases h),fun h=>(by cases h.1)⟩,fun h=>(by cases h),⟨(srE k HK.out).zero,zce HK.out,(zdj HK.out).symm⟩⟩):p:=h
theorem zQaq{p:Prop}(h:p:=by obtain⟨u1,u2,u3,u4,u5⟩:=zgA K.out.one;unfold zhK at u1 u2 u3 u4 u5;go_wp2_with fail;refine(K.out.f _).mono ?_;rintro e w1 ⟨rfl,hg⟩;have G1:=zHd hg;clear hg;go_wp2_with fail;rw[HE.out];refine(X.out _).mono ?_;rintro e w2 ⟨rfl,hg⟩;have HB:=zHd (alloc_old hg);have hc:=zwa HB.out;have G2:=zHd (zaa G1.out (zaa (zGA _ _ none) hg));clear hg;go_wp2_with fail;rw[HE.out];refine(Y.out _).mono ?_;rintro e w3 ⟨rfl,hg⟩;have hb:=(hg.block _ (lt_of_block HB.out) (by simp)).trans HB.out;clear HB hc;have HB:=zHd hb;have hc:=zwa HB.out;have G3:=zHd (zaa G2.out hg);clear hg hb;clear HB;go_wp2_with fail;rw[EF.out];refine(C.out _).mono ?_;rintro e w4 ⟨rfl,hg⟩;have G4:=zHd (zaa G3.out hg);clear hg hc;go_wp2;go_ret2;exact⟨rfl,G4.out⟩):p:=h
theorem zQar{p:Prop}(h:p:=by go_enter func94,ntmps94;go_wp2_with fail;refine(R1.out _).mono ?_;rintro e w1 ⟨rfl,hg⟩;have G1:=zHd hg;clear hg;go_wp2_with fail;refine(R2.out _).mono ?_;rintro e w2 ⟨rfl,hg⟩;have G2:=zHd (zaa G1.out hg);clear hg G1;go_wp2_with fail;refine(T1.out _).mono ?_;rintro e w3 ⟨rfl,hg⟩;have G3:=zHd (zaa G2.out hg);clear hg G2;go_wp2_with fail;refine(T2.out _).mono ?_;rintro e w4 ⟨rfl,hg⟩;have G4:=zHd (zaa G3.out hg);clear hg G3;go_wp2_with fail;refine(SM.out _).mono ?_;rintro e w5 ⟨rfl,hg⟩;have G5:=zHd (zaa G4.out hg);clear hg G4;go_wp2;go_ret;exact⟨rfl,G5.out⟩):p:=h
theorem zQas{p:Prop}(h:p:=by go_enter func161,ntmps161;go_wp2_with fail;refine(h.out.cp _).mono ?_;rintro e w' ⟨rfl,rfl⟩;go_wp2_with fail;refine(h.out.cut _).mono ?_;rintro e w1 ⟨rfl,hg⟩;have G1:=zHd hg;clear hg;go_wp2_with fail;refine(h.out.made _).mono ?_;rintro e w2 ⟨rfl,hg⟩;have G2:=zHd (zaa G1.out hg);clear hg;have hb:=alloc_old G2.out;have hc:=zrU hb;have HG:=zHd (zaa (zGA _ _ none) G2.out);clear hb G1 G2;go_wp2;exact zqby (v:=.tuple #[.agg #[.bool false,.string ⟨#[]⟩,.string ⟨#[]⟩],.bool false]) (by simp[results,results161,go_sem,hc]) rfl ⟨rfl,zfk HG.out (zqab _)⟩):p:=h
theorem zQat{p:Prop}(h:p:=by go_wp2_with fail;refine(R1.out _).mono ?_;rintro e w1 ⟨rfl,hg⟩;have G1:=zHd hg;clear hg;go_wp2_with fail;refine(R2.out _).mono ?_;rintro e w2 ⟨rfl,hg⟩;have G2:=zHd (zaa G1.out hg);clear hg G1;go_wp2_with fail;refine(T1.out _).mono ?_;rintro e w3 ⟨rfl,hg⟩;have G3:=zHd (zaa G2.out hg);clear hg G2;go_wp2_with fail;refine(T2.out _).mono ?_;rintro e w4 ⟨rfl,hg⟩;have G4:=zHd (zaa G3.out hg);clear hg G3;go_wp2_with fail;refine(MK.out _).mono ?_;rintro e w5 ⟨rfl,hg⟩;have G5:=zHd (zaa G4.out hg);clear hg G4;go_wp2;go_ret2;exact⟨rfl,G5.out⟩):p:=h
theorem zQau{p:Prop}(h:p:=by rintro e w1 ⟨rfl,hg⟩;have G1:=zHd hg;clear hg;go_wp2;go_ret;exact⟨rfl,G1.out⟩):p:=h
theorem zQav{p:Prop}(h:p:=by go_wp2_with fail;refine(va _).mono ?_;rintro e w' ⟨rfl,rfl⟩;go_wp2_with fail;refine(vb _).mono ?_;rintro e w' ⟨rfl,rfl⟩;go_wp2;go_ret2;exact⟨by rw[HV.out];rfl,zae _ _⟩):p:=h
theorem zQaw{p:Prop}(h:p:=by go_wp2_with fail;refine VA.out.mono ?_;rintro e w' ⟨rfl,rfl⟩;go_wp2_with fail;refine VB.out.mono ?_;rintro e w' ⟨rfl,rfl⟩;go_wp2;go_ret2;rw[HV.out];exact⟨rfl,zae _ _⟩):p:=h
theorem zQax{p:Prop}(h:p:=by go_wp2_with fail;refine(V.out _).mono ?_;rintro e w' ⟨rfl,rfl⟩;go_wp2_with fail;refine(U.out _).mono ?_;rintro e w' ⟨rfl,rfl⟩;go_wp2;go_ret2;exact⟨rfl,zae _ _⟩):p:=h
theorem zQay{p:Prop}(h:p:=by go_enter func64,ntmps64;go_wp2_with fail;refine(X.out _).mono ?_;rintro e w1 ⟨rfl,hg⟩;have G1:=zHd (hg);clear hg;go_wp2_with fail;refine(Y.out _).mono ?_;rintro e w2 ⟨rfl,hg⟩;have G2:=zHd (zaa G1.out hg);clear hg G1;go_wp2_with fail;refine(O.out _).mono ?_;rintro e w3 ⟨rfl,hg⟩;have G3:=zHd (zaa G2.out hg);clear hg G2;go_wp2_with fail;refine(C.out _).mono ?_;rintro e w4 ⟨rfl,hg⟩;have G4:=zHd (zaa G3.out hg);clear hg G3;go_wp2;go_ret2;exact⟨rfl,G4.out⟩):p:=h
theorem zQaz{p:Prop}(h:p:=by go_wp2_with fail;refine(HP.out _).mono ?_;rintro e w1 ⟨rfl,hg1⟩;go_wp2_with fail;refine(zpv _ _).mono ?_;rintro e w2 ⟨rfl,hg2⟩;have HG:=zHd (zaa (zaa (zGA _ _ none) hg1) hg2);clear hg1 hg2;go_wp2;go_ret;exact .inl ⟨HFF.out,rfl,HG.out⟩):p:=h
theorem zQaA{p:Prop}(h:p:=by go_wp2;go_ret;exact⟨by rw[HN.out];rfl,rfl⟩):p:=h
theorem zQaB{p:Prop}(h:p:=by go_wp2;go_ret;exact⟨rfl,rfl⟩):p:=h
theorem zQaC{p:Prop}(h:p:=by have hi2:i=k:=(by simp at hi;omega);subst hi2;refine⟨g,off,c2,?_,hm1,hm2,hne,zW.grownB (zac _ _ _) hne,HPK.out⟩;rw[zqaa,zqaq (by omega),hzk,zqbr];rfl):p:=h
theorem zQaD{p:Prop}(h:p:=by go_wp2_with fail;refine(HP.out _).mono ?_;rintro e w1 ⟨rfl,hg1⟩;go_wp2_with fail;refine(zne _ _).mono ?_;rintro e w2 ⟨rfl,hg2⟩;exact⟨rfl,.inr ⟨HF.out,rfl,zaa (zaa (zGA _ _ none) hg1) hg2⟩⟩):p:=h
theorem zQaE{p:Prop}(h:p:=by rintro e w2 ⟨rfl,hg⟩;have G2:=zHd (zaa G1.out hg);clear hg G1;go_wp2;go_ret2;exact⟨rfl,G2.out⟩):p:=h
theorem zQaF{p:Prop}(h:p:=by rintro e w3 ⟨rfl,hg⟩;have G3:=zHd (zaa G2.out hg);clear hg G2;go_wp2;go_ret2;exact⟨rfl,G3.out⟩):p:=h
theorem zQaG{p:Prop}(h:p:=by go_enter func96,ntmps96;go_wp2_with fail;refine(X.out _).mono ?_;rintro e w1 ⟨rfl,hg⟩;have G1:=zHd (hg);clear hg;go_wp2_with fail;refine(Y.out _).mono ?_;rintro e w2 ⟨rfl,hg⟩;have G2:=zHd (zaa G1.out hg);clear hg G1;go_wp2_with fail;refine(C.out _).mono ?_;rintro e w3 ⟨rfl,hg⟩;have G3:=zHd (zaa G2.out hg);clear hg G2;go_wp2;go_ret;exact⟨rfl,G3.out⟩):p:=h
theorem zQaH{p:Prop}(h:p:=by go_wp2;exact⟨rfl,.inr ⟨fun h=>hnp (h k HK.out.1),rfl,zaa HFL.out.gr hg⟩⟩):p:=h
theorem zQaI{p:Prop}(h:p:=by go_wp2_with (go_at_call 225;refine(va _).mono ?_;rintro e w' ⟨rfl,rfl⟩);go_ret2;exact⟨by rw[HV.out];rfl,zae _ _⟩):p:=h
theorem zQaJ{p:Prop}(h:p:=by go_wp2_with fail;refine VA.out.mono ?_;rintro e w' ⟨rfl,rfl⟩;go_wp2;go_ret2;rw[HV.out];exact⟨rfl,zae _ _⟩):p:=h
theorem zQaK{p:Prop}(h:p:=by obtain⟨u1,u2,u3,u4,u5⟩:=zgA K.out.one;unfold zhK at u1 u2 u3 u4 u5;go_wp2_with fail;refine(K.out.f _).mono ?_;rintro e w1 ⟨rfl,hg⟩;have G1:=zHd hg;clear hg;go_wp2_with fail;rw[HE.out];refine(X.out _).mono ?_;rintro e w2 ⟨rfl,hg⟩;have G2:=zHd (zaa G1.out hg);clear hg;go_wp2;go_ret;exact⟨rfl,G2.out⟩):p:=h
theorem zQaL{p:Prop}(h:p:=by refine⟨gi,oi,ci,?_,e2,e3,e4,(e5.grown HG.out).grownB (zac _ _ _) e4,e6⟩;rw[zqaa,zqal hik2,<- zqaa];exact e1):p:=h
theorem zQaM{p:Prop}(h:p:=by rw[hE] at hw;have HE:=zHd hE;have HW:=zHd hw;have HG3:=zHd hg3;clear hbz hzl hzv hg3 hw hE HS;go_wp2_with fail;refine HW.out.mono ?_;rintro e w4 ⟨rfl,hg4⟩;have HG4:=zHd hg4;clear hg4 HW;go_wp2;go_ret2;exact⟨by rw[HV.out,HE.out];rfl,zaa HG1.out (zaB (zaa HG2.out (zaB (zaa HG3.out (zaB HG4.out)))))⟩):p:=h
theorem zQaN{p:Prop}(h:p:=by go_wp2;go_ret;exact⟨rfl,zae _ _⟩):p:=h
theorem zQaO{p:Prop}(h:p:=by rw[HCK.out] at hn;exact absurd hn (by decide)):p:=h
theorem zQaP{p:Prop}(h:p:=by have HFL:=zHd zF;have HK:=zHd hzk;clear zF hk hle hzk;go_wp2;go_ret;exact .inl ⟨HPS.out,_,rfl,⟨rfl,HFL.out.strs⟩,HFL.out.gr⟩):p:=h
theorem zQaQ{p:Prop}(h:p:=by rw[show(w.alloc (.cells #[.int .i64 k,.string (zag k),.string (zal k)] 57)).heap.size=w.heap.size+1 by simp] at h;exact h):p:=h
theorem zQaR{p:Prop}(h:p:=by have hcv:=zvl zO;obtain⟨g',cap',rfl,_,_⟩:=zO.form (by omega);have hne:((acc.length:Int)==0)=false:=(by rw[beq_eq_false_iff_ne];omega);have HB:=zHd hb;clear zO hb hal hzj;go_wp2;go_ret;exact⟨by rw[HFIN.out];rfl,HB.out⟩):p:=h
theorem zQaS{p:Prop}(h:p:=by exact⟨h1,_,2,rfl,0,fun _=>⟨#[]⟩,by omega,zmg _,.inr ⟨rfl,hp⟩⟩):p:=h
theorem zQaT{p:Prop}(h:p:=by exact⟨by rw[HV.out];rfl,zae _ _⟩):p:=h
theorem zQaU{p:Prop}(h:p:=by have u1:decide (i<i)=false:=(by simp);have u1':decide ((i:Int)<(i:Int))=false:=(by simp);have HI:=zHd (zAI hg hx);clear hi hin hg hx;go_wp2;go_ret;exact zdk.yes ⟨rfl,HI.out.2⟩ HI.out.1):p:=h
theorem zQaV{p:Prop}(h:p:=by show(w.heap.push _)[w.heap.size]?=_;rw[zqaz]):p:=h
theorem zQaW{p:Prop}(h:p:=by have HD:=zHd hd;clear hd;go_wp2;refine⟨⟨k+1,c,hlt,rfl,by simp,?_,by first|rfl|trivial⟩,by simp[intOf];omega⟩;rw[HST.out,if_neg (by rw[HD.out];decide),HC.out,Nat.add_zero]):p:=h
theorem zQaX{p:Prop}(h:p:=by rw[Below.heap_setCell _ _ _ _ (by simp;omega),hk.block i (by simp;omega) (by simpa using hne) (by omega)];exact(heap_alloc_old _ _ (by simp;omega)).trans (heap_alloc_old _ _ hi)):p:=h
theorem zQaY{p:Prop}(h:p:=by go_wp2;go_ret2;exact⟨rfl,zae _ _⟩):p:=h
theorem zQaZ{p:Prop}(h:p:=by go_wp2;go_ret2;refine⟨ga,xs.length,zs,gc,xs.length,ts,rfl,ztm H.out.1 H.out.1.xn HWD.out HLT.out.1.g hd1 hd2,?_⟩;have:=HLT.out.1.lt;have:=HLT.out.1.le;rw[hd2.v];omega):p:=h
theorem zQba{p:Prop}(h:p:=by rw[hd] at h3;simp at h3;subst h3;have hm:(47:UInt8)∈ds:=List.mem_of_mem_drop (i:=i) (by rw[hd];simp);have:=List.all_eq_true.1 h _ hm;exact absurd this (by decide)):p:=h
theorem zQbb{p:Prop}(h:p:=by rw[Lib.toList_data,beq_iff_eq,<- List.length_eq_zero_iff,zqbs] at h;exact absurd h hf0):p:=h
theorem zQbc{p:Prop}(h:p:=by clear hg99;go_wp2;go_ret;exact⟨rfl,HG99.out⟩):p:=h
theorem zQbd{p:Prop}(h:p:=by have es:wr.cell? ⟨sb,1,none⟩=some (.bool true):=es;go_wp2;go_ret2;exact⟨_,2,rfl,HG.out,.inr ⟨rfl,rfl,fun hp=>by have:=HJ.out.2.2.2.2 hp;cases this⟩⟩):p:=h
theorem zQbe{p:Prop}(h:p:=by exact zak hg (zac w2 ⟨w.heap.size,0,none⟩ _) (zqab _)):p:=h
theorem zQbf{p:Prop}(h:p:=by refine⟨_,hrun,?_,⟨rfl,rfl,rfl,by simp,fun k _ hk=>setRow_other w g k _ (fun e=>hk (by rw[e]))⟩⟩;rw[setRow_heap w g _ _ T _ hg];simp[splice]):p:=h
theorem zQbg{p:Prop}(h:p:=by rw[h] at e;exact absurd e (by decide)):p:=h
theorem zQbh{p:Prop}(h:p:=by rw[<- h3,zqbw _ _ _ _ _ (0,0) (zaG _ _)];exact zkV 0 (by decide) i v hv):p:=h
theorem zQbi{p:Prop}(h:p:=by go_enter func9,ntmps9;go_wp2_with (go_at_call 29;refine(hk _).mono ?_;rintro e w' ⟨rfl,rfl⟩);go_ret;exact⟨rfl,hg⟩):p:=h
theorem zQbj{p:Prop}(h:p:=by simp only[ho,Option.map_some,Option.getD_some,Array.all_eq_true_iff_forall_mem] at h3;have h4:=h3 x hx;simpa [hb] using h4):p:=h
theorem zQbk{p:Prop}(h:p:=by refine zeq (fun z hz=>?_);obtain⟨e,he,rfl⟩:=zqbf.1 hz;exact(zdu (hM x htn) e (List.mem_filter.1 he).1).1):p:=h
theorem zQbl{p:Prop}(h:p:=by exact Int.dvd_mul_of_dvd_right (Int.dvd_sub (Int.dvd_mul_of_dvd_right hx') (Int.dvd_mul_of_dvd_right hy'))):p:=h
theorem zQbm{p:Prop}(h:p:=by have HP:=zHd (zAI h1 h2);clear hok h1 h2;go_wp2;go_ret2;exact⟨gy,cy,ys,gr,cr,rs,rfl,HP.out.1,HP.out.2⟩):p:=h
theorem zQbn{p:Prop}(h:p:=by obtain⟨v,rfl,⟨u,rfl,hst⟩,hg⟩:=h;obtain⟨A,c,us,hv,_⟩:=id hst;subst hv;exact⟨A,c,rfl,hst,hg⟩):p:=h
theorem zQbo{p:Prop}(h:p:=by obtain⟨j,hj,rfl⟩:=List.getElem_of_mem hx;have:=hs.rl j hj;rw[zqaa,zqac hj] at this;simp at this;omega):p:=h
theorem zQbp{p:Prop}(h:p:=by rw[hT];exact zjU M (k+1) (by omega) (by omega) (by have:=h1.out;have:=Nat.le_add_left M (t*nv b);omega)):p:=h
theorem zQbq{p:Prop}(h:p:=by have e1:=HNV.out;rw[HT2.out] at e1;have:=HGE.out;have:=HB0.out;have:=HM.out;show nv T2<nv T;omega):p:=h
theorem zQbr{p:Prop}(h:p:=by clear hs h;go_enter func211,ntmps211;go_wp2;go_ret2;exact⟨by rw[HV.out];rfl,rfl⟩):p:=h
theorem zQbs{p:Prop}(h:p:=by rw[hF c hc,<- hs c hc (zbN S A n F) (hdead c hc),<- zgF S A n F (hρ c hc)];exact S.le_refl _):p:=h
theorem zQbt{p:Prop}(h:p:=by rw[<- (HJ.out.2.2.2.1 (by first|rfl|trivial)).2 x (by omega)];exact HJ.out.2.2.1 x (by omega)):p:=h
theorem zQbu{p:Prop}(h:p:=by go_enter func206,ntmps206;go_wp2;go_ret;exact⟨by rw[<- hS.out];rfl,zGA _ _ _⟩):p:=h
theorem zQbv{p:Prop}(h:p:=by exact zak (zak (zak HG.out (zac _ _ _) (zqab _)) (zac _ _ _) (zqab _)) (zac _ _ _) (zqab _)):p:=h
theorem zQbw{p:Prop}(h:p:=by have h3:=HA.out.2.2.1.keeps rfl h1;refine hat2.keeps h3 ?_;rw[HA.out.2.2.2.1 h3];exact h2):p:=h
theorem zQbx{p:Prop}(h:p:=by unfold results;rw[results92];simp[asAddr,hl]):p:=h
theorem zQby{p:Prop}(h:p:=by rw[ha,hb,<- h];simp only[Bool.and_self,if_true];rw[if_pos (zbZ c hc).2,<- (zbZ c hc).1]):p:=h
theorem zQbz{p:Prop}(h:p:=by exact⟨hg,v,h1,h2.texts.congr (zmc (by refine⟨?_,?_,?_,?_⟩ <;> decide +kernel))⟩):p:=h
theorem zQbA{p:Prop}(h:p:=by have:=Nat.mod_lt (c+f*b) (show 1000000000 > 0 by decide);split <;> simp only <;> omega):p:=h
theorem zQbB{p:Prop}(h:p:=by dsimp only;rw[<- ht,zqaa,List.getElem?_take_of_lt (by omega),zqac (by simp;omega)];rfl):p:=h
theorem zQbC{p:Prop}(h:p:=by clear hp hq hg1 H;go_wp2;go_ret;exact .inl ⟨HP.out.1,_,rfl,HP.out.2.1,HP.out.2.2⟩):p:=h
theorem zQbD{p:Prop}(h:p:=by rw[<- zcb,<- zcb,<- List.drop_drop,zqbj,List.take_append_drop,List.take_append_drop]):p:=h
theorem zQbE{p:Prop}(h:p:=by rw[HV.out,<- HQ.out,<- HT.out,<- HR.out,<- zi.out.text];exact⟨rfl,zbe HBL.out⟩):p:=h
theorem zQbF{p:Prop}(h:p:=by go_wp2;go_ret;exact .inl ⟨hu,rfl,zGA _ _ _⟩):p:=h
theorem zQbG{p:Prop}(h:p:=by go_wp2;go_ret;exact⟨by rw[HV.out];rfl,zaa HG.out (zaa (zcg _ _ _) (zcg _ _ _))⟩):p:=h
theorem zQbH{p:Prop}(h:p:=by go_wp2;go_ret;exact⟨by rw[<- HE.out];first|rfl|simp[h4],World.grownBy.refl _ _⟩):p:=h
theorem zQbI{p:Prop}(h:p:=by exact IntWalk.i64_in _ ⟨by omega,by omega⟩):p:=h
theorem zQbJ{p:Prop}(h:p:=by go_ret;exact⟨rfl,HG.out⟩):p:=h
theorem zQbK{p:Prop}(h:p:=by have:=(zqad.1 HFL.out.row).1;omega):p:=h
theorem zQbL{p:Prop}(h:p:=by refine⟨(h 0 (by omega)).trans ?_,(h 1 (by omega)).trans ?_⟩ <;> decide +kernel):p:=h
theorem zQbM{p:Prop}(h:p:=by go_enter func28,ntmps28;go_wp2;go_ret;exact .inl ⟨hv,rfl,zGA _ _ _⟩):p:=h
theorem zQbN{p:Prop}(h:p:=by rw[decide_eq_true h] at k;exact k):p:=h
theorem zQbO{p:Prop}(h:p:=by obtain⟨rs,h1,h2⟩:=h;exact⟨rs,h1.grown hg,fun i hi=>(h2 i hi).grown hg⟩):p:=h
theorem zQbP{p:Prop}(h:p:=by go_ret;exact⟨rfl,World.grownBy.refl _ _⟩):p:=h
theorem zQbQ{p:Prop}(h:p:=by rw[HS.out];exact(Below.heap_setCell _ _ _ _ (fun e=>h1 e.symm)).trans HO.out):p:=h
theorem zQbR{p:Prop}(h:p:=by refine List.map_congr_left (fun y hy=>?_);unfold zec;rw[if_neg (by omega)]):p:=h
theorem zQbS{p:Prop}(h:p:=by rw[zqaa,zqaq (zqab _),zqbr];rfl):p:=h
theorem zQbT{p:Prop}(h:p:=by rw[if_pos (by assumption)] at hq;cases hq;exact World.ownsRow_nil _ _ _ _):p:=h
theorem zQbU{p:Prop}(h:p:=by rw[<- h1];exact zbE (fun i c _ hc=>by unfold up;split;exact h c hc;rfl)):p:=h
theorem zQbV{p:Prop}(h:p:=by go_wp2;go_ret;exact zdk.no (fun h=>HE.out h.1) (World.grownBy.refl _ _)):p:=h
theorem zQbW{p:Prop}(h:p:=by rw[heap_setCell_same w g k _ _ u h];simp):p:=h
theorem zQbX{p:Prop}(h:p:=by show(if (repR n A).length=n then _ else _)=_;rw[HS.out.2,if_neg hKn]):p:=h
theorem zQbY{p:Prop}(h:p:=by unfold usefulL at hx;exact List.mem_range.1 (List.mem_filter.1 hx).1):p:=h
theorem zQbZ{p:Prop}(h:p:=by go_wp2;go_ret;exact⟨by rw[<- Lib.indexAny_one,HS.out];rfl,rfl⟩):p:=h
theorem zQca{p:Prop}(h:p:=by show(if (repR K A).length=K then _ else _)=_;rw[if_pos HS.out.2]):p:=h
theorem zQcb{p:Prop}(h:p:=by clear hwb;go_wp2;go_ret;exact⟨by rw[HN.out];rfl,zbe HG5.out⟩):p:=h
theorem zQcc{p:Prop}(h:p:=by exact⟨rfl,.inr ⟨hn,rfl,hg1⟩⟩):p:=h
theorem zQcd{p:Prop}(h:p:=by rw[Array.toList_append,Array.toList_append,zeM,zeM];simp[hGn]):p:=h
theorem zQce{p:Prop}(h:p:=by have h1:=hat2.good hb;rw[h1.2 i j hi hj,HA.out.2.2.2.1 h1.1]):p:=h
theorem zQcf{p:Prop}(h:p:=by obtain⟨D,h1,h2,h3⟩:=h;exact⟨D,h1.kept hg hne,h2,h3⟩):p:=h
theorem zQcg{p:Prop}(h:p:=by exact absurd (fun _ _=>trivial) hn):p:=h
end YtiblmbpfcmcccaaGreatDoor
end Go.Proofs
