/- Short names for what the other texts say often. -/
import Derived.OrdersHeld
import Derived.Deep.RegionHeld3
import Derived.Lib.Hide
import Derived.Lib.ItoaNum
import Derived.Shelf.Strings.Trim
import Derived.Shelf.Small.Utf8
import Derived.Shelf.Small.Bits
import Derived.Shelf.Small.Wraps
import Derived.Shelf.Strings.Shaped
import Derived.Shelf.Strings.IndexAnyAll
import Derived.Shelf.Strings.Repeat
import Derived.Shelf.Unicode.DecodeSlow
import Derived.Shelf.Spec.BitsCarry
import Derived.Deep.AppendLies
import Derived.WalkSpells
import Derived.WalkLawsBesides
import Derived.BigQuiet
import Derived.Laws.CopyOwn
import Derived.Laws.EntriesVeiled
import Derived.Great.Walk
import Derived.Lib.SmallJoins
import Derived.Deep.RegionHeld2
import Derived.Deep.AppendSrc
import Derived.Deep.DeepHandedRow
namespace Go.Proofs
open Go.RowKit
abbrev zqaa := @List.getD_eq_getElem?_getD
abbrev zqab := @Nat.le_refl
abbrev zqac := @List.getElem?_eq_getElem
abbrev zqad := @Array.getElem?_eq_some_iff
abbrev zqae := @List.getElem?_eq_some_iff
abbrev zqaf := @List.take_of_length_le
abbrev zqag := @List.length_append
abbrev zqah := @IntKind.wrap_i64
abbrev zqai := @Rat.mul_le_mul_of_nonneg_left
abbrev zqaj := @List.getElem?_map
abbrev zqak := @List.mem_of_getElem?
abbrev zqal := @List.getElem?_append_left
abbrev zqam := @Nat.le_trans
abbrev zqan := @List.length_take
abbrev zqao := @List.mem_cons_of_mem
abbrev zqap := @List.getElem?_toArray
abbrev zqaq := @List.getElem?_append_right
abbrev zqar := @Rat.le_trans
abbrev zqas := @List.getElem?_eq_none
abbrev zqat := @Nat.zero_add
abbrev zqau := @List.mem_of_mem_take
abbrev zqav := @Nat.mul_assoc
abbrev zqaw := @Nat.zero_le
abbrev zqax := @List.length_replicate
abbrev zqay := @Nat.pow_le_pow_right
abbrev zqaz := @Array.getElem?_push_size
abbrev zqba := @Nat.lt_of_lt_of_le
abbrev zqbb := @Bool.and_eq_true
abbrev zqbc := @Nat.mul_comm
abbrev zqbd := @Nat.mul_le_mul_left
abbrev zqbe := @List.getElem?_range
abbrev zqbf := @List.mem_map
abbrev zqbg := @List.getElem?_replicate
abbrev zqbh := @Nat.mul_add
abbrev zqbi := @List.getElem?_set_self
abbrev zqbj := @List.append_assoc
abbrev zqbk := @List.mem_singleton
abbrev zqbl := @List.getElem?_set_ne
abbrev zqbm := @List.mem_cons_self
abbrev zqbn := @List.length_map
abbrev zqbo := @List.mem_append
abbrev zqbp := @Nat.pow_succ
abbrev zqbq := @List.length_singleton
abbrev zqbr := @Nat.sub_self
abbrev zqbs := @Array.length_toList
abbrev zqbt := @Nat.div_add_mod
abbrev zqbu := @List.length_cons
abbrev zqbv := @Array.getElem?_eq_getElem
abbrev zqbw := @cell_of_row
abbrev zqbx := @frozen_of_row
abbrev zqby := @bodyPost_ret
abbrev zqbz := @congrArg
abbrev zqca := @decide_eq_true_eq
abbrev zqcb := @decide_eq_false
abbrev zqcc := @wpAnyH_ready
abbrev zqcd := @heap_setCell_other
abbrev zqce := @heap_alloc_new
namespace YtadgpgofcjpnjaaGreatDoor
theorem zMF {P : Program} (fn : Fn) (first cap : Array Value) (w : World) : (Instr.makeFunc fn first cap).run P w = .ok (.func fn first cap) w := rfl
theorem zHd {p : Prop} (h : p) : Hid p := Lib.hid h
theorem zAI {a b : Prop} (h : a) (k : b) : a ∧ b := ⟨h, k⟩
theorem zC8 {W W' : World} {p0 p1 p2 p3 p4 p5 p6 p7 : Addr} {v0 v1 v2 v3 v4 v5 v6 v7 : Value} (g : W.grownBy W' none) (s0 : W.cell? p0 = some v0) (s1 : W.cell? p1 = some v1) (s2 : W.cell? p2 = some v2) (s3 : W.cell? p3 = some v3) (s4 : W.cell? p4 = some v4) (s5 : W.cell? p5 = some v5) (s6 : W.cell? p6 = some v6) (s7 : W.cell? p7 = some v7) : W'.cell? p0 = some v0 ∧ W'.cell? p1 = some v1 ∧ W'.cell? p2 = some v2 ∧ W'.cell? p3 = some v3 ∧ W'.cell? p4 = some v4 ∧ W'.cell? p5 = some v5 ∧ W'.cell? p6 = some v6 ∧ W'.cell? p7 = some v7 := ⟨g.cell s0 (by simp), g.cell s1 (by simp), g.cell s2 (by simp), g.cell s3 (by simp), g.cell s4 (by simp), g.cell s5 (by simp), g.cell s6 (by simp), g.cell s7 (by simp)⟩
theorem zGA (w : World) (o : Obj) (r : Option Nat) : w.grownBy (w.alloc o) r := World.grownBy_alloc w o r
theorem zS.{u} : (∀ {α : Type u} {l : List α} {i : Nat} (h : i < l.toArray.size), l.toArray[i]'h = l[i]'(by simpa using h)) ∧ (∀ {α : Type u} (a : α) (l : List α) (i : Nat) (h : i + 1 < (a :: l).length), (a :: l)[i + 1]'h = l[i]'(Nat.lt_of_succ_lt_succ h)) ∧ (∀ {α : Type u} (a : α) (l : List α) (h : 0 < (a :: l).length), (a :: l)[0]'h = a) ∧ (∀ {α : Type u} (l : List α) (i : Nat) (a : α), l.toArray.setIfInBounds i a = (l.set i a).toArray) ∧ (∀ {α : Type u} {x a : α} {l : List α}, (x :: l).set 0 a = a :: l) ∧ ∀ {α : Type u} {x : α} {l : List α} {i : Nat} {a : α}, (x :: l).set (i + 1) a = x :: l.set i a :=
  ⟨fun h => List.getElem_toArray h, fun a l i h => List.getElem_cons_succ a l i h, fun a l h => List.getElem_cons_zero a l h, fun l i a => List.setIfInBounds_toArray l i a, List.set_cons_zero, List.set_cons_succ⟩
theorem zTk {P : Program} {ops : Array Oper} {Q : Exit → Act → World → Prop} {md : Region.Mode} {S : World → Prop} (i : Nat) (v : Value) {oi : Oper} {fuel : Nat} {listed : Array Bool} {a : Act} {w : World} (hi : ops[i]? = some oi) (hS : S w)
    (h : wpAnyH P md ops Q S fuel (listed.setIfInBounds i true) (a.put oi.dst v) w)
    (hb : (Region.noSelect ops && Region.free md ops listed i && (Region.ready md ops listed).contains i) = true := by kernel_rfl)
    (hQ : ∀ c a w, Q (.panic c) (a.put oi.dst v) w → Q (.panic c) a w := by exact fun _ _ _ h => h)
    (hw : Region.wanted oi (yielded ops a.tmps) = true := by rfl)
    (hy : ∀ W, S W → (execOp a.eval oi).run P W = .ok (.value v) W := by intro W h; (try dsimp only at h); first | (go_simp; done) | (go_simp; rfl)) : wpAnyH P md ops Q S (fuel + 1) listed a w := by
  simp only [Bool.and_eq_true] at hb
  exact wpAnyH_take hi hb.1.1 hb.1.2 hb.2 hQ (Or.inl ⟨hw, hy⟩) hS h
theorem zTu {P : Program} {ops : Array Oper} {Q : Exit → Act → World → Prop} {md : Region.Mode} {S : World → Prop} (i : Nat) {oi : Oper} {fuel : Nat} {listed : Array Bool} {a : Act} {w : World} (hi : ops[i]? = some oi) (hS : S w)
    (h : wpAnyH P md ops Q S fuel (listed.setIfInBounds i true) (a.put oi.dst undef) w)
    (hb : (Region.noSelect ops && Region.free md ops listed i && (Region.ready md ops listed).contains i) = true := by kernel_rfl)
    (hQ : ∀ c a w, Q (.panic c) (a.put oi.dst undef) w → Q (.panic c) a w := by exact fun _ _ _ h => h)
    (hw : Region.wanted oi (yielded ops a.tmps) = false := by rfl) : wpAnyH P md ops Q S (fuel + 1) listed a w := by
  simp only [Bool.and_eq_true] at hb
  exact wpAnyH_take hi hb.1.1 hb.1.2 hb.2 hQ (Or.inr ⟨hw, rfl⟩) hS h
theorem zQaa{p:Prop}(h:p:=by have hz4:=hsz;clear hsz;have hle:=GW.out.size;have hs4:=HSZ3.out;have a0:=BA.out.c0;have a1:=BA.out.c1;have a2:=BA.out.c2;have fa0:=BA.out.free 0;have fa1:=BA.out.free 1;have fa2:=BA.out.free 2;obtain⟨hfA,hgA⟩:=zaH (x:=(a.states.length:Int)) (y:=(zaj a.states:Int)) (z:=(zau a.states:Int)) BA.out;have hbB:=BB.out.step hgA (by omega);have b0:=hbB.c0;have b1:=hbB.c1;have b2:=hbB.c2;have fb0:=hbB.free 0;have fb1:=hbB.free 1;have fb2:=hbB.free 2;obtain⟨hfB,hgB⟩:=zaH (x:=(b.states.length:Int)) (y:=(zaj b.states:Int)) (z:=(zau b.states:Int)) hbB;have TW:=zHd (zAI (hfA.step hgB (by omega)) (zAI hfB (zae (zae GW.out hgA (by omega)) hgB (by omega))));have r0:=hgA.cell s0 (by simp;omega);have r1:=hgA.cell s1 (by simp;omega);have r2:=hgA.cell s2 (by simp;omega);have r3:=hgA.cell s3 (by simp;omega);have r4:=hgA.cell s4 (by simp;omega);have r5:=hgA.cell s5 (by simp;omega);have r6:=hgA.cell s6 (by simp;omega);have r7:=hgA.cell s7 (by simp;omega);have q0:=hgB.cell r0 (by simp;omega);have q1:=hgB.cell r1 (by simp;omega);have q2:=hgB.cell r2 (by simp;omega);have q3:=hgB.cell r3 (by simp;omega);have q4:=hgB.cell r4 (by simp;omega);have q5:=hgB.cell r5 (by simp;omega);have q6:=hgB.cell r6 (by simp;omega);have q7:=hgB.cell r7 (by simp;omega);clear hfA hgA hbB hfB hgB;refine zqcc (rs:=[6]) (by kernel_rfl) (by simp) ?_;refine AllReadyH.cons rfl (fun K hK=>?_) AllReadyH.nil;go_simp;refine hK.out _ _ ⟨r0,r1,r2,r3,r4,r5,r6,r7⟩ (fun zH=>?_);clear hK K;(try simp only[zS,Act.put]);refine zqcc (rs:=[7]) (by kernel_rfl) (by simp) ?_;refine AllReadyH.cons rfl (fun K hK=>?_) AllReadyH.nil;go_simp;refine hK.out _ _ ⟨q0,q1,q2,q3,q4,q5,q6,q7⟩ (fun zH=>?_);clear hK K;(try simp only[zS,Act.put]);refine wpAnyH_done (by kernel_rfl) ?_ _;go_wp2_with (fail);go_meet;exact ⟨_,_,rfl,rfl,TW.out.1,TW.out.2.1,TW.out.2.2⟩):p:=h
theorem zQab{p:Prop}(h:p:=by refine(zap _).mono ?_;rintro e v9 ⟨rfl,hg⟩;have HZ:=zHd (zaa HG.out hg);clear hg;go_wp2;go_ret;exact⟨rfl,HZ.out⟩):p:=h
theorem zQac{p:Prop}(h:p:=by go_enter func108,ntmps108;go_wp2_with fail;refine(IX.out _).mono ?_;rintro e w' ⟨rfl,rfl⟩;go_wp2_with fail;refine(S1.out _).mono ?_;rintro e w' ⟨rfl,rfl⟩;go_wp2_with fail;refine(S2.out _).mono ?_;rintro e w' ⟨rfl,rfl⟩;go_wp2;exact zqby (v:=.tuple #[.bool _,.string _,.string _,.bool _]) (by simp[results,results108,go_sem]) rfl ⟨rfl,zai _ _⟩):p:=h
theorem zQad{p:Prop}(h:p:=by go_enter func108,ntmps108;go_wp2_with fail;refine(IX.out _).mono ?_;rintro e w' ⟨rfl,rfl⟩;go_wp2_with fail;refine(S1.out _).mono ?_;rintro e w' ⟨rfl,rfl⟩;go_wp2_with fail;refine(S2.out _).mono ?_;rintro e w' ⟨rfl,rfl⟩;go_wp2_with fail;refine(GC.out _).mono ?_;rintro e w1 ⟨rfl,hg⟩;have G1:=zHd hg;clear hg;go_wp2;exact zqby (v:=.tuple #[.bool _,.string _,.string _,.bool _]) (by simp[results,results108,go_sem]) rfl ⟨rfl,G1.out⟩):p:=h
theorem zQae{p:Prop}(h:p:=by obtain⟨v0,v1,v2,v3⟩:=zaf.cells (HB1.out.2);simp only[zao] at v0 v1 v2;have f0:=zaf.free (HB1.out.2) 0;have f1:=zaf.free (HB1.out.2) 1;have f2:=zaf.free (HB1.out.2) 2;have f3:=zaf.free (HB1.out.2) 3;obtain⟨hbf,hgf⟩:=zby (n:=zao) (v:=.slice none 0 0) (HB1.out.2);have T:=zHd (zae (HG1.out) hgf (by omega));obtain⟨c0,c1,c2,c3⟩:=hbf.cells;clear hbf hgf;simp only[zao] at T c0 c1 c2 c3;go_wp2_with fail;generalize ((((w1).setCell ⟨w.heap.size+1,0,none⟩ (.int .i64 0)).setCell ⟨w.heap.size+1,1,none⟩ (.int .i64 0)).setCell ⟨w.heap.size+1,2,none⟩ (.string ByteArray.empty)).setCell ⟨w.heap.size+1,3,none⟩ (.slice none 0 0)=WW at *;exact zqby (v:=.tuple #[.agg #[.int .i64 0,.int .i64 0,.string ByteArray.empty,.slice none 0 0],.int .i64 1]) (by simp[results,results36,go_sem,c0,c1,c2,c3]) rfl (by rw[HE.out];exact⟨_,rfl,⟨_,rfl,StN.nil _ _⟩,T.out⟩)):p:=h
theorem zQaf{p:Prop}(h:p:=by go_enter func61,ntmps61;go_wp2_with fail;refine(X.out _).mono ?_;rintro e w1 ⟨rfl,hg⟩;have G1:=zHd (hg);clear hg;go_wp2_with fail;refine(Y.out _).mono ?_;rintro e w2 ⟨rfl,hg⟩;have G2:=zHd (zaa G1.out hg);clear hg G1;go_wp2_with fail;refine(O.out _).mono ?_;rintro e w3 ⟨rfl,hg⟩;have G3:=zHd (zaa G2.out hg);clear hg G2;go_wp2;go_ret2;exact⟨rfl,G3.out⟩):p:=h
theorem zQag{p:Prop}(h:p:=by go_wp2_with fail;refine(HOF.out i p j q HP.out.1 HP.out.2.1 HQ.out.1 HQ.out.2.1 ok2 _ HT.out).mono ?_;rintro e w3 ⟨t1,ok3,rfl,hg3,ht3,ft1,hi3⟩;have HC:=zHd (HIH.out p q HP.out.2.1 HQ.out.2.1 (by have h1:=HP.out;have h2:=HQ.out;have h3:=HNE.out;have h4:=HN.out.2.1;omega) ok3 w3 ht3);have HT3:=zHd (zAI hg3 (zAI ht3 (zAI ft1 hi3)));clear hg3 ht3 ft1 hi3 HT;go_wp2_with fail;refine HC.out.mono ?_;rintro e w4 ⟨t2,ok4,rfl,hg4,ht4,ft2,hi4⟩;clear HC;have HC:=zHd (zfD HK.out w0 m u _ _ b ok4 t1 t2 HT3.out.2.2.1 ft2 w4 ht4);have HT4:=zHd (zAI hg4 hi4);clear hg4 ht4 ft2 hi4;go_wp2_with fail;refine HC.out.mono ?_;rintro e w5 ⟨t3,ok5,rfl,hg5,ht5,ft3,hi5⟩;clear HC;have HC:=zHd (ziE HK.out w0 m u _ _ b ok5 t t3 HF.out ft3 w5 ht5);have HT5:=zHd (zAI hg5 hi5);clear hg5 ht5 ft3 hi5;go_wp2_with fail;refine HC.out.mono ?_;rintro e w6 ⟨t4,ok6,rfl,hg6,ht6,ft4,hi6⟩;clear HC;have HT6:=zHd (zAI hg6 (zAI ht6 (zAI ft4 hi6)));clear hg6 ht6 ft4 hi6;have x9:IntKind.i64.wrap ((q:Int)+1)=(q:Int)+1:=(by have:=HQ.out.2.1;have:=HN.out.2.2.2;rw[zqah];omega);go_wp2;refine⟨⟨q+1,t4,ok6,by have:=HQ.out.1;omega,by have:=HQ.out.2.1;omega,rfl,by simp,HT6.out.2.2.1,HT6.out.2.1,((HGR.out.trans HT3.out.1).trans HT4.out.1).trans (HT5.out.1.trans HT6.out.1),fun h=>?_⟩,by have:=HQ.out.2.1;simp[intOf];omega⟩;obtain⟨h5,e4⟩:=HT6.out.2.2.2 h;obtain⟨h4,e3⟩:=HT5.out.2 h5;obtain⟨h3,e2⟩:=HT4.out.2 h4;obtain⟨h2,e1⟩:=HT3.out.2.2.2 h3;obtain⟨h1,e0⟩:=HI.out h2;refine⟨h1,?_⟩;rw[e4,e3,e2,e1,e0,show q+1-j=(q-j)+1 by have:=HQ.out.1;omega,ziG,<- (srE k HK.out).add_assoc];rw[HGV.out p q HP.out.1 HQ.out.1 HNE.out]):p:=h
theorem zQah{p:Prop}(h:p:=by go_enter func116,ntmps116;go_wp2_with fail;refine(V.out _).mono ?_;rintro e w' ⟨rfl,rfl⟩;go_wp2_with fail;refine(U.out _).mono ?_;rintro e w' ⟨rfl,rfl⟩;go_wp2_with fail;refine(GC.out _).mono ?_;rintro e w1 ⟨rfl,hg⟩;have G1:=zHd hg;clear hg;go_wp2_with fail;refine(D1.out _).mono ?_;rintro e w2 ⟨rfl,hg⟩;have G2:=zHd (zaa G1.out hg);clear hg G1;go_wp2_with fail;refine(D2.out _).mono ?_;rintro e w3 ⟨rfl,hg⟩;have G3:=zHd (zaa G2.out hg);clear hg G2;go_wp2;go_ret2;exact⟨rfl,G3.out⟩):p:=h
theorem zQai{p:Prop}(h:p:=by go_enter func64,ntmps64;go_wp2_with fail;refine(X.out _).mono ?_;rintro e w1 ⟨rfl,hg⟩;have G1:=zHd (hg);clear hg;go_wp2_with fail;refine(O.out _).mono ?_;rintro e w2 ⟨rfl,hg⟩;have G2:=zHd (zaa G1.out hg);clear hg G1;go_wp2_with fail;refine(C.out _).mono ?_;rintro e w3 ⟨rfl,hg⟩;have G3:=zHd (zaa G2.out hg);clear hg G2;go_wp2;go_ret2;exact⟨rfl,G3.out⟩):p:=h
theorem zQaj{p:Prop}(h:p:=by go_enter func108,ntmps108;go_wp2_with fail;refine(IX.out _).mono ?_;rintro e w' ⟨rfl,rfl⟩;go_wp2_with fail;refine(S1.out _).mono ?_;rintro e w' ⟨rfl,rfl⟩;go_wp2;exact zqby (v:=.tuple #[.bool _,.string _,.string _,.bool _]) (by simp[results,results108,go_sem]) rfl ⟨rfl,zai _ _⟩):p:=h
theorem zQak{p:Prop}(h:p:=by clear hs hh H0;obtain⟨⟨x0,x1,x2,y0,y1,y2⟩,hh⟩:=s1;go_wp2_with fail;refine(T3 _).mono ?_;rintro e v6 ⟨rfl,hg⟩;have s6:=zcq w b1 b2 A B C D hg ⟨⟨x0,x1,x2,y0,y1,y2⟩,hh⟩;clear x0 x1 x2 y0 y1 y2 hh hg;obtain⟨⟨x0,x1,x2,y0,y1,y2⟩,hh⟩:=s6;go_wp2_with fail;refine(CM.out _).mono ?_;rintro e v7 ⟨rfl,hg⟩;have s7:=zcq w b1 b2 A B C D hg ⟨⟨x0,x1,x2,y0,y1,y2⟩,hh⟩;clear x0 x1 x2 y0 y1 y2 hh hg;obtain⟨⟨x0,x1,x2,y0,y1,y2⟩,hh⟩:=s7;go_wp2_with fail;refine(SU.out _).mono ?_;rintro e v8 ⟨rfl,hg⟩;have s8:=zcq w b1 b2 A B C D hg ⟨⟨x0,x1,x2,y0,y1,y2⟩,hh⟩;clear x0 x1 x2 y0 y1 y2 hh hg;obtain⟨⟨x0,x1,x2,y0,y1,y2⟩,hh⟩:=s8;go_wp2_with fail;refine(R.out _).mono ?_;rintro e v9 ⟨rfl,hg⟩;have s9:=zcq w b1 b2 A B C D hg ⟨⟨x0,x1,x2,y0,y1,y2⟩,hh⟩;clear x0 x1 x2 y0 y1 y2 hh hg;obtain⟨zb,zS,zT,z0,z1,z2,z3,z4,z5⟩:=zjY w b1 b2 A B C D s9;have hend:=zgG (a:=.bool b) (b:=.string S) (c:=.string T) s9.2.out.g (show w.heap.size<=w.heap.size+1+1 by omega);have HE:=zHd hend;clear hend s9;go_wp2;exact zqby (v:=.agg #[.bool _,.string _,.string _]) (by simp[results,results148,go_sem,z0,z1,z2,z3,z4,z5]) rfl ⟨rfl,HE.out⟩):p:=h
theorem zQal{p:Prop}(h:p:=by generalize (W.alloc (.cells zbo 123)).setRow w.heap.size (zaK 0)=W2 at *;change Code.wp _ _ _ ⟨#[.int .i64 0,undef,.pointer (some ⟨w.heap.size,0,none⟩),.pointer (some ⟨w.heap.size+1,0,none⟩),.agg zdM,.agg zdN,.agg zdO,.agg zdP,.agg zbo,_,_,_,_,_,_,.int .i64 0,.pointer (some ⟨w.heap.size+1,0*9,none⟩),.agg (zaK 0)],[]⟩ _;go_wp2;have hl:=run_loadVar_row (P:=prog) W2 w.heap.size 101 101 (zaK 0) (0,0) _ hb underlying101 rfl (by as_aux_lemma=>kernel_rfl);refine zqby (v:=.agg (zaK 0)) ?_ rfl ⟨rfl,hg⟩;unfold results;rw[results66];simp[asAddr,hl]):p:=h
theorem zQam{p:Prop}(h:p:=by refine(zap _).mono ?_;rintro e v9 ⟨rfl,hg⟩;have HZ:=zHd (zaa (zaa HG.out HT.out.gr) hg);clear hg;go_wp2;go_ret;exact⟨rfl,HZ.out⟩):p:=h
theorem zQan{p:Prop}(h:p:=by have HE:=zHd (HFAIL.out (fun h=>by have:=(zbQ k).1 h.1;omega));obtain⟨v0,v1,v2,v3⟩:=zaf.cells (HB.out);simp only[zao] at v0 v1 v2;have f0:=zaf.free (HB.out) 0;have f1:=zaf.free (HB.out) 1;have f2:=zaf.free (HB.out) 2;have f3:=zaf.free (HB.out) 3;obtain⟨hbf,hgf⟩:=zby (n:=zao) (v:=.slice none 0 0) (HB.out);have T:=zHd (zae (HG.out) hgf (zqab _));obtain⟨c0,c1,c2,c3⟩:=hbf.cells;clear hbf hgf;simp only[zao] at T c0 c1 c2 c3;go_wp2_with fail;generalize ((((W).setCell ⟨w.heap.size,0,none⟩ (.int .i64 0)).setCell ⟨w.heap.size,1,none⟩ (.int .i64 0)).setCell ⟨w.heap.size,2,none⟩ (.string ByteArray.empty)).setCell ⟨w.heap.size,3,none⟩ (.slice none 0 0)=WW at *;exact zqby (v:=.tuple #[.agg #[.int .i64 0,.int .i64 0,.string ByteArray.empty,.slice none 0 0],.int .i64 1]) (by simp[results,results22,go_sem,c0,c1,c2,c3]) rfl (by rw[HE.out];exact⟨_,rfl,⟨_,rfl,StN.nil _ _⟩,T.out⟩)):p:=h
theorem zQao{p:Prop}(h:p:=by go_wp2_with fail;refine(V.out _).mono ?_;rintro e w1 ⟨rfl,hg⟩;have G1:=zHd (hg);clear hg;go_wp2;go_ret;exact⟨rfl,G1.out⟩):p:=h
theorem zQap{p:Prop}(h:p:=by have HN:=zHd hE0;clear hE0;go_wp2_with fail;refine(zej k b true S _ (zcu HB1.out)).mono ?_;rintro e w2 ⟨rfl,hg2⟩;have HG2:=zHd hg2;clear hg2;go_wp2;go_ret;exact⟨zaV k,true,rfl,zaa (zaa (zaw (some b) HG.out) (zad _ _ _)) (zaw (some b) HG2.out),zbq.kept (zcu HB1.out) HG2.out,⟨fun h=>(by cases h),fun h=>absurd (HE.out.1.2 h.2) HN.out⟩,fun h=>(by cases h),⟨(srE k HK.out).zero,zbp HK.out,(zbJ HK.out).symm⟩⟩):p:=h
theorem zQaq{p:Prop}(h:p:=by intro W base args ds gs before zV hW _ _ hsz hL _ _;exact contract H enc W base args ds gs before zV hW hsz):p:=h
theorem zQar{p:Prop}(h:p:=by go_wp2_with fail;refine(K.out _).mono ?_;rintro e w' ⟨rfl,rfl⟩;go_wp2;go_ret;exact⟨rfl,zai _ _⟩):p:=h
theorem zQas{p:Prop}(h:p:=by go_wp2_with fail;refine(zej k b false S _ (zcu HB1.out)).mono ?_;rintro e w2 ⟨rfl,hg2⟩;have HG2:=zHd hg2;clear hg2;go_wp2;go_ret;exact⟨S,false,rfl,zaa (zaa (zaw (some b) HG.out) (zad _ _ _)) (zaw (some b) HG2.out),zbq.kept (zcu HB1.out) HG2.out,⟨fun _=>⟨rfl,HE.out.1.1 (by simp)⟩,fun _=>rfl⟩,fun _=>HE.out.2 (by simp),⟨_,HE.out.1.1 (by simp),HE.out.2 (by simp)⟩⟩):p:=h
theorem zQat{p:Prop}(h:p:=by go_wp2_with fail;refine(zej k b true S _ (zcu HB1.out)).mono ?_;rintro e w2 ⟨rfl,hg2⟩;have HG2:=zHd hg2;clear hg2;go_wp2;go_ret;exact⟨zaV k,true,rfl,zaa (zaa (zaw (some b) HG.out) (zad _ _ _)) (zaw (some b) HG2.out),zbq.kept (zcu HB1.out) HG2.out,⟨fun h=>(by cases h),fun h=>(by cases h.1)⟩,fun h=>(by cases h),⟨(srE k HK.out).zero,zbp HK.out,(zbJ HK.out).symm⟩⟩):p:=h
theorem zQau{p:Prop}(h:p:=by have y1:decide (q<=ny)=false:=(by simpa using hq);have y1':decide ((q:Int)<=(ny:Int))=false:=(by simpa using hq);have y2:¬ (q:Int)<=(ny:Int):=(by omega);have x9:IntKind.i64.wrap ((p:Int)+1)=(p:Int)+1:=(by have:=HP.out.2.1;have:=HN.out.2.2.1;rw[zqah];omega);have HQ:Hid (q=ny+1):=zHd (by omega);have HT:=zHd htb;have HF:=zHd hft;have HGR:=zHd hgr;have HI:=zHd hok;clear hjq hqn hft htb hgr hok hq;go_wp2;refine⟨⟨p+1,t,ok2,by have:=HP.out.1;omega,by have:=HP.out.2.1;omega,rfl,by simp,HF.out,HT.out,HGR.out,fun h=>?_⟩,by have:=HP.out.2.1;simp[intOf];omega⟩;obtain⟨h1,e0⟩:=HI.out h;refine⟨h1,?_⟩;rw[e0,show p+1-i=(p-i)+1 by have:=HP.out.1;omega,zpb,HQ.out,show ny+1-j=(ny-j)+1 by have:=HN.out.1.2;omega]):p:=h
theorem zQav{p:Prop}(h:p:=by refine walk.mono fun e W' ⟨he,hg⟩=>?_;subst he;have hb:=below_grown hg (zqab _) (by simp);exact⟨_,rfl,zei (pa:=p0++(p1++(p2++(p3++[])))) (pv:=[]) hW' (fun _ _ _=>trodAll_cons_mk (shut_bool underlying4 _) trodAll_mk0) (trodAll_cons_mk (zaT (by kernel_rfl) (of_decide_eq_true (by kernel_rfl)) h0 hb hlt0) (trodAll_cons_mk (zaT (by kernel_rfl) (of_decide_eq_true (by kernel_rfl)) h1 hb hlt1) (trodAll_cons_mk (zaT (by kernel_rfl) (of_decide_eq_true (by kernel_rfl)) h2 hb hlt2) (trodAll_cons_mk (zaT (by kernel_rfl) (of_decide_eq_true (by kernel_rfl)) h3 hb hlt3) trodAll_mk0)))) rfl hb⟩):p:=h
theorem zQaw{p:Prop}(h:p:=by go_enter func69,ntmps69;go_wp2_with fail;refine(R1.out _).mono ?_;rintro e w1 ⟨rfl,hg⟩;have G1:=zHd hg;clear hg;go_wp2_with fail;refine(R2.out _).mono ?_;rintro e w2 ⟨rfl,hg⟩;have G2:=zHd (zaa G1.out hg);clear hg G1;go_wp2_with fail;refine(T1.out _).mono ?_;rintro e w3 ⟨rfl,hg⟩;have G3:=zHd (zaa G2.out hg);clear hg G2;go_wp2_with fail;refine(T2.out _).mono ?_;rintro e w4 ⟨rfl,hg⟩;have G4:=zHd (zaa G3.out hg);clear hg G3;go_wp2_with fail;refine(SM.out _).mono ?_;rintro e w5 ⟨rfl,hg⟩;have G5:=zHd (zaa G4.out hg);clear hg G4;go_wp2;go_ret;exact⟨rfl,G5.out⟩):p:=h
theorem zQax{p:Prop}(h:p:=by have HU:=zHd (zaa HU.out hg);clear hg;clear z0 z1 z2 z3;go_wp2;go_meet;exact ⟨rfl,HU.out⟩):p:=h
theorem zQay{p:Prop}(h:p:=by go_enter func124,ntmps124;go_wp2_with fail;refine(h.out.cp _).mono ?_;rintro e w' ⟨rfl,rfl⟩;go_wp2_with fail;refine(h.out.cut _).mono ?_;rintro e w1 ⟨rfl,hg⟩;have G1:=zHd hg;clear hg;go_wp2_with fail;refine(h.out.made _).mono ?_;rintro e w2 ⟨rfl,hg⟩;have G2:=zHd (zaa G1.out hg);clear hg;have hb:=alloc_old G2.out;have hc:=zqJ hb;have HG:=zHd (zaa (zGA _ _ none) G2.out);clear hb G1 G2;go_wp2;exact zqby (v:=.tuple #[.agg #[.bool false,.string ⟨#[]⟩,.string ⟨#[]⟩],.bool false]) (by simp[results,results124,go_sem,hc]) rfl ⟨rfl,zgG HG.out (zqab _)⟩):p:=h
theorem zQaz{p:Prop}(h:p:=by go_wp2_with fail;refine(R1.out _).mono ?_;rintro e w1 ⟨rfl,hg⟩;have G1:=zHd hg;clear hg;go_wp2_with fail;refine(R2.out _).mono ?_;rintro e w2 ⟨rfl,hg⟩;have G2:=zHd (zaa G1.out hg);clear hg G1;go_wp2_with fail;refine(T1.out _).mono ?_;rintro e w3 ⟨rfl,hg⟩;have G3:=zHd (zaa G2.out hg);clear hg G2;go_wp2_with fail;refine(T2.out _).mono ?_;rintro e w4 ⟨rfl,hg⟩;have G4:=zHd (zaa G3.out hg);clear hg G3;go_wp2_with fail;refine(MK.out _).mono ?_;rintro e w5 ⟨rfl,hg⟩;have G5:=zHd (zaa G4.out hg);clear hg G4;go_wp2;go_ret2;exact⟨rfl,G5.out⟩):p:=h
theorem zQaA{p:Prop}(h:p:=by have HMV:=zHd hmv;clear hmv hix;clear hb1 hAt0 y0 y1 y2 y3;have be1:bits BinOp.and IntKind.i64 3 1=1:=(by decide);have be2:wrap64 ((i:Int)+1)=(i:Int)+1:=(by have:=HLN.out;have:=HI.out.1;unfold wrap64;omega);have be3:wrap64 ((j:Int)+1)=(j:Int)+1:=(by have:=HLN.out;have:=HJ.out.1;unfold wrap64;omega);go_wp2;refine⟨⟨4,by omega,by omega,rfl,HK.out.2.1,HK.out.2.2.congr (fun i' j' q _ _ _=>?_)⟩,by simp[intOf]⟩;exact(zsj hk l x y _ i j (fun h=>HMV.out ⟨by rw[<- HLN.out.2.1];exact h.1,by rw[<- HLN.out.2.2.1];exact h.2⟩) i' j' q).symm):p:=h
theorem zQaB{p:Prop}(h:p:=by go_wp2_with fail;refine(va _).mono ?_;rintro e w' ⟨rfl,rfl⟩;go_wp2_with fail;refine(vb _).mono ?_;rintro e w' ⟨rfl,rfl⟩;go_wp2;go_ret2;exact⟨by rw[HV.out];rfl,zai _ _⟩):p:=h
theorem zQaC{p:Prop}(h:p:=by go_wp2_with fail;refine VA.out.mono ?_;rintro e w' ⟨rfl,rfl⟩;go_wp2_with fail;refine VB.out.mono ?_;rintro e w' ⟨rfl,rfl⟩;go_wp2;go_ret2;rw[HV.out];exact⟨rfl,zai _ _⟩):p:=h
theorem zQaD{p:Prop}(h:p:=by go_wp2_with fail;refine(V.out _).mono ?_;rintro e w' ⟨rfl,rfl⟩;go_wp2_with fail;refine(U.out _).mono ?_;rintro e w' ⟨rfl,rfl⟩;go_wp2;go_ret2;exact⟨rfl,zai _ _⟩):p:=h
theorem zQaE{p:Prop}(h:p:=by go_enter func61,ntmps61;go_wp2_with fail;refine(X.out _).mono ?_;rintro e w1 ⟨rfl,hg⟩;have G1:=zHd (hg);clear hg;go_wp2_with fail;refine(Y.out _).mono ?_;rintro e w2 ⟨rfl,hg⟩;have G2:=zHd (zaa G1.out hg);clear hg G1;go_wp2_with fail;refine(O.out _).mono ?_;rintro e w3 ⟨rfl,hg⟩;have G3:=zHd (zaa G2.out hg);clear hg G2;go_wp2_with fail;refine(C.out _).mono ?_;rintro e w4 ⟨rfl,hg⟩;have G4:=zHd (zaa G3.out hg);clear hg G3;go_wp2;go_ret2;exact⟨rfl,G4.out⟩):p:=h
theorem zQaF{p:Prop}(h:p:=by go_wp2;go_ret;exact⟨by rw[HN.out];rfl,rfl⟩):p:=h
theorem zQaG{p:Prop}(h:p:=by exact zqby (v:=.tuple #[.agg #[.int .i64 0,.int .i64 0,.string ByteArray.empty,.slice none 0 0],.int .i64 1]) (by simp[results,results14,go_sem,c0,c1,c2,c3]) rfl (by rw[HE.out];exact⟨_,rfl,⟨_,rfl,StN.nil _ _⟩,T.out⟩)):p:=h
theorem zQaH{p:Prop}(h:p:=by have HO:=zHd (zek HK.out (tx t2) ((HE.out.grown HT.out.gr).st) HM.out.1 HM.out.2.1 (HX.out.grown (zaa HG6.out HT.out.gr)) (HY.out.grown (zaa HG6.out HT.out.gr)) hwant);clear hwant;go_wp2_with fail;refine HO.out.mono ?_;rintro e v8 ⟨rfl,hg⟩;have HT:=zHd (HT.out.grown hg);clear hg;go_wp2_with fail;refine(zap _).mono ?_;rintro e v9 ⟨rfl,hg⟩;have HZ:=zHd (zaa HG6.out (zaa HT.out.gr hg));clear hg;go_wp2;go_ret;exact⟨rfl,HZ.out⟩):p:=h
theorem zQaI{p:Prop}(h:p:=by rintro e w1 ⟨rfl,hg⟩;have G1:=zHd hg;clear hg;go_wp2;go_ret;exact⟨rfl,G1.out⟩):p:=h
theorem zQaJ{p:Prop}(h:p:=by go_wp2;go_ret;exact⟨rfl,rfl⟩):p:=h
theorem zQaK{p:Prop}(h:p:=by rintro e w2 ⟨rfl,hg⟩;have G2:=zHd (zaa G1.out hg);clear hg G1;go_wp2;go_ret2;exact⟨rfl,G2.out⟩):p:=h
theorem zQaL{p:Prop}(h:p:=by go_enter func59,ntmps59;go_wp2_with fail;refine(X.out _).mono ?_;rintro e w1 ⟨rfl,hg⟩;have G1:=zHd (hg);clear hg;go_wp2_with fail;refine(Y.out _).mono ?_;rintro e w2 ⟨rfl,hg⟩;have G2:=zHd (zaa G1.out hg);clear hg G1;go_wp2_with fail;refine(B.out _).mono ?_;rintro e w3 ⟨rfl,hg⟩;have G3:=zHd (zaa G2.out hg);clear hg G2;go_wp2;go_ret2;exact⟨rfl,G3.out⟩):p:=h
theorem zQaM{p:Prop}(h:p:=by go_enter func81,ntmps81;go_wp2_with fail;refine(X.out _).mono ?_;rintro e w1 ⟨rfl,hg⟩;have G1:=zHd (hg);clear hg;go_wp2_with fail;refine(Y.out _).mono ?_;rintro e w2 ⟨rfl,hg⟩;have G2:=zHd (zaa G1.out hg);clear hg G1;go_wp2_with fail;refine(C.out _).mono ?_;rintro e w3 ⟨rfl,hg⟩;have G3:=zHd (zaa G2.out hg);clear hg G2;go_wp2;go_ret;exact⟨rfl,G3.out⟩):p:=h
theorem zQaN{p:Prop}(h:p:=by go_ret;exact⟨x,false,by rw[HT.out];rfl,zaa (zaw (some b) HG.out) (zad _ _ _),HB1.out.set false,HX.out,fun h=>(by cases h)⟩):p:=h
theorem zQaO{p:Prop}(h:p:=by go_wp2_with (go_at_call 170;refine(va _).mono ?_;rintro e w' ⟨rfl,rfl⟩);go_ret2;exact⟨by rw[HV.out];rfl,zai _ _⟩):p:=h
theorem zQaP{p:Prop}(h:p:=by have t2:((j:Int)==(ny:Int))=false:=(by rw[beq_eq_false_iff_ne];omega);have t2':decide (j=ny)=false:=(by simpa using h2);have Hh0:=zHd h0;clear h0;have Hh1:=zHd h1;clear h1;have Hh2:=zHd h2;clear h2;go_wp2;go_meet;exact ⟨zqbz Value.bool (zqcb (by have h0:=Hh0.out;have h1:=Hh1.out;have h2:=Hh2.out;omega)).symm,World.grownBy.refl _ _⟩):p:=h
theorem zQaQ{p:Prop}(h:p:=by rw[hE] at hw;have HE:=zHd hE;have HW:=zHd hw;have HG3:=zHd hg3;clear hbz hzl hzv hg3 hw hE HS;go_wp2_with fail;refine HW.out.mono ?_;rintro e w4 ⟨rfl,hg4⟩;have HG4:=zHd hg4;clear hg4 HW;go_wp2;go_ret2;exact⟨by rw[HV.out,HE.out];rfl,zaa HG1.out (grown_none (zaa HG2.out (grown_none (zaa HG3.out (grown_none HG4.out)))))⟩):p:=h
theorem zQaR{p:Prop}(h:p:=by go_wp2;go_ret;exact⟨rfl,zai _ _⟩):p:=h
theorem zQaS{p:Prop}(h:p:=by go_wp2_with fail;refine VA.out.mono ?_;rintro e w' ⟨rfl,rfl⟩;go_wp2;go_ret2;rw[HV.out];exact⟨rfl,zai _ _⟩):p:=h
theorem zQaT{p:Prop}(h:p:=by rintro e w1 ⟨rfl,hg⟩;have G1:=zHd hg;clear hg;go_wp2;go_ret2;exact⟨rfl,G1.out⟩):p:=h
theorem zQaU{p:Prop}(h:p:=by go_wp2_with fail;refine(zfz _ _).mono ?_;rintro e w3 ⟨rfl,hg2⟩;have HG2:=zHd hg2;clear hg2 d0 d1 d2;go_wp2;go_meet;exact ⟨by rw[HE1.out],HG2.out⟩):p:=h
theorem zQaV{p:Prop}(h:p:=by have t1:((i:Int)==(nx:Int))=false:=(by rw[beq_eq_false_iff_ne];omega);have t1':decide (i=nx)=false:=(by simpa using h1);have Hh0:=zHd h0;clear h0;have Hh1:=zHd h1;clear h1;go_wp2;go_meet;exact ⟨zqbz Value.bool (zqcb (by have h0:=Hh0.out;have h1:=Hh1.out;omega)).symm,World.grownBy.refl _ _⟩):p:=h
theorem zQaW{p:Prop}(h:p:=by exact(show prog.wantsStandIn 22=false by kernel_rfl)):p:=h
theorem zQaX{p:Prop}(h:p:=by have t2':decide (j=ny)=true:=(by simpa using h2);have Hh0:=zHd h0;clear h0;have Hh1:=zHd h1;clear h1;have Hh2:=zHd h2;clear h2;go_wp2;go_meet;exact ⟨zqbz Value.bool (decide_eq_true (by have h0:=Hh0.out;have h1:=Hh1.out;have h2:=Hh2.out;omega)).symm,World.grownBy.refl _ _⟩):p:=h
theorem zQaY{p:Prop}(h:p:=by refine(zbj _ _).mono ?_;rintro e w7 ⟨rfl,hg7⟩;have HG7:=zHd hg7;clear hg7;go_wp2;go_ret;exact⟨(srE k HK.out).zero,false,by rw[zbJ];rfl,zaa (zaa (zaw (some b) HG.out) (zad _ _ _)) (zaw (some b) HG7.out),(HB6.out.set false).grown HG7.out,zbp HK.out,fun h=>(by cases h)⟩):p:=h
theorem zQaZ{p:Prop}(h:p:=by have hcv:=zta zO;obtain⟨g',cap',rfl,_,_⟩:=zO.form (by omega);have hne:((acc.length:Int)==0)=false:=(by rw[beq_eq_false_iff_ne];omega);have HB:=zHd hb;clear zO hb hal hzj;go_wp2;go_ret;exact⟨by rw[HFIN.out];rfl,HB.out⟩):p:=h
theorem zQba{p:Prop}(h:p:=by exact zqby (v:=.tuple #[.agg #[.int .i64 0,.int .i64 0,.string ByteArray.empty,.slice none 0 0],.int .i64 1]) (by simp[results,results38,go_sem,c0,c1,c2,c3]) rfl (by rw[HE.out];exact⟨_,rfl,⟨_,rfl,StN.nil _ _⟩,T.out⟩)):p:=h
theorem zQbb{p:Prop}(h:p:=by have HU:=zHd (zaa HU.out hg);clear hg;clear z0 z1 z2 z3;obtain⟨x0,x1,x2,x3⟩:=(HBa.out.grown HU.out).cells;obtain⟨z0,z1,z2,z3⟩:=(HEm.out.grown HU.out).box.cells;have kk:=HKM.out;go_wp2;go_meet;exact ⟨rfl,HU.out⟩):p:=h
theorem zQbc{p:Prop}(h:p:=by go_wp2;go_ret;exact⟨rfl,HG2.out⟩):p:=h
theorem zQbd{p:Prop}(h:p:=by have HNO:=zHd hno;clear hno;go_enter func77,ntmps77;go_wp2;go_ret;exact⟨by rw[HNO.out];rfl,zai _ _⟩):p:=h
theorem zQbe{p:Prop}(h:p:=by have e:st9 hk l x y (VI9 hk l (vE hk ld) s0 x y i j) i j 3 i j=zaW (srE k hk) (wm9 hk l) (VI9 hk l (vE hk ld) s0 x y i j i j):=zjl hk l x y _ i j 3 (by omega) (by omega);rw[HSA.out,HSB.out] at hp;rw[<- e];exact hp):p:=h
theorem zQbf{p:Prop}(h:p:=by obtain⟨t1,t2⟩:=zkq w6 a.kind b a (.slice Ab b.states.length cb) (.slice Aa a.states.length ca) (.slice Ax x.length cx) (.slice Ay y.length cy);go_wp2_with (fail);go_meet;exact ⟨_,_,rfl,rfl,by omega,t2,t1⟩):p:=h
theorem zQbg{p:Prop}(h:p:=by have HY:=zHd hy;clear hy;go_wp2;go_ret;exact⟨by rw[HY.out];rfl,HGR0.out⟩):p:=h
theorem zQbh{p:Prop}(h:p:=by have e:st9 hk l x y (VI9 hk l (vE hk ld) s0 x y i j) i j 1 i j=zaW (srE k hk) (wm9 hk l) (VI9 hk l (vE hk ld) s0 x y i j i j):=zjl hk l x y _ i j 1 (by omega) (by omega);rw[HSA.out] at hp;rw[<- e];exact hp):p:=h
theorem zQbi{p:Prop}(h:p:=by have e:st9 hk l x y (VI9 hk l (vE hk ld) s0 x y i j) i j 2 i j=zaW (srE k hk) (wm9 hk l) (VI9 hk l (vE hk ld) s0 x y i j i j):=zjl hk l x y _ i j 2 (by omega) (by omega);rw[HSB.out] at hp;rw[<- e];exact hp):p:=h
theorem zQbj{p:Prop}(h:p:=by go_wp2;go_meet;exact ⟨by rw[HZ.out];rfl,rfl⟩):p:=h
theorem zQbk{p:Prop}(h:p:=by intro s hs;obtain⟨j,hj⟩:=List.mem_iff_getElem?.1 hs;exact h.hs j s (by have:=(zqae.1 hj).1;omega) hj):p:=h
theorem zQbl{p:Prop}(h:p:=by exact⟨by rw[HV.out];rfl,zai _ _⟩):p:=h
theorem zQbm{p:Prop}(h:p:=by show(w.heap.push _)[w.heap.size]?=_;rw[zqaz]):p:=h
theorem zQbn{p:Prop}(h:p:=by obtain⟨t,ht,rfl⟩:=zqbf.1 hs;exact zjk (zeS ha ht) (by omega) (fun z hz=>by cases hz;omega)):p:=h
theorem zQbo{p:Prop}(h:p:=by rw[Below.heap_setCell _ _ _ _ (by simp;omega),hk.block i (by simp;omega) (by simpa using hne) (by omega)];exact(heap_alloc_old _ _ (by simp;omega)).trans (heap_alloc_old _ _ hi)):p:=h
theorem zQbp{p:Prop}(h:p:=by have g3:(4294967296:Int)<=(r:Int)+(c:Int):=(by omega);have g3':¬ ((r:Int)+(c:Int)<4294967296):=(by omega);go_wp2;go_meet;exact ⟨by rw[<- HQ1.out,<- HQ.out];go_num,rfl⟩):p:=h
theorem zQbq{p:Prop}(h:p:=by have g3:(4294967296:Int)<=(r:Int)+(c:Int):=(by omega);have g3':¬ ((r:Int)+(c:Int)<4294967296):=(by omega);go_wp2;go_meet;exact ⟨by rw[<- HQ0.out,<- HQ.out];go_num,rfl⟩):p:=h
theorem zQbr{p:Prop}(h:p:=by go_wp2;go_ret2;refine⟨ga,xs.length,zs,gc,xs.length,ts,rfl,zrH H.out.1 H.out.1.xn HWD.out HLT.out.1.g hd1 hd2,?_⟩;have:=HLT.out.1.lt;have:=HLT.out.1.le;rw[hd2.v];omega):p:=h
theorem zQbs{p:Prop}(h:p:=by go_wp2;go_ret;exact⟨by rw[HE.out];rfl,HG2.out⟩):p:=h
theorem zQbt{p:Prop}(h:p:=by rw[hd] at h3;simp at h3;subst h3;have hm:(47:UInt8)∈ds:=List.mem_of_mem_drop (i:=i) (by rw[hd];simp);have:=List.all_eq_true.1 h _ hm;exact absurd this (by decide)):p:=h
theorem zQbu{p:Prop}(h:p:=by go_wp2;go_ret;exact⟨rfl,HG.out⟩):p:=h
theorem zQbv{p:Prop}(h:p:=by go_wp2;go_ret2;exact⟨rfl,zai _ _⟩):p:=h
theorem zQbw{p:Prop}(h:p:=by have HO2:=zHd hown2;have HG2:=zHd (zae (g:=w.heap.size) HG.out hg2 (zqab _));clear hown2 hg2;go_wp2;go_ret;exact⟨_,rfl,HO2.out,HG2.out⟩):p:=h
theorem zQbx{p:Prop}(h:p:=by refine(zap _).mono ?_;rintro e v9 ⟨rfl,hg⟩;have HZ:=zHd (zaa HG6.out (zaa HT.out.gr hg));clear hg;go_wp2;go_ret;exact⟨rfl,HZ.out⟩):p:=h
theorem zQby{p:Prop}(h:p:=by go_enter func27,ntmps27;go_wp2_with (go_at_call 15;refine(hk _).mono ?_;rintro e w' ⟨rfl,rfl⟩);go_ret;exact⟨rfl,hg⟩):p:=h
theorem zQbz{p:Prop}(h:p:=by rw[<- h3,zqbw _ _ _ _ _ (0,0) (zaG _ _)];exact zkI 0 (by decide) i v hv):p:=h
theorem zQbA{p:Prop}(h:p:=by have Hh0:=zHd h0;clear h0;go_wp2;go_meet;exact ⟨zqbz Value.bool (zqcb (by have h0:=Hh0.out;omega)).symm,World.grownBy.refl _ _⟩):p:=h
theorem zQbB{p:Prop}(h:p:=by go_wp2_with fail;refine(hwa _).mono ?_;rintro e w8 ⟨rfl,hg8⟩;go_wp2;go_meet;exact ⟨by rw[HB.out];first|rfl|simp[*],hg8⟩):p:=h
theorem zQbC{p:Prop}(h:p:=by rw[zqas (by simp;omega)] at hc;cases hc):p:=h
theorem zQbD{p:Prop}(h:p:=by refine(X.out _).mono ?_;rintro e w2 ⟨rfl,hg⟩;have G2:=zHd (zaa G1.out hg);clear hg;go_wp2;go_ret;exact⟨rfl,G2.out⟩):p:=h
theorem zQbE{p:Prop}(h:p:=by go_wp2;go_ret;exact⟨r,true,rfl,zaa (zaw (some b) HG.out) (zad _ _ _),HB1.out.set true,HF.out,fun _=>⟨rfl,rfl⟩⟩):p:=h
theorem zQbF{p:Prop}(h:p:=by go_wp2;go_meet;exact ⟨by rw[HE1.out],World.grownBy.refl _ _⟩):p:=h
theorem zQbG{p:Prop}(h:p:=by go_ret;exact⟨r,false,rfl,zaa (zaw (some b) HG.out) (zad _ _ _),HB1.out.set false,HF.out,fun h=>(by cases h)⟩):p:=h
theorem zQbH{p:Prop}(h:p:=by show sp1 S v (fun r s=>S.mul S.zero (Z [] s))=S.zero;rw[zbs (h:=fun _ _=>S.zero) (fun p q _=>S.zero_mul _),zdV]):p:=h
theorem zQbI{p:Prop}(h:p:=by exact⟨_,2,rfl,hg,.inr ⟨rfl,rfl,h1⟩⟩):p:=h
theorem zQbJ{p:Prop}(h:p:=by rw[<- List.take_append_drop (i+1) zs,List.all_append,h];rfl):p:=h
theorem zQbK{p:Prop}(h:p:=by exact Int.dvd_mul_of_dvd_right (Int.dvd_sub (Int.dvd_mul_of_dvd_right hx') (Int.dvd_mul_of_dvd_right hy'))):p:=h
theorem zQbL{p:Prop}(h:p:=by have HP:=zHd (zAI h1 h2);clear hok h1 h2;go_wp2;go_ret2;exact⟨gy,cy,ys,gr,cr,rs,rfl,HP.out.1,HP.out.2⟩):p:=h
theorem zQbM{p:Prop}(h:p:=by rw[hT];exact zkb M (k+1) (by omega) (by omega) (by have:=h1.out;have:=Nat.le_add_left M (t*nv b);omega)):p:=h
theorem zQbN{p:Prop}(h:p:=by rintro e w3 ⟨rfl,hg⟩;have G3:=zHd (zaa G2.out hg);clear hg G2;go_wp2;go_ret2;exact⟨rfl,G3.out⟩):p:=h
theorem zQbO{p:Prop}(h:p:=by rw[List.length_drop] at this;simp only[List.length_nil] at this;rw[List.drop_eq_nil_of_le (by omega)]):p:=h
theorem zQbP{p:Prop}(h:p:=by go_ret;exact⟨t,false,rfl,HG4.out.trans (zad _ _ _),HB4.out.set false,HF.out,fun h=>(by cases h)⟩):p:=h
theorem zQbQ{p:Prop}(h:p:=by have e1:=HNV.out;rw[HT2.out] at e1;have:=HGE.out;have:=HB0.out;have:=HM.out;show nv T2<nv T;omega):p:=h
theorem zQbR{p:Prop}(h:p:=by rw[zqas (by simp;omega)] at hu;cases hu):p:=h
theorem zQbS{p:Prop}(h:p:=by clear hs h;go_enter func160,ntmps160;go_wp2;go_ret2;exact⟨by rw[HV.out];rfl,rfl⟩):p:=h
theorem zQbT{p:Prop}(h:p:=by have:=List.all_eq_true.1 (List.all_eq_true.1 hx s (zqak hs)) a (zqak ha);rw[this] at h;cases h):p:=h
theorem zQbU{p:Prop}(h:p:=by go_enter func155,ntmps155;go_wp2;go_ret;exact⟨by rw[<- hS.out];rfl,zGA _ _ _⟩):p:=h
theorem zQbV{p:Prop}(h:p:=by have h1:=HU.out.1;have h2:=HU.out.2;rw[h] at h1;have:=h1.symm.trans h2;have:=HN.out;omega):p:=h
theorem zQbW{p:Prop}(h:p:=by unfold results;rw[results66];simp[asAddr,hl]):p:=h
theorem zQbX{p:Prop}(h:p:=by rw[ha,hb,<- h];simp only[Bool.and_self,if_true];rw[if_pos (zcE c hc).2,<- (zcE c hc).1]):p:=h
theorem zQbY{p:Prop}(h:p:=by have:=Nat.mod_lt (c+f*b) (show 1000000000 > 0 by decide);split <;> simp only <;> omega):p:=h
theorem zQbZ{p:Prop}(h:p:=by rw[Lib.toList_data,beq_iff_eq,<- List.length_eq_zero_iff,zqbs] at h;exact absurd h hf0):p:=h
theorem zQca{p:Prop}(h:p:=by exact absurd HH.out (by simp)):p:=h
theorem zQcb{p:Prop}(h:p:=by rw[<- zcF,<- zcF,<- List.drop_drop,zqbj,List.take_append_drop,List.take_append_drop]):p:=h
theorem zQcc{p:Prop}(h:p:=by rw[HV.out,<- HQ.out,<- HT.out,<- HR.out,<- HINV.out.text];exact⟨rfl,zdE HBL.out⟩):p:=h
theorem zQcd{p:Prop}(h:p:=by go_wp2;go_ret;exact⟨by rw[HV.out];rfl,zaa HG.out (zaa (zce _ _ _) (zce _ _ _))⟩):p:=h
theorem zQce{p:Prop}(h:p:=by exact IntWalk.i64_in _ ⟨by omega,by omega⟩):p:=h
theorem zQcf{p:Prop}(h:p:=by have h:=zeS hb ht;rw[<- hk] at h;exact zjk h (by omega) (fun z hz=>by cases hz)):p:=h
theorem zQcg{p:Prop}(h:p:=by obtain⟨e1,e2⟩:=HI.out.2 rfl;rw[e2,HM.out.2.2.1];rw[(HI.out.1 e1).2,zid,zid]):p:=h
theorem zQch{p:Prop}(h:p:=by obtain⟨rs,h1,h2⟩:=h;exact⟨rs,h1.grown hg,fun i hi=>(h2 i hi).grown hg⟩):p:=h
theorem zQci{p:Prop}(h:p:=by rw[HS.out];exact(Below.heap_setCell _ _ _ _ (fun e=>h1 e.symm)).trans HO.out):p:=h
theorem zQcj{p:Prop}(h:p:=by have HX:=zHd hx;clear hx;go_wp2;go_ret;exact⟨by rw[HX.out];rfl,HGR0.out⟩):p:=h
theorem zQck{p:Prop}(h:p:=by have HX:=zHd hx;clear hx;go_wp2;go_ret;exact⟨by rw[HX.out];rfl,HG1.out⟩):p:=h
theorem zQcl{p:Prop}(h:p:=by refine List.map_congr_left (fun y hy=>?_);unfold zeB;rw[if_neg (by omega)]):p:=h
theorem zQcm{p:Prop}(h:p:=by intro hj;rw[zru,ztf (by omega) (by omega) (by omega)];exact ih (by omega)):p:=h
theorem zQcn{p:Prop}(h:p:=by rw[zqas (by simp;omega)] at hc';cases hc'):p:=h
theorem zQco{p:Prop}(h:p:=by rw[heap_setCell_same w g k _ _ u h];simp):p:=h
theorem zQcp{p:Prop}(h:p:=by go_wp2;go_meet;exact ⟨⟨_,rfl,HE1.out⟩,World.grownBy.refl _ _⟩):p:=h
theorem zQcq{p:Prop}(h:p:=by go_wp2;go_ret;exact⟨by rw[<- Lib.indexAny_one,HS.out];rfl,rfl⟩):p:=h
theorem zQcr{p:Prop}(h:p:=by exact(zrz h hw h0 hl x y hi (by omega) True (ih (by omega)) hb).2):p:=h
theorem zQcs{p:Prop}(h:p:=by go_wp2_with (fail);go_meet;exact ⟨_,_,rfl,rfl,by omega,t1,t2⟩):p:=h
theorem zQct{p:Prop}(h:p:=by clear hwb;go_wp2;go_ret;exact⟨by rw[HN.out];rfl,zdE HG5.out⟩):p:=h
theorem zQcu{p:Prop}(h:p:=by exact⟨(ha i t x hi hx2).1.grown zgx,(ha i t x hi hx2).2⟩):p:=h
theorem zQcv{p:Prop}(h:p:=by rw[if_neg h1,if_neg (show ¬ n-i=0 by omega)];split <;> rfl):p:=h
theorem zQcw{p:Prop}(h:p:=by rw[zqbk.1 hs];exact⟨zqk (zeG hk),fun a ha=>by cases ha⟩):p:=h
theorem zQcx{p:Prop}(h:p:=by exact zar S (fun r _=>zjG _ _ _ _)):p:=h
theorem zQcy{p:Prop}(h:p:=by refine⟨?_,zai _ _⟩;unfold zat;rw[e,Bool.and_false];rfl):p:=h
end YtadgpgofcjpnjaaGreatDoor
end Go.Proofs
