/- Part. -/
import Derived.Test.YtadgpgofcjpnjaaGreatDoorZK11
set_option linter.unusedVariables false
set_option linter.defProp false
set_option linter.unusedSimpArgs false
set_option maxRecDepth 100000
set_option maxHeartbeats 16000000
namespace Go.Proofs.YtadgpgofcjpnjaaGreatDoor
open Go.Proofs.Tryz
variable {α:Type} {S:Sr α} {ve fe:ByteArray->α}
def zHA (f:List Nat->List Nat->α)(u v:List Nat):sp S u v (fun p q r s=>S.mul (f p r) (zfa S q s))=f u v:=by
 rw[zxE];refine(zef (g:=at1 S u.length v.length (f u v)) (fun i j hi hj=>?_)).trans (zla (zqab _) (zqab _) _);unfold at1 zfa
 by_cases h:i=u.length/\j=v.length
 ·obtain⟨rfl,rfl⟩:=h
  rw[if_pos ⟨List.drop_eq_nil_of_le (zqab _),List.drop_eq_nil_of_le (zqab _)⟩,if_pos ⟨rfl,rfl⟩,zqaf (zqab _),zqaf (zqab _),S.mul_one]
 have hl:¬ (u.drop i=[]/\v.drop j=[]):=fun e=>h ⟨by
  have:=zqbz List.length e.1;rw[List.length_drop] at this;simp only[List.length_nil] at this;omega,by
  have:=zqbz List.length e.2;rw[List.length_drop] at this;simp only[List.length_nil] at this;omega⟩
 rw[if_neg hl,if_neg h,S.mul_zero]
section
variable (h0:fe noB=S.zero) (hve:∀ a,a≠noB->fe a=ve a) {one:ByteArray} (h1:ve one=S.one) (hn:one≠noB)
include h0 hve h1
def zyh {a b:zah}(ha:zhG a)(hb:zhG b)(u v:List Nat):zbK S ve fe (zbA one a b) u v=zbK S ve fe (zbA one b a) u v:=by
 rw[ziC h0 hve h1 ha hb,ziC h0 hve h1 hb ha,S.add_comm]
include hn in
def zyi {a:zah}(ha:zhG a)(u v:List Nat):zbK S ve fe (zbt one a) u v=S.add (zfa S u v) (sp S u v (fun p q r s=>S.mul (zbK S ve fe a p r) (zbK S ve fe (zbt one a) q s))):=by
 have h:=zlz h0 hve h1 hn ha u v;rw[zlr];generalize spx S u v (fun p q r s=>S.mul (zbK S ve fe a p r) (zbK S ve fe (zbt one a) q s))=X at *;generalize zbK S ve fe (zbt one a) u v=y at *;generalize zbK S ve fe a [] []=A at *;generalize zfa S u v=E at *
 have e:S.mul (S.star A) (S.add E X)=S.add (S.add E X) (S.mul A (S.mul (S.star A) (S.add E X))):=by
  conv=>lhs;rw[<- S.star_law A]
  rw[S.add_mul,S.one_mul,S.mul_assoc]
 rw[<- h] at e
 conv=>lhs;rw[e]
 ac_rfl
def zyj {a:zah}(ha:zhG a)(hn':one≠noB)(u v:List Nat):zbK S ve fe (zaJ one a 1 1) u v=zbK S ve fe a u v:=by
 rw[zhI h0 hve h1 hn' ha];show S.add (if (1:Nat)=0 then _ else S.zero) (sp S u v (fun p q r s=>S.mul (zbK S ve fe a p r) (if (1-1:Nat)=0 then zfa S q s else S.zero)))=_;rw[if_neg (by omega),S.zero_add,zcP (g:=fun p q r s=>S.mul (zbK S ve fe a p r) (zfa S q s)) (fun p q r s _ _=>by rw[if_pos rfl]),zHA]
def zuz {a:zah}(ha:zhG a)(hn':one≠noB)(u v:List Nat):zbK S ve fe (zaJ one a 1 3) u v=sp S u v (fun p q r s=>S.mul (zbK S ve fe (zaJ one a 1 1) p r) (zbK S ve fe (zaJ one a 0 2) q s)):=by
 rw[zhI h0 hve h1 hn' ha];show S.add (if (1:Nat)=0 then _ else S.zero) (sp S u v (fun p q r s=>S.mul (zbK S ve fe a p r) (ziL S (zbK S ve fe a) 2 (1-1) q s)))=_;rw[if_neg (by omega),S.zero_add];exact zcP (fun p q r s _ _=>by rw[zyj h0 hve h1 ha hn',zhI h0 hve h1 hn' ha])
end
open Go.RowKit
def zBk (s:Int)(w:World):Calls prog 77 #[.int .i64 s] w (zab (.bool (!zaI s)) w):=by
 by_cases h1:s<1
 ·have g1:decide (s<1)=true:=by simpa using h1
  have hno:zaI s=false:=by unfold zaI;simp;omega
  exact zQbd
 have g1:decide (s<1)=false:=by simpa using h1
 have g1':¬ s<1:=h1
 by_cases h2:500<s
 ·have g2:decide (s > 500)=true:=by simpa using h2
  have g3:decide (500<s)=true:=by simpa using h2
  have hno:zaI s=false:=by unfold zaI;simp;omega
  exact zQbd
 have g2:decide (s > 500)=false:=by simpa using h2
 have g3:decide (500<s)=false:=by simpa using h2
 have hno:zaI s=true:=by unfold zaI;simp;omega
 exact zQbd
def zEp (zs:List Int)(w:World)(e:Ending)(w':World):Prop:=∃ r:Int,e=.returned (.int .i64 r)/\(decide (0<=r) = !zs.all zaI)/\w.grownBy w' none
def zyk (zs:List Int)(v:Value)(w:World)(hv:zax w v zs)(hl:zs.length<=1000000):Calls prog 113 #[v,.func (.func 77) #[] #[]] w (zEp zs w):=by
 obtain⟨A,c,rfl,h1,h2,h3⟩:=hv;obtain⟨n,hn⟩:∃ n,zs.length=n:=⟨_,rfl⟩;rw[hn] at h1 h3 ⊢;rw[hn] at hl;have HN:=zHd (zAI hl hn);have HV:=zHd h3;clear h1 h2 h3 hl hn;go_enter func113,ntmps113;go_wp2
 go_loopw [8] (fun iv wr=>∃ i:Nat,i<=n/\iv=.int .i64 (i:Int)/\w.grownBy wr none/\(zs.take i).all zaI=true) (fun iv _=>n-(intOf iv).toNat)
 case atStart=>exact⟨0,zqaw _,rfl,World.grownBy.refl _ _,by simp⟩
 case round =>
  obtain⟨i,hi',rfl,hg,ha⟩:=hrel
  by_cases hin:i<n
  ·have u2:(i:Int)<(n:Int):=by omega
   have u3:(0:Int)<=(i:Int):=by omega
   have u4:IntKind.i64.wrap ((i:Int)+1)=(i:Int)+1:=by have:=HN.out.1;rw[zqah];omega
   obtain⟨ad,rfl,hb,hc⟩:=HV.out i hin
   replace hc:=hg.cell hc (by simp)
   have hat:=zkk (zs:=zs) (i:=i) (by rw[HN.out.2];exact hin);rw[ha,Bool.true_and] at hat;generalize zs.getD i 0=z at *;have HI:=zHd (zAI hin (zAI hat hg));have HC:=zHd (zBk z wr);clear hi' hin ha hat hb hg;cases hz:zaI z
   ·rw[hz] at HC
    have HZ:=zHd hz;clear hz;go_wp2_with fail;refine HC.out.mono ?_;rintro e w5 ⟨rfl,hg5⟩;have HG5:=zHd (zaa HI.out.2.2 hg5);clear hg5;go_wp2;go_ret
    have e:zs.all zaI=false:=by
     have h:=HI.out.2.1;rw[HZ.out] at h;exact zQbJ
    exact⟨_,rfl,by rw[e];simp,HG5.out⟩
   rw[hz] at HC;have HZ:=zHd hz;clear hz;go_wp2_with fail;refine HC.out.mono ?_;rintro e w5 ⟨rfl,hg5⟩;have HG5:=zHd (zaa HI.out.2.2 hg5);clear hg5;go_wp2;exact⟨⟨i+1,HI.out.1,by simp,HG5.out,by rw[HI.out.2.1,HZ.out]⟩,by have:=HI.out.1;simp[intOf];omega⟩
  obtain rfl:i=n:=by omega
  have v1:¬ (i:Int)<(i:Int):=by omega
  have HJ:=zHd (zAI ha hg);clear hi' hin ha hg;go_wp2;go_ret;have h:=HJ.out.1;rw[zqaf (by rw[HN.out.2];exact zqab _)] at h;exact⟨_,rfl,by rw[h];decide,HJ.out.2⟩
def zsv (zs:List Int)(v:Value)(w:World)(hv:zax w v zs)(hl:zs.length<=1000000):Calls prog 76 #[v,.func (.func 77) #[] #[]] w (zab (.bool (!zs.all zaI)) w):=by
 have HC:=zHd (zyk zs v w hv hl);obtain⟨A,c,rfl,_⟩:=hv;clear hl;go_enter func76,ntmps76;go_wp2_with fail;refine HC.out.mono ?_;rintro e w1 ⟨r,rfl,hr,hg⟩;have HR:=zHd hr;have HG:=zHd hg;clear hr hg HC;go_wp2;go_ret;refine⟨?_,HG.out⟩;have h:=HR.out
 first
  | (rw[<- h];rfl)
  | (rw[<- h];simp)
def zkm (zs:List Int)(v:Value)(w:World)(hv:zax w v zs)(hl:zs.length<=1000000):Calls prog 50 #[v] w (zab (.bool (zs.all zaI)) w):=by
 have HC:=zHd (zsv zs v w hv hl);obtain⟨A,c,rfl,_⟩:=hv;clear hl;go_enter func50,ntmps50;go_wp2_with fail;refine HC.out.mono ?_;rintro e w1 ⟨rfl,hg⟩;have HG:=zHd hg;clear hg HC;go_wp2;go_ret;refine⟨?_,HG.out⟩;simp
def zon (zs:List Int)(v:Value)(w:World)(hv:zax w v zs):Calls prog 41 #[v] w (zab (.bool (zat zs)) w):=by
 by_cases h2:zs.length<=200
 ·have HC:=zHd (zkm zs v w hv (by omega))
  have HB:Hid (zat zs=zs.all zaI):=zHd (by unfold zat;rw[decide_eq_true h2,Bool.true_and]);obtain⟨A,c,rfl,_⟩:=hv;have t1:(zs.length:Int)<=200:=by omega
  clear h2;go_enter func41,ntmps41;go_wp2_with fail;refine HC.out.mono ?_;rintro e w1 ⟨rfl,hg⟩;have HG:=zHd hg;clear hg HC;go_wp2;go_ret;exact⟨by rw[HB.out];rfl,HG.out⟩
 have HB:Hid (zat zs=false):=zHd (by unfold zat;rw[zqcb h2,Bool.false_and]);obtain⟨A,c,rfl,_⟩:=hv;have t1:¬ (zs.length:Int)<=200:=by omega
 clear h2;go_enter func41,ntmps41;go_wp2;go_ret;exact⟨by rw[HB.out];rfl,zai _ _⟩
def zsw (zs:List Int)(v:Value)(i:Nat)(w:World)(hv:zax w v zs):Calls prog 46 #[v,.int .i64 (i:Int)] w (zab (.int .i64 (zs.getD i 0)) w):=by
 obtain⟨A,c,rfl,h1,h2,h3⟩:=hv
 by_cases hin:i<zs.length
 ·have u2:(i:Int)<(zs.length:Int):=by omega
  have u3:(0:Int)<=(i:Int):=by omega
  obtain⟨ad,rfl,hb,hc⟩:=h3 i hin;obtain⟨z,hz⟩:∃ z,zs.getD i 0=z:=⟨_,rfl⟩
  replace hc:w.cell? (ad.add i)=some (.int .i64 (zs.getD i 0)):=hc
  rw[hz] at hc ⊢;clear h1 h2 h3 hin hb hz;go_enter func46,ntmps46;exact zQaR
 have u2:¬ (i:Int)<(zs.length:Int):=by omega
 have HE:Hid (zs.getD i 0=0):=zHd (by rw[zqaa,zqas (by omega)];rfl);rw[HE.out];clear h1 h2 h3 hin HE;go_enter func46,ntmps46;exact zQaR
def zkn (a b:Int)(ha:a<=3000)(hb:b<=30000)(w:World):Calls prog 55 #[.int .i64 a,.int .i64 b] w (zab (.bool true) w):=by
 go_enter func55,ntmps55;exact zQaR
open Go.RowKit
noncomputable def checkV (a b:zah):Int:=if validB a=true/\validB b=true then (if a.kind=b.kind then 0 else 6) else 1
def zqq {a b:zah}{va vb:Value}{w:World}(ha:zan w va a)(hb:zan w vb b)(fa:zaZ a)(fb:zaZ b):Calls prog 53 #[va,vb] w (zab (.int .i64 (checkV a b)) w):=by
 have HVA:=zHd (fun w' (h:w.grownBy w' none)=>zhF (ha.grown h) fa);have HVB:=zHd (fun w' (h:w.grownBy w' none)=>zhF (hb.grown h) fb);obtain⟨ua,rfl,_⟩:=ha;obtain⟨ub,rfl,_⟩:=hb;have g1:=zGA w (.cells #[.int .i64 a.kind,.int .i64 a.start,.string a.lead,ua] 29) none;have b1:=zaf.new w a ua;have g2:=zGA (w.alloc (.cells #[.int .i64 a.kind,.int .i64 a.start,.string a.lead,ua] 29)) (.cells #[.int .i64 b.kind,.int .i64 b.start,.string b.lead,ub] 29) none;have b2:=zaf.new (w.alloc (.cells #[.int .i64 a.kind,.int .i64 a.start,.string a.lead,ua] 29)) b ub;have e1:(w.alloc (.cells #[.int .i64 a.kind,.int .i64 a.start,.string a.lead,ua] 29)).heap.size=w.heap.size+1:=by simp
 rw[e1] at b2;have b1:=b1.grown g2;have hg:=zaa g1 g2;have HB:=zHd (zAI b1 b2);have HG:=zHd hg;obtain⟨x0,x1,x2,x3⟩:=b1.cells;obtain⟨y0,y1,y2,y3⟩:=b2.cells;clear g1 g2 b1 b2 e1 hg;go_enter func53,ntmps53;go_wp2_with fail;refine(HVA.out _ HG.out).mono ?_;rintro e w1 ⟨rfl,hg1⟩;generalize (w.alloc (.cells #[.int .i64 a.kind,.int .i64 a.start,.string a.lead,ua] 29)).alloc (.cells #[.int .i64 b.kind,.int .i64 b.start,.string b.lead,ub] 29)=W at *;clear x0 x1 x2 x3 y0 y1 y2 y3;have HG1:=zHd (zaa HG.out hg1);have hb1:=HB.out.1.grown hg1;have hb2:=HB.out.2.grown hg1;have HB1:=zHd (zAI hb1 hb2);obtain⟨x0,x1,x2,x3⟩:=hb1.cells;obtain⟨y0,y1,y2,y3⟩:=hb2.cells;clear hg1 hb1 hb2;cases hA:validB a
 ·have HE:Hid (checkV a b=1):=zHd (by unfold checkV;rw[if_neg (fun h=>by rw[hA] at h;cases h.1)])
  clear hA;go_wp2;go_ret;exact⟨by rw[HE.out];rfl,HG1.out⟩
 have HA:=zHd hA;clear hA;go_wp2_with fail;refine(HVB.out _ HG1.out).mono ?_;rintro e w2 ⟨rfl,hg2⟩;clear x0 x1 x2 x3 y0 y1 y2 y3;have HG2:=zHd (zaa HG1.out hg2);have hb1:=HB1.out.1.grown hg2;have hb2:=HB1.out.2.grown hg2;obtain⟨x0,x1,x2,x3⟩:=hb1.cells;obtain⟨y0,y1,y2,y3⟩:=hb2.cells;clear hg2 hb1 hb2;cases hB:validB b
 ·have HE:Hid (checkV a b=1):=zHd (by unfold checkV;rw[if_neg (fun h=>by rw[hB] at h;cases h.2)])
  clear hB;exact zQbs
 by_cases hk:a.kind=b.kind
 ·have HE:Hid (checkV a b=0):=zHd (by unfold checkV;rw[if_pos ⟨HA.out,hB⟩,if_pos hk])
  have t1:(a.kind != b.kind)=false:=(by simp[hk]);have t2:(a.kind==b.kind)=true:=(by simp[hk]);have HK:=zHd hk;clear hB hk;exact zQbs
 have HE:Hid (checkV a b=6):=zHd (by unfold checkV;rw[if_pos ⟨HA.out,hB⟩,if_neg hk]);have t1:(a.kind != b.kind)=true:=(by simp[hk]);have t2:(a.kind==b.kind)=false:=(by simp[hk]);clear hB;exact zQbs
def zau (l:List zac):Nat:=(l.filter (fun s=>decide (s.fin≠noB))).length
def zlD (l:List zac):zau l<=l.length:=List.length_filter_le _ _
def zyl (l:List zac)(s:zac):zau (l++[s])=zau l+if s.fin=noB then 0 else 1:=by
 unfold zau;rw[List.filter_append,zqag];congr 1
 by_cases h:s.fin=noB
 rw[if_pos h,List.filter_cons_of_neg (by simp[h])];rfl;rw[if_neg h,List.filter_cons_of_pos (by simp[h])];rfl
def zEq (m:zah)(w:World)(e:Ending)(w':World):Prop:=e=.returned (.agg #[.int .i64 (m.states.length:Int),.int .i64 (zaj m.states:Int),.int .i64 (zau m.states:Int)])/\w.grownBy w' none
def zay (W:World)(g:Nat)(a b c:Int):Prop:=W.heap[g]?=some (.cells #[.int .i64 a,.int .i64 b,.int .i64 c] 84 (0,0))
section
variable {W W':World} {g:Nat} {a b c:Int}
def zay.c0 (h:zay W g a b c):W.cell? ⟨g,0,none⟩=some (.int .i64 a):=by rw[zqbw W g 0 _ _ (0,0) h];rfl
def zay.c1 (h:zay W g a b c):W.cell? ⟨g,1,none⟩=some (.int .i64 b):=by rw[zqbw W g 1 _ _ (0,0) h];rfl
def zay.c2 (h:zay W g a b c):W.cell? ⟨g,2,none⟩=some (.int .i64 c):=by rw[zqbw W g 2 _ _ (0,0) h];rfl
def zay.free (h:zay W g a b c)(j:Nat):W.frozen? ⟨g,j,none⟩=false:=zqbx W g j _ _ h
def zay.lt (h:zay W g a b c):g<W.heap.size:=(zqad.1 h).1
def zay.grown (h:zay W g a b c)(hg:W.grownBy W' none):zay W' g a b c:=(hg.block g h.lt (by simp)).trans h
def zay.step (h:zay W g a b c){r:Nat}(hg:W.grownBy W' (some r))(hr:g≠r):zay W' g a b c:=(hg.block g h.lt (by simpa using hr)).trans h
def zay.set0 (h:zay W g a b c)(x:Int):zay (W.setCell ⟨g,0,none⟩ (.int .i64 x)) g x b c:=by
 unfold zay;rw[heap_setCell_same W g 0 _ _ (.int .i64 x) h];rfl
def zay.set1 (h:zay W g a b c)(x:Int):zay (W.setCell ⟨g,1,none⟩ (.int .i64 x)) g a x c:=by
 unfold zay;rw[heap_setCell_same W g 1 _ _ (.int .i64 x) h];rfl
def zay.set2 (h:zay W g a b c)(x:Int):zay (W.setCell ⟨g,2,none⟩ (.int .i64 x)) g a b x:=by
 unfold zay;rw[heap_setCell_same W g 2 _ _ (.int .i64 x) h];rfl
def zay.new (W:World)(a b c:Int):zay (W.alloc (.cells #[.int .i64 a,.int .i64 b,.int .i64 c] 84)) W.heap.size a b c:=by
 show(W.heap.push _)[W.heap.size]?=_;rw[zqaz]
end
def zfN {m:zah}{v:Value}{w:World}(hv:zan w v m)(hl:m.states.length<=3000)(hn:zaj m.states<=30000):Calls prog 54 #[v] w (zEq m w):=by
 obtain⟨u,rfl,hst0⟩:=hv;obtain⟨A,cap,us,rfl,hS⟩:=zeA.of hst0;clear hst0;have HS:=zHd hS;have HL:=zHd hl;have HN:=zHd hn;have g1:=zGA w (.cells #[.int .i64 m.kind,.int .i64 m.start,.string m.lead,.slice A m.states.length cap] 29) none;have b1:=zaf.new w m (.slice A m.states.length cap);generalize hW1:w.alloc (.cells #[.int .i64 m.kind,.int .i64 m.start,.string m.lead,.slice A m.states.length cap] 29)=W1 at g1 b1;have e1:W1.heap.size=w.heap.size+1:=by rw[<- hW1];simp
 have g2:=zGA W1 (.cells #[.int .i64 0,.int .i64 0,.int .i64 0] 84) none;have b2:=zay.new W1 0 0 0;rw[e1] at b2;generalize hW2:W1.alloc (.cells #[.int .i64 0,.int .i64 0,.int .i64 0] 84)=W2 at g2 b2;have e2:W2.heap.size=w.heap.size+1+1:=by rw[<- hW2];simp[e1]
 have g3:=zGA W2 (.cells #[.int .i64 (m.states.length:Int),.int .i64 0,.int .i64 0] 84) none;have b3:=zay.new W2 (m.states.length:Int) 0 0;rw[e2] at b3;have HI0:=zHd (zAI (b2.grown g3) (zAI b3 (zaa g1 (zaa g2 g3))));have HB1:=zHd (zaf.grown b1 (zaa g2 g3));rw[<- hW2,<- hW1] at HI0;obtain⟨x0,x1,x2,x3⟩:=b1.cells;rw[<- hW1] at x0 x1 x2 x3;clear hS hl hn b2 b3 e2 g3 g2 hW2 e1 b1 g1 hW1;go_enter func54,ntmps54;go_wp2;clear x0 x1 x2 x3;generalize ((w.alloc (.cells #[.int .i64 m.kind,.int .i64 m.start,.string m.lead,.slice A m.states.length cap] 29)).alloc (.cells #[.int .i64 0,.int .i64 0,.int .i64 0] 84)).alloc (.cells #[.int .i64 (m.states.length:Int),.int .i64 0,.int .i64 0] 84)=W at *
 go_loopw [13] (fun iv wr=>∃ i:Nat,i<=m.states.length/\iv=.int .i64 (i:Int)/\zay wr (w.heap.size+1) 0 0 0/\zay wr (w.heap.size+1+1) (m.states.length:Int) (zaj (m.states.take i):Int) (zau (m.states.take i):Int)/\w.grownBy wr none) (fun iv _=>m.states.length-(intOf iv).toNat)
 case atStart=>exact⟨0,zqaw _,rfl,HI0.out.1,by simpa [zaj,zau] using HI0.out.2.1,HI0.out.2.2⟩
 case round =>
  obtain⟨i,hi',rfl,h1,h2,hg⟩:=hrel
  by_cases hin:i<m.states.length
  ·obtain⟨ad,s,B,cb,rfl,hs,hu,zE,hra⟩:=(HS.out.grown hg).at_ hin
   obtain⟨y0,y1⟩:=zE;have n1:(i:Int)<(m.states.length:Int):=by omega
   have n2:IntKind.i64.wrap ((i:Int)+1)=(i:Int)+1:=by have:=HL.out;rw[zqah];omega
   have hts:=zeu hs;have hle:=zhC m.states (show i+1<=m.states.length by omega);have hle2:=zlD (m.states.take i);rw[zqan] at hle2;have hA:zaj (m.states.take (i+1))=zaj (m.states.take i)+s.arcs.length:=by rw[hts,zhB]
   have hF:zau (m.states.take (i+1))=zau (m.states.take i)+if s.fin=noB then 0 else 1:=by rw[hts,zyl]
   have HA:=zHd hA;have HF:=zHd hF;have n3:IntKind.i64.wrap ((zaj (m.states.take i):Int)+(s.arcs.length:Int))=(zaj (m.states.take i):Int)+(s.arcs.length:Int):=by have:=HN.out;rw[zqah];omega
   have n4:IntKind.i64.wrap ((zau (m.states.take i):Int)+1)=(zau (m.states.take i):Int)+1:=by have:=HL.out;rw[zqah];omega
   have hga:=zGA wr (.cells #[.string s.fin,.slice B s.arcs.length cb] 76) none;obtain⟨z0,z1⟩:=ztT wr s.fin (.slice B s.arcs.length cb);have k1:=h1.grown hga;have k2:=h2.grown hga;have gg:=zaa hg hga;have p1:=k2.c1;have p2:=k2.c2;have f1:=k2.free 1;have f2:=k2.free 2;have hgz:=hg.size;have hne:¬ wr.heap.size=w.heap.size+1+1:=by have:=h2.lt;omega
   have s1:=k2.set1 ((zaj (m.states.take i):Int)+(s.arcs.length:Int));have gs1:=zad (wr.alloc (.cells #[.string s.fin,.slice B s.arcs.length cb] 76)) ⟨w.heap.size+1+1,1,none⟩ (.int .i64 ((zaj (m.states.take i):Int)+(s.arcs.length:Int)));have r1:=k1.step gs1 (by show w.heap.size+1≠w.heap.size+1+1;omega);have G1:=zHd (zae gg gs1 (by show w.heap.size<=w.heap.size+1+1;omega));have s2:=s1.set2 ((zau (m.states.take i):Int)+1);have gs2:=zad ((wr.alloc (.cells #[.string s.fin,.slice B s.arcs.length cb] 76)).setCell ⟨w.heap.size+1+1,1,none⟩ (.int .i64 ((zaj (m.states.take i):Int)+(s.arcs.length:Int)))) ⟨w.heap.size+1+1,2,none⟩ (.int .i64 ((zau (m.states.take i):Int)+1));have R2:=zHd (r1.step gs2 (by show w.heap.size+1≠w.heap.size+1+1;omega));have G2:=zHd (zae G1.out gs2 (by show w.heap.size<=w.heap.size+1+1;omega));have q2:=s1.c2;have e2:=s1.free 2;have z0':=gs1.cell z0 (by simpa using hne);have S1:=zHd s1;have S2:=zHd s2;have R1:=zHd r1;have HIN:=zHd hin;clear hs hu hra hts hle hle2 hA hF hga h1 h2 k1 k2 gg hg s1 s2 r1 gs1 gs2 hin hi' hgz
   by_cases hf:s.fin=noB
   ·obtain⟨t1,t2⟩:=zmS hf
    have HF0:=zHd (HF.out.trans (by rw[if_pos hf,Nat.add_zero]));clear hf;go_wp2;exact⟨⟨i+1,HIN.out,by simp,R1.out,by rw[HA.out,HF0.out];exact S1.out,G1.out⟩,by have:=HIN.out;simp[intOf];omega⟩
   obtain⟨t1,t2⟩:=zuv s.fin hf;have HF0:=zHd (HF.out.trans (by rw[if_neg hf]));clear hf;go_wp2;exact⟨⟨i+1,HIN.out,by simp,R2.out,by rw[HA.out,HF0.out];exact S2.out,G2.out⟩,by have:=HIN.out;simp[intOf];omega⟩
  obtain rfl:i=m.states.length:=by omega
  have v1:¬ (m.states.length:Int)<(m.states.length:Int):=by omega
  rw[List.take_length] at h2;have p0:=h2.c0;have p1:=h2.c1;have p2:=h2.c2;have q0:=h1.c0;have q1:=h1.c1;have q2:=h1.c2;have f0:=h1.free 0;have f1:=h1.free 1;have f2:=h1.free 2;have gs1:=zad wr ⟨w.heap.size+1,0,none⟩ (.int .i64 (m.states.length:Int));have gs2:=zad (wr.setCell ⟨w.heap.size+1,0,none⟩ (.int .i64 (m.states.length:Int))) ⟨w.heap.size+1,1,none⟩ (.int .i64 (zaj m.states:Int));have gs3:=zad ((wr.setCell ⟨w.heap.size+1,0,none⟩ (.int .i64 (m.states.length:Int))).setCell ⟨w.heap.size+1,1,none⟩ (.int .i64 (zaj m.states:Int))) ⟨w.heap.size+1,2,none⟩ (.int .i64 (zau m.states:Int));have hk:=((h1.set0 (m.states.length:Int)).set1 (zaj m.states:Int)).set2 (zau m.states:Int);have HGG:=zHd (zae (zae (zae hg gs1 (by show w.heap.size<=w.heap.size+1;omega)) gs2 (by show w.heap.size<=w.heap.size+1;omega)) gs3 (by show w.heap.size<=w.heap.size+1;omega));have c0:=hk.c0;have c1:=hk.c1;have c2:=hk.c2;clear gs1 gs2 gs3 hk h1 h2 hg hin hi';go_wp2_with fail;generalize ((wr.setCell ⟨w.heap.size+1,0,none⟩ (.int .i64 (m.states.length:Int))).setCell ⟨w.heap.size+1,1,none⟩ (.int .i64 (zaj m.states:Int))).setCell ⟨w.heap.size+1,2,none⟩ (.int .i64 (zau m.states:Int))=WW at *;exact zqby (v:=.agg #[.int .i64 (m.states.length:Int),.int .i64 (zaj m.states:Int),.int .i64 (zau m.states:Int)]) (by simp[results,results54,go_sem,c0,c1,c2]) rfl ⟨rfl,HGG.out⟩
open Go.RowKit
section
variable {k:Int}
noncomputable def restI (hk:zam k)(n:Nat)(f:Nat->El k)(M:Nat->Nat->El k)(q p:Nat):List (Nat×El k):=restL (srE k hk) n f M q p
def zBl (hk:zam k)(n:Nat)(f:Nat->El k)(M:Nat->Nat->El k)(q p:Nat)(hq:q<n)(hp:p<=n):∃ R,restI hk n f M n 0=restI hk n f M q p++R:=by
 have row:∀ d p,p+d=n->∃ R,restI hk n f M q n=restI hk n f M q p++R:=fun d=>by
  induction d with
  | zero=>intro p hp;rw[show p=n by omega];exact⟨[],by simp⟩
  | succ d ih =>
   intro p hp;obtain⟨R,hR⟩:=ih (p+1) (by omega);rw[hR]
   by_cases h:f q=(srE k hk).zero∨M q p=(srE k hk).zero
   exact⟨R,by unfold restI;rw[zlB _ _ _ _ _ h]⟩;refine⟨[(p,(srE k hk).mul (f q) (M q p))]++R,?_⟩;unfold restI;rw[zsb _ _ _ _ _ h,zqbj]
 have key:∀ d q,q+d=n->∃ R,restI hk n f M n 0=restI hk n f M q 0++R:=fun d=>by
  induction d with
  | zero=>intro q hq;rw[show q=n by omega];exact⟨[],by simp⟩
  | succ d ih =>
   intro q hq;obtain⟨R,hR⟩:=ih (q+1) (by omega);rw[hR];unfold restI;rw[zlA];unfold restL;refine⟨restRow (srE k hk) f M q n++R,?_⟩;show _=(_++[])++_;rw[List.append_nil,zqbj]
 obtain⟨R,hR⟩:=key (n-(q+1)) (q+1) (by omega);obtain⟨R',hR'⟩:=row (n-p) p (by omega);refine⟨R'++R,?_⟩;rw[hR];have e:restI hk n f M (q+1) 0=restI hk n f M q n:=by unfold restI;rw[zlA]
 rw[e,hR',zqbj]
def zym (mv vv:Value)(st:Int)(ld:ByteArray)(As:Option Addr)(n cs:Nat)(w:World) :
  Calls prog 72 #[.agg #[.int .i64 k,.int .i64 st,.string ld,.slice As n cs],vv,.slice none 0 0] w (fun e w'=>e=.returned (.tuple #[vv,.int .i64 0])/\w.grownBy w' none):=by
 have hal:=zGA w (.cells #[.int .i64 k,.int .i64 st,.string ld,.slice As n cs] 29) none;have hq:=fun w=>Lib.run_eql_slice_nil (P:=prog) w 105 109 none 0 0 0 0 underlying105;have HAL:=zHd hal;clear hal;go_enter func72,ntmps72;go_wp2;go_ret2;exact⟨rfl,HAL.out⟩
def zyn (hk:zam k)(vv sv:Value)(st:Int)(ld:ByteArray)(As:Option Addr)(n cs:Nat)(f:Nat->El k)(M:Nat->Nat->El k)(w:World)(hn:n<=3000)(hn0:0<n)
  (hv:zev w vv n (fun q=>.string (tx (f q)))) (hf:∀ q,q<n->zav (f q)) (hm:zfb w sv n (fun _=>n) (fun i j=>tx (M i j))) (hM:∀ i j,i<n->j<n->zav (M i j)) :
  Calls prog 72 #[.agg #[.int .i64 k,.int .i64 st,.string ld,.slice As n cs],vv,sv] w (zjL n (zgF hk (restI hk n f M n 0)) (csE hk (restI hk n f M n 0)) w):=by
 obtain⟨Av,cv,rfl,hv1,hv2,hv3⟩:=hv;obtain⟨rs,hm1,hm2⟩:=hm;obtain⟨As2,cm,rfl,hm3,hm4,hm5⟩:=hm1;obtain⟨sd,rfl,_,_⟩:=hm5 0 hn0;have hal:=zGA w (.cells #[.int .i64 k,.int .i64 st,.string ld,.slice As n cs] 29) none;obtain⟨x0,x1,x2,x3⟩:=zmO.new w k st ld As n cs;have hvv:zev (w.alloc (.cells #[.int .i64 k,.int .i64 st,.string ld,.slice As n cs] 29)) (.slice Av n cv) n (fun q=>.string (tx (f q))):=zev.grown ⟨Av,cv,rfl,hv1,hv2,hv3⟩ hal;have hmm:zfb (w.alloc (.cells #[.int .i64 k,.int .i64 st,.string ld,.slice As n cs] 29)) (.slice (some sd) n cm) n (fun _=>n) (fun i j=>tx (M i j)):=zfb.grown ⟨rs,⟨some sd,cm,rfl,hm3,hm4,hm5⟩,hm2⟩ hal;have hsz:(w.alloc (.cells #[.int .i64 k,.int .i64 st,.string ld,.slice As n cs] 29)).heap.size=w.heap.size+1:=by simp
 have hq:=fun w=>Lib.run_eql_slice_nil (P:=prog) w 105 109 (some sd) n cm 0 0 underlying105;have HN:=zHd hn;have HAL:=zHd hal;have HV:=zHd hvv;have HF:=zHd hf;have HSZ:=zHd hsz;have HM:=zHd hmm;have HMF:=zHd hM;clear hal hvv hf hn hv1 hv2 hv3 hsz hm2 hm3 hm4 hm5 hmm hM;go_enter func72,ntmps72;go_upto_region 1 with(fail);generalize w.alloc (.cells #[.int .i64 k,.int .i64 st,.string ld,.slice As n cs] 29)=W0 at *;go_wp2_with fail;refine(zio k st ld As n cs W0 HN.out).mono ?_;rintro e w1 ⟨gb,rfl,hgb,hg1,hr1⟩;have H1:=zHd (zAI hgb (zAI hg1 hr1));have HX:=zHd x0;have nb0:some w.heap.size≠some gb:=by have:=HSZ.out;intro e;cases e;omega
 have HNB0:=zHd nb0;clear hgb hg1 hr1 x0 x1 x2 x3 hq nb0;go_wp2
 go_loopw [9] (fun iv wr=>∃ q:Nat,q<=n/\iv=.int .i64 (q:Int)/\W0.grownBy wr none/\zbe wr gb n (fun y=>tx (csE hk (restI hk n f M q 0) y))/\zgF hk (restI hk n f M q 0)) (fun iv _=>n-(intOf iv).toNat)
 case atStart=>exact⟨0,zqaw _,rfl,H1.out.2.1,H1.out.2.2.congr (fun j _=>(zbJ hk).symm),zaR.nil⟩
 case round =>
  obtain⟨q,hq',rfl,hg,hr,hac⟩:=hrel
  by_cases hqn:q<n
  ·have u1:decide (q<n)=true:=by simpa using hqn
   have u1':decide ((q:Int)<(n:Int))=true:=by simpa using hqn
   have u2:(q:Int)<(n:Int):=by omega
   have u3:(0:Int)<=(q:Int):=by omega
   have u4:IntKind.i64.wrap ((q:Int)+1)=(q:Int)+1:=by have:=HN.out;rw[zqah];omega
   obtain⟨_,_,e1,_,_,hcv⟩:=HV.out;cases e1;obtain⟨av,rfl,hbv,q1⟩:=hcv q hqn;obtain⟨rs,⟨_,_,e1,_,_,hrs⟩,zR⟩:=HM.out;cases e1;obtain⟨_,e1,hbs,q2⟩:=hrs q hqn;cases e1;obtain⟨Ar,cr,hre,hr1,hr2,hr3⟩:=zR q hqn;rw[hre] at q2;have nb1:some (av.add q).block≠some gb:=by rw[zbx];have:=H1.out.1;intro e;cases e;omega
   have nb2:some (sd.add q).block≠some gb:=by rw[zbx];have:=H1.out.1;intro e;cases e;omega
   have HI:=zHd (zAI hqn (zAI hg (zAI hr hac)));have HNB:=zHd (zAI nb1 nb2);have HC:=zHd (zAI q1 q2);have HR:=zHd hr3;clear hq' hqn hg hr hac hcv hbv hrs hbs zR hre hr1 hr2 hr3 nb1 nb2 q1 q2;go_wp2;generalize wr=wq at *
   go_loopw [10] (fun tv wr=>∃ p:Nat,p<=n/\tv=.int .i64 (p:Int)/\W0.grownBy wr none/\zbe wr gb n (fun y=>tx (csE hk (restI hk n f M q p) y))/\zgF hk (restI hk n f M q p)) (fun tv _=>n-(intOf tv).toNat)
   case atStart=>exact⟨0,zqaw _,rfl,HI.out.2.1,HI.out.2.2.1,HI.out.2.2.2⟩
   case round =>
    obtain⟨p,hp',rfl,hg,hr,hac⟩:=hrel
    by_cases hpn:p<n
    ·have x1:decide (p<n)=true:=by simpa using hpn
     have x1':decide ((p:Int)<(n:Int))=true:=(by simpa using hpn);have x2:(p:Int)<(n:Int):=(by omega);have x3:(0:Int)<=(p:Int):=(by omega);have x4:IntKind.i64.wrap ((p:Int)+1)=(p:Int)+1:=(by have:=HN.out;rw[zqah];omega);obtain⟨rd,rfl,hbr,q3⟩:=HR.out p hpn;have nb3:some (rd.add p).block≠some gb:=(by rw[zbx];have:=H1.out.1;intro e;cases e;omega);have d0:wr.drew.cell? ⟨w.heap.size,0,none⟩=some (.int .i64 k):=hg.cell HX.out (by simp);have d1:wr.drew.cell? (av.add q)=some (.string (tx (f q))):=hg.cell HC.out.1 (by simp);have d2:wr.drew.cell? (sd.add q)=some (.slice (some rd) n cr):=hg.cell HC.out.2 (by simp);have d3:wr.drew.cell? (rd.add p)=some (.string (tx (M q p))):=hg.cell q3 (by simp);have HP:=zHd (zAI hpn (zAI hg (zAI hr hac)));have HNB3:=zHd nb3;clear hp' hpn hg hr hac hbr q3 nb3;rcases zgu (tx (f q)) (zaV k) with⟨f1,z1⟩|⟨f1,z1⟩
     ·have f2:((tx (f q)).toList != (zaV k).toList)=false:=by simp[bne,f1]
      have HZ:=zHd (zhD hk (HF.out q HI.out.1) z1);clear z1;go_upto_region 10 with(fail);refine wp_region_held_drew (S:=fun W':World=>W'.cell? ⟨w.heap.size,0,none⟩=some (.int .i64 k)/\W'.cell? (av.add q)=some (.string (tx (f q)))/\W'.cell? (sd.add q)=some (.slice (some rd) n cr)/\W'.cell? (rd.add p)=some (.string (tx (M q p)))) (by kernel_rfl) (⟨d0,d1,d2,d3⟩) (fun zH=>?_);refine tk9 0 (.slice (some av) n cv) rfl zH ?_;(try simp only[zS,Act.put]);refine tk9 1 (.int .i64 (q:Int)) rfl zH ?_;(try simp only[zS,Act.put]);refine tk9 2 (.pointer (some (av.add q))) rfl zH ?_;(try simp only[zS,Act.put]);refine tk9 3 (.string (tx (f q))) rfl zH ?_;(try simp only[zS,Act.put]);refine tk9 4 (.pointer (some ⟨w.heap.size,0,none⟩)) rfl zH ?_;(try simp only[zS,Act.put]);refine tk9 5 (.int .i64 k) rfl zH ?_;(try simp only[zS,Act.put]);refine zqcc (rs:=[6]) (by kernel_rfl) (by simp) ?_;refine AllReadyH.cons rfl (fun K hK=>?_) AllReadyH.nil;go_simp;refine(zbj k _).mono ?_;rintro e w5 ⟨rfl,hg5⟩;have S5:(fun W':World=>W'.cell? ⟨w.heap.size,0,none⟩=some (.int .i64 k)/\W'.cell? (av.add q)=some (.string (tx (f q)))/\W'.cell? (sd.add q)=some (.slice (some rd) n cr)/\W'.cell? (rd.add p)=some (.string (tx (M q p)))) w5:=⟨hg5.cell d0 (by simp),hg5.cell d1 (by simp),hg5.cell d2 (by simp),hg5.cell d3 (by simp)⟩;have H5:=zHd (zaa (zag wr none) hg5);clear hg5;refine hK.out _ _ (S5) (fun zH=>?_);clear hK K;(try simp only[zS,Act.put]);refine tk9 7 (.bool true) rfl zH ?_;(try simp only[zS,Act.put]);refine tk9 8 (.bool true) rfl zH ?_;(try simp only[zS,Act.put]);refine tu9 9 rfl zH ?_;(try simp only[zS,Act.put]);refine tu9 10 rfl zH ?_;(try simp only[zS,Act.put]);refine tu9 11 rfl zH ?_;(try simp only[zS,Act.put]);refine tu9 12 rfl zH ?_;(try simp only[zS,Act.put]);refine tu9 13 rfl zH ?_;(try simp only[zS,Act.put]);refine tu9 14 rfl zH ?_;(try simp only[zS,Act.put]);refine tu9 15 rfl zH ?_;(try simp only[zS,Act.put]);refine tu9 16 rfl zH ?_;(try simp only[zS,Act.put]);refine tu9 17 rfl zH ?_;(try simp only[zS,Act.put]);refine tu9 18 rfl zH ?_;(try simp only[zS,Act.put]);refine tu9 19 rfl zH ?_;(try simp only[zS,Act.put]);refine tk9 20 (.bool true) rfl zH ?_;(try simp only[zS,Act.put]);refine wpAnyH_done (by kernel_rfl) ?_ _;clear zH;go_wp2;have e:restI hk n f M q (p+1)=restI hk n f M q p:=(by unfold restI;rw[zlB _ _ _ _ _ (.inl HZ.out)]);refine⟨⟨p+1,HP.out.1,by simp,zaa HP.out.2.1 H5.out,?_,?_⟩,by have:=HP.out.1;simp[intOf];omega⟩
      rw[e];exact HP.out.2.2.1.grown H5.out;rw[e];exact HP.out.2.2.2
     have f2:((tx (f q)).toList != (zaV k).toList)=true:=(by simp[bne,f1]);have HZ:Hid (¬ f q=(srE k hk).zero):=zHd (fun h=>z1 (by rw[h,zbJ]));clear z1;rcases zgu (tx (M q p)) (zaV k) with⟨m1,z1⟩|⟨m1,z1⟩
     ·have m2:((tx (M q p)).toList != (zaV k).toList)=false:=by simp[bne,m1]
      have HZ2:=zHd (zhD hk (HMF.out q p HI.out.1 HP.out.1) z1);clear z1;go_upto_region 10 with(fail);refine wp_region_held_drew (S:=fun W':World=>W'.cell? ⟨w.heap.size,0,none⟩=some (.int .i64 k)/\W'.cell? (av.add q)=some (.string (tx (f q)))/\W'.cell? (sd.add q)=some (.slice (some rd) n cr)/\W'.cell? (rd.add p)=some (.string (tx (M q p)))) (by kernel_rfl) (⟨d0,d1,d2,d3⟩) (fun zH=>?_);refine tk9 0 (.slice (some av) n cv) rfl zH ?_;(try simp only[zS,Act.put]);refine tk9 1 (.int .i64 (q:Int)) rfl zH ?_;(try simp only[zS,Act.put]);refine tk9 2 (.pointer (some (av.add q))) rfl zH ?_;(try simp only[zS,Act.put]);refine tk9 3 (.string (tx (f q))) rfl zH ?_;(try simp only[zS,Act.put]);refine tk9 4 (.pointer (some ⟨w.heap.size,0,none⟩)) rfl zH ?_;(try simp only[zS,Act.put]);refine tk9 5 (.int .i64 k) rfl zH ?_;(try simp only[zS,Act.put]);refine zqcc (rs:=[6]) (by kernel_rfl) (by simp) ?_;refine AllReadyH.cons rfl (fun K hK=>?_) AllReadyH.nil;go_simp;refine(zbj k _).mono ?_;rintro e w5 ⟨rfl,hg5⟩;have S5:(fun W':World=>W'.cell? ⟨w.heap.size,0,none⟩=some (.int .i64 k)/\W'.cell? (av.add q)=some (.string (tx (f q)))/\W'.cell? (sd.add q)=some (.slice (some rd) n cr)/\W'.cell? (rd.add p)=some (.string (tx (M q p)))) w5:=⟨hg5.cell d0 (by simp),hg5.cell d1 (by simp),hg5.cell d2 (by simp),hg5.cell d3 (by simp)⟩;have H5:=zHd (zaa (zag wr none) hg5);clear hg5;refine hK.out _ _ (S5) (fun zH=>?_);clear hK K;(try simp only[zS,Act.put]);refine tk9 7 (.bool false) rfl zH ?_;(try simp only[zS,Act.put]);refine tk9 8 (.bool false) rfl zH ?_;(try simp only[zS,Act.put]);refine tk9 9 (.slice (some sd) n cm) rfl zH ?_;(try simp only[zS,Act.put]);refine tk9 10 (.int .i64 (q:Int)) rfl zH ?_;(try simp only[zS,Act.put]);refine tk9 11 (.pointer (some (sd.add q))) rfl zH ?_;(try simp only[zS,Act.put]);refine tk9 12 (.slice (some rd) n cr) rfl zH ?_;(try simp only[zS,Act.put]);refine tk9 13 (.int .i64 (p:Int)) rfl zH ?_;(try simp only[zS,Act.put]);refine tk9 14 (.pointer (some (rd.add p))) rfl zH ?_;(try simp only[zS,Act.put]);refine tk9 15 (.string (tx (M q p))) rfl zH ?_;(try simp only[zS,Act.put]);refine tk9 16 (.pointer (some ⟨w.heap.size,0,none⟩)) rfl zH ?_;(try simp only[zS,Act.put]);refine tk9 17 (.int .i64 k) rfl zH ?_;(try simp only[zS,Act.put]);refine zqcc (rs:=[18]) (by kernel_rfl) (by simp) ?_;refine AllReadyH.cons rfl (fun K hK=>?_) AllReadyH.nil;go_simp;refine(zbj k _).mono ?_;rintro e w6 ⟨rfl,hg6⟩;have S6:(fun W':World=>W'.cell? ⟨w.heap.size,0,none⟩=some (.int .i64 k)/\W'.cell? (av.add q)=some (.string (tx (f q)))/\W'.cell? (sd.add q)=some (.slice (some rd) n cr)/\W'.cell? (rd.add p)=some (.string (tx (M q p)))) w6:=⟨hg6.cell S5.1 (by simp),hg6.cell S5.2.1 (by simp),hg6.cell S5.2.2.1 (by simp),hg6.cell S5.2.2.2 (by simp)⟩;have H6:=zHd (zaa H5.out hg6);clear hg6;refine hK.out _ _ (S6) (fun zH=>?_);clear hK K;(try simp only[zS,Act.put]);refine tk9 19 (.bool true) rfl zH ?_;(try simp only[zS,Act.put]);refine tk9 20 (.bool true) rfl zH ?_;(try simp only[zS,Act.put]);refine wpAnyH_done (by kernel_rfl) ?_ _;clear zH;go_wp2;have e:restI hk n f M q (p+1)=restI hk n f M q p:=(by unfold restI;rw[zlB _ _ _ _ _ (.inr HZ2.out)]);refine⟨⟨p+1,HP.out.1,by simp,zaa HP.out.2.1 H6.out,?_,?_⟩,by have:=HP.out.1;simp[intOf];omega⟩
      rw[e];exact HP.out.2.2.1.grown H6.out;rw[e];exact HP.out.2.2.2
     have m2:((tx (M q p)).toList != (zaV k).toList)=true:=(by simp[bne,m1]);have HZ2:Hid (¬ M q p=(srE k hk).zero):=zHd (fun h=>z1 (by rw[h,zbJ]));clear z1;go_upto_region 10 with(fail);refine wp_region_held_drew (S:=fun W':World=>W'.cell? ⟨w.heap.size,0,none⟩=some (.int .i64 k)/\W'.cell? (av.add q)=some (.string (tx (f q)))/\W'.cell? (sd.add q)=some (.slice (some rd) n cr)/\W'.cell? (rd.add p)=some (.string (tx (M q p)))) (by kernel_rfl) (⟨d0,d1,d2,d3⟩) (fun zH=>?_);refine tk9 0 (.slice (some av) n cv) rfl zH ?_;(try simp only[zS,Act.put]);refine tk9 1 (.int .i64 (q:Int)) rfl zH ?_;(try simp only[zS,Act.put]);refine tk9 2 (.pointer (some (av.add q))) rfl zH ?_;(try simp only[zS,Act.put]);refine tk9 3 (.string (tx (f q))) rfl zH ?_;(try simp only[zS,Act.put]);refine tk9 4 (.pointer (some ⟨w.heap.size,0,none⟩)) rfl zH ?_;(try simp only[zS,Act.put]);refine tk9 5 (.int .i64 k) rfl zH ?_;(try simp only[zS,Act.put]);refine zqcc (rs:=[6]) (by kernel_rfl) (by simp) ?_;refine AllReadyH.cons rfl (fun K hK=>?_) AllReadyH.nil;go_simp;refine(zbj k _).mono ?_;rintro e w5 ⟨rfl,hg5⟩;have S5:(fun W':World=>W'.cell? ⟨w.heap.size,0,none⟩=some (.int .i64 k)/\W'.cell? (av.add q)=some (.string (tx (f q)))/\W'.cell? (sd.add q)=some (.slice (some rd) n cr)/\W'.cell? (rd.add p)=some (.string (tx (M q p)))) w5:=⟨hg5.cell d0 (by simp),hg5.cell d1 (by simp),hg5.cell d2 (by simp),hg5.cell d3 (by simp)⟩;have H5:=zHd (zaa (zag wr none) hg5);clear hg5;refine hK.out _ _ (S5) (fun zH=>?_);clear hK K;(try simp only[zS,Act.put]);refine tk9 7 (.bool false) rfl zH ?_;(try simp only[zS,Act.put]);refine tk9 8 (.bool false) rfl zH ?_;(try simp only[zS,Act.put]);refine tk9 9 (.slice (some sd) n cm) rfl zH ?_;(try simp only[zS,Act.put]);refine tk9 10 (.int .i64 (q:Int)) rfl zH ?_;(try simp only[zS,Act.put]);refine tk9 11 (.pointer (some (sd.add q))) rfl zH ?_;(try simp only[zS,Act.put]);refine tk9 12 (.slice (some rd) n cr) rfl zH ?_;(try simp only[zS,Act.put]);refine tk9 13 (.int .i64 (p:Int)) rfl zH ?_;(try simp only[zS,Act.put]);refine tk9 14 (.pointer (some (rd.add p))) rfl zH ?_;(try simp only[zS,Act.put]);refine tk9 15 (.string (tx (M q p))) rfl zH ?_;(try simp only[zS,Act.put]);refine tk9 16 (.pointer (some ⟨w.heap.size,0,none⟩)) rfl zH ?_;(try simp only[zS,Act.put]);refine tk9 17 (.int .i64 k) rfl zH ?_;(try simp only[zS,Act.put]);refine zqcc (rs:=[18]) (by kernel_rfl) (by simp) ?_;refine AllReadyH.cons rfl (fun K hK=>?_) AllReadyH.nil;go_simp;refine(zbj k _).mono ?_;rintro e w6 ⟨rfl,hg6⟩;have S6:(fun W':World=>W'.cell? ⟨w.heap.size,0,none⟩=some (.int .i64 k)/\W'.cell? (av.add q)=some (.string (tx (f q)))/\W'.cell? (sd.add q)=some (.slice (some rd) n cr)/\W'.cell? (rd.add p)=some (.string (tx (M q p)))) w6:=⟨hg6.cell S5.1 (by simp),hg6.cell S5.2.1 (by simp),hg6.cell S5.2.2.1 (by simp),hg6.cell S5.2.2.2 (by simp)⟩;have H6:=zHd (zaa H5.out hg6);clear hg6;refine hK.out _ _ (S6) (fun zH=>?_);clear hK K;(try simp only[zS,Act.put]);refine tk9 19 (.bool false) rfl zH ?_;(try simp only[zS,Act.put]);refine tk9 20 (.bool false) rfl zH ?_;(try simp only[zS,Act.put]);refine wpAnyH_done (by kernel_rfl) ?_ _;clear zH;obtain⟨c0,c1,c2,c3⟩:=S6;clear d0 d1 d2 d3 S5;go_upto_region 11 with(fail);have d0:w6.drew.cell? ⟨w.heap.size,0,none⟩=some (.int .i64 k):=c0;have d1:w6.drew.cell? (av.add q)=some (.string (tx (f q))):=c1;have d2:w6.drew.cell? (sd.add q)=some (.slice (some rd) n cr):=c2;have d3:w6.drew.cell? (rd.add p)=some (.string (tx (M q p))):=c3;clear c0 c1 c2 c3;have HWU:=zHd (zaa H6.out (zag w6 none))
     go_region_held2 (fun W':World=>W'.cell? ⟨w.heap.size,0,none⟩=some (.int .i64 k)/\W'.cell? (av.add q)=some (.string (tx (f q)))/\W'.cell? (sd.add q)=some (.slice (some rd) n cr)/\W'.cell? (rd.add p)=some (.string (tx (M q p)))) (first|exact⟨d0,d1,d2,d3⟩|exact S7|go_keep)
      (first|(go_at_call 112;refine(zmP hk gb n p n (csE hk (restI hk n f M q p)) (f q) (M q p) (HF.out q HI.out.1) (HMF.out q p HI.out.1 HP.out.1) (fun j _=>zaR.all HP.out.2.2.2 (zbp hk) j) HP.out.1 _ (HP.out.2.2.1.grown HWU.out)).mono ?_;rintro e w7 ⟨E,rfl,hg7,hcase⟩;have S7:(fun W':World=>W'.cell? ⟨w.heap.size,0,none⟩=some (.int .i64 k)/\W'.cell? (av.add q)=some (.string (tx (f q)))/\W'.cell? (sd.add q)=some (.slice (some rd) n cr)/\W'.cell? (rd.add p)=some (.string (tx (M q p)))) w7:=⟨hg7.cell d0 HNB0.out,hg7.cell d1 HNB.out.1,hg7.cell d2 HNB.out.2,hg7.cell d3 HNB3.out⟩;have H7:=zHd (zAI hg7 hcase);clear hg7 hcase))
     all_goals
      have hg8:=zae (zaa HP.out.2.1 HWU.out) H7.out.1 H1.out.1;have HG8:=zHd hg8;have e:restI hk n f M q (p+1)=restI hk n f M q p++[(p,(srE k hk).mul (f q) (M q p))]:=(by unfold restI;rw[zsb _ _ _ _ _ (fun h=>by rcases h with h|h;exact HZ.out h;exact HZ2.out h)]);have HE:=zHd e;clear hg8 d0 d1 d2 d3 S7 e;rcases H7.out.2 with⟨rfl,p1,p2,p3⟩|⟨rfl,p1,p2⟩
      ·have HQ:=zHd (zAI p1 (zAI p2 p3))
       clear p1 p2 p3;go_wp2;refine⟨⟨p+1,HP.out.1,by simp,HG8.out,?_,?_⟩,by have:=HP.out.1;simp[intOf];omega⟩
       ·rw[HE.out]
        refine HQ.out.2.2.congr (fun j _=>?_);unfold csE;rw[zib]
        by_cases e2:j=p
        rw[if_pos e2,if_pos e2.symm,e2];rw[if_neg e2,if_neg (fun h=>e2 h.symm)]
       rw[HE.out];exact zaR.snoc HP.out.2.2.2 HQ.out.1 HQ.out.2.1
      have HQ:=zHd p1;clear p1 p2;go_wp2;go_ret2;refine⟨zaa HAL.out HG8.out,.inr ⟨fun zf=>HQ.out ?_,rfl⟩⟩;obtain⟨R,hR⟩:=zBl hk n f M q (p+1) HI.out.1 (by have:=HP.out.1;omega);rw[hR,HE.out,zqbj] at zf;exact zaR.at_ zf
    obtain rfl:p=n:=by omega
    have v1:decide (p<p)=false:=(by simp);have v1':decide ((p:Int)<(p:Int))=false:=(by simp);have HJ:=zHd (zAI hg (zAI hr hac));clear hp' hpn hg hr hac;go_wp2;have e:restI hk p f M (q+1) 0=restI hk p f M q p:=(by unfold restI;rw[zlA]);refine⟨⟨q+1,HI.out.1,by simp,HJ.out.1,?_,?_⟩,by have:=HI.out.1;simp[intOf];omega⟩;rw[e];exact HJ.out.2.1;rw[e];exact HJ.out.2.2
  obtain rfl:q=n:=by omega
  have v1:decide (q<q)=false:=by simp
  have v1':decide ((q:Int)<(q:Int))=false:=by simp
  have HJ:=zHd (zAI hg (zAI hr hac));clear hq' hqn hg hr hac;go_wp2;go_ret2;exact⟨zaa HAL.out HJ.out.1,.inl ⟨HJ.out.2.2,gb,rfl,by have:=H1.out.1;have:=HSZ.out;omega,HJ.out.2.1⟩⟩
end
open Go.RowKit
section
variable {k:Int}
def zmY (hk:zam k)(n:Nat)(va vb:Value)(fa fb:Nat->El k)(w:World)(hn:n<=3000)(ha:zev w va n (fun q=>.string (tx (fa q))))(hb:zev w vb n (fun q=>.string (tx (fb q))))(hfa:∀ q,q<n->zav (fa q))(hfb:∀ q,q<n->zav (fb q)) :
  Calls prog 74 #[.int .i64 k,va,vb] w (zjL n (∀ q,q<n->zav ((srE k hk).add (fa q) (fb q))) (fun q=>(srE k hk).add (fa q) (fb q)) w):=by
 obtain⟨Aa,ca,rfl,ha1,ha2,ha3⟩:=ha;obtain⟨Ab,cb,rfl,hb1,hb2,hb3⟩:=hb;obtain⟨j0,ji,jz0,jz1,jz2⟩:=info_parts zoJ;have n0:¬ (n:Int)<0:=by omega
 have hop:∀ q,q<n->SOp 59 k (tx (fa q)) (tx (fb q)) (zdm ((srE k hk).add (fa q) (fb q)).1):=fun q hq=>zix (zcW (hfa q hq)) (zcW (hfb q hq));have HN:=zHd hn;have HA:=zHd ha3;have HB:=zHd hb3;have HOP:=zHd hop;clear hn ha1 ha2 ha3 hb1 hb2 hb3 hfa hfb hop;go_enter func74,ntmps74;go_wp2_with (at_make;refine wpList_make_full _ rfl _ _ 109 rfl w.heap.size 9 j0 (.string ⟨#[]⟩) 1 underlying109 ji jz0 jz1 _ _ _ _ n rfl rfl ?c0 ?c1 ?c2 (by have:=HN.out;unfold maxLen;omega) (zqab _) ?_)
 case c0=>omega
 case c1=>omega
 case c2=>have:=HN.out;first|omega|(rw[jz2];omega)
 intro w1 zO hgr;have zF:=zbI.start zO hgr;have HF:=zHd zF;clear zO hgr zF;go_wp2
 go_loopw [9] (fun iv wr=>∃ i:Nat,i<=n/\iv=.int .i64 (i:Int)/\zbI 9 (.string ⟨#[]⟩) n (zfA (fun q=>tx ((srE k hk).add (fa q) (fb q))) i) w wr/\∀ q,q<i->zav ((srE k hk).add (fa q) (fb q))) (fun iv _=>n-(intOf iv).toNat)
 case atStart=>exact⟨0,zqaw _,rfl,HF.out,fun q hq=>absurd hq (Nat.not_lt_zero q)⟩
 case round =>
  obtain⟨i,hi',rfl,hf,zf⟩:=hrel
  by_cases hin:i<n
  ·have u1:decide (i<n)=true:=by simpa using hin
   have u1':decide ((i:Int)<(n:Int))=true:=by simpa using hin
   have u2:(i:Int)<(n:Int):=by omega
   have u3:(0:Int)<=(i:Int):=by omega
   have u4:IntKind.i64.wrap ((i:Int)+1)=(i:Int)+1:=by have:=HN.out;rw[zqah];omega
   obtain⟨ad,rfl,hba,q1⟩:=HA.out i hin;obtain⟨bd,rfl,hbb,q2⟩:=HB.out i hin;have d1:wr.drew.cell? (ad.add i)=some (.string (tx (fa i))):=(zhg (ad:=ad.add i) (by rw[zbx];exact hf.gr.block ad.block hba (by simp))).trans q1;have d2:wr.drew.cell? (bd.add i)=some (.string (tx (fb i))):=(zhg (ad:=bd.add i) (by rw[zbx];exact hf.gr.block bd.block hbb (by simp))).trans q2;have HI:=zHd (zAI hin (zAI hf zf));clear hi' hin hf zf hba hbb q1 q2;rcases zgi ((srE k hk).add (fa i) (fb i)) with⟨hfi,hE⟩|⟨hfi,hE⟩
   ·have hop:=HOP.out i HI.out.1
    rw[hE] at hop;have HO:=zHd hop;have HFI:=zHd hfi;clear hop hfi hE;go_upto_region 5 with(fail)
    go_region_held2 (fun W'=>W'.cell? (ad.add i)=some (.string (tx (fa i)))/\W'.cell? (bd.add i)=some (.string (tx (fb i)))) (first|exact⟨d1,d2⟩|exact S5|go_keep)
     (first|(go_at_call 59;refine(HO.out _).mono ?_;rintro e w5 ⟨rfl,hg5⟩;have S5:(fun W':World=>W'.cell? (ad.add i)=some (.string (tx (fa i)))/\W'.cell? (bd.add i)=some (.string (tx (fb i)))) w5:=⟨hg5.cell d1 (by simp),hg5.cell d2 (by simp)⟩;have H5:=zHd (zaa (zag wr none) hg5);clear hg5))
    all_goals
     have hf2:=HI.out.2.1.grown H5.out;have c2:=hf2.cell (by rw[zeO];exact HI.out.1);have z2:=hf2.free i;rw[zeO] at c2;have hp:=hf2.put (by rw[zeO];exact HI.out.1) (.string (tx ((srE k hk).add (fa i) (fb i))));rw[zeO] at hp;have hs:=zqb (fun q=>tx ((srE k hk).add (fa q) (fb q))) i;rw[hs] at hp;have HP:=zHd hp;clear hf2 hp hs d1 d2 S5;go_wp2;refine⟨⟨i+1,HI.out.1,by simp,HP.out,fun q hq=>?_⟩,by have:=HI.out.1;simp[intOf];omega⟩
     by_cases e:q<i
     exact HI.out.2.2 q e;rw[show q=i by omega];exact HFI.out
   have hop:=HOP.out i HI.out.1;rw[hE] at hop;have HO:=zHd hop;have HFI:=zHd hfi;clear hop hfi hE;go_upto_region 5 with(fail)
   go_region_held2 (fun W'=>W'.cell? (ad.add i)=some (.string (tx (fa i)))/\W'.cell? (bd.add i)=some (.string (tx (fb i)))) (first|exact⟨d1,d2⟩|exact S5|go_keep)
    (first|(go_at_call 59;refine(HO.out _).mono ?_;rintro e w5 ⟨rfl,hg5⟩;have S5:(fun W':World=>W'.cell? (ad.add i)=some (.string (tx (fa i)))/\W'.cell? (bd.add i)=some (.string (tx (fb i)))) w5:=⟨hg5.cell d1 (by simp),hg5.cell d2 (by simp)⟩;have H5:=zHd (zaa (zag wr none) hg5);clear hg5))
   all_goals
    clear d1 d2 S5;go_wp2;go_ret2;exact⟨zaa HI.out.2.1.gr H5.out,.inr ⟨fun h=>HFI.out (h i HI.out.1),rfl⟩⟩
  obtain rfl:i=n:=by omega
  have v1:decide (i<i)=false:=by simp
  have v1':decide ((i:Int)<(i:Int))=false:=by simp
  have HJ:=zHd (zAI hf zf);clear hi' hin hf zf;go_wp2;go_ret2;have hr:=HJ.out.1.row;rw[zqi] at hr;exact⟨HJ.out.1.gr,.inl ⟨HJ.out.2,_,rfl,zqab _,hr⟩⟩
def zoT {k:Int}(P:Prop)(F:El k)(w:World)(e:Ending)(w':World):Prop :=
 w.grownBy w' none/\((P/\e=.returned (.tuple #[.string (tx F),.int .i64 0]))∨(¬ P/\e=.returned (.tuple #[.string ⟨#[]⟩,.int .i64 2])))
noncomputable def finI (hk:zam k)(l:List zac)(f:Nat->El k)(q:Nat):List (Nat×El k):=finL (srE k hk) (vE hk) l f q
def zEr (hk:zam k)(l:List zac)(f:Nat->El k)(n q:Nat)(hq:q<=n):∃ R,finI hk l f n=finI hk l f q++R:=by
 obtain⟨d,rfl⟩:∃ d,n=q+d:=⟨n-q,by omega⟩
 induction d with
 | zero=>exact⟨[],by simp⟩
 | succ d ih =>
  obtain⟨R,hR⟩:=ih (by omega);show ∃ R,finI hk l f (q+d+1)=_
  by_cases h:stF l (q+d)=noB
  exact⟨R,by unfold finI at *;rw[zsc _ _ _ _ h,hR]⟩;exact⟨R++[(0,(srE k hk).mul (f (q+d)) (vE hk (stF l (q+d))))],by unfold finI at *;rw[zuj _ _ _ _ h,hR,zqbj]⟩
def zuA (hk:zam k)(l:List zac)(us:List Value)(As:Option Addr)(n cs:Nat)(st:Int)(ld:ByteArray)(vv:Value)(f:Nat->El k)(w:World)(hln:l.length=n)(hn:n<=3000)(hok:zmR k l)(hst:zmI w l us As cs)
  (hv:zev w vv n (fun q=>.string (tx (f q)))) (hf:∀ q,q<n->zav (f q)) :
  Calls prog 75 #[.agg #[.int .i64 k,.int .i64 st,.string ld,.slice As n cs],vv] w (zoT (zgF hk (finI hk l f n)) (csE hk (finI hk l f n) 0) w):=by
 obtain⟨Av,cv,rfl,hv1,hv2,hv3⟩:=hv;have hal:=zGA w (.cells #[.int .i64 k,.int .i64 st,.string ld,.slice As n cs] 29) none;obtain⟨x0,x1,x2,x3⟩:=zmO.new w k st ld As n cs;have hvv:zev (w.alloc (.cells #[.int .i64 k,.int .i64 st,.string ld,.slice As n cs] 29)) (.slice Av n cv) n (fun q=>.string (tx (f q))):=zev.grown ⟨Av,cv,rfl,hv1,hv2,hv3⟩ hal;have hsz:(w.alloc (.cells #[.int .i64 k,.int .i64 st,.string ld,.slice As n cs] 29)).heap.size=w.heap.size+1:=by simp
 have HN:=zHd (zAI hn hln);have HAL:=zHd hal;have HOK:=zHd hok;have HST:=zHd (hst.grown hal);have HV:=zHd hvv;have HF:=zHd hf;have HSZ:=zHd hsz;clear hal hst hok hvv hf hn hv1 hv2 hv3 hsz;go_enter func75,ntmps75;go_upto_region 1 with(fail);generalize w.alloc (.cells #[.int .i64 k,.int .i64 st,.string ld,.slice As n cs] 29)=W0 at *;go_wp2_with fail;refine(zbj k _).mono ?_;rintro e w1 ⟨rfl,hg1⟩;have hal2:=zGA w1 (.cells #[.string (zaV k)] 9) none;have hr1:zbe (w1.alloc (.cells #[.string (zaV k)] 9)) w1.heap.size 1 (fun _=>zaV k):=zqce w1 _;have H1:=zHd (zAI hg1.size (zAI (zaa hg1 hal2) hr1));have HX:=zHd (zAI x0 x3);have nb0:some w.heap.size≠some w1.heap.size:=by have:=HSZ.out;have:=hg1.size;intro e;have e:=Option.some.inj e;omega
 have HNB0:=zHd nb0;clear hg1 hal2 hr1 x0 x1 x2 x3 nb0;go_wp2;generalize hgb:w1.heap.size=gb at *
 go_loopw [7] (fun iv wr=>∃ q:Nat,q<=n/\iv=.int .i64 (q:Int)/\W0.grownBy wr none/\zbe wr gb 1 (fun y=>tx (csE hk (finI hk l f q) y))/\zgF hk (finI hk l f q)) (fun iv _=>n-(intOf iv).toNat)
 case atStart=>exact⟨0,zqaw _,rfl,H1.out.2.1,H1.out.2.2.congr (fun j _=>(zbJ hk).symm),zaR.nil⟩
 case round =>
  obtain⟨q,hq',rfl,hg,hr,hac⟩:=hrel;have y0:=hg.cell HX.out.1 (by simp);have y3:=hg.cell HX.out.2 (by simp)
  by_cases hqn:q<n
  ·have u1:decide (q<n)=true:=by simpa using hqn
   have u1':decide ((q:Int)<(n:Int))=true:=by simpa using hqn
   have u2:(q:Int)<(n:Int):=by omega
   have u3:(0:Int)<=(q:Int):=by omega
   have u4:IntKind.i64.wrap ((q:Int)+1)=(q:Int)+1:=by have:=HN.out.1;rw[zqah];omega
   obtain⟨_,_,e1,_,_,hcv⟩:=HV.out;cases e1;obtain⟨av,rfl,hbv,q1⟩:=hcv q hqn;obtain⟨ad,s,u,rfl,hbl,hls,hus,hsa,hsl⟩:=HST.out.at_ q (by rw[HN.out.2];exact hqn);have hse:=zkM hls;have hbe:=zhj hg;have q2:=(hsa.below hbe (by rw[zbx];exact hbl)).c0;have nb1:some (av.add q).block≠some gb:=by rw[zbx];have:=H1.out.1;intro e;have e:=Option.some.inj e;omega
   have nb2:some (ad.add (q*2)).block≠some gb:=by rw[zbx];have:=H1.out.1;intro e;have e:=Option.some.inj e;omega
   have d1:=hg.cell q1 (by simp);have HI:=zHd (zAI hqn (zAI hg (zAI hr hac)));have HNB:=zHd (zAI nb1 nb2);have HSE:=zHd hse;clear hq' hqn hg hr hac hcv hbv q1 hbl hls hus hsa hsl hbe nb1 nb2 hse;rcases zgu s.fin ⟨#[]⟩ with⟨f1,z1⟩|⟨f1,z1⟩
   ·have f2:(s.fin.toList != (ByteArray.mk #[]).toList)=false:=by rw[bne,f1];rfl
    have f3:s.fin.toList=[]:=(by rw[z1,Lib.toList_data]);have f4:s.fin.toList.isEmpty=true:=(by rw[f3];rfl);have HZ:=zHd z1;clear z1;go_wp2;have e:finI hk l f (q+1)=finI hk l f q:=(by unfold finI;rw[zsc _ _ _ _ (by rw[HSE.out,HZ.out];rfl)]);refine⟨⟨q+1,HI.out.1,by simp,HI.out.2.1,?_,?_⟩,by have:=HI.out.1;simp[intOf];omega⟩;rw[e];exact HI.out.2.2.1;rw[e];exact HI.out.2.2.2
   have f2:(s.fin.toList != (ByteArray.mk #[]).toList)=true:=by rw[bne,f1];rfl
   have f3:¬ s.fin.toList=[]:=fun h=>z1 (by
    rw[Lib.toList_data] at h;exact ByteArray.ext (Array.toList_inj.1 h))
   have f4:s.fin.toList.isEmpty=false:=by cases h:s.fin.toList with
    | nil=>exact absurd h f3
    | cons a b=>rfl
   obtain⟨hwt,hwf⟩:=znH hk ((HOK.out.fins q (by rw[HN.out.2];exact HI.out.1)).resolve_left (by rw[HSE.out];exact z1));rw[HSE.out] at hwt hwf;have e:finI hk l f (q+1)=finI hk l f q++[(0,(srE k hk).mul (f q) (vE hk s.fin))]:=(by unfold finI;rw[zuj _ _ _ _ (by rw[HSE.out];exact z1),HSE.out]);have HE:=zHd e;have HW:=zHd (zAI hwf hwt);clear z1 e hwf hwt;go_upto_region 6 with(fail);have d0:wr.drew.cell? ⟨w.heap.size,0,none⟩=some (.int .i64 k):=y0;have d3:wr.drew.cell? ⟨w.heap.size,3,none⟩=some (.slice (some ad) n cs):=y3;have d1:wr.drew.cell? (av.add q)=some (.string (tx (f q))):=d1;have d2:wr.drew.cell? (ad.add (q*2))=some (.string (tx (vE hk s.fin))):=(by rw[<- HW.out.2];exact q2);clear y0 y3 q2
   go_region_held2 (fun W'=>W'.cell? ⟨w.heap.size,0,none⟩=some (.int .i64 k)/\W'.cell? ⟨w.heap.size,3,none⟩=some (.slice (some ad) n cs)/\W'.cell? (av.add q)=some (.string (tx (f q)))/\W'.cell? (ad.add (q*2))=some (.string (tx (vE hk s.fin)))) (first|exact⟨d0,d3,d1,d2⟩|exact S7|go_keep)
    (first|(go_at_call 112;refine(zmP hk gb 1 0 1 (csE hk (finI hk l f q)) (f q) (vE hk s.fin) (HF.out q HI.out.1) HW.out.1 (fun j _=>zaR.all HI.out.2.2.2 (zbp hk) j) (by omega) _ (HI.out.2.2.1.grown (zag wr none))).mono ?_;rintro e w7 ⟨E,rfl,hg7,hcase⟩;have S7:(fun W':World=>W'.cell? ⟨w.heap.size,0,none⟩=some (.int .i64 k)/\W'.cell? ⟨w.heap.size,3,none⟩=some (.slice (some ad) n cs)/\W'.cell? (av.add q)=some (.string (tx (f q)))/\W'.cell? (ad.add (q*2))=some (.string (tx (vE hk s.fin)))) w7:=⟨hg7.cell d0 HNB0.out,hg7.cell d3 HNB0.out,hg7.cell d1 HNB.out.1,hg7.cell d2 HNB.out.2⟩;have H7:=zHd (zAI hg7 hcase);clear hg7 hcase))
   all_goals
    have hg8:=zae (zaa HI.out.2.1 (zag wr none)) H7.out.1 H1.out.1;have HG8:=zHd hg8;clear hg8 d0 d1 d2 d3 S7;rcases H7.out.2 with⟨rfl,p1,p2,p3⟩|⟨rfl,p1,p2⟩
    ·have HQ:=zHd (zAI p1 (zAI p2 p3))
     clear p1 p2 p3;go_wp2;refine⟨⟨q+1,HI.out.1,by simp,HG8.out,?_,?_⟩,by have:=HI.out.1;simp[intOf];omega⟩
     ·rw[HE.out]
      refine HQ.out.2.2.congr (fun j hj=>?_);obtain rfl:j=0:=by omega
      unfold csE;rw[zib,if_pos rfl,if_pos rfl]
     rw[HE.out];exact zaR.snoc HI.out.2.2.2 HQ.out.1 HQ.out.2.1
    have HQ:=zHd p1;clear p1 p2;go_wp2;go_ret2;refine⟨zaa HAL.out HG8.out,.inr ⟨fun zf=>HQ.out ?_,rfl⟩⟩;obtain⟨R,hR⟩:=zEr hk l f n (q+1) (by have:=HI.out.1;omega);rw[hR,HE.out,zqbj] at zf;exact zaR.at_ zf
  obtain rfl:q=n:=by omega
  have v1:decide (q<q)=false:=by simp
  have v1':decide ((q:Int)<(q:Int))=false:=by simp
  have l0:=hr.cell (j:=0) (by omega);have HJ:=zHd (zAI hg hac);clear hq' hqn hg hr hac;go_wp2;go_ret2;exact⟨zaa HAL.out HJ.out.1,.inl ⟨HJ.out.2,rfl⟩⟩
end
open Go.RowKit
def zfb.congr9 {w:World}{v:Value}{n m:Nat}{G R:Nat->Nat->ByteArray}(h:zfb w v n (fun _=>m) G)(e:∀ i,i<n->∀ j,j<m->G i j=R i j):zfb w v n (fun _=>m) R:=by
 obtain⟨rs,h1,h2⟩:=h;refine⟨rs,h1,fun i hi=>?_⟩;obtain⟨A,c,e1,e2,e3,e4⟩:=h2 i hi;refine⟨A,c,e1,e2,e3,fun j hj=>?_⟩;obtain⟨ad,q1,q2,q3⟩:=e4 j hj;exact⟨ad,q1,q2,q3.trans (by dsimp only;rw[e i hi j hj])⟩
def zBm {k:Int}(hk:zam k)(n:Nat)(A:Nat->Nat->El k)(w:World)(e:Ending)(w':World):Prop :=
 ∃ v f,e=.returned (.tuple #[v,.int .i64 f])/\w.grownBy w' none/\((f=0/\zfb w' v n (fun _=>n) (fun i j=>tx (stM (srE k hk) A n i j))/\(∃ c,v=.slice c n n)/\∀ i j,i<n->j<n->zav (stM (srE k hk) A n i j))∨(f=2/\v=.slice none 0 0/\¬ zmW hk A n))
def zBn {k:Int}(hk:zam k)(n:Nat)(ln:Nat->Nat)(G:Nat->Nat->ByteArray)(A:Nat->Nat->El k)(av:Value)(w:World)(hn:n<=60)(ha:zfb w av n ln G)(hs:∀ i j,(G i j).size<=maxLen)(hm:zAR k n ln G)(hA:∀ i j,i<n->j<n->G i j=tx (A i j)/\zav (A i j)) :
  Calls prog 111 #[.int .i64 k,av] w (zBm hk n A w):=by
 have hrm:=zvz k n ln G av w (by omega) ha hs;have hsh1:∃ A c,av=.slice A n c:=by obtain⟨rs,⟨A,c,e,_⟩,_⟩:=ha;exact⟨A,c,e⟩
 obtain⟨Aa,ca,rfl⟩:=hsh1;have HRM:=zHd hrm;have HA:=zHd (ha.square hm.2.1);have HN:=zHd hn;have HM:=zHd hm;have HAE:=zHd hA;have t1:decide ((60:Int)<(n:Int))=false:=by simp;omega
 have t2:¬ (60:Int)<(n:Int):=by omega
 clear hrm ha hs hn hm hA;go_enter func111,ntmps111;go_wp2_with fail;refine HRM.out.mono ?_;rintro e w1 ⟨b,rfl,hb,hg1⟩;obtain rfl:=hb.2 HM.out;have HSU:=zHd (show zbq k w1.heap.size false (w1.alloc (.cells #[.int .i64 k,.bool false] 148)) from zaG w1 _);have HNA:=zHd ((zjK.of (b:=w1.heap.size) (HA.out.grown hg1) (zqab _)).grown (zGA w1 (.cells #[.int .i64 k,.bool false] 148) _));have HG1:=zHd hg1;clear hb hg1;go_wp2_with fail;refine(zyg hk w1.heap.size n false G A _ _ HN.out HSU.out HNA.out HAE.out).mono ?_;rintro e w2 ⟨g,vs,G2,U,b1,rfl,hf,hs2,hat⟩;have e1:=zqbw w2 w1.heap.size 1 _ _ (0,0) hs2;have hg2:=zvw (zaa (zaw (some w1.heap.size) HG1.out) (zaa (zGA w1 (.cells #[.int .i64 k,.bool false] 148) (some w1.heap.size)) hf.gr)) HG1.out.size;have H2:=zHd (zAI (hf.matA (by have:=HN.out;omega)) (zAI hat hg2));clear hf hs2 hat hg2;cases b1
 ·go_wp2
  go_ret2;exact⟨_,0,rfl,H2.out.2.2,.inl ⟨rfl,H2.out.1.congr9 (fun i hi j hj=>by rw[(H2.out.2.1.tx i j hi hj).1,(H2.out.2.1.good rfl).2 i j hi hj]),⟨_,rfl⟩,fun i j hi hj=>by rw[<- (H2.out.2.1.good rfl).2 i j hi hj];exact(H2.out.2.1.tx i j hi hj).2⟩⟩
 go_wp2;go_ret2;exact⟨_,2,rfl,H2.out.2.2,.inr ⟨rfl,rfl,fun hf=>by have:=H2.out.2.1.keeps rfl hf;cases this⟩⟩
open Go.RowKit
structure zdW (w0:World)(n:Nat)(bs:List Nat)(G:Nat->Nat->ByteArray)(W:World):Prop where
 fill:zbI 109 (.slice none 0 0) n (bs.map (fun b=>.slice (some ⟨b,0,none⟩) n n)) w0 W
 rows:∀ (i b:Nat),bs[i]?=some b->w0.heap.size<b/\zbe W b n (G i)
 dis:∀ (i j b:Nat),bs[i]?=some b->bs[j]?=some b->i=j
section
variable {w0 W W':World} {n:Nat} {bs:List Nat} {G:Nat->Nat->ByteArray}
def zdW.start (h:zbI 109 (.slice none 0 0) n [] w0 W):zdW w0 n [] G W:=⟨h,fun i b hb=>by simp at hb,fun i j b hb=>by simp at hb⟩
def zdW.grown (h:zdW w0 n bs G W)(hg:W.grownBy W' none):zdW w0 n bs G W':=⟨h.fill.grown hg,fun i b hb=>⟨(h.rows i b hb).1,(h.rows i b hb).2.grown hg⟩,h.dis⟩
def zdW.congr {H:Nat->Nat->ByteArray}(h:zdW w0 n bs G W)(e:∀ i,i<bs.length->∀ j,j<n->G i j=H i j):zdW w0 n bs H W :=
 ⟨h.fill,fun i b hb=>⟨(h.rows i b hb).1,(h.rows i b hb).2.congr (e i (zqae.1 hb).1)⟩,h.dis⟩
def zdW.lt (h:zdW w0 n bs G W):w0.heap.size<W.heap.size:=(zqad.1 h.fill.row).1
def zdW.next (h:zdW w0 n bs G W)(hl:bs.length<n):W.cell? ⟨w0.heap.size,bs.length,none⟩=some (.slice none 0 0)/\W.frozen? ⟨w0.heap.size,bs.length,none⟩=false:=by
 have h1:=h.fill.cell (by rw[zqbn];exact hl);rw[zqbn] at h1;exact⟨h1,h.fill.free _⟩
def zdW.push (h:zdW w0 n bs G W)(hl:bs.length<n)(hg:W.grownBy W' none){b:Nat}(hb:W.heap.size<=b){R:Nat->ByteArray}(hr:zbe W' b n R) :
  zdW w0 n (bs++[b]) (fun x=>if x=bs.length then R else G x) (W'.setCell ⟨w0.heap.size,bs.length,none⟩ (.slice (some ⟨b,0,none⟩) n n)):=by
 have h2:=h.grown hg;have hset:=zad W' ⟨w0.heap.size,bs.length,none⟩ (.slice (some ⟨b,0,none⟩) n n);have hlt:=h.lt;refine⟨?_,fun i c hc=>?_,fun i j c hi hj=>?_⟩
 ·have:=h2.fill.put (by rw[zqbn];exact hl) (.slice (some ⟨b,0,none⟩) n n)
  rw[zqbn] at this;rw[List.map_append];exact this
 ·by_cases e:i<bs.length
  ·rw[zqal e] at hc
   obtain⟨h3,h4⟩:=h2.rows i c hc;refine⟨h3,?_⟩;rw[if_neg (by omega)];exact h4.grownB hset (by show c≠w0.heap.size;omega)
  rw[zqaq (by omega)] at hc
  have e1:i-bs.length=0:=by
   rcases Nat.eq_zero_or_pos (i-bs.length) with e|e;exact e;exact zQbC
  rw[e1] at hc;cases hc;refine⟨by omega,?_⟩;rw[if_pos (by omega)];exact hr.grownB hset (by show b≠w0.heap.size;omega)
 have old:∀ i c,i<bs.length->(bs++[b])[i]?=some c->c≠b:=fun i c hi hc e=>by
  rw[zqal hi] at hc;have:=(h.rows i c hc).2.lt;omega
 have inew:∀ i c,¬ i<bs.length->(bs++[b])[i]?=some c->i=bs.length/\c=b:=fun i c hi hc=>by
  rw[zqaq (by omega)] at hc
  have e1:i-bs.length=0:=by
   rcases Nat.eq_zero_or_pos (i-bs.length) with e|e;exact e;exact zQbC
  rw[e1] at hc;cases hc;exact⟨by omega,rfl⟩
 by_cases e1:i<bs.length
 ·by_cases e2:j<bs.length
  ·rw[zqal e1] at hi
   rw[zqal e2] at hj;exact h.dis i j c hi hj
  exact absurd (inew j c e2 hj).2 (old i c e1 hi)
 by_cases e2:j<bs.length
 ·exact absurd (inew i c e1 hi).2 (old j c e2 hj)
 rw[(inew i c e1 hi).1,(inew j c e2 hj).1]
def zdW.at_ (h:zdW w0 n bs G W){i b:Nat}(hb:bs[i]?=some b):W.cell? ⟨w0.heap.size,i,none⟩=some (.slice (some ⟨b,0,none⟩) n n):=by
 rw[zqbw W w0.heap.size i _ _ (0,0) h.fill.row,zqap];have hi:=(zqae.1 hb).1;rw[zqal (by rw[zqbn];exact hi),zqaj,hb];rfl
def zdW.set (h:zdW w0 n bs G W){i b j:Nat}(hb:bs[i]?=some b)(hj:j<n)(s:ByteArray):zdW w0 n bs (fun x y=>if x=i/\y=j then s else G x y) (W.setCell ⟨b,j,none⟩ (.string s)):=by
 have hset:=zad W ⟨b,j,none⟩ (.string s);obtain⟨h1,h2⟩:=h.rows i b hb;refine⟨⟨(hset.block w0.heap.size h.lt (by show some w0.heap.size≠some b;intro e;have e:=Option.some.inj e;omega)).trans h.fill.row,zae h.fill.gr hset (by show w0.heap.size<=b;omega),h.fill.le⟩,fun x c hc=>?_,h.dis⟩
 by_cases e:x=i
 ·subst e
  rw[hb] at hc;cases hc;refine⟨h1,(h2.put hj s).congr (fun y _=>?_)⟩
  by_cases e2:y=j
  rw[if_pos e2,if_pos ⟨rfl,e2⟩];rw[if_neg e2,if_neg (fun h=>e2 h.2)]
 obtain⟨h3,h4⟩:=h.rows x c hc;refine⟨h3,(h4.grownB hset (by show c≠b;intro e2;subst e2;exact e (h.dis x i c hc hb))).congr (fun y _=>?_)⟩;rw[if_neg (fun h=>e h.1)]
def zdW.mat (h:zdW w0 n bs G W)(hl:bs.length=n)(hn:n<=maxLen):zfb W (.slice (some ⟨w0.heap.size,0,none⟩) n n) n (fun _=>n) G:=by
 refine⟨fun i=>.slice (some ⟨bs.getD i 0,0,none⟩) n n,zsC.row ⟨h.lt,fun j hj=>?_⟩ (zqab _) hn,fun i hi=>?_⟩
 ·have hb:bs[j]?=some (bs.getD j 0):=by rw[zqaa,zqac (by omega)];rfl
  rw[zqat];exact h.at_ hb
 have hb:bs[i]?=some (bs.getD i 0):=by rw[zqaa,zqac (by omega)];rfl
 exact(h.rows i _ hb).2.rowR hn
end
open Go.RowKit
section
variable {k:Int}
noncomputable def silI (hk:zam k)(l:List zac)(q t:Nat):List (Nat×El k):=zcj (vE hk) (((stA l q).take t).filter zcN)
def zsh (hk:zam k)(l:List zac)(q t:Nat){x:zaz}(hx:(stA l q)[t]?=some x)(h:zcN x=false):silI hk l q (t+1)=silI hk l q t:=by
 unfold silI;rw[List.take_add_one,hx];show zcj _ ((((stA l q).take t)++[x]).filter zcN)=_;rw[List.filter_append,List.filter_cons_of_neg (by rw[h];simp)];simp
def zEs (hk:zam k)(l:List zac)(q t:Nat){x:zaz}(hx:(stA l q)[t]?=some x)(h:zcN x=true):silI hk l q (t+1)=silI hk l q t++[(x.t.toNat,vE hk x.w)]:=by
 unfold silI;rw[List.take_add_one,hx];show zcj _ ((((stA l q).take t)++[x]).filter zcN)=_;rw[List.filter_append,List.filter_cons_of_pos h,zin];rfl
def zEt (hk:zam k)(l:List zac)(q t:Nat)(ht:t<=(stA l q).length):∃ R,silI hk l q (stA l q).length=silI hk l q t++R :=
 ⟨zcj (vE hk) (((stA l q).drop t).filter zcN),by unfold silI;rw[<- zin,<- List.filter_append,List.take_length,List.take_append_drop]⟩
def zbM (l:List zac)(q t:Nat):Prop:=(∃ r,r<q/\∃ a∈stA l r,zcN a=true)∨∃ a∈(stA l q).take t,zcN a=true
def zbM.next {l:List zac}{q:Nat}:zbM l (q+1) 0↔zbM l q (stA l q).length:=by
 unfold zbM;rw[List.take_length];constructor
 ·rintro (⟨r,hr,h⟩|⟨a,ha,_⟩)
  ·by_cases e:r<q
   ·exact .inl ⟨r,e,h⟩
   obtain rfl:r=q:=by omega
   exact .inr h
  simp at ha
 rintro (⟨r,hr,h⟩|h)
 ·exact .inl ⟨r,by omega,h⟩
 exact .inl ⟨q,by omega,h⟩
def zbM.skip {l:List zac}{q t:Nat}{x:zaz}(hx:(stA l q)[t]?=some x)(h:zcN x=false):zbM l q (t+1)↔zbM l q t:=by
 unfold zbM;rw[List.take_add_one,hx];constructor
 ·rintro (h1|⟨a,ha,h2⟩)
  ·exact .inl h1
  rcases zqbo.1 ha with h3|h3
  ·exact .inr ⟨a,h3,h2⟩
  have:a=x:=by simpa using h3
  rw[this,h] at h2;cases h2
 rintro (h1|⟨a,ha,h2⟩)
 ·exact .inl h1
 exact .inr ⟨a,List.mem_append_left _ ha,h2⟩
def zbM.yes {l:List zac}{q t:Nat}{x:zaz}(hx:(stA l q)[t]?=some x)(h:zcN x=true):zbM l q (t+1):=.inr ⟨x,by rw[List.take_add_one,hx];exact List.mem_append_right _ (by simp),h⟩
def zbM.mem {l:List zac}{q t:Nat}(ht:t<=(stA l q).length)(hq:q<l.length)(h:zbM l q t):zbM l l.length 0:=by
 rcases h with⟨r,hr,h⟩|⟨a,ha,h⟩;exact .inl ⟨r,by omega,h⟩;exact .inl ⟨q,hq,a,zqau ha,h⟩
noncomputable def silE (hk:zam k)(l:List zac)(i j:Nat):El k:=csE hk (silI hk l i (stA l i).length) j
structure zqr (hk:zam k)(l:List zac):Prop where
 rows:∀ q,q<l.length->zgF hk (silI hk l q (stA l q).length)
 n60:l.length<=60
 star:zmW hk (silE hk l) l.length
def zGx (hk:zam k)(l:List zac)(w:World)(e:Ending)(w':World):Prop :=
 w.grownBy w' none/\((¬ zbM l l.length 0/\e=.returned (.tuple #[.slice none 0 0,.int .i64 0])) ∨
  (zbM l l.length 0/\∃ v,e=.returned (.tuple #[v,.int .i64 0])/\zfb w' v l.length (fun _=>l.length) (fun i j=>tx (stM (srE k hk) (silE hk l) l.length i j))/\(∃ c,v=.slice c l.length l.length)/\∀ i j,i<l.length->j<l.length->zav (stM (srE k hk) (silE hk l) l.length i j)) ∨
  (zbM l l.length 0/\¬ zqr hk l/\e=.returned (.tuple #[.slice none 0 0,.int .i64 2])))
def zEu (hk:zam k)(l:List zac){i:Nat}(hi:l.length<=i)(j:Nat):silE hk l i j=(srE k hk).zero:=by
 have:stA l i=[]:=by unfold stA;rw[zqas hi];rfl
 unfold silE silI;rw[this];rfl
def zuB (hk:zam k)(l:List zac)(us:List Value)(As:Option Addr)(n cs:Nat)(st:Int)(ld:ByteArray)(w:World)(hln:l.length=n)(hn:n<=3000)(hok:zmR k l)(hst:zmI w l us As cs) :
  Calls prog 70 #[.agg #[.int .i64 k,.int .i64 st,.string ld,.slice As n cs],.bool false] w (zGx hk l w):=by
 obtain⟨i0,hi,hz0,hz1,hz2⟩:=info_parts zoK;have n0:¬ (n:Int)<0:=by omega
 have hal:=zGA w (.cells #[.int .i64 k,.int .i64 st,.string ld,.slice As n cs] 29) none;obtain⟨x0,x1,x2,x3⟩:=zmO.new w k st ld As n cs;have hsz:(w.alloc (.cells #[.int .i64 k,.int .i64 st,.string ld,.slice As n cs] 29)).heap.size=w.heap.size+1:=by simp
 have HN:=zHd (zAI hn hln);have HAL:=zHd hal;have HOK:=zHd hok;have HST:=zHd (hst.grown hal);have HSZ:=zHd hsz;clear hal hst hok hn hsz;go_enter func70,ntmps70;go_upto_region 1 with(fail);generalize w.alloc (.cells #[.int .i64 k,.int .i64 st,.string ld,.slice As n cs] 29)=W0 at *;go_wp2_with (at_make;refine wpList_make_full _ rfl _ _ 105 rfl W0.heap.size 109 i0 (.slice none 0 0) 1 underlying105 hi hz0 hz1 _ _ _ _ n rfl rfl ?c0 ?c1 ?c2 (by have:=HN.out.1;unfold maxLen;omega) (zqab _) ?_)
 case c0=>omega
 case c1=>omega
 case c2=>have:=HN.out.1;first|omega|(rw[hz2];omega)
 intro w1 zO hgr;have zF:=zbI.start zO hgr;have HF:=zHd (zdW.start (G:=fun _ _=>⟨#[]⟩) zF);have HX:=zHd (zAI x0 (zAI x1 (zAI x2 x3)));clear zO hgr zF x0 x1 x2 x3;go_wp2
 go_loopw [8,7] (fun iv av wr=>∃ (q:Nat) (b:Bool) (bs:List Nat),q<=n/\iv=.int .i64 (q:Int)/\av=.bool b/\(b=true↔zbM l q 0)/\bs.length=q/\zdW W0 n bs (fun i j=>tx (silE hk l i j)) wr/\∀ r,r<q->zgF hk (silI hk l r (stA l r).length)) (fun iv _ _=>n-(intOf iv).toNat)
 case atStart=>exact⟨0,false,[],zqaw _,rfl,rfl,⟨fun h=>(by cases h),fun h=>(by rcases h with⟨r,hr,_⟩|⟨a,ha,_⟩;exact absurd hr (Nat.not_lt_zero r);simp at ha)⟩,rfl,HF.out.congr (fun i hi=>absurd hi (Nat.not_lt_zero i)),fun r hr=>absurd hr (Nat.not_lt_zero r)⟩
 case round =>
  obtain⟨q,b,bs,hq',rfl,rfl,hb,hbl,hm,zf⟩:=hrel;have hg:=hm.fill.gr;have y0:=hg.cell HX.out.1 (by simp);have y1:=hg.cell HX.out.2.1 (by simp);have y2:=hg.cell HX.out.2.2.1 (by simp);have y3:=hg.cell HX.out.2.2.2 (by simp)
  by_cases hqn:q<n
  ·have u1:decide (q<n)=true:=by simpa using hqn
   have u1':decide ((q:Int)<(n:Int))=true:=by simpa using hqn
   have u2:(q:Int)<(n:Int):=by omega
   have u3:(0:Int)<=(q:Int):=by omega
   have u4:IntKind.i64.wrap ((q:Int)+1)=(q:Int)+1:=by have:=HN.out.1;rw[zqah];omega
   obtain⟨nx1,nx2⟩:=hm.next (by rw[hbl];exact hqn);rw[hbl] at nx1 nx2;have HI:=zHd (zAI hqn (zAI hb (zAI hbl (zAI hm zf))));have HNX:=zHd (zAI nx1 nx2);clear hq' hqn hb hbl hm zf hg nx1 nx2;go_wp2_with fail;refine(zio k st ld As n cs wr HN.out.1).mono ?_;rintro e w2 ⟨gb,rfl,hgb,hg2,hr2⟩;have c2:=hg2.cell HNX.out.1 (by simp);have hlt:=HI.out.2.2.2.1.lt;have z2:w2.frozen? ⟨W0.heap.size,q,none⟩=false:=zqbx w2 _ _ _ _ (HI.out.2.2.2.1.grown hg2).fill.row;have hp:=HI.out.2.2.2.1.push (by rw[HI.out.2.2.1];exact HI.out.1) hg2 hgb hr2;rw[HI.out.2.2.1] at hp
   have hp2:=hp.congr (H:=fun i j=>if i=q then tx (csE hk (silI hk l q 0) j) else tx (silE hk l i j)) (fun i _ j _=>by
    by_cases e:i=q
    rw[if_pos e,if_pos e];exact(zbJ hk).symm;rw[if_neg e,if_neg e])
   have HP:=zHd hp2;clear hgb hg2 hr2 hp hp2 hlt y0 y1 y2 y3;obtain⟨ad,s,u,rfl,hbl,hls,hus,hsa,hsl⟩:=HST.out.at_ q (by rw[HN.out.2];exact HI.out.1);obtain⟨Au,cu,rfl,hra⟩:=hsl;have hse:=zeP hls;obtain⟨hao,hal⟩:=HOK.out.arcs q (by rw[HN.out.2];exact HI.out.1);rw[hse] at hao hal;obtain⟨m,hm⟩:∃ m,s.arcs.length=m:=⟨_,rfl⟩;rw[hm] at hal hsa;have HS:=zHd (zAI hsa (zAI hra (zAI hse (zAI hao (zAI hal (zAI hm hbl))))));have hbq:(bs++[gb])[q]?=some gb:=by rw[zqaq (by rw[HI.out.2.2.1];exact zqab _),HI.out.2.2.1,zqbr];rfl
   have HBQ:=zHd hbq;clear hls hus hsa hra hse hao hal hm hbl hbq;go_wp2;generalize wr=wq at *
   go_loopw [9,7] (fun tv av wr=>∃ (t:Nat) (b2:Bool),t<=m/\tv=.int .i64 (t:Int)/\av=.bool b2/\(b2=true↔zbM l q t)/\zdW W0 n (bs++[gb]) (fun i j=>if i=q then tx (csE hk (silI hk l q t) j) else tx (silE hk l i j)) wr/\zgF hk (silI hk l q t)) (fun tv _ _=>m-(intOf tv).toNat)
   case atStart=>exact⟨0,b,zqaw _,rfl,rfl,HI.out.2.1,HP.out,zaR.nil⟩
   case round =>
    obtain⟨t,b2,ht',rfl,rfl,hb2,hm2,hac⟩:=hrel;have hg:=hm2.fill.gr;have y0:=hg.cell HX.out.1 (by simp);have y3:=hg.cell HX.out.2.2.2 (by simp);have hbe:=zhj hg;have q1:=(HS.out.1.below hbe (by rw[zbx];exact HS.out.2.2.2.2.2.2)).c1
    by_cases htm:t<m
    ·have x1:decide (t<m)=true:=by simpa using htm
     have x1':decide ((t:Int)<(m:Int))=true:=(by simpa using htm);have x2:(t:Int)<(m:Int):=(by omega);have x3:(0:Int)<=(t:Int):=(by omega);have x4:IntKind.i64.wrap ((t:Int)+1)=(t:Int)+1:=(by have:=HS.out.2.2.2.2.1;rw[zqah];omega);obtain⟨bd,x,rfl,hbb,hla,⟨a0,a1,a2,a3⟩⟩:=zhf ((HS.out.2.1.below hbe).more hbe.size) (by rw[HS.out.2.2.2.2.2.1];exact htm);obtain⟨ht0,htn,hwv⟩:=HS.out.2.2.2.1 x (zqak hla);obtain⟨hwt,hwf⟩:=znH hk hwv;obtain⟨κ,hκ⟩:∃ κ:Nat,x.t=(κ:Int):=⟨x.t.toNat,by omega⟩;have hκn:κ<n:=(by have:=HN.out.2;omega);rw[hκ] at a3;rw[hwt] at a2;have hx:(stA l q)[t]?=some x:=(by rw[HS.out.2.2.1];exact hla);have HT:=zHd (zAI htm (zAI hb2 (zAI hm2 hac)));have HXX:=zHd hx;have HK:=zHd (zAI hκ (zAI hκn hwf));have hc1:=hm2.at_ HBQ.out;have hc2:=(hm2.rows q gb HBQ.out).2.cell hκn
     try dsimp only at hc2
     rw[if_pos rfl] at hc2;clear ht' htm hb2 hm2 hac hg hla hbb ht0 htn hwv hwt hwf hκ hκn hbe hx;cases hs:zcN x
     ·have hor:¬ (x.i=0/\x.o=0):=fun h=>by unfold zcN at hs;rw[decide_eq_true h] at hs;cases hs
      by_cases hi:x.i=0
      ·have ho:¬ x.o=0:=fun h=>hor ⟨hi,h⟩
       have g1:(x.i != 0)=false:=(by simp[hi]);have g1':(x.i==0)=true:=(by simp[hi]);have g2:(x.o != 0)=true:=(by simp[ho]);have g2':(x.o==0)=false:=(by simp[ho]);have hal:=zGA wr (.cells #[.int .i64 x.i,.int .i64 x.o,.string (tx (vE hk x.w)),.int .i64 (κ:Int)] 78) none;have HAL2:=zHd hal;have HE:=zHd (zAI (zsh hk l q t HXX.out hs) (zbM.skip HXX.out hs));clear hs hal hi ho hor;go_wp2;refine⟨⟨t+1,b2,HT.out.1,by simp,rfl,HT.out.2.1.trans HE.out.2.symm,?_,?_⟩,by have:=HT.out.1;simp[intOf];omega⟩;rw[HE.out.1];exact HT.out.2.2.1.grown HAL2.out;rw[HE.out.1];exact HT.out.2.2.2
      have g1:(x.i != 0)=true:=(by simp[hi]);have g1':(x.i==0)=false:=(by simp[hi]);have hal:=zGA wr (.cells #[.int .i64 x.i,.int .i64 x.o,.string (tx (vE hk x.w)),.int .i64 (κ:Int)] 78) none;have HAL2:=zHd hal;have HE:=zHd (zAI (zsh hk l q t HXX.out hs) (zbM.skip HXX.out hs));clear hs hal hi hor;go_wp2;refine⟨⟨t+1,b2,HT.out.1,by simp,rfl,HT.out.2.1.trans HE.out.2.symm,?_,?_⟩,by have:=HT.out.1;simp[intOf];omega⟩;rw[HE.out.1];exact HT.out.2.2.1.grown HAL2.out;rw[HE.out.1];exact HT.out.2.2.2
     have hio:x.i=0/\x.o=0:=(by unfold zcN at hs;simpa using hs);have g1:(x.i != 0)=false:=(by simp[hio.1]);have g1':(x.i==0)=true:=(by simp[hio.1]);have g2:(x.o != 0)=false:=(by simp[hio.2]);have g2':(x.o==0)=true:=(by simp[hio.2]);have e:=zEs hk l q t HXX.out hs;rw[HK.out.1,Int.toNat_natCast] at e;have HE:=zHd (zAI e (zbM.yes HXX.out hs));have hop:SOp 59 k (tx (csE hk (silI hk l q t) κ)) (tx (vE hk x.w)) (zdm ((srE k hk).add (csE hk (silI hk l q t) κ) (vE hk x.w)).1):=zix (zcW (zaR.all HT.out.2.2.2 (zbp hk) κ)) (zcW HK.out.2.2);have HOP:=zHd hop;clear e hs hop hio;go_upto_region 13 with(fail);have hal:=zGA wr (.cells #[.int .i64 x.i,.int .i64 x.o,.string (tx (vE hk x.w)),.int .i64 (κ:Int)] 78) none;have e2:=zge wr #[.int .i64 x.i,.int .i64 x.o,.string (tx (vE hk x.w)),.int .i64 (κ:Int)] 78 (j:=2) rfl;have e3:=zge wr #[.int .i64 x.i,.int .i64 x.o,.string (tx (vE hk x.w)),.int .i64 (κ:Int)] 78 (j:=3) rfl;have e0:=hal.cell y0 (by simp);have e1:=hal.cell hc1 (by simp);have e4:=hal.cell hc2 (by simp);generalize wr.alloc (.cells #[.int .i64 x.i,.int .i64 x.o,.string (tx (vE hk x.w)),.int .i64 (κ:Int)] 78)=Wb at *;have d0:Wb.drew.cell? ⟨w.heap.size,0,none⟩=some (.int .i64 k):=e0;have d1:Wb.drew.cell? ⟨W0.heap.size,q,none⟩=some (.slice (some ⟨gb,0,none⟩) n n):=e1;have d4:Wb.drew.cell? ⟨gb,κ,none⟩=some (.string (tx (csE hk (silI hk l q t) κ))):=e4;have d2:Wb.drew.cell? ⟨wr.heap.size,2,none⟩=some (.string (tx (vE hk x.w))):=e2;have d3:Wb.drew.cell? ⟨wr.heap.size,3,none⟩=some (.int .i64 (κ:Int)):=e3;have HWU:=zHd (zaa hal (zag Wb none));have i1:(κ:Int)<(n:Int):=(by have:=HK.out.2.1;omega);have i2:(0:Int)<=(κ:Int):=(by omega);clear hal e0 e1 e2 e3 e4 a0 a1 a2 a3 q1 y0 y3 hc1 hc2;rcases zgi ((srE k hk).add (csE hk (silI hk l q t) κ) (vE hk x.w)) with⟨hfi,hE⟩|⟨hfi,hE⟩
     ·have hop:=HOP.out
      rw[hE] at hop;have HO:=zHd hop;have HFI:=zHd hfi;clear hop hfi hE
      go_region_held2 (fun W':World=>W'.cell? ⟨w.heap.size,0,none⟩=some (.int .i64 k)/\W'.cell? ⟨W0.heap.size,q,none⟩=some (.slice (some ⟨gb,0,none⟩) n n)/\W'.cell? ⟨gb,κ,none⟩=some (.string (tx (csE hk (silI hk l q t) κ)))/\W'.cell? ⟨wr.heap.size,2,none⟩=some (.string (tx (vE hk x.w)))/\W'.cell? ⟨wr.heap.size,3,none⟩=some (.int .i64 (κ:Int))) (first|exact⟨d0,d1,d4,d2,d3⟩|exact S5|go_keep)
       (first|(go_at_call 59;refine(HO.out _).mono ?_;rintro e w5 ⟨rfl,hg5⟩;have S5:(fun W':World=>W'.cell? ⟨w.heap.size,0,none⟩=some (.int .i64 k)/\W'.cell? ⟨W0.heap.size,q,none⟩=some (.slice (some ⟨gb,0,none⟩) n n)/\W'.cell? ⟨gb,κ,none⟩=some (.string (tx (csE hk (silI hk l q t) κ)))/\W'.cell? ⟨wr.heap.size,2,none⟩=some (.string (tx (vE hk x.w)))/\W'.cell? ⟨wr.heap.size,3,none⟩=some (.int .i64 (κ:Int))) w5:=⟨hg5.cell d0 (by simp),hg5.cell d1 (by simp),hg5.cell d4 (by simp),hg5.cell d2 (by simp),hg5.cell d3 (by simp)⟩;have H5:=zHd (zaa HWU.out hg5);clear hg5))
      all_goals
       obtain⟨_,c1,c4,_,c3⟩:=S5;clear d0 d1 d2 d3 d4;go_upto_region 16 with(fail);have hm6:=HT.out.2.2.1.grown (zaa H5.out (zag w5 none));have z6:w5.drew.frozen? ⟨gb,κ,none⟩=false:=(hm6.rows q gb HBQ.out).2.free κ;have f1:w5.drew.cell? ⟨W0.heap.size,q,none⟩=some (.slice (some ⟨gb,0,none⟩) n n):=c1;have f3:w5.drew.cell? ⟨wr.heap.size,3,none⟩=some (.int .i64 (κ:Int)):=c3;have f4:w5.drew.cell? ⟨gb,κ,none⟩=some (.string (tx (csE hk (silI hk l q t) κ))):=c4;have hm7:=hm6.set HBQ.out HK.out.2.1 (tx ((srE k hk).add (csE hk (silI hk l q t) κ) (vE hk x.w)));have HM7:=zHd hm7;clear c1 c3 c4 hm6 hm7;refine zeq (e:=8) (n:=8) (fun W':World=>W'.cell? ⟨W0.heap.size,q,none⟩=some (.slice (some ⟨gb,0,none⟩) n n)/\W'.cell? ⟨wr.heap.size,3,none⟩=some (.int .i64 (κ:Int))) (by kernel_rfl) (by kernel_rfl) rfl ?_;have hS0:(fun W':World=>W'.cell? ⟨W0.heap.size,q,none⟩=some (.slice (some ⟨gb,0,none⟩) n n)/\W'.cell? ⟨wr.heap.size,3,none⟩=some (.int .i64 (κ:Int))) w5.drew:=⟨f1,f3⟩;refine tk9 0 (.slice (some ⟨W0.heap.size,0,none⟩) n n) rfl hS0 ?_;(try simp only[zS,Act.put]);refine tk9 1 (.int .i64 (q:Int)) rfl hS0 ?_;(try simp only[zS,Act.put]);refine tk9 2 (.pointer (some ⟨W0.heap.size,q,none⟩)) rfl hS0 ?_;(try simp only[zS,Act.put]);refine tk9 3 (.slice (some ⟨gb,0,none⟩) n n) rfl hS0 ?_;(try simp only[zS,Act.put]);refine tk9 4 (.pointer (some ⟨wr.heap.size,3,none⟩)) rfl hS0 ?_;(try simp only[zS,Act.put]);refine tk9 5 (.int .i64 (κ:Int)) rfl hS0 ?_;(try simp only[zS,Act.put]);refine tk9 6 (.string (tx ((srE k hk).add (csE hk (silI hk l q t) κ) (vE hk x.w)))) rfl hS0 ?_;(try simp only[zS,Act.put]);refine tk9 7 (.pointer (some ⟨gb,κ,none⟩)) rfl hS0 ?_;(try simp only[zS,Act.put]);clear hS0;refine wpAnyH_done (by kernel_rfl) ?_ _;refine zgB (by rfl) (fun K hK=>?_);go_simp;refine hK _ _ ?_;clear f1 f3 f4 z6;go_wp2;refine⟨⟨t+1,true,HT.out.1,by simp,rfl,⟨fun _=>HE.out.2,fun _=>rfl⟩,?_,?_⟩,by have:=HT.out.1;simp[intOf];omega⟩
       ·refine HM7.out.congr (fun i _ j _=>?_)
        try dsimp only
        by_cases ei:i=q
        ·by_cases ej:j=κ
         ·rw[if_pos ⟨ei,ej⟩,if_pos ei,HE.out.1]
          unfold csE;rw[zib,if_pos ej.symm,ej]
         rw[if_neg (fun h=>ej h.2),if_pos ei,if_pos ei,HE.out.1];unfold csE;rw[zib,if_neg (fun h=>ej h.symm)]
        rw[if_neg (fun h=>ei h.1),if_neg ei,if_neg ei]
       rw[HE.out.1];exact zaR.snoc HT.out.2.2.2 HK.out.2.2 HFI.out
     have hop:=HOP.out;rw[hE] at hop;have HO:=zHd hop;have HFI:=zHd hfi;clear hop hfi hE
     go_region_held2 (fun W':World=>W'.cell? ⟨w.heap.size,0,none⟩=some (.int .i64 k)/\W'.cell? ⟨W0.heap.size,q,none⟩=some (.slice (some ⟨gb,0,none⟩) n n)/\W'.cell? ⟨gb,κ,none⟩=some (.string (tx (csE hk (silI hk l q t) κ)))/\W'.cell? ⟨wr.heap.size,2,none⟩=some (.string (tx (vE hk x.w)))/\W'.cell? ⟨wr.heap.size,3,none⟩=some (.int .i64 (κ:Int))) (first|exact⟨d0,d1,d4,d2,d3⟩|exact S5|go_keep)
      (first|(go_at_call 59;refine(HO.out _).mono ?_;rintro e w5 ⟨rfl,hg5⟩;have S5:(fun W':World=>W'.cell? ⟨w.heap.size,0,none⟩=some (.int .i64 k)/\W'.cell? ⟨W0.heap.size,q,none⟩=some (.slice (some ⟨gb,0,none⟩) n n)/\W'.cell? ⟨gb,κ,none⟩=some (.string (tx (csE hk (silI hk l q t) κ)))/\W'.cell? ⟨wr.heap.size,2,none⟩=some (.string (tx (vE hk x.w)))/\W'.cell? ⟨wr.heap.size,3,none⟩=some (.int .i64 (κ:Int))) w5:=⟨hg5.cell d0 (by simp),hg5.cell d1 (by simp),hg5.cell d4 (by simp),hg5.cell d2 (by simp),hg5.cell d3 (by simp)⟩;have H5:=zHd (zaa HWU.out hg5);clear hg5))
     all_goals
      clear d0 d1 d2 d3 d4 S5;go_wp2;go_ret2;have hlq:q<l.length:=(by rw[HN.out.2];exact HI.out.1);have htl:t+1<=(stA l q).length:=(by rw[HS.out.2.2.1,HS.out.2.2.2.2.2.1];have:=HT.out.1;omega);refine⟨zaa HAL.out (zaa HT.out.2.2.1.fill.gr H5.out),.inr (.inr ⟨HE.out.2.mem htl hlq,fun h=>HFI.out ?_,rfl⟩)⟩;obtain⟨R,hR⟩:=zEt hk l q (t+1) htl;have hfq:=h.rows q hlq;rw[hR,HE.out.1,zqbj] at hfq;exact(zaR.at_ hfq).2
    obtain rfl:t=m:=by omega
    have v1:decide (t<t)=false:=(by simp);have v1':decide ((t:Int)<(t:Int))=false:=(by simp);have HJ:=zHd (zAI hb2 (zAI hm2 hac));clear ht' htm hb2 hm2 hac hbe hg;go_wp2;have hm3:(stA l q).length=t:=(by rw[HS.out.2.2.1,HS.out.2.2.2.2.2.1]);refine⟨⟨q+1,b2,bs++[gb],HI.out.1,by simp,rfl,?_,by rw[zqag,HI.out.2.2.1];rfl,?_,fun r hr=>?_⟩,by have:=HI.out.1;simp[intOf];omega⟩
    ·rw[zbM.next,hm3];exact HJ.out.1
    ·refine HJ.out.2.1.congr (fun i _ j _=>?_)
     try dsimp only
     by_cases e:i=q
     rw[if_pos e,e];unfold silE;rw[hm3];rw[if_neg e]
    by_cases e:r<q
    ·exact HI.out.2.2.2.2 r e
    obtain rfl:r=q:=by omega
    rw[hm3];exact HJ.out.2.2
  obtain rfl:q=n:=by omega
  have v1:decide (q<q)=false:=by simp
  have v1':decide ((q:Int)<(q:Int))=false:=by simp
  have HJ:=zHd (zAI hb (zAI hbl (zAI hm zf)));clear hq' hqn hb hbl hm zf hg;have hl:=HN.out.2;cases b
  ·have hno:¬ zbM l l.length 0:=fun h=>by have:=HJ.out.1.2 (by rw[<- hl];exact h);cases this
   have HNO:=zHd hno;clear hno;go_wp2;go_ret2;exact⟨zaa HAL.out HJ.out.2.2.1.fill.gr,.inl ⟨HNO.out,rfl⟩⟩
  have hyes:zbM l l.length 0:=by rw[hl];exact HJ.out.1.1 rfl
  have HY:=zHd hyes;clear hyes
  by_cases h60:q<=60
  ·have g1:decide ((q:Int) > 60)=false:=by simp;omega
   have g2:¬ (60:Int)<(q:Int):=(by omega);have g3:decide ((60:Int)<(q:Int))=false:=(by simp;omega);have HQ:=zHd h60;have hma:=HJ.out.2.2.1.mat HJ.out.2.1 (by have:=HN.out.1;unfold maxLen;omega)
   have hst:=zBn hk q (fun _=>q) (fun i j=>tx (silE hk l i j)) (silE hk l) (.slice (some ⟨W0.heap.size,0,none⟩) q q) wr h60 hma (fun i j=>zGj (by
     by_cases e:i<q
     exact zaR.all (HJ.out.2.2.2 i e) (zbp hk) j;rw[zEu hk l (by omega)];exact zbp hk)) ⟨hk,fun _ _=>rfl,fun i j hi hj=>⟨_,zcW (zaR.all (HJ.out.2.2.2 i hi) (zbp hk) j)⟩⟩ (fun i j hi hj=>⟨rfl,zaR.all (HJ.out.2.2.2 i hi) (zbp hk) j⟩)
   have HS:=zHd hst;clear hma hst h60;go_wp2_with fail;refine HS.out.mono ?_;rintro e w2 ⟨v,f,rfl,hg2,hcase⟩;have HG2:=zHd (zaa HAL.out (zaa HJ.out.2.2.1.fill.gr hg2));have HC:=zHd hcase;clear hg2 hcase;go_wp2;go_ret2;have hcc:=HC.out;have hgg:=HG2.out;have hyy:=HY.out;rw[<- hl] at hcc;rcases hcc with⟨rfl,hma,hc,hff⟩|⟨rfl,rfl,hnf⟩
   exact⟨hgg,.inr (.inl ⟨hyy,v,rfl,hma,hc,hff⟩)⟩;exact⟨hgg,.inr (.inr ⟨hyy,fun h=>hnf h.star,rfl⟩)⟩
  have g1:decide ((q:Int) > 60)=true:=by simp;omega
  have g2:(60:Int)<(q:Int):=(by omega);have g3:decide ((60:Int)<(q:Int))=true:=(by simp;omega);have HQ:=zHd h60;clear h60;go_wp2;go_ret2;exact⟨zaa HAL.out HJ.out.2.2.1.fill.gr,.inr (.inr ⟨HY.out,fun h=>HQ.out (by rw[<- hl];exact h.n60),rfl⟩)⟩
end
open Go.RowKit
section
variable {k:Int}
structure AtC (W0:World)(ga X Y n:Nat)(gs:List Nat)(U:Nat->Nat->Nat->El k)(W:World):Prop where
 ex:∃ bss,zdl W ga (X+1) (Y+1) n gs bss (fun i j q=>tx (U i j q))/\∀ r,r<=X->(bss r).length=Y+1
 len:gs.length=X+1
 gr:W0.grownBy W none
 fit:∀ i j q,i<=X->j<=Y->q<n->zav (U i j q)
 low:∀ (i g:Nat),gs[i]?=some g->W0.heap.size<=g
variable {W0 W W':World} {ga X Y n:Nat} {gs:List Nat} {U:Nat->Nat->Nat->El k}
def AtC.grown (h:AtC W0 ga X Y n gs U W)(hg:W.grownBy W' none):AtC W0 ga X Y n gs U W':=by
 obtain⟨bss,h1,h2⟩:=h.ex;exact⟨⟨bss,h1.grown hg,h2⟩,h.len,zaa h.gr hg,h.fit,h.low⟩
def AtC.congr {V:Nat->Nat->Nat->El k}(h:AtC W0 ga X Y n gs U W)(e:∀ i j q,i<=X->j<=Y->q<n->U i j q=V i j q):AtC W0 ga X Y n gs V W:=by
 obtain⟨bss,h1,h2⟩:=h.ex;refine⟨⟨bss,⟨h1.top,h1.le,fun i g hi=>?_,h1.dis⟩,h2⟩,h.len,h.gr,fun i j q hi hj hq=>by rw[<- e i j q hi hj hq];exact h.fit i j q hi hj hq,h.low⟩;have hil:i<=X:=by have:=(zqae.1 hi).1;rw[h.len] at this;omega
 exact(h1.rows i g hi).congr (fun j hj q hq=>by
  have hjl:j<=Y:=by rw[h2 i hil] at hj;omega
  try dsimp only
  rw[e i j q hil hjl hq])
def AtC.get (h:AtC W0 ga X Y n gs U W){i j:Nat}(hi:i<=X)(hj:j<=Y):∃ g b,gs[i]?=some g/\W.cell? ⟨ga,i,none⟩=some (.slice (some ⟨g,0,none⟩) (Y+1) (Y+1))/\W.cell? ⟨g,j,none⟩=some (.slice (some ⟨b,0,none⟩) n n)/\W.frozen? ⟨g,j,none⟩=false/\g≠ga/\zbe W b n (fun q=>tx (U i j q)):=by
 obtain⟨bss,h1,h2⟩:=h.ex;have hg:gs[i]?=some (gs[i]'(by rw[h.len];omega)):=zqac _;have hr:=h1.rows i _ hg;have hb:(bss i)[j]?=some ((bss i)[j]'(by rw[h2 i hi];omega)):=zqac _;exact⟨_,_,hg,h1.at_ hg,hr.at_ hb,hr.free j,h1.ne hg,hr.rows j _ hb⟩
def AtC.put (h:AtC W0 ga X Y n gs U W){i j g b:Nat}{F:Nat->El k}(hi:i<=X)(hj:j<=Y)(hg:gs[i]?=some g)(hb:zbe W b n (fun q=>tx (F q)))(hf:∀ q,q<n->zav (F q)) :
  AtC W0 ga X Y n gs (fun x y=>if x=i/\y=j then F else U x y) (W.setCell ⟨g,j,none⟩ (.slice (some ⟨b,0,none⟩) n n)):=by
 obtain⟨bss,h1,h2⟩:=h.ex;have hr:=(h1.rows i g hg).set (i:=j) (by rw[h2 i hi];omega) hb;have hc:=h1.row hg hr;refine⟨⟨fun x=>if x=i then (bss i).set j b else bss x,⟨hc.top,hc.le,fun x c hx=>?_,hc.dis⟩,fun r hrx=>?_⟩,h.len,zae h.gr (zad W ⟨g,j,none⟩ (.slice (some ⟨b,0,none⟩) n n)) (h.low i g hg),fun x y q hx hy hq=>?_,h.low⟩
 ·refine(hc.rows x c hx).congr (fun y _ q _=>?_)
  by_cases e1:x=i
  ·subst e1
   rw[if_pos rfl]
   by_cases e2:y=j
   rw[if_pos e2,if_pos ⟨rfl,e2⟩];rw[if_neg e2,if_neg (fun e=>e2 e.2)]
  rw[if_neg e1,if_neg (fun e=>e1 e.1)]
 ·try dsimp only
  split;rw[List.length_set];exact h2 i hi;exact h2 r hrx
 split
 ·exact hf q hq
 exact h.fit x y q hx hy hq
end
def zcB {k:Int}(hk:zam k):finE hk noB=(srE k hk).zero:=by
 unfold finE;exact if_pos rfl
def zcC {k:Int}(hk:zam k)(a:ByteArray)(h:a≠noB):finE hk a=vE hk a:=by
 unfold finE;exact if_neg h
section
variable {k:Int} (hk:zam k) (l:List zac)
noncomputable def wm9:Wm (El k):=wmG (srE k hk) (vE hk) (finE hk) l
def zuC (i j:Nat):silE hk l i j=(wm9 hk l).E i j:=by
 unfold silE silI csE;rw[List.take_length];rfl
def zHB (h:¬ zbM l l.length 0)(i j:Nat):(wm9 hk l).E i j=(srE k hk).zero:=by
 show cs (srE k hk) (zcj (vE hk) ((stA l i).filter zcN)) j=_;have e:(stA l i).filter zcN=[]:=List.filter_eq_nil_iff.2 (fun a ha hs=>h (.inl ⟨i,?_,a,ha,hs⟩));rw[e];rfl;rcases Nat.lt_or_ge i l.length with hi|hi
 ·exact hi
 have:stA l i=[]:=by unfold stA;rw[zqas hi];rfl
 rw[this] at ha;cases ha
def V09 {α:Type}(S:Sr α)(lead:α)(start i j q:Nat):α:=if i=0/\j=0/\q=start then lead else S.zero
noncomputable def VI9 (lead:El k)(start:Nat)(x y:List Nat)(i j:Nat):Nat->Nat->Nat->El k:=VI (srE k hk) (wm9 hk l) x y (V09 (srE k hk) lead start) i j
structure zsF (lead:El k)(start:Nat)(x y:List Nat):Prop where
 sil:zbM l l.length 0->zqr hk l
 place:∀ i j,i<=x.length->j<=y.length->zul (srE k hk) zav (vE hk) (finE hk) l x y (zbM l l.length 0) (VI9 hk l lead start x y i j) i j
 fin:zgF hk (finI hk l (VI9 hk l lead start x y x.length (y.length+1) x.length y.length) l.length)
end
end Go.Proofs.YtadgpgofcjpnjaaGreatDoor
