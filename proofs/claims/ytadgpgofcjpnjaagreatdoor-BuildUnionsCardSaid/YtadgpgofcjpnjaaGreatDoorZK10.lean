/- Part. -/
import Derived.Test.YtadgpgofcjpnjaaGreatDoorZK09
set_option linter.unusedVariables false
set_option linter.defProp false
set_option linter.unusedSimpArgs false
set_option maxRecDepth 100000
set_option maxHeartbeats 16000000
namespace Go.Proofs.YtadgpgofcjpnjaaGreatDoor
open Go.Proofs.Tryz
open Go.RowKit
structure zmR (k:Int)(l:List zac):Prop where
 arcs:∀ i,i<l.length->zAT k l.length (stA l i)/\(stA l i).length<=30000
 fins:∀ i,i<l.length->stF l i=⟨#[]⟩∨∃ v,Val k (stF l i) v
def zjL {k:Int}(n:Nat)(P:Prop)(F:Nat->El k)(w:World)(e:Ending)(w':World):Prop :=
 w.grownBy w' none/\((P/\∃ g,e=.returned (.tuple #[.slice (some ⟨g,0,none⟩) n n,.int .i64 0])/\w.heap.size<=g/\zbe w' g n (fun j=>tx (F j)))∨(¬ P/\e=.returned (.tuple #[.slice none 0 0,.int .i64 2])))
section
variable {k:Int}
noncomputable def stepI (hk:zam k)(l:List zac)(f:Nat->El k)(a b q t:Nat):List (Nat×El k):=stepL (srE k hk) (vE hk) l f a b q t
def zgF (hk:zam k)(L:List (Nat×El k)):Prop:=zaR (srE k hk) zav L
def csE (hk:zam k)(L:List (Nat×El k))(y:Nat):El k:=cs (srE k hk) L y
def zBc (hk:zam k)(l:List zac)(f:Nat->El k)(a b q t:Nat)(hq:q<l.length)(ht:t<=(stA l q).length):∃ R,stepI hk l f a b l.length 0=stepI hk l f a b q t++R:=by
 have key:∀ d q,q+d=l.length->∃ R,stepI hk l f a b l.length 0=stepI hk l f a b q 0++R:=fun d=>by
  induction d with
  | zero=>intro q hq;rw[show q=l.length by omega];exact⟨[],by simp⟩
  | succ d ih =>
   intro q hq;obtain⟨R,hR⟩:=ih (q+1) (by omega);rw[hR];unfold stepI;rw[zhJ];unfold stepL;refine⟨stepRow (srE k hk) (vE hk) l f a b q (stA l q).length++R,?_⟩;have:stepRow (srE k hk) (vE hk) l f a b q 0=[]:=by unfold stepRow;split <;> simp
   rw[this,List.append_nil,zqbj]
 obtain⟨R,hR⟩:=key (l.length-(q+1)) (q+1) (by omega)
 have zW:∃ R',stepRow (srE k hk) (vE hk) l f a b q (stA l q).length=stepRow (srE k hk) (vE hk) l f a b q t++R':=by
  unfold stepRow;split;exact⟨[],rfl⟩;refine⟨(((stA l q).drop t).filter (zdx a b)).map (zfL (srE k hk) (vE hk) f q),?_⟩;rw[<- List.map_append,<- List.filter_append,List.take_length,List.take_append_drop]
 obtain⟨R',hR'⟩:=zW;refine⟨R'++R,?_⟩;rw[hR];unfold stepI;rw[zhJ];unfold stepL;rw[hR',zqbj,zqbj,zqbj]
def zxV (hk:zam k)(l:List zac)(us:List Value)(As:Option Addr)(n cs:Nat)(st:Int)(ld:ByteArray)(vv:Value)(f:Nat->El k)(a b:Nat)(w:World)(hln:l.length=n)(hn:n<=3000)(hok:zmR k l)(hst:zmI w l us As cs)
  (hv:zev w vv n (fun q=>.string (tx (f q)))) (hf:∀ q,q<n->zav (f q)) :
  Calls prog 73 #[.agg #[.int .i64 k,.int .i64 st,.string ld,.slice As n cs],vv,.int .i64 (a:Int),.int .i64 (b:Int),.bool false] w (zjL n (zgF hk (stepI hk l f a b l.length 0)) (csE hk (stepI hk l f a b l.length 0)) w):=by
 obtain⟨Av,cv,rfl,hv1,hv2,hv3⟩:=hv;have hal:=zGA w (.cells #[.int .i64 k,.int .i64 st,.string ld,.slice As n cs] 29) none;obtain⟨x0,x1,x2,x3⟩:=zmO.new w k st ld As n cs;have hvv:zev (w.alloc (.cells #[.int .i64 k,.int .i64 st,.string ld,.slice As n cs] 29)) (.slice Av n cv) n (fun q=>.string (tx (f q))):=zev.grown ⟨Av,cv,rfl,hv1,hv2,hv3⟩ hal;have hsz:(w.alloc (.cells #[.int .i64 k,.int .i64 st,.string ld,.slice As n cs] 29)).heap.size=w.heap.size+1:=by simp
 have HN:=zHd (zAI hn hln);have HAL:=zHd hal;have HOK:=zHd hok;have HST:=zHd (hst.grown hal);have HV:=zHd hvv;have HF:=zHd hf;have HSZ:=zHd hsz;clear hal hst hok hvv hf hn hv1 hv2 hv3 hsz;go_enter func73,ntmps73;go_upto_region 1 with(fail);generalize w.alloc (.cells #[.int .i64 k,.int .i64 st,.string ld,.slice As n cs] 29)=W0 at *;go_wp2_with fail;refine(zio k st ld As n cs W0 HN.out.1).mono ?_;rintro e w1 ⟨gb,rfl,hgb,hg1,hr1⟩;have H1:=zHd (zAI hgb (zAI hg1 hr1));have HX:=zHd (zAI x0 x3);clear hgb hg1 hr1 x0 x1 x2 x3;go_wp2
 go_loopw [13] (fun iv wr=>∃ q:Nat,q<=n/\iv=.int .i64 (q:Int)/\W0.grownBy wr none/\zbe wr gb n (fun y=>tx (csE hk (stepI hk l f a b q 0) y))/\zgF hk (stepI hk l f a b q 0)) (fun iv _=>n-(intOf iv).toNat)
 case atStart =>
  refine⟨0,zqaw _,rfl,H1.out.2.1,?_,?_⟩
  ·refine H1.out.2.2.congr (fun j _=>?_)
   unfold csE stepI;rw[zoi];exact(zbJ hk).symm
  unfold zgF stepI;rw[zoi];exact zaR.nil
 case round =>
  obtain⟨q,hq',rfl,hg,hr,hac⟩:=hrel;have y0:=hg.cell HX.out.1 (by simp);have y3:=hg.cell HX.out.2 (by simp)
  by_cases hqn:q<n
  ·have u1:decide (q<n)=true:=by simpa using hqn
   have u1':decide ((q:Int)<(n:Int))=true:=by simpa using hqn
   have u2:(q:Int)<(n:Int):=by omega
   have u3:(0:Int)<=(q:Int):=by omega
   have u4:IntKind.i64.wrap ((q:Int)+1)=(q:Int)+1:=by have:=HN.out.1;rw[zqah];omega
   obtain⟨_,_,e1,_,_,hcv⟩:=HV.out.grown hg;cases e1;obtain⟨av,rfl,hbv,q1⟩:=hcv q hqn
   have hav:av.block<W0.heap.size:=by
    obtain⟨_,_,e1,_,_,hcv0⟩:=HV.out;cases e1;obtain⟨_,e1,hb0,_⟩:=hcv0 q hqn;cases e1;exact hb0
   have nb1:some (av.add q).block≠some gb:=by rw[zbx];have:=H1.out.1;intro e;cases e;omega
   have nb0:some w.heap.size≠some gb:=by have:=H1.out.1;have:=HSZ.out;intro e;cases e;omega
   have HNB:=zHd (zAI nb0 nb1);clear hav nb1 nb0;have d0:wr.drew.cell? ⟨w.heap.size,0,none⟩=some (.int .i64 k):=y0;have d1:wr.drew.cell? (av.add q)=some (.string (tx (f q))):=q1;have HI:=zHd (zAI hqn (zAI hg (zAI hr hac)));clear hq' hqn hg hr hac hcv hbv;rcases zgu (tx (f q)) (zaV k) with⟨f1,z1⟩|⟨f1,z1⟩
   ·have f2:((tx (f q)).toList != (zaV k).toList)=false:=by simp[bne,f1]
    have HZ:=zHd (zhD hk (HF.out q HI.out.1) z1);clear z1;go_upto_region 5 with(fail)
    go_region_held2 (fun W'=>W'.cell? ⟨w.heap.size,0,none⟩=some (.int .i64 k)/\W'.cell? (av.add q)=some (.string (tx (f q)))) (first|exact⟨d0,d1⟩|exact S5|go_keep)
     (first|(go_at_call 19;refine(zbj k _).mono ?_;rintro e w5 ⟨rfl,hg5⟩;have S5:(fun W':World=>W'.cell? ⟨w.heap.size,0,none⟩=some (.int .i64 k)/\W'.cell? (av.add q)=some (.string (tx (f q)))) w5:=⟨hg5.cell d0 (by simp),hg5.cell d1 (by simp)⟩;have H5:=zHd (zaa (zag wr none) hg5);clear hg5))
    all_goals
     go_wp2;refine⟨⟨q+1,HI.out.1,by simp,zaa HI.out.2.1 H5.out,?_,?_⟩,by have:=HI.out.1;simp[intOf];omega⟩
     ·have e:stepI hk l f a b (q+1) 0=stepI hk l f a b q 0:=by unfold stepI;rw[zhJ,zqg _ _ _ _ _ _ _ HZ.out]
      rw[e];exact HI.out.2.2.1.grown H5.out
     have e:stepI hk l f a b (q+1) 0=stepI hk l f a b q 0:=(by unfold stepI;rw[zhJ,zqg _ _ _ _ _ _ _ HZ.out]);rw[e];exact HI.out.2.2.2
   have f2:((tx (f q)).toList != (zaV k).toList)=true:=by simp[bne,f1]
   have HZ:Hid (¬ f q=(srE k hk).zero):=zHd (fun h=>z1 (by rw[h,zbJ]));clear z1;go_upto_region 5 with(fail)
   go_region_held2 (fun W'=>W'.cell? ⟨w.heap.size,0,none⟩=some (.int .i64 k)/\W'.cell? (av.add q)=some (.string (tx (f q)))) (first|exact⟨d0,d1⟩|exact S5|go_keep)
    (first|(go_at_call 19;refine(zbj k _).mono ?_;rintro e w5 ⟨rfl,hg5⟩;have S5:(fun W':World=>W'.cell? ⟨w.heap.size,0,none⟩=some (.int .i64 k)/\W'.cell? (av.add q)=some (.string (tx (f q)))) w5:=⟨hg5.cell d0 (by simp),hg5.cell d1 (by simp)⟩;have H5:=zHd (zaa (zag wr none) hg5);clear hg5))
   all_goals
    clear d0 d1 q1 y0 y3 S5;obtain⟨ad,s,u,rfl,hbl,hls,hus,hsa,hsl⟩:=HST.out.at_ q (by rw[HN.out.2];exact HI.out.1);obtain⟨Au,cu,rfl,hra⟩:=hsl;have hse:=zeP hls;obtain⟨hao,hal⟩:=HOK.out.arcs q (by rw[HN.out.2];exact HI.out.1);rw[hse] at hao hal;obtain⟨m,hm⟩:∃ m,s.arcs.length=m:=⟨_,rfl⟩;rw[hm] at hal hsa;have HS:=zHd (zAI hsa (zAI hra (zAI hse (zAI hao (zAI hal (zAI hm hbl))))));clear hls hus hsa hra hse hao hal hm hbl;go_wp2;generalize wr=wq at *
    go_loopw [14] (fun tv wr=>∃ t:Nat,t<=m/\tv=.int .i64 (t:Int)/\W0.grownBy wr none/\zbe wr gb n (fun y=>tx (csE hk (stepI hk l f a b q t) y))/\zgF hk (stepI hk l f a b q t)) (fun tv _=>m-(intOf tv).toNat)
    case atStart=>exact⟨0,zqaw _,rfl,zaa HI.out.2.1 H5.out,HI.out.2.2.1.grown H5.out,HI.out.2.2.2⟩
    case round =>
     obtain⟨t,ht',rfl,hg,hr,hac⟩:=hrel;have y0:=hg.cell HX.out.1 (by simp);have y3:=hg.cell HX.out.2 (by simp);have hbe:=zhj hg;have q1:=(HS.out.1.below hbe (by rw[zbx];exact HS.out.2.2.2.2.2.2)).c1
     by_cases htm:t<m
     ·have x1:decide (t<m)=true:=by simpa using htm
      have x1':decide ((t:Int)<(m:Int))=true:=(by simpa using htm);have x2:(t:Int)<(m:Int):=(by omega);have x3:(0:Int)<=(t:Int):=(by omega);have x4:IntKind.i64.wrap ((t:Int)+1)=(t:Int)+1:=(by have:=HS.out.2.2.2.2.1;rw[zqah];omega);obtain⟨bd,x,rfl,hbb,hla,⟨a0,a1,a2,a3⟩⟩:=zhf ((HS.out.2.1.below hbe).more hbe.size) (by rw[HS.out.2.2.2.2.2.1];exact htm);obtain⟨ht0,htn,hwv⟩:=HS.out.2.2.2.1 x (zqak hla);obtain⟨hwt,hwf⟩:=znH hk hwv;obtain⟨κ,hκ⟩:∃ κ:Nat,x.t=(κ:Int):=⟨x.t.toNat,by omega⟩;have hκn:κ<n:=(by have:=HN.out.2;omega);rw[hκ] at a3;rw[hwt] at a2;have hx:(stA l q)[t]?=some x:=(by rw[HS.out.2.2.1];exact hla);obtain⟨_,_,e1,_,_,hcv⟩:=HV.out.grown hg;cases e1;obtain⟨av',e1,hbv,q2⟩:=hcv q HI.out.1;cases e1;have HT:=zHd (zAI htm (zAI hg (zAI hr hac)));have HXX:=zHd hx;have HK:=zHd (zAI hκ (zAI hκn hwf));clear ht' htm hg hr hac hcv hbv hla hbb ht0 htn hwv hwt hwf hκ hκn hbe hx
      by_cases hi:x.i=(a:Int)
      ·by_cases ho:x.o=(b:Int)
       ·have g1:(x.i != (a:Int))=false:=by simp[hi]
        have g1':(x.i==(a:Int))=true:=(by simp[hi]);have g2:(x.o != (b:Int))=false:=(by simp[ho]);have g2':(x.o==(b:Int))=true:=(by simp[ho]);have HG:=zHd (zAI hi ho);have e:=zmM (S:=srE k hk) (vE hk) l f a b q t HZ.out HXX.out;rw[if_pos (by unfold zdx;simp[hi,ho])] at e;have HE:=zHd e;clear hi ho e;go_upto_region 11 with(fail);have hal:=zGA wr (.cells #[.int .i64 x.i,.int .i64 x.o,.string (tx (vE hk x.w)),.int .i64 (κ:Int)] 78) none;have e2:=zge wr #[.int .i64 x.i,.int .i64 x.o,.string (tx (vE hk x.w)),.int .i64 (κ:Int)] 78 (j:=2) rfl;have e3:=zge wr #[.int .i64 x.i,.int .i64 x.o,.string (tx (vE hk x.w)),.int .i64 (κ:Int)] 78 (j:=3) rfl;have e0:=hal.cell y0 (by simp);have e1:=hal.cell q2 (by simp);generalize wr.alloc (.cells #[.int .i64 x.i,.int .i64 x.o,.string (tx (vE hk x.w)),.int .i64 (κ:Int)] 78)=Wb at *;have d0:Wb.drew.cell? ⟨w.heap.size,0,none⟩=some (.int .i64 k):=e0;have d1:Wb.drew.cell? (av.add q)=some (.string (tx (f q))):=e1;have d2:Wb.drew.cell? ⟨wr.heap.size,2,none⟩=some (.string (tx (vE hk x.w))):=e2;have d3:Wb.drew.cell? ⟨wr.heap.size,3,none⟩=some (.int .i64 (κ:Int)):=e3;have HWU:=zHd (zaa hal (zag Wb none));have nb2:some wr.heap.size≠some gb:=(by have:=HT.out.2.2.1.lt;intro e;cases e;omega);have HNB2:=zHd nb2;clear nb2;clear hal e0 e1 e2 e3 a0 a1 a2 a3 q1 q2 y0 y3
        go_region_held2 (fun W'=>W'.cell? ⟨w.heap.size,0,none⟩=some (.int .i64 k)/\W'.cell? (av.add q)=some (.string (tx (f q)))/\W'.cell? ⟨wr.heap.size,2,none⟩=some (.string (tx (vE hk x.w)))/\W'.cell? ⟨wr.heap.size,3,none⟩=some (.int .i64 (κ:Int))) (first|exact⟨d0,d1,d2,d3⟩|exact S6|go_keep)
         (first|(go_at_call 112;refine(zmP hk gb n κ n (csE hk (stepI hk l f a b q t)) (f q) (vE hk x.w) (HF.out q HI.out.1) HK.out.2.2 (fun j _=>zaR.all HT.out.2.2.2 (zbp hk) j) HK.out.2.1 _ (HT.out.2.2.1.grown HWU.out)).mono ?_;rintro e w6 ⟨E,rfl,hg6,hcase⟩;have S6:(fun W':World=>W'.cell? ⟨w.heap.size,0,none⟩=some (.int .i64 k)/\W'.cell? (av.add q)=some (.string (tx (f q)))/\W'.cell? ⟨wr.heap.size,2,none⟩=some (.string (tx (vE hk x.w)))/\W'.cell? ⟨wr.heap.size,3,none⟩=some (.int .i64 (κ:Int))) w6:=⟨hg6.cell d0 HNB.out.1,hg6.cell d1 HNB.out.2,hg6.cell d2 HNB2.out,hg6.cell d3 HNB2.out⟩;have H6:=zHd (zAI hg6 hcase);clear hg6 hcase))
        all_goals
         have hg7:=zae (zaa HT.out.2.1 HWU.out) H6.out.1 H1.out.1;have HG7:=zHd hg7;clear hg7 d0 d1 d2 d3 S6;rcases H6.out.2 with⟨rfl,p1,p2,p3⟩|⟨rfl,p1,p2⟩
         ·have HP:=zHd (zAI p1 (zAI p2 p3))
          clear p1 p2 p3;go_wp2
          have e:stepI hk l f a b q (t+1)=stepI hk l f a b q t++[(κ,(srE k hk).mul (f q) (vE hk x.w))]:=by
           have h:=HE.out;unfold zfL at h;rw[HK.out.1] at h;exact h
          refine⟨⟨t+1,HT.out.1,by simp,HG7.out,?_,?_⟩,by have:=HT.out.1;simp[intOf];omega⟩
          ·rw[e]
           refine HP.out.2.2.congr (fun j _=>?_);unfold csE;rw[zib]
           by_cases e2:j=κ
           rw[if_pos e2,if_pos e2.symm,e2];rw[if_neg e2,if_neg (fun h=>e2 h.symm)]
          rw[e];exact zaR.snoc HT.out.2.2.2 HP.out.1 HP.out.2.1
         have HP:=zHd p1;clear p1 p2;go_wp2;go_ret2;refine⟨zaa HAL.out HG7.out,.inr ⟨fun zf=>HP.out ?_,rfl⟩⟩;obtain⟨R,hR⟩:=zBc hk l f a b q (t+1) (by rw[HN.out.2];exact HI.out.1) (by rw[HS.out.2.2.1,HS.out.2.2.2.2.2.1];have:=HT.out.1;omega)
         have e:stepI hk l f a b q (t+1)=stepI hk l f a b q t++[(κ,(srE k hk).mul (f q) (vE hk x.w))]:=by
          have h:=HE.out;unfold zfL at h;rw[HK.out.1] at h;exact h
         rw[HN.out.2] at hR;rw[hR,e,zqbj] at zf;exact zaR.at_ zf
       have g1:(x.i != (a:Int))=false:=(by simp[hi]);have g1':(x.i==(a:Int))=true:=(by simp[hi]);have g2:(x.o != (b:Int))=true:=(by simp[ho]);have g2':(x.o==(b:Int))=false:=(by simp[ho]);have e:=zmM (S:=srE k hk) (vE hk) l f a b q t HZ.out HXX.out;rw[if_neg (by unfold zdx;simp[ho]),List.append_nil] at e;have HE:=zHd e;have hal:=zGA wr (.cells #[.int .i64 x.i,.int .i64 x.o,.string (tx (vE hk x.w)),.int .i64 (κ:Int)] 78) none;have HAL2:=zHd hal;clear hi ho e hal;go_wp2;refine⟨⟨t+1,HT.out.1,by simp,zaa HT.out.2.1 HAL2.out,?_,?_⟩,by have:=HT.out.1;simp[intOf];omega⟩;unfold stepI;rw[HE.out];exact HT.out.2.2.1.grown HAL2.out;unfold stepI;rw[HE.out];exact HT.out.2.2.2
      have g1:(x.i != (a:Int))=true:=(by simp[hi]);have g1':(x.i==(a:Int))=false:=(by simp[hi]);have e:=zmM (S:=srE k hk) (vE hk) l f a b q t HZ.out HXX.out;rw[if_neg (by unfold zdx;simp[hi]),List.append_nil] at e;have HE:=zHd e;have hal:=zGA wr (.cells #[.int .i64 x.i,.int .i64 x.o,.string (tx (vE hk x.w)),.int .i64 (κ:Int)] 78) none;have HAL2:=zHd hal;clear hi e hal;go_wp2;refine⟨⟨t+1,HT.out.1,by simp,zaa HT.out.2.1 HAL2.out,?_,?_⟩,by have:=HT.out.1;simp[intOf];omega⟩;unfold stepI;rw[HE.out];exact HT.out.2.2.1.grown HAL2.out;unfold stepI;rw[HE.out];exact HT.out.2.2.2
     obtain rfl:t=m:=by omega
     have v1:decide (t<t)=false:=(by simp);have v1':decide ((t:Int)<(t:Int))=false:=(by simp);have HJ:=zHd (zAI hg (zAI hr hac));clear ht' htm hg hr hac hbe;go_wp2;have e:stepI hk l f a b (q+1) 0=stepI hk l f a b q t:=(by unfold stepI;rw[zhJ,HS.out.2.2.1,HS.out.2.2.2.2.2.1]);refine⟨⟨q+1,HI.out.1,by simp,HJ.out.1,?_,?_⟩,by have:=HI.out.1;simp[intOf];omega⟩;rw[e];exact HJ.out.2.1;rw[e];exact HJ.out.2.2
  obtain rfl:q=n:=by omega
  have v1:decide (q<q)=false:=by simp
  have v1':decide ((q:Int)<(q:Int))=false:=by simp
  have HJ:=zHd (zAI hg (zAI hr hac));clear hq' hqn hg hr hac;go_wp2;go_ret2;have hl:=HN.out.2;refine⟨zaa HAL.out HJ.out.1,.inl ⟨by rw[hl];exact HJ.out.2.2,gb,rfl,by have:=H1.out.1;have:=HSZ.out;omega,by rw[hl];exact HJ.out.2.1⟩⟩
end
open Go.RowKit
def zax (w:World)(v:Value)(zs:List Int):Prop:=zev w v zs.length (fun i=>.int .i64 (zs.getD i 0))
def zax.grown {w w':World}{v:Value}{zs:List Int}(h:zax w v zs)(hg:w.grownBy w' none):zax w' v zs:=zev.grown h hg
def zaI (s:Int):Bool:=decide (1<=s/\s<=500)
def zat (zs:List Int):Bool:=decide (zs.length<=200)&&zs.all zaI
def zkk {zs:List Int}{i:Nat}(hi:i<zs.length):(zs.take (i+1)).all zaI=((zs.take i).all zaI&&zaI (zs.getD i 0)):=by
 have e:zs.take (i+1)=zs.take i++[zs.getD i 0]:=by rw[List.take_add_one,zqac hi,zqaa,zqac hi];rfl
 rw[e,List.all_append,List.all_cons,List.all_nil,Bool.and_true]
def zeR (zs:List Int)(v:Value)(w:World)(hv:zax w v zs):Calls prog 16 #[v] w (zab (.bool (zat zs)) w):=by
 obtain⟨A,c,rfl,h1,h2,h3⟩:=hv;obtain⟨n,hn⟩:∃ n,zs.length=n:=⟨_,rfl⟩;rw[hn] at h1 h3 ⊢
 by_cases h200:n<=200
 ·have t1:decide ((n:Int) > 200)=false:=by simp;omega
  have t2:decide ((200:Int)<(n:Int))=false:=by simp;omega
  have t3:¬ (200:Int)<(n:Int):=by omega
  have HN:=zHd (zAI h200 hn);have HV:=zHd h3;clear h1 h2 h3 h200 hn;go_enter func16,ntmps16;go_wp2
  go_loopw [3] (fun iv wr=>∃ i:Nat,i<=n/\iv=.int .i64 (i:Int)/\wr=w/\(zs.take i).all zaI=true) (fun iv _=>n-(intOf iv).toNat)
  case atStart=>exact⟨0,zqaw _,rfl,rfl,by simp⟩
  case round =>
   obtain⟨i,hi',rfl,rfl,ha⟩:=hrel
   by_cases hin:i<n
   ·have u1:decide (i<n)=true:=by simpa using hin
    have u1':decide ((i:Int)<(n:Int))=true:=(by simpa using hin);have u2:(i:Int)<(n:Int):=(by omega);have u3:(0:Int)<=(i:Int):=(by omega);have u4:IntKind.i64.wrap ((i:Int)+1)=(i:Int)+1:=(by have:=HN.out.1;rw[zqah];omega);obtain⟨ad,rfl,hb,hc⟩:=HV.out i hin;have hat:=zkk (zs:=zs) (i:=i) (by rw[HN.out.2];exact hin);rw[ha,Bool.true_and] at hat;generalize zs.getD i 0=z at *;have HI:=zHd (zAI hin hat);clear hi' hin ha hat hb
    by_cases hz1:z<1
    ·have g1:decide (z<1)=true:=by simpa using hz1
     have g0:¬ (1:Int)<=z:=(by omega);have hno:zaI z=false:=(by unfold zaI;simp;omega);have HNO:=zHd hno;clear hno;go_wp2;go_ret
     have e:zs.all zaI=false:=by
      have h:=HI.out.2;rw[HNO.out] at h;exact zQbJ
     exact zQcy
    have g1:decide (z<1)=false:=(by simpa using hz1);have g0:(1:Int)<=z:=by omega
    by_cases hz2:(500:Int)<z
    ·have g2:decide ((500:Int)<z)=true:=by simpa using hz2
     have g4:¬ z<=(500:Int):=(by omega);have g3:decide (z > 500)=true:=(by simpa using hz2);have hno:zaI z=false:=(by unfold zaI;simp;omega);have HNO:=zHd hno;clear hno;go_wp2;go_ret
     have e:zs.all zaI=false:=by
      have h:=HI.out.2;rw[HNO.out] at h;exact zQbJ
     exact zQcy
    have g2:decide ((500:Int)<z)=false:=(by simpa using hz2);have g4:z<=(500:Int):=(by omega);have g3:decide (z > 500)=false:=(by simpa using hz2);have hys:zaI z=true:=(by unfold zaI;simp;omega);have HY:=zHd hys;clear hys;go_wp2;exact⟨⟨i+1,HI.out.1,by simp,(by first|trivial|rfl),by rw[HI.out.2,HY.out]⟩,by have:=HI.out.1;simp[intOf];omega⟩
   obtain rfl:i=n:=by omega
   have v1:decide (i<i)=false:=(by simp);have v1':decide ((i:Int)<(i:Int))=false:=(by simp);have HJ:=zHd ha;clear hi' hin ha;go_wp2;go_ret;refine⟨?_,zai _ _⟩;have h:=HJ.out;rw[zqaf (by rw[HN.out.2];exact zqab _)] at h;unfold zat;rw[h,HN.out.2,decide_eq_true HN.out.1];rfl
 have t1:decide ((n:Int) > 200)=true:=by simp;omega
 have t2:decide ((200:Int)<(n:Int))=true:=by simp;omega
 have t3:(200:Int)<(n:Int):=by omega
 have HN:=zHd (zAI h200 hn);clear h1 h2 h3 h200 hn;go_enter func16,ntmps16;go_wp2;go_ret;refine⟨?_,zai _ _⟩;unfold zat;rw[HN.out.2,zqcb HN.out.1];rfl
open Go.RowKit
def zjM {w:World}{base:Nat}{e:TypeId}{size g n cap:Nat}{xs:List Value}(h:w.ownsRow base e size (.slice (some ⟨g,0,none⟩) n cap) n xs){j:Nat}(x:Value):(w.setCell ⟨g,j,none⟩ x).ownsRow base e size (.slice (some ⟨g,0,none⟩) n cap) n (xs.set j x):=by
 obtain⟨hl,h2⟩:=h;refine⟨by simp[hl],.inr ?_⟩;rcases h2 with⟨e1,_⟩|⟨g',cap',cur,e1,hb,hg,h1,h2,h3,h4⟩;cases e1;simp only[Value.slice.injEq,Option.some.injEq,Addr.mk.injEq,and_true,true_and] at e1;obtain⟨rfl,rfl⟩:=e1;refine⟨g,cap,cur.setIfInBounds j x,rfl,hb,heap_setCell_same w g j _ _ x hg,h1,h2,by simp[h3],?_⟩;rw[<- h4,Array.toList_setIfInBounds,List.take_set]
def zuq:∀ (L:List (zac×Value)) (i:Nat) (p q:zac×Value),L[i]?=some p->q.1.fin=p.1.fin->(L.set i q).flatMap stC=(L.flatMap stC).set (i*2+1) q.2
 | [],i,p,q,h,_=>by simp at h
 | r::L,0,p,q,h,hf=>by
  simp only[List.getElem?_cons_zero,Option.some.injEq] at h;subst h;show stC q++L.flatMap stC=(stC r++L.flatMap stC).set 1 q.2;unfold stC;rw[hf];rfl
 | r::L,i+1,p,q,h,hf=>by
  rw[List.getElem?_cons_succ] at h;show stC r++(L.set i q).flatMap stC=(stC r++L.flatMap stC).set ((i+1)*2+1) q.2;rw[zuq L i p q h hf,show(i+1)*2+1=(i*2+1)+1+1 by omega];rfl
def zur:∀ (L:List (zac×Value)) (i:Nat) (p q:zac×Value),L[i]?=some p->q.2=p.2->(L.set i q).flatMap stC=(L.flatMap stC).set (i*2) (.string q.1.fin)
 | [],i,p,q,h,_=>by simp at h
 | r::L,0,p,q,h,hf=>by
  simp only[List.getElem?_cons_zero,Option.some.injEq] at h;subst h;show stC q++L.flatMap stC=(stC r++L.flatMap stC).set 0 (.string q.1.fin);unfold stC;rw[hf];rfl
 | r::L,i+1,p,q,h,hf=>by
  rw[List.getElem?_cons_succ] at h;show stC r++(L.set i q).flatMap stC=(stC r++L.flatMap stC).set ((i+1)*2) (.string q.1.fin);rw[zur L i p q h hf,show(i+1)*2=(i*2)+1+1 by omega];rfl
def zoR {α β:Type}:∀ (l:List α) (k:List β) (i:Nat) (a:α) (b:β),(l.set i a).zip (k.set i b)=(l.zip k).set i (a,b)
 | [],k,i,a,b=>by simp
 | x::l,[],i,a,b=>by simp
 | x::l,y::k,0,a,b=>rfl
 | x::l,y::k,i+1,a,b=>by
  show(x,y)::(l.set i a).zip (k.set i b)=(x,y)::(l.zip k).set i (a,b);rw[zoR l k i a b]
section
variable {W W1:World} {bb:Nat} {k:Int} {one:ByteArray} {ss:List zac} {us:List Value} {g n cap:Nat}
def zbG.st_cells (h:zbG W bb k one (.slice (some ⟨g,0,none⟩) n cap) ss us){i:Nat}{s:zac}{u:Value}(hs:ss[i]?=some s)(hu:us[i]?=some u) :
  n=ss.length/\W.cell? ⟨g,i*2,none⟩=some (.string s.fin)/\W.cell? ⟨g,i*2+1,none⟩=some u/\(∀ j,W.frozen? ⟨g,j,none⟩=false):=by
 have hz:(ss.zip us)[i]?=some (s,u):=by rw[List.getElem?_zip_eq_some];exact⟨hs,hu⟩
 have q0:=h.own.cells (g:=g) rfl (i*2+0) _ (flat_get stC 2 zfI _ i 0 _ hz (by omega));have q1:=h.own.cells (g:=g) rfl (i*2+1) _ (flat_get stC 2 zfI _ i 1 _ hz (by omega));rw[zhY,zqat] at q0 q1
 have hn:n=ss.length:=by
  rcases h.own.2 with⟨e,_⟩|⟨g',cap',cur,e,_⟩;cases e;cases e;rfl
 refine⟨hn,q0,q1,fun j=>?_⟩;rcases h.own.2 with⟨e,_⟩|⟨g',cap',cur,e,hb,hg,_⟩
 cases e;cases e;exact zqbx W _ j _ _ hg
def zbG.put (h:zbG W bb k one (.slice (some ⟨g,0,none⟩) n cap) ss us){i:Nat}{s s':zac}{u x:Value}{r:Option Nat}(hs:ss[i]?=some s)(hu:us[i]?=some u)(hf:s'.fin=s.fin)
  (hg:W.grownBy W1 r) (hr:r=none∨r=u.ownBlock) (hx:W1.ownsRow (bb+1) 78 4 x s'.arcs.length (s'.arcs.flatMap zdw)) (hat:∀ c,x.ownBlock=some c->u.ownBlock=some c∨W.heap.size<=c) :
  zbG (W1.setCell ⟨g,i*2+1,none⟩ x) bb k one (.slice (some ⟨g,0,none⟩) n cap) (ss.set i s') (us.set i x):=by
 have hset:=zad W1 ⟨g,i*2+1,none⟩ x;have hglt:=h.own.lt g rfl
 have hbr:some bb≠r:=by
  rcases hr with e|e;rw[e];simp;rw[e];exact h.ulow hu
 have hgr:(Value.slice (some ⟨g,0,none⟩) n cap).ownBlock≠r:=by
  rcases hr with e|e;rw[e];show some g≠none;simp;rw[e];rcases h.far i u hu with e2|e2;rw[e2];show some g≠none;simp;exact fun e3=>e2 e3.symm
 have hxg:x.ownBlock≠some g:=fun e=>by
  rcases hat g e with e2|e2
  ·rcases h.far i u hu with e3|e3
   ·rw[e3] at e2;cases e2
   exact e3 e2
  omega
 have hil:=(zqae.1 hu).1;have hisl:=(zqae.1 hs).1
 have hxu:∀ (j:Nat) (u':Value),j≠i->us[j]?=some u'->u'.ownBlock=none∨u'.ownBlock≠x.ownBlock:=fun j u' hj hu'=>by
  cases e:u'.ownBlock with
  | none=>exact .inl rfl
  | some b =>
   refine .inr (fun e2=>?_);rcases hat b e2.symm with e3|e3
   ·rcases h.dis j i u' u hj hu' hu with e4|e4
    ·rw[e4] at e;cases e
    exact e4 (e.trans e3.symm)
   have:=(h.ult hu' e).2;omega
 have hur:∀ (j:Nat) (u':Value),j≠i->us[j]?=some u'->u'.ownBlock=none∨u'.ownBlock≠r:=fun j u' hj hu'=>by
  rcases hr with e|e
  ·rw[e];cases e2:u'.ownBlock <;> simp
  rw[e];exact h.dis j i u' u hj hu' hu
 refine⟨?_,by simp[h.len],?_,fun j s2 u2 hs2 hu2=>?_,fun j j' u2 u2' hj hu2 hu2'=>?_,fun j u2 hu2=>?_⟩;exact(hset.block bb (by have:=h.lt;have:=hg.size;omega) (by show some bb≠some g;intro e;cases e;omega)).trans ((hg.block bb h.lt hbr).trans h.box)
 ·rw[zoR,List.length_set]
  have hz:(ss.zip us)[i]?=some (s,u):=by rw[List.getElem?_zip_eq_some];exact⟨hs,hu⟩
  rw[zuq _ i (s,u) (s',x) hz hf];have hn:=(h.st_cells hs hu).1;subst hn;exact zjM (h.own.kept hg (.inr hgr)) x
 ·by_cases e:j=i
  ·subst e
   rw[zqbi hil] at hu2;rw[zqbi hisl] at hs2;cases hu2;cases hs2;exact hx.kept hset (.inr hxg)
  rw[zqbl (Ne.symm e)] at hu2 hs2;exact((h.arcs j s2 u2 hs2 hu2).kept hg (hur j u2 e hu2)).kept hset (by rcases h.far j u2 hu2 with e2|e2;exact .inl e2;exact .inr e2)
 ·by_cases e:j=i
  ·subst e
   rw[zqbi hil] at hu2;rw[zqbl hj] at hu2';cases hu2;rcases hxu j' u2' (Ne.symm hj) hu2' with e2|e2
   ·cases e3:x.ownBlock with
    | none=>exact .inl rfl
    | some b=>exact .inr (by rw[e2];simp)
   exact .inr (fun e3=>e2 e3.symm)
  rw[zqbl (Ne.symm e)] at hu2
  by_cases e':j'=i
  ·subst e'
   rw[zqbi hil] at hu2';cases hu2';exact hxu j u2 e hu2
  rw[zqbl (Ne.symm e')] at hu2';exact h.dis j j' u2 u2' hj hu2 hu2'
 by_cases e:j=i
 ·subst e
  rw[zqbi hil] at hu2;cases hu2;exact .inr hxg
 rw[zqbl (Ne.symm e)] at hu2;exact h.far j u2 hu2
def zbG.putF (h:zbG W bb k one (.slice (some ⟨g,0,none⟩) n cap) ss us){i:Nat}{s s':zac}(hs:ss[i]?=some s)(hf:s'.arcs=s.arcs) :
  zbG (W.setCell ⟨g,i*2,none⟩ (.string s'.fin)) bb k one (.slice (some ⟨g,0,none⟩) n cap) (ss.set i s') us:=by
 have hset:=zad W ⟨g,i*2,none⟩ (.string s'.fin);have hglt:=h.own.lt g rfl;have hisl:=(zqae.1 hs).1;obtain⟨u,hu⟩:∃ u,us[i]?=some u:=⟨_,zqac (by rw[h.len];exact hisl)⟩
 have hus:us.set i u=us:=by
  apply List.ext_getElem?;intro j
  by_cases e:j=i
  subst e;rw[zqbi (by rw[h.len];exact hisl)];exact hu.symm;rw[zqbl (Ne.symm e)]
 refine⟨?_,by simp[h.len],?_,fun j s2 u2 hs2 hu2=>?_,h.dis,h.far⟩;exact(hset.block bb h.lt (by show some bb≠some g;intro e;cases e;omega)).trans h.box
 ·have hz:(ss.zip us)[i]?=some (s,u):=by rw[List.getElem?_zip_eq_some];exact⟨hs,hu⟩
  have e:=zoR ss us i s' u;rw[hus] at e;rw[e,List.length_set,zur _ i (s,u) (s',u) hz rfl];have hn:=(h.st_cells hs hu).1;subst hn;exact zjM h.own _
 have key:W.ownsRow (bb+1) 78 4 u2 s2.arcs.length (s2.arcs.flatMap zdw):=by
  by_cases e:j=i
  ·subst e
   rw[zqbi hisl] at hs2;cases hs2;rw[hf];exact h.arcs j s u2 hs hu2
  rw[zqbl (Ne.symm e)] at hs2;exact h.arcs j s2 u2 hs2 hu2
 exact key.kept hset (h.far j u2 hu2)
end
section
variable {E:Nat->Prop} {W W1:World} {bb:Nat} {k:Int} {one:ByteArray} {ss:List zac} {us:List Value} {g n cap:Nat}
def zbL.put (h:zbL E W bb k one (.slice (some ⟨g,0,none⟩) n cap) ss us){i:Nat}{s s':zac}{u x:Value}{r:Option Nat}(hs:ss[i]?=some s)(hu:us[i]?=some u)(hf:s'.fin=s.fin)
  (hg:W.grownBy W1 r) (hr:r=none∨r=u.ownBlock) (hx:W1.ownsRow (bb+1) 78 4 x s'.arcs.length (s'.arcs.flatMap zdw)) (hat:∀ c,x.ownBlock=some c->u.ownBlock=some c∨W.heap.size<=c) :
  zbL E (W1.setCell ⟨g,i*2+1,none⟩ x) bb k one (.slice (some ⟨g,0,none⟩) n cap) (ss.set i s') (us.set i x)/\zbU E W (W1.setCell ⟨g,i*2+1,none⟩ x):=by
 have hset:=zad W1 ⟨g,i*2+1,none⟩ x;have hil:=(zqae.1 hu).1;refine⟨⟨h.at_.put hs hu hf hg hr hx hat,h.nb,h.nv,fun j u2 b hu2 e hb=>?_,fun b hb=>?_⟩,(zaF hg (fun b e hb=>?_) h.lt).trans (zaF hset (fun b e=>by cases e;exact h.nv g rfl) (fun b hb=>?_))⟩
 ·by_cases ej:j=i
  ·subst ej
   rw[zqbi hil] at hu2;cases hu2;rcases hat b e with e2|e2
   exact h.nu j u b hu e2 hb;have:=h.lt b hb;omega
  rw[zqbl (Ne.symm ej)] at hu2;exact h.nu j u2 b hu2 e hb
 have:=h.lt b hb;have:=hg.size;have:=hset.size;omega
 ·rcases hr with e2|e2
  ·rw[e2] at e;cases e
  exact h.nu i u b hu (e2▸e) hb
 have:=h.lt b hb;have:=hg.size;omega
def zbL.putF (h:zbL E W bb k one (.slice (some ⟨g,0,none⟩) n cap) ss us){i:Nat}{s s':zac}(hs:ss[i]?=some s)(hf:s'.arcs=s.arcs) :
  zbL E (W.setCell ⟨g,i*2,none⟩ (.string s'.fin)) bb k one (.slice (some ⟨g,0,none⟩) n cap) (ss.set i s') us/\zbU E W (W.setCell ⟨g,i*2,none⟩ (.string s'.fin)):=by
 have hset:=zad W ⟨g,i*2,none⟩ (.string s'.fin);exact⟨⟨h.at_.putF hs hf,h.nb,h.nv,h.nu,fun b hb=>by have:=h.lt b hb;have:=hset.size;omega⟩,zaF hset (fun b e=>by cases e;exact h.nv g rfl) h.lt⟩
end
def zus (E:Nat->Prop)(bb:Nat)(k:Int)(one:ByteArray)(v:Value)(ss:List zac)(i:Nat)(s:zac)(w:World)(e:Ending)(w':World):Prop :=
 e=.returned (.tuple #[])/\zbU E w w'/\∃ us',zbL E w' bb k one v (ss.set i s) us'
def zoS {E:Nat->Prop}(bb:Nat)(k:Int)(one:ByteArray)(v:Value)(ss:List zac)(us:List Value)(i:Nat)(s:zac)(a:zaz)(w:World)(h:zbL E w bb k one v ss us)(hs:ss[i]?=some s)(hn:ss.length<=1000000)(ha:s.arcs.length<=1000000) :
  Calls prog 45 #[.pointer (some ⟨bb,0,none⟩),.int .i64 (i:Int),.int .i64 a.i,.int .i64 a.o,.string a.w,.int .i64 a.t] w (zus E bb k one v ss i ⟨s.fin,s.arcs++[a]⟩ w):=by
 obtain⟨i0,hi,hz0,hz1,hz2⟩:=info_parts zsd;have hisl:=(zqae.1 hs).1;obtain⟨u,hu⟩:∃ u,us[i]?=some u:=⟨_,zqac (by rw[h.at_.len];exact hisl)⟩
 obtain⟨g,n,cap,rfl⟩:∃ g n cap,v=.slice (some ⟨g,0,none⟩) n cap:=by
  rcases h.at_.own.2 with⟨e,e2⟩|⟨g',cap',cur,e,_⟩;omega;exact⟨g',_,cap',e⟩
 obtain⟨rfl,q0,q1,qf⟩:=h.at_.st_cells hs hu;have d0:=h.at_.c0;have hal:=zGA w (.cells #[.int .i64 a.i,.int .i64 a.o,.string a.w,.int .i64 a.t] 78) none;have h1:=h.same hal;have zO:=h1.at_.arcs i s u hs hu;have hlt:=h.at_.lt;have b1:(i:Int)<(ss.length:Int):=by omega
 have HK1:=zHd (zaF hal (fun b e=>by cases e) h.lt);have HN:=zHd hn;have HA:=zHd ha;have H1:=zHd h1;have HAL:=zHd hal;have HLT:=zHd hlt;have HU:=zHd hu;have HS:=zHd hs;have HF:=zHd (h.at_.far i u hu);clear hn hal h h1 ha hlt;go_enter func45,ntmps45;go_wp2_with (at_builtin;refine wpList_append_lies _ rfl _ _ _ rfl (bb+1) 78 i0 (.agg #[.int .i64 0,.int .i64 0,.string ⟨#[]⟩,.int .i64 0]) 4 40 underlying74 hi hz0 hz1 hz2 rfl (by omega) u s.arcs.length _ rfl zO ⟨w.heap.size,0,none⟩ 1 1 [.int .i64 a.i,.int .i64 a.o,.string a.w,.int .i64 a.t] rfl rfl (World.news_of_block (cs:=#[.int .i64 a.i,.int .i64 a.o,.string a.w,.int .i64 a.t]) (t:=78) (fr:=(0,0)) (zqce w _)) (by simp[Value.oneCell']) (by omega) (by have:=HA.out;unfold maxLen;omega) (by have:=HA.out;omega) (by simp;have:=HLT.out;omega) (w.heap.size+1) (by simp) ?_);intro gg cc w2 hown2 hg2 hat hlt2
 have hgu:some g≠u.ownBlock:=by
  rcases HF.out with e|e;rw[e];simp;exact fun e2=>e e2.symm
 have e1:w2.cell? ⟨g,i*2+1,none⟩=some u:=hg2.cell (HAL.out.cell q1 (by simp)) hgu
 have y1:w2.frozen? ⟨g,i*2+1,none⟩=false:=by
  have ho:=H1.out.at_.own.kept hg2 (.inr hgu);rcases ho.2 with⟨e,_⟩|⟨g',cap',cur,e,hb,hg,_⟩
  cases e;cases e;exact zqbx w2 _ _ _ _ hg
 have hp:=H1.out.put (s':=⟨s.fin,s.arcs++[a]⟩) HS.out HU.out rfl hg2 (.inr rfl) (x:=.slice (some ⟨gg,0,none⟩) (s.arcs.length+1) cc) (by
  show World.ownsRow _ _ _ _ _ (s.arcs++[a]).length ((s.arcs++[a]).flatMap zdw);rw[zqag,List.flatMap_append]
  exact hown2) (fun c hc=>by
   have hc:some gg=some c:=hc;cases hc;rcases hat with e|e
   exact .inl e;exact .inr (by rw[e];simp))
 have HP:=zHd hp.1;have HB:=zHd (HK1.out.trans hp.2);clear hp zO hown2 hg2 hat;go_wp2
 go_end0
 exact⟨rfl,HB.out,_,HP.out⟩
def zhK {E:Nat->Prop}(bb:Nat)(k:Int)(one:ByteArray)(v:Value)(ss:List zac)(us:List Value)(i z:Nat)(s:zac)(wt:ByteArray)(w:World)(h:zbL E w bb k one v ss us)(hs:ss[i]?=some s)(hn:ss.length<=1000000)(ha:s.arcs.length<=1000000) :
  Calls prog 56 #[.pointer (some ⟨bb,0,none⟩),.int .i64 (i:Int),.string wt,.int .i64 (z:Int)] w (zus E bb k one v ss i ⟨s.fin,s.arcs++[zbu wt z]⟩ w):=by
 have hc:=zoS bb k one v ss us i s (zbu wt z) w h hs hn ha;have HC:=zHd hc;clear hc h hs hn ha;unfold zbu at *;go_enter func56,ntmps56;go_wp2_with fail;refine HC.out.mono ?_;rintro e w1 ⟨rfl,hb,hp⟩;have H:=zHd (zAI hb hp);clear hb hp;go_wp2
 go_end0
 exact⟨rfl,H.out.1,H.out.2⟩
open Go.RowKit
def zut (l:List zaz)(w:World)(e:Ending)(w':World):Prop:=∃ v,e=.returned v/\w'.ownsRow w.heap.size 78 4 v l.length (l.flatMap zdw)/\w.grownBy w' none
def zxW {w:World}{v:Value}{l:List zaz}(hv:zco w v l)(hl:l.length<=1000000):Calls prog 114 #[v] w (zut l w):=by
 obtain⟨i0,hi,hz0,hz1,hz2⟩:=info_parts zsd;obtain⟨A,cap,rfl,hr⟩:=hv;cases A with
 | none =>
  have h0:l=[]:=by
   rcases Nat.eq_zero_or_pos l.length with e|e;exact List.length_eq_zero_iff.1 e;obtain⟨ad,e2,_⟩:=hr.2 e;cases e2
  subst h0;have hq:=fun w=>Lib.run_eql_slice_nil (P:=prog) w 74 78 none 0 cap 0 0 underlying74;clear hr;go_enter func114,ntmps114;go_wp2;go_ret;exact⟨_,rfl,World.ownsRow_nil _ _ _ _,World.grownBy.refl _ _⟩
 | some ad =>
  have zO:(w.alloc (.cells #[] 78)).ownsRow w.heap.size 78 4 (.slice (some ⟨w.heap.size,0,none⟩) 0 0) 0 []:=World.ownsRow_lit w #[] 0 (zqab _) (by decide) rfl;have hal:=zGA w (.cells #[] 78) none;have hr1:Reads (w.alloc (.cells #[] 78)) (w.alloc (.cells #[] 78)).heap.size 4 (some ad) l.length (l.flatMap zdw):=(hr.below (zct hal)).more hal.size;have HAL:=zHd hal;have hq:=fun w=>Lib.run_eql_slice_nil (P:=prog) w 74 78 (some ad) l.length cap 0 0 underlying74;clear hr hal;go_enter func114,ntmps114;go_wp2_with (at_builtin;refine zlR _ rfl _ _ 74 rfl w.heap.size 78 i0 (.agg #[.int .i64 0,.int .i64 0,.string ⟨#[]⟩,.int .i64 0]) 4 40 underlying74 hi hz0 hz1 hz2 rfl (by decide) _ _ _ rfl zO (some ad) l.length cap (l.flatMap zdw) rfl hr1 (zuo l) ?c3 ?c4 ?c5 ?_)
  case c3=>unfold maxLen;omega
  case c4=>omega
  case c5=>simp
  intro v' w1 zo zG hat;have hg:w.grownBy w1 none:=zae HAL.out zG (zqab _);go_wp2;go_ret;exact⟨_,rfl,zo,hg⟩
def ziW (d:Nat)(l:List zaz)(i:Nat):List zaz:=(l.take i).map (zbW d)++l.drop i
def zuu {d:Nat}{l:List zaz}{i:Nat}{a:zaz}(h:l[i]?=some a):(ziW d l i)[i]?=some a:=by
 have hi:=(zqae.1 h).1;unfold ziW;rw[zqaq (by rw[zqbn,zqan];omega),zqbn,zqan,List.getElem?_drop];rw[show i+(i-min i l.length)=i by omega];exact h
def zxX {d:Nat}{l:List zaz}{i:Nat}{a:zaz}(h:l[i]?=some a):(ziW d l i).set i (zbW d a)=ziW d l (i+1):=by
 have hi:=(zqae.1 h).1;unfold ziW;rw[List.set_append_right _ _ (by rw[zqbn,zqan];omega),zqbn,zqan,show i-min i l.length=0 by omega,List.take_add_one,h,List.map_append,zqbj];congr 1;rw[List.drop_eq_getElem_cons hi];have:l[i]=a:=(zqae.1 h).2;rw[this];rfl
def zxY {w:World}{v:Value}{l:List zaz}(d:Nat)(hv:zco w v l)(hl:l.length<=1000000)(hd:d<=1000000)(ht:∀ a∈l,0<=a.t/\a.t<=1000000):Calls prog 79 #[v,.int .i64 (d:Int)] w (zut (l.map (zbW d)) w):=by
 have HC:=zHd (zxW hv hl);obtain⟨A0,c0,rfl,_⟩:=hv;have HT:=zHd ht;have HL:=zHd hl;have HD:=zHd hd;clear ht hl hd;go_enter func79,ntmps79;go_wp2_with fail;refine HC.out.mono ?_;rintro e w1 ⟨v1,rfl,zO,hg1⟩;obtain⟨A,cap,rfl,_⟩:=zew zO;have HG1:=zHd hg1;have HO:=zHd zO;clear hg1 zO HC;go_wp2
 go_loopw [11] (fun iv wr=>∃ i:Nat,i<=l.length/\iv=.int .i64 (i:Int)/\wr.ownsRow w.heap.size 78 4 (.slice A l.length cap) l.length ((ziW d l i).flatMap zdw)/\w.grownBy wr none) (fun iv _=>l.length-(intOf iv).toNat)
 case atStart=>exact⟨0,zqaw _,rfl,HO.out,HG1.out⟩
 case round =>
  obtain⟨i,hi',rfl,ho,hg⟩:=hrel
  by_cases hin:i<l.length
  ·have u2:(i:Int)<(l.length:Int):=by omega
   have u3:(0:Int)<=(i:Int):=by omega
   have hx:l[i]?=some (l[i]'hin):=zqac hin;generalize l[i]'hin=a at hx;have hta:=HT.out a (zqak hx);have u4:IntKind.i64.wrap ((i:Int)+1)=(i:Int)+1:=by have:=HL.out;rw[zqah];omega
   have u5:IntKind.i64.wrap (a.t+(d:Int))=a.t+(d:Int):=by have:=HD.out;rw[zqah];omega
   have hA:∃ g,A=some ⟨g,0,none⟩:=by
    rcases ho.2 with⟨e,e2⟩|⟨g,cap',cur,e,_⟩;omega;cases e;exact⟨g,rfl⟩
   obtain⟨g,rfl⟩:=hA;have q3:=ho.cells (g:=g) rfl (i*4+3) (.int .i64 a.t) (flat_get zdw 4 zgQ _ i 3 a (zuu hx) (by omega));rw[zhY,zqat] at q3
   have f3:wr.frozen? ⟨g,i*4+3,none⟩=false:=by
    rcases ho.2 with⟨e,_⟩|⟨g',cap',cur,e,hb,hgg,_⟩;cases e;cases e;exact zqbx wr _ _ _ _ hgg
   have hgl:=(ho.lt g rfl).1;have hset:=zjM (j:=i*4+3) ho (.int .i64 (a.t+(d:Int)));have hfs:=zlC zdw 4 zgQ (ziW d l i) i 3 a (zbW d a) (.int .i64 (a.t+(d:Int))) (zuu hx) (by omega) rfl;rw[zxX hx] at hfs;rw[<- hfs] at hset;have hg2:=zae hg (zad wr ⟨g,i*4+3,none⟩ (.int .i64 (a.t+(d:Int)))) hgl;have H2:=zHd (zAI hset hg2);have HIN:=zHd hin;clear ho hg hset hfs hg2 hx hi';go_wp2;exact⟨⟨i+1,HIN.out,by simp,H2.out.1,H2.out.2⟩,by have:=HIN.out;simp[intOf];omega⟩
  obtain rfl:i=l.length:=by omega
  have v1:¬ (l.length:Int)<(l.length:Int):=by omega
  have e:ziW d l l.length=l.map (zbW d):=by unfold ziW;rw[List.take_length,List.drop_length,List.append_nil]
  rw[e] at ho;have HO2:=zHd ho;have HG2:=zHd hg;clear ho hg;go_wp2;go_ret;exact⟨_,rfl,by rw[zqbn];exact HO2.out,HG2.out⟩
def zEj (k:Int)(w:World)(e:Ending)(w':World):Prop:=∃ bb,e=.returned (.pointer (some ⟨bb,0,none⟩))/\w.heap.size<=bb/\zbG w' bb k (zak k) (.slice none 0 0) [] []/\w.grownBy w' none
def zEk (W:World)(k:Int)(one:ByteArray):zbG (W.alloc (.cells #[.slice none 0 0,.int .i64 k,.string one] 68)) W.heap.size k one (.slice none 0 0) [] [] where
 box:=by
  show(W.heap.push _)[W.heap.size]?=_;rw[zqaz]
 len:=rfl
 own:=World.ownsRow_nil _ _ _ _
 arcs i s u hs _:=by simp at hs
 dis i j u u' _ hu _:=by simp at hu
 far i u hu:=by simp at hu
def zdT (k:Int)(w:World):Calls prog 43 #[.int .i64 k] w (zEj k w):=by
 have RO:=zHd (zDr k w);go_enter func43,ntmps43;go_wp2_with fail;refine RO.out.mono ?_;rintro e w1 ⟨rfl,hg1⟩;have HG1:=zHd hg1;have HA:=zHd (zEk w1 k (zak k));have HG2:=zHd (zGA w1 (.cells #[.slice none 0 0,.int .i64 k,.string (zak k)] 68) none);clear hg1 RO;go_wp2;go_ret;exact⟨_,rfl,HG1.out.size,HA.out,zaa HG1.out HG2.out⟩
def zbG.stN {W:World}{bb:Nat}{k:Int}{one:ByteArray}{v:Value}{ss:List zac}{us:List Value}(h:zbG W bb k one v ss us):StN W (bb+1) v ss:=by
 have ho:=h.own;obtain⟨A,cap,rfl,hr⟩:=zew ho;refine⟨A,cap,us,rfl,h.len,hr,fun h0 ad hA=>?_,fun j s x hs hx=>?_⟩
 ·subst hA
  exact(ho.lt ad.block rfl).1
 have hj:=h.arcs j s x hs hx;exact⟨zoj hj,fun _ b hb=>(hj.lt b hb).1⟩
def zBd (m:zah)(B:Nat)(w:World)(e:Ending)(w':World):Prop:=∃ A cap,e=.returned (.agg #[.int .i64 m.kind,.int .i64 m.start,.string m.lead,.slice A m.states.length cap])/\StN w' B (.slice A m.states.length cap) m.states/\w.grownBy w' none
def zfn (bb:Nat)(k:Int)(one:ByteArray)(v:Value)(ss:List zac)(us:List Value)(st:Int)(ld:ByteArray)(w:World)(h:zbG w bb k one v ss us) :
  Calls prog 47 #[.pointer (some ⟨bb,0,none⟩),.int .i64 st,.string ld] w (zBd ⟨k,st,ld,ss⟩ (bb+1) w):=by
 obtain⟨A,cap,rfl,_⟩:=zew h.own;have hn:=h.stN;have hlt:=h.lt;have hne:¬ bb=w.heap.size:=by omega
 have hga:=zGA w (.cells #[.int .i64 0,.int .i64 0,.string ByteArray.empty,.slice none 0 0] 29) none;have hgb:=zGA w (.cells #[.int .i64 k,.int .i64 st,.string ld,.slice A ss.length cap] 29) none;have e0:(w.alloc (.cells #[.int .i64 0,.int .i64 0,.string ByteArray.empty,.slice none 0 0] 29)).drew.cell? ⟨bb,0,none⟩=some (.slice A ss.length cap):=hga.cell h.c0 (by simp);have e1:(w.alloc (.cells #[.int .i64 0,.int .i64 0,.string ByteArray.empty,.slice none 0 0] 29)).drew.cell? ⟨bb,1,none⟩=some (.int .i64 k):=hga.cell h.c1 (by simp);have i0:(w.alloc (.cells #[.int .i64 k,.int .i64 st,.string ld,.slice A ss.length cap] 29)).drew.cell? ⟨bb,0,none⟩=some (.slice A ss.length cap):=hgb.cell h.c0 (by simp);have i1:(w.alloc (.cells #[.int .i64 k,.int .i64 st,.string ld,.slice A ss.length cap] 29)).drew.cell? ⟨bb,1,none⟩=some (.int .i64 k):=hgb.cell h.c1 (by simp);have HT:=zHd (zAI (hn.kept (zqd (zaa hgb (zag _ none)) _)) (zaa hgb (zag _ none)));have hbx:=(zaf.new w ⟨k,st,ld,ss⟩ (.slice A ss.length cap)).grown (zag _ none);obtain⟨c0,c1,c2,c3⟩:=hbx.cells;simp only[] at c0 c1 c2 c3;clear hga hgb hn h hbx;go_enter func47,ntmps47;go_upto_region 1 with(fail)
 go_region_held2 (fun W':World=>W'.cell? ⟨bb,0,none⟩=some (.slice A ss.length cap)/\W'.cell? ⟨bb,1,none⟩=some (.int .i64 k)) (first|exact⟨e0,e1⟩|exact⟨i0,i1⟩|go_keep) (fail)
 go_wp2_with fail;generalize (w.alloc (.cells #[.int .i64 k,.int .i64 st,.string ld,.slice A ss.length cap] 29)).drew=WW at *;exact zqby (v:=.agg #[.int .i64 k,.int .i64 st,.string ld,.slice A ss.length cap]) (by simp[results,results47,go_sem,c0,c1,c2,c3]) rfl ⟨_,_,rfl,HT.out.1,HT.out.2⟩
open Go.RowKit
def zjN {E:Nat->Prop}(bb:Nat)(k:Int)(one:ByteArray)(v:Value)(ss:List zac)(us:List Value)(f:Bool)(w:World)(h:zbL E w bb k one v ss us)(hn:ss.length<=1000000) :
  Calls prog 63 #[.pointer (some ⟨bb,0,none⟩),.bool f] w (zum E bb k one ss us (if f=true then one else noB) w):=by
 cases f with
 | true =>
  have hc:=zgj bb k one v ss us one w.drew (h.same (zag w none)) hn;have d2:w.drew.cell? ⟨bb,2,none⟩=some (.string one):=h.at_.c2;have HK:=zHd (zaF (zag w none) (fun b e=>by cases e) h.lt);have HC:=zHd hc;clear hc h hn;go_enter func63,ntmps63;go_upto_region 2 with(fail)
  go_region_held2 (fun W':World=>W'.cell? ⟨bb,2,none⟩=some (.string one)) (first|exact d2|exact s7|go_keep)
   (first|(go_at_call 44;refine(HC.out).mono ?_;rintro e w7 ⟨rfl,hk,v',hp⟩;have s7:w7.cell? ⟨bb,2,none⟩=some (.string one):=hp.at_.c2;have H7:=zHd (zAI (HK.out.trans hk) hp);clear hk hp))
  go_wp2;go_ret;exact⟨rfl,H7.out.1,_,H7.out.2⟩
 | false =>
  have hc:=zgj bb k one v ss us noB w h hn;have HC:=zHd hc;clear hc h hn;unfold noB at HC;go_enter func63,ntmps63;go_wp2_with fail;refine HC.out.mono ?_;rintro e w7 ⟨rfl,hk,v',hp⟩;have H7:=zHd (zAI hk hp);clear hk hp HC;go_wp2;go_ret;exact⟨rfl,H7.out.1,_,H7.out.2⟩
structure zfF (W:World)(ca cm bb:Nat)(m:zah)(u:Value):Prop where
 c:W.heap[ca]?=some (.cells #[.pointer (some ⟨bb,0,none⟩)] 62 (0,0))
 m:zaf W cm m u
def zfF.c0 {W:World}{ca cm bb:Nat}{m:zah}{u:Value}(h:zfF W ca cm bb m u):W.cell? ⟨ca,0,none⟩=some (.pointer (some ⟨bb,0,none⟩)):=by rw[zqbw W ca 0 _ _ (0,0) h.c];rfl
def zfF.keep {E:Nat->Prop}{W W':World}{ca cm bb:Nat}{m:zah}{u:Value}(h:zfF W ca cm bb m u)(hk:zbU E W W')(h1:E ca)(h2:E cm):zfF W' ca cm bb m u:=⟨(hk.2 ca h1).trans h.c,(hk.2 cm h2).trans h.m⟩
def zfF.grown {W W':World}{ca cm bb:Nat}{m:zah}{u:Value}(h:zfF W ca cm bb m u)(hg:W.grownBy W' none):zfF W' ca cm bb m u:=⟨(hg.block ca (zqad.1 h.c).1 (by simp)).trans h.c,zaf.grown h.m hg⟩
def zxZ (bb:Nat)(m:zah)(u:Value)(w:World)(e:Ending)(w':World):Prop :=
 ∃ ca cm,e=.returned (.func (.func 78) #[] #[.pointer (some ⟨ca,0,none⟩),.pointer (some ⟨cm,0,none⟩)])/\w.heap.size<=ca/\ca<w'.heap.size/\w.heap.size<=cm/\cm<w'.heap.size/\zfF w' ca cm bb m u/\w.grownBy w' none
def zfM (bb:Nat)(m:zah)(u:Value)(w:World) :
  Calls prog 57 #[.pointer (some ⟨bb,0,none⟩),.agg #[.int .i64 m.kind,.int .i64 m.start,.string m.lead,u]] w (zxZ bb m u w):=by
 have g1:=zGA w (.cells #[.pointer (some ⟨bb,0,none⟩)] 62) none
 have hc1:(w.alloc (.cells #[.pointer (some ⟨bb,0,none⟩)] 62)).heap[w.heap.size]?=some (.cells #[.pointer (some ⟨bb,0,none⟩)] 62 (0,0)):=by
  exact zQbm
 have g2:=zGA (w.alloc (.cells #[.pointer (some ⟨bb,0,none⟩)] 62)) (.cells #[.int .i64 m.kind,.int .i64 m.start,.string m.lead,u] 29) none;have hb:=zaf.new (w.alloc (.cells #[.pointer (some ⟨bb,0,none⟩)] 62)) m u;have e1:(w.alloc (.cells #[.pointer (some ⟨bb,0,none⟩)] 62)).heap.size=w.heap.size+1:=by simp
 rw[e1] at hb;have HB:=zHd (zAI (zfF.mk ((g2.block w.heap.size (by simp) (by simp)).trans hc1) hb) (zaa g1 g2));clear g1 hc1 g2 hb e1;go_enter func57,ntmps57;go_wp2;go_ret;exact⟨w.heap.size,w.heap.size+1,by simp,zqab _,by simp;omega,by omega,by simp,HB.out.1,HB.out.2⟩
open Go.RowKit
def zHz {a:ByteArray}(h:a.size=0):a=noB:=ByteArray.ext (Array.eq_empty_of_size_eq_zero h)
def zEl:noB.size=0:=rfl
def zuv (f:ByteArray)(h:f≠noB):(f.toList==[])=false/\(f.toList != [])=true:=by
 have h1:(f.toList==[])=false:=by
  cases e:(f.toList==[]);rfl;rw[Lib.toList_data,beq_iff_eq,<- List.length_eq_zero_iff,zqbs] at e;exact absurd (ByteArray.ext (Array.eq_empty_of_size_eq_zero e)) h
 exact⟨h1,by simp[bne,h1]⟩
def zmS {f:ByteArray}(h:f=noB):(f.toList==[])=true/\(f.toList != [])=false:=by
 subst h;have h1:(noB.toList==[])=true:=by rw[Lib.toList_data];rfl
 exact⟨h1,by simp[bne,h1]⟩
def zGt {k:Int}{f:ByteArray}(h:finB k f=true)(hf:f≠noB):wgtB k f=true:=by
 unfold finB at h;rcases Bool.or_eq_true_iff.1 h with h|h
 exact absurd (zHz (of_decide_eq_true h)) hf;exact h
def zmT (k:Int):finB k noB=true:=by unfold finB;rw[zEl];rfl
def zqk {k:Int}{f:ByteArray}(h:wgtB k f=true):finB k f=true:=by unfold finB;rw[h,Bool.or_true]
def zeG {k:Int}(h:zbv k=true):wgtB k (zak k)=true:=by
 have hk:=(zbQ k).1 h;exact zgc (v:=ziu k) ⟨zrl hk,by rcases hk with rfl|rfl|rfl <;> decide +kernel⟩
def StV (k:Int)(N:Nat)(s:zac):Prop:=finB k s.fin=true/\∀ a∈s.arcs,arcB k N a=true
def zmU {k:Int}{N z:Nat}{w:ByteArray}(hw:wgtB k w=true)(hz:z<N):arcB k N (zbu w z)=true:=by
 unfold arcB zbu;rw[hw,Bool.and_true];simp only[zqca];omega
def zjk {k:Int}{n N d:Nat}{nxt:Option Nat}{s:zac}(h:StV k n s)(hd:d+n<=N)(hz:∀ z,nxt=some z->z<N):StV k N (zbi d nxt s):=by
 have hup:∀ a∈s.arcs.map (zbW d),arcB k N a=true:=fun a ha=>by
  obtain⟨b,hb,rfl⟩:=zqbf.1 ha;have h1:=h.2 b hb;have h2:=zel h1;exact zAX h1 rfl rfl rfl (by show 0<=b.t+(d:Int)/\b.t+(d:Int)<(N:Int);omega)
 cases nxt with
 | none=>exact⟨h.1,hup⟩
 | some z =>
  refine⟨zmT k,fun a ha=>?_⟩;have ha:a∈s.arcs.map (zbW d)++if s.fin=noB then [] else [zbu s.fin z]:=ha
  rcases zqbo.1 ha with ha|ha;exact hup a ha;split at ha
  ·cases ha
  next hf =>
  rw[zqbk.1 ha];exact zmU (zGt h.1 hf) (hz z rfl)
def zgy (s:zac)(l:List zac):zaj (s::l)=s.arcs.length+zaj l:=by unfold zaj;simp
def zky (d:Nat)(l:List zac):zaj (l.map (zbi d none))=zaj l:=by
 unfold zaj;rw[List.map_map];congr 1;refine List.map_congr_left (fun s _=>?_);show(s.arcs.map (zbW d)).length=_;rw[zqbn]
def ziq (d z:Nat):∀ l:List zac,zaj (l.map (zbi d (some z)))<=zaj l+l.length
 | []=>zqaw _
 | s::l=>by
  have ih:=ziq d z l;rw[List.map_cons,zgy,zgy,zqbu]
  have:(zbi d (some z) s).arcs.length<=s.arcs.length+1:=by
   show(s.arcs.map (zbW d)++if s.fin=noB then [] else [zbu s.fin z]).length<=_;rw[zqag,zqbn];split <;> simp
  omega
def zgS {n:zah}{k:Int}(h0:n.kind=k)(hk:zbv k=true)(hl:wgtB k n.lead=true)(h1:1<=n.states.length)(h2:n.states.length<=3000)(hs:0<=n.start/\n.start<(n.states.length:Int))(ha:zaj n.states<=30000)(hst:∀ s∈n.states,StV k n.states.length s):validB n=true:=by
 subst h0;unfold validB headB;rw[hk,hl];simp only[Bool.true_and,Bool.and_true,zqbb,zqca,List.all_eq_true];refine⟨⟨⟨h1,h2,hs⟩,ha⟩,fun s hm=>?_⟩;unfold stB6;rw[(hst s hm).1];simp only[Bool.true_and,List.all_eq_true];exact(hst s hm).2
def zbY {m:zah}(h:validB m=true):zbv m.kind=true:=(zdG (zeh h)).1
def zdc {m:zah}(h:validB m=true):wgtB m.kind m.lead=true:=(zdG (zeh h)).2.2.2.2.2
def zcX {m:zah}(h:validB m=true):0<=m.start/\m.start<(m.states.length:Int):=⟨(zdG (zeh h)).2.2.2.1,(zdG (zeh h)).2.2.2.2.1⟩
def zeS {m:zah}(h:validB m=true){s:zac}(hs:s∈m.states):StV m.kind m.states.length s:=zkw h hs
def zbB {m:zah}(h:validB m=true):zhG m:=⟨zcX h,fun s hs a ha=>by
 have:=zel ((zeS h hs).2 a ha);exact⟨this.2.2.2.2.1,this.2.2.2.2.2.1⟩⟩
def zsf (one:ByteArray)(a b:zah):(zbA one a b).states.length=1+a.states.length+b.states.length:=by
 show(_::(_++_)).length=_;rw[zqbu,zqag,zqbn,zqbn];omega
def zql (one:ByteArray)(a b:zah):zaj (zbA one a b).states=2+zaj a.states+zaj b.states:=by
 show zaj (_::(_++_))=_;rw[zgy,zgb,zky,zky];show 2+_=_;omega
def zqm (lead:ByteArray)(a b:zah):(zba lead a b).states.length=b.states.length+a.states.length:=by
 unfold zba;rw[zqag,zqbn,zqbn]
def zok (lead:ByteArray)(a b:zah):zaj (zba lead a b).states<=zaj b.states+zaj a.states+a.states.length:=by
 show zaj (_++_)<=_;rw[zgb,zky];have:=ziq b.states.length b.start.toNat a.states;omega
def zuw (one:ByteArray)(a:zah):(zbt one a).states.length=1+a.states.length:=by
 show(_::_).length=_;rw[zqbu,zqbn];omega
def zsg (one:ByteArray)(a:zah):zaj (zbt one a).states<=1+zaj a.states+a.states.length:=by
 show zaj (_::_)<=_;rw[zgy];have:=ziq 1 0 a.states;show 1+_<=_;omega
def zqn {α:Type}(f:α->List zac)(c:Nat)(hf:∀ x,zaj (f x)<=c):∀ l:List α,zaj (l.flatMap f)<=l.length*c
 | []=>zqaw _
 | x::l=>by
  rw[List.flatMap_cons,zgb,zqbu,Nat.succ_mul];have:=hf x;have:=zqn f c hf l;omega
def zol (one:ByteArray)(a:zah)(n most:Nat):zaj (zaJ one a n most).states<=1+most*(1+zaj a.states+a.states.length):=by
 show zaj (_::_)<=_;rw[zgy];have hb:∀ i,(zfc one a.lead a.states.length a.start.toNat n most i).arcs.length<=1:=fun i=>by unfold zfc;dsimp only;split <;> simp
 have h:=zqn (zfC one a n most) (1+zaj a.states+a.states.length) (fun i=>by
  unfold zfC;rw[zgy];have:=hb (i+1);have:=ziq (2+i*(a.states.length+1)) (1+i*(a.states.length+1)) a.states;omega) (List.range most)
 rw[List.length_range] at h;have:=hb 0;omega
def zkz {a b:zah}(ha:validB a=true)(hb:validB b=true)(hk:a.kind=b.kind)(hl:1+a.states.length+b.states.length<=3000)(hn:2+zaj a.states+zaj b.states<=30000):validB (zbA (zak a.kind) a b)=true:=by
 have zN:=zsf (zak a.kind) a b;have sa:=zcX ha;have sb:=zcX hb;refine zgS (k:=a.kind) rfl (zbY ha) (zeG (zbY ha)) (by rw[zN];omega) (by rw[zN];exact hl) ⟨Int.le_refl 0,by show(0:Int)<_;rw[zN];omega⟩ (by rw[zql];exact hn) (fun s hs=>?_);rw[zN];rcases List.mem_cons.1 hs with rfl|hs
 ·refine⟨zmT _,fun x hx=>?_⟩
  rcases List.mem_cons.1 hx with rfl|hx;exact zmU (zdc ha) (by omega);rw[zqbk.1 hx];exact zmU (k:=a.kind) (by rw[hk];exact zdc hb) (by omega)
 rcases zqbo.1 hs with hs|hs
 ·obtain⟨t,ht,rfl⟩:=zqbf.1 hs
  exact zjk (zeS ha ht) (by omega) (fun z hz=>by cases hz)
 obtain⟨t,ht,rfl⟩:=zqbf.1 hs;exact zQcf
def zjO {a b:zah}{lead:ByteArray}(ha:validB a=true)(hb:validB b=true)(hk:a.kind=b.kind)(hw:wgtB a.kind lead=true)(hl:b.states.length+a.states.length<=3000)(hn:zaj b.states+zaj a.states+a.states.length<=30000):validB (zba lead a b)=true:=by
 have zN:=zqm lead a b;have sa:=zcX ha;have sb:=zcX hb;refine zgS (k:=a.kind) rfl (zbY ha) hw (by rw[zN];omega) (by rw[zN];exact hl) ⟨by show(0:Int)<=((b.states.length+a.start.toNat:Nat):Int);omega,by show((b.states.length+a.start.toNat:Nat):Int)<_;rw[zN];omega⟩ (zqam (zok lead a b) hn) (fun s hs=>?_);rw[zN];rcases zqbo.1 hs with hs|hs
 ·obtain⟨t,ht,rfl⟩:=zqbf.1 hs
  exact zQcf
 exact zQbn
def ziX {a:zah}(ha:validB a=true)(hl:1+a.states.length<=3000)(hn:1+zaj a.states+a.states.length<=30000):validB (zbt (zak a.kind) a)=true:=by
 have zN:=zuw (zak a.kind) a;have sa:=zcX ha;refine zgS (k:=a.kind) rfl (zbY ha) (zeG (zbY ha)) (by rw[zN];omega) (by rw[zN];exact hl) ⟨Int.le_refl 0,by show(0:Int)<_;rw[zN];omega⟩ (zqam (zsg _ a) hn) (fun s hs=>?_);rw[zN];rcases List.mem_cons.1 hs with rfl|hs
 ·refine⟨zqk (zeG (zbY ha)),fun x hx=>?_⟩
  rw[zqbk.1 hx];exact zmU (zdc ha) (by omega)
 exact zQbn
def zjP {a:zah}(ha:validB a=true)(n most:Nat)(hl:1+most*(a.states.length+1)<=3000)(hn:1+most*(1+zaj a.states+a.states.length)<=30000):validB (zaJ (zak a.kind) a n most)=true:=by
 have zN:=zgw (zak a.kind) a n most;have sa:=zcX ha
 have hmul:∀ i,i<most->i*(a.states.length+1)+(a.states.length+1)<=most*(a.states.length+1):=fun i hi=>by
  have:=Nat.mul_le_mul_right (a.states.length+1) (show i+1<=most by omega);rw[Nat.succ_mul] at this;exact this
 have hbet:∀ i,i<=most->StV a.kind (1+most*(a.states.length+1)) (zfc (zak a.kind) a.lead a.states.length a.start.toNat n most i):=fun i hi=>by
  unfold zfc;refine⟨?_,fun x hx=>?_⟩
  ·dsimp only
   split;exact zqk (zeG (zbY ha));exact zmT _
  dsimp only at hx;split at hx
  ·next hlt =>
   rw[zqbk.1 hx];have:=hmul i hlt;exact zmU (zdc ha) (by omega)
  cases hx
 refine zgS (k:=a.kind) rfl (zbY ha) (zeG (zbY ha)) (by rw[zN];omega) (by rw[zN];exact hl) ⟨Int.le_refl 0,by show(0:Int)<_;rw[zN];omega⟩ (zqam (zol _ a n most) hn) (fun s hs=>?_);rw[zN];rcases List.mem_cons.1 hs with rfl|hs
 exact hbet 0 (zqaw _);obtain⟨i,hi,hs⟩:=List.mem_flatMap.1 hs;have hi:=List.mem_range.1 hi;have:=hmul i hi;rcases List.mem_cons.1 hs with rfl|hs
 exact hbet (i+1) (by omega);exact zQbn
def zom {a:zah}{lead:ByteArray}(ha:validB a=true)(hw:wgtB a.kind lead=true):validB { a with lead:=lead }=true:=by
 obtain⟨_,h1,h2,_⟩:=zdG (zeh ha);have h3:=zcX ha;have h4:=ziV ha;have h5:=fun s (hs:s∈a.states)=>zeS ha hs;exact zgS (k:=a.kind) rfl (zbY ha) hw h1 h2 h3 h4 h5
def zgz {k:Int}(hk:zbv k=true){w:ByteArray}(hw:wgtB k w=true){x y:List Nat}(hx:∀ s∈x,s<=500)(hy:∀ s∈y,s<=500)(hxl:x.length<=200)(hyl:y.length<=200):validB (zbF k (zak k) w x y)=true:=by
 have zN:=zjJ k (zak k) w x y
 have hg:∀ {l:List Nat},(∀ s∈l,s<=500)->∀ i,l.getD i 0<=500:=fun {l} h i=>by
  rw[zqaa];cases e:l[i]? with
  | none=>exact zqaw _
  | some s=>exact h s (zqak e)
 have hna:zaj (zbF k (zak k) w x y).states=max x.length y.length:=by
  show zaj (_++_)=_;rw[zgb];show zaj _+0=_;unfold zaj;rw[List.map_map]
  have:∀ n,((List.range n).map ((fun s:zac=>s.arcs.length) ∘ fun i=>(⟨noB,[⟨(x.getD i 0:Nat),(y.getD i 0:Nat),zak k,((i+1:Nat):Int)⟩]⟩:zac))).sum=n:=fun n=>by
   induction n with
   | zero=>rfl
   | succ n ih=>rw[List.range_succ,List.map_append,List.sum_append,ih];rfl
  rw[this];omega
 refine zgS (k:=k) rfl hk hw (by rw[zN];omega) (by rw[zN];omega) ⟨Int.le_refl 0,by show(0:Int)<_;rw[zN];omega⟩ (by rw[hna];omega) (fun s hs=>?_);rw[zN];rcases zqbo.1 hs with hs|hs
 ·obtain⟨i,hi,rfl⟩:=zqbf.1 hs
  have hi:=List.mem_range.1 hi;refine⟨zmT _,fun a ha=>?_⟩;rw[zqbk.1 ha];unfold arcB;rw[zeG hk,Bool.and_true];simp only[zqca];have:=hg hx i;have:=hg hy i;omega
 exact zQcw
def ziN {k:Int}(hk:zbv k=true){l:List Nat}(hl:∀ s∈l,s<=500)(hn:l.length<=500):validB (zcb k (zak k) l)=true:=by
 refine zgS (k:=k) rfl hk (zeG hk) (by show 1<=2;omega) (by show 2<=3000;omega) ⟨Int.le_refl 0,by show(0:Int)<(2:Nat);omega⟩ (by
  show zaj [⟨noB,l.map _⟩,⟨zak k,[]⟩]<=_;unfold zaj;simp;omega) (fun s hs=>?_)
 rcases List.mem_cons.1 hs with rfl|hs
 ·refine⟨zmT _,fun a ha=>?_⟩
  obtain⟨c,hc,rfl⟩:=zqbf.1 ha;have:=hl c hc;unfold arcB;show(decide (_/\_)&&wgtB k (zak k))=true;rw[zeG hk,Bool.and_true];simp only[zqca];refine⟨by omega,by omega,by omega,by omega,by omega,?_⟩;show(1:Int)<(2:Nat);omega
 exact zQcw
def zjQ {m:zah}(hv:validB m=true)(h:∀ s∈m.states,∀ a∈s.arcs,a.i=a.o):everyB zbN m=true:=by
 unfold everyB;rw[hv,Bool.true_and,List.all_eq_true];intro s hs;rw[List.all_eq_true];intro a ha;exact decide_eq_true (h s hs a ha)
def zgT {m:zah}(h:everyB zbN m=true):∀ s∈m.states,∀ a∈s.arcs,a.i=a.o:=fun s hs a ha=>by
 unfold everyB at h;have h:=(Bool.and_eq_true_iff.1 h).2;rw[List.all_eq_true] at h;have h:=h s hs;rw[List.all_eq_true] at h;exact of_decide_eq_true (h a ha)
def zEm {d:Nat}{nxt:Option Nat}{s:zac}(h:∀ a∈s.arcs,a.i=a.o):∀ a∈(zbi d nxt s).arcs,a.i=a.o:=by
 have hup:∀ a∈s.arcs.map (zbW d),a.i=a.o:=fun a ha=>by
  obtain⟨b,hb,rfl⟩:=zqbf.1 ha;exact h b hb
 cases nxt with
 | none=>exact hup
 | some z =>
  intro a ha;have ha:a∈s.arcs.map (zbW d)++if s.fin=noB then [] else [zbu s.fin z]:=ha
  rcases zqbo.1 ha with ha|ha;exact hup a ha;split at ha
  ·cases ha
  rw[zqbk.1 ha];rfl
def zgA {d:Nat}{nxt:Option Nat}{l:List zac}(h:∀ s∈l,∀ a∈s.arcs,a.i=a.o):∀ s∈l.map (zbi d nxt),∀ a∈s.arcs,a.i=a.o:=fun s hs=>by
 obtain⟨t,ht,rfl⟩:=zqbf.1 hs;exact zEm (h t ht)
def zBe {one:ByteArray}{a b:zah}(hv:validB (zbA one a b)=true)(ha:everyB zbN a=true)(hb:everyB zbN b=true):everyB zbN (zbA one a b)=true:=zjQ hv (fun s hs=>by
 rcases List.mem_cons.1 hs with rfl|hs
 ·intro x hx
  rcases List.mem_cons.1 hx with rfl|hx;rfl;rw[zqbk.1 hx];rfl
 rcases zqbo.1 hs with hs|hs
 ·exact zgA (zgT ha) s hs
 exact zgA (zgT hb) s hs)
def zya {lead:ByteArray}{a b:zah}(hv:validB (zba lead a b)=true)(ha:everyB zbN a=true)(hb:everyB zbN b=true):everyB zbN (zba lead a b)=true:=zjQ hv (fun s hs=>by
 rcases zqbo.1 hs with hs|hs;exact zgA (zgT hb) s hs;exact zgA (zgT ha) s hs)
def zEn {one:ByteArray}{a:zah}(hv:validB (zbt one a)=true)(ha:everyB zbN a=true):everyB zbN (zbt one a)=true:=zjQ hv (fun s hs=>by
 rcases List.mem_cons.1 hs with rfl|hs
 ·intro x hx
  rw[zqbk.1 hx];rfl
 exact zgA (zgT ha) s hs)
def zyb {one:ByteArray}{a:zah}{n most:Nat}(hv:validB (zaJ one a n most)=true)(ha:everyB zbN a=true):everyB zbN (zaJ one a n most)=true:=zjQ hv (fun s hs=>by
 have hbet:∀ i,∀ x∈(zfc one a.lead a.states.length a.start.toNat n most i).arcs,x.i=x.o:=fun i x hx=>by
  unfold zfc at hx;dsimp only at hx;split at hx;rw[zqbk.1 hx];rfl;cases hx
 rcases List.mem_cons.1 hs with rfl|hs;exact hbet 0;obtain⟨i,hi,hs⟩:=List.mem_flatMap.1 hs;rcases List.mem_cons.1 hs with rfl|hs;exact hbet (i+1);exact zgA (zgT ha) s hs)
def zBf {lead:ByteArray}{a:zah}(hv:validB { a with lead:=lead }=true)(ha:everyB zbN a=true):everyB zbN { a with lead:=lead }=true:=by
 have h:=zgT ha;exact zjQ hv h
def zEo {k:Int}{one w:ByteArray}{x:List Nat}(hv:validB (zbF k one w x x)=true):everyB zbN (zbF k one w x x)=true:=zjQ hv (fun s hs=>by
 rcases zqbo.1 hs with hs|hs
 ·obtain⟨i,hi,rfl⟩:=zqbf.1 hs
  intro a ha;rw[zqbk.1 ha]
 rw[zqbk.1 hs];intro a ha;cases ha)
open Go.RowKit
def sl9 (n b:Nat):Value:=.slice (some ⟨b,0,none⟩) n n
structure zcY (W:World)(g N n:Nat)(bs:List Nat)(G:Nat->Nat->ByteArray):Prop where
 top:W.heap[g]?=some (.cells (bs.map (sl9 n)++List.replicate (N-bs.length) (Value.slice none 0 0)).toArray 109 (0,0))
 le:bs.length<=N
 rows:∀ (i b:Nat),bs[i]?=some b->zbe W b n (G i)
structure zdl (W:World)(ga M N n:Nat)(gs:List Nat)(bss:Nat->List Nat)(G:Nat->Nat->Nat->ByteArray):Prop where
 top:W.heap[ga]?=some (.cells (gs.map (sl9 N)++List.replicate (M-gs.length) (Value.slice none 0 0)).toArray 105 (0,0))
 le:gs.length<=M
 rows:∀ (i g:Nat),gs[i]?=some g->zcY W g N n (bss i) (G i)
 dis:∀ (i j g:Nat),gs[i]?=some g->gs[j]?=some g->i=j
section
variable {W W':World} {g ga M N n:Nat} {bs gs:List Nat} {bss:Nat->List Nat} {G:Nat->Nat->ByteArray} {H:Nat->Nat->Nat->ByteArray}
def zux (n N:Nat)(bs:List Nat){i b:Nat}(hb:bs[i]?=some b):(bs.map (sl9 n)++List.replicate (N-bs.length) (Value.slice none 0 0))[i]?=some (sl9 n b):=by
 rw[zqal (by rw[zqbn];exact(zqae.1 hb).1),zqaj,hb];rfl
def zcY.lt (h:zcY W g N n bs G):g<W.heap.size:=(zqad.1 h.top).1
def zcY.at_ (h:zcY W g N n bs G){i b:Nat}(hb:bs[i]?=some b):W.cell? ⟨g,i,none⟩=some (sl9 n b):=by
 rw[zqbw W g i _ _ (0,0) h.top,zqap];exact zux n N bs hb
def zcY.free (h:zcY W g N n bs G)(i:Nat):W.frozen? ⟨g,i,none⟩=false:=zqbx W g i _ _ h.top
def zcY.nil_ (h:zcY W g N n bs G)(hl:bs.length<N):W.cell? ⟨g,bs.length,none⟩=some (.slice none 0 0):=by
 rw[zqbw W g _ _ _ (0,0) h.top,zqap,zqaq (by rw[zqbn];exact zqab _),zqbn,zqbr,zqbg,if_pos (by omega)]
def zcY.grown (h:zcY W g N n bs G)(hg:W.grownBy W' none):zcY W' g N n bs G:=⟨(hg.block g h.lt (by simp)).trans h.top,h.le,fun i b hb=>(h.rows i b hb).grown hg⟩
def zcY.congr {G':Nat->Nat->ByteArray}(h:zcY W g N n bs G)(e:∀ i,i<bs.length->∀ j,j<n->G i j=G' i j):zcY W g N n bs G' :=
 ⟨h.top,h.le,fun i b hb=>(h.rows i b hb).congr (e i (zqae.1 hb).1)⟩
def zcY.other (h:zcY W g N n bs G){g2 j:Nat}{vals:Array Value}(h2:W.heap[g2]?=some (.cells vals 109 (0,0)))(hne:g≠g2)(v:Value):zcY (W.setCell ⟨g2,j,none⟩ v) g N n bs G:=by
 have hset:=zad W ⟨g2,j,none⟩ v;refine⟨(hset.block g h.lt (by show some g≠some g2;intro e;exact hne (Option.some.inj e))).trans h.top,h.le,fun i b hb=>(h.rows i b hb).grownB hset (fun e=>?_)⟩;have h1:=h.rows i b hb;unfold zbe at h1;have e:b=g2:=e;rw[e,h2] at h1;have:=(Obj.cells.inj (Option.some.inj h1)).2.1
 revert this
 decide
def zcY.push (h:zcY W g N n bs G)(hl:bs.length<N){b:Nat}{R:Nat->ByteArray}(hr:zbe W b n R):zcY (W.setCell ⟨g,bs.length,none⟩ (sl9 n b)) g N n (bs++[b]) (fun x=>if x=bs.length then R else G x):=by
 have hset:=zad W ⟨g,bs.length,none⟩ (sl9 n b)
 have hne:∀ {c:Nat} {R':Nat->ByteArray},zbe W c n R'->c≠g:=fun {c R'} h1 e=>by
  unfold zbe at h1;rw[e,h.top] at h1;have:=(Obj.cells.inj (Option.some.inj h1)).2.1
  revert this
  decide
 refine⟨?_,by rw[zqag];exact hl,fun i c hc=>?_⟩
 ·rw[heap_setCell_same W g bs.length _ _ (sl9 n b) h.top]
  congr 2;apply Array.toList_inj.1;simp only[Array.toList_setIfInBounds];rw[List.set_append_right _ _ (by rw[zqbn];exact zqab _),zqbn,zqbr,show N-bs.length=(N-(bs++[b]).length)+1 by rw[zqag,zqbq];omega,List.replicate_succ,List.set_cons_zero,List.map_append,zqbj];rfl
 by_cases e:i<bs.length
 ·rw[zqal e] at hc
  rw[if_neg (by omega)];exact(h.rows i c hc).grownB hset (hne (h.rows i c hc))
 rw[zqaq (by omega)] at hc
 have e1:i-bs.length=0:=by
  rcases Nat.eq_zero_or_pos (i-bs.length) with e|e;exact e;exact zQbC
 rw[e1] at hc;cases hc;rw[if_pos (by omega)];exact hr.grownB hset (hne hr)
def zcY.set (h:zcY W g N n bs G){i b:Nat}(hi:i<bs.length){R:Nat->ByteArray}(hr:zbe W b n R):zcY (W.setCell ⟨g,i,none⟩ (sl9 n b)) g N n (bs.set i b) (fun x=>if x=i then R else G x):=by
 have hset:=zad W ⟨g,i,none⟩ (sl9 n b)
 have hne:∀ {c:Nat} {R':Nat->ByteArray},zbe W c n R'->c≠g:=fun {c R'} h1 e=>by
  unfold zbe at h1;rw[e,h.top] at h1;have:=(Obj.cells.inj (Option.some.inj h1)).2.1
  revert this
  decide
 refine⟨?_,by rw[List.length_set];exact h.le,fun x c hc=>?_⟩
 ·rw[heap_setCell_same W g i _ _ (sl9 n b) h.top]
  congr 2;apply Array.toList_inj.1;simp only[Array.toList_setIfInBounds];rw[List.set_append_left _ _ (by rw[zqbn];exact hi),List.length_set,List.map_set]
 by_cases e:x=i
 ·subst e
  rw[zqbi hi] at hc;cases hc;rw[if_pos rfl];exact hr.grownB hset (hne hr)
 rw[zqbl (Ne.symm e)] at hc;rw[if_neg e];exact(h.rows x c hc).grownB hset (hne (h.rows x c hc))
def zdl.lt (h:zdl W ga M N n gs bss H):ga<W.heap.size:=(zqad.1 h.top).1
def zdl.at_ (h:zdl W ga M N n gs bss H){i b:Nat}(hb:gs[i]?=some b):W.cell? ⟨ga,i,none⟩=some (sl9 N b):=by
 rw[zqbw W ga i _ _ (0,0) h.top,zqap];exact zux N M gs hb
def zdl.free (h:zdl W ga M N n gs bss H)(i:Nat):W.frozen? ⟨ga,i,none⟩=false:=zqbx W ga i _ _ h.top
def zdl.nil_ (h:zdl W ga M N n gs bss H)(hl:gs.length<M):W.cell? ⟨ga,gs.length,none⟩=some (.slice none 0 0):=by
 rw[zqbw W ga _ _ _ (0,0) h.top,zqap,zqaq (by rw[zqbn];exact zqab _),zqbn,zqbr,zqbg,if_pos (by omega)]
def zdl.grown (h:zdl W ga M N n gs bss H)(hg:W.grownBy W' none):zdl W' ga M N n gs bss H :=
 ⟨(hg.block ga h.lt (by simp)).trans h.top,h.le,fun i g hi=>(h.rows i g hi).grown hg,h.dis⟩
def zdl.ne (h:zdl W ga M N n gs bss H){i g:Nat}(hg:gs[i]?=some g):g≠ga:=fun e=>by
 have h1:=(h.rows i g hg).top;rw[e,h.top] at h1;have:=(Obj.cells.inj (Option.some.inj h1)).2.1
 revert this
 decide
def zdl.row (h:zdl W ga M N n gs bss H){i g j:Nat}{v:Value}{bs':List Nat}{G':Nat->Nat->ByteArray}(hi:gs[i]?=some g)(hr:zcY (W.setCell ⟨g,j,none⟩ v) g N n bs' G') :
  zdl (W.setCell ⟨g,j,none⟩ v) ga M N n gs (fun x=>if x=i then bs' else bss x) (fun x=>if x=i then G' else H x):=by
 have hset:=zad W ⟨g,j,none⟩ v;refine⟨(hset.block ga h.lt (by show some ga≠some g;intro e;exact h.ne hi (Option.some.inj e).symm)).trans h.top,h.le,fun x c hc=>?_,h.dis⟩
 by_cases e:x=i
 ·subst e
  rw[hi] at hc;cases hc;rw[if_pos rfl,if_pos rfl];exact hr
 rw[if_neg e,if_neg e];exact(h.rows x c hc).other (h.rows i g hi).top (fun e2=>e (h.dis x i c hc (e2▸hi))) v
def zdl.push (h:zdl W ga M N n gs bss H)(hl:gs.length<M)(hg:W.grownBy W' none){b:Nat}(hb:W.heap.size<=b){R:Nat->Nat->ByteArray}(hr:zcY W' b N n [] R) :
  zdl (W'.setCell ⟨ga,gs.length,none⟩ (sl9 N b)) ga M N n (gs++[b]) (fun x=>if x=gs.length then [] else bss x) (fun x=>if x=gs.length then R else H x):=by
 have h2:=h.grown hg;have hset:=zad W' ⟨ga,gs.length,none⟩ (sl9 N b)
 have keep:∀ {c:Nat} {bs:List Nat} {G:Nat->Nat->ByteArray},zcY W' c N n bs G->zcY (W'.setCell ⟨ga,gs.length,none⟩ (sl9 N b)) c N n bs G:=fun {c bs G} hc=>by
  refine⟨(hset.block c hc.lt (by
   show some c≠some ga;intro e;have h1:=hc.top;rw[Option.some.inj e,h2.top] at h1;have:=(Obj.cells.inj (Option.some.inj h1)).2.1
   revert this
   decide)).trans hc.top,hc.le,fun i d hd=>(hc.rows i d hd).grownB hset (fun e=>?_)⟩
  have h1:=hc.rows i d hd;unfold zbe at h1;have e:d=ga:=e;rw[e,h2.top] at h1;have:=(Obj.cells.inj (Option.some.inj h1)).2.1
  revert this
  decide
 refine⟨?_,by rw[zqag];exact hl,fun i c hc=>?_,fun i j c hi hj=>?_⟩
 ·rw[heap_setCell_same W' ga gs.length _ _ (sl9 N b) h2.top]
  congr 2;apply Array.toList_inj.1;simp only[Array.toList_setIfInBounds];rw[List.set_append_right _ _ (by rw[zqbn];exact zqab _),zqbn,zqbr,show M-gs.length=(M-(gs++[b]).length)+1 by rw[zqag,zqbq];omega,List.replicate_succ,List.set_cons_zero,List.map_append,zqbj];rfl
 ·by_cases e:i<gs.length
  ·rw[zqal e] at hc
   rw[if_neg (by omega),if_neg (by omega)];exact keep (h2.rows i c hc)
  rw[zqaq (by omega)] at hc
  have e1:i-gs.length=0:=by
   rcases Nat.eq_zero_or_pos (i-gs.length) with e|e;exact e;exact zQbC
  rw[e1] at hc;cases hc;rw[if_pos (by omega),if_pos (by omega)];exact keep hr
 have old:∀ i c,i<gs.length->(gs++[b])[i]?=some c->c≠b:=fun i c hi hc e=>by
  rw[zqal hi] at hc;have:=(h.rows i c hc).lt;omega
 have inew:∀ i c,¬ i<gs.length->(gs++[b])[i]?=some c->i=gs.length/\c=b:=fun i c hi hc=>by
  rw[zqaq (by omega)] at hc
  have e1:i-gs.length=0:=by
   rcases Nat.eq_zero_or_pos (i-gs.length) with e|e;exact e;exact zQbC
  rw[e1] at hc;cases hc;exact⟨by omega,rfl⟩
 by_cases e1:i<gs.length
 ·by_cases e2:j<gs.length
  ·rw[zqal e1] at hi
   rw[zqal e2] at hj;exact h.dis i j c hi hj
  exact absurd (inew j c e2 hj).2 (old i c e1 hi)
 by_cases e2:j<gs.length
 ·exact absurd (inew i c e1 hi).2 (old j c e2 hj)
 rw[(inew i c e1 hi).1,(inew j c e2 hj).1]
end
variable {P:Program} {ops:Array Oper} {Q:Exit->Act->World->Prop} {md:Region.Mode}
def znK (P:Program)(ops:Array Oper)(Q:Exit->Act->World->Prop)(e:Nat):Exit->Act->World->Prop
 | .normal,a,w=>wpOp P ops Q e (fun a' w'=>Q .normal a' w') a w
 | x,a,w=>Q x a w
def zBg {e:Nat}{o:Oper}{a:Act}{K:Act->World->Prop}{r:Result Next}(h:o.upon P a K (znK P ops Q e) r):o.upon P a K Q r:=by
 cases r with
 | ok n w' =>
  cases n <;> simp only[Oper.upon] at h ⊢
  case enter f args =>
   refine Calls.mono h fun x w'' he=>?_;cases x with
   | returned u=>exact he
   | panicked c=>exact he
   | outgrown=>exact he
  all_goals exact h
 | halt x w' =>
  cases x <;> simp only[Oper.upon] at h ⊢
  case panic u=>exact h
def zBh {e i:Nat}{a:Act}{w:World}{K:Act->World->Prop}(h:wpOp P ops (znK P ops Q e) i K a w):wpOp P ops Q i K a w:=by
 unfold wpOp at *;split
 ·rename_i ho;simpa [ho] using h
 rename_i o ho
 simp only[ho] at h;split
 ·rename_i hw
  simp only[hw,if_true] at h;rcases h with h|⟨h1,h2⟩
  exact .inl (zBg h);exact .inr ⟨h1,h2⟩
 rename_i hw
 simp only[hw] at h;exact h
def zuy (md:Region.Mode)(ops:Array Oper)(e:Nat):Bool :=
 (List.range ops.size).all (fun i=>((ops[i]?).map (fun o=>o.after.all fun x => !Region.binds md x || decide (x.on<i))).getD false&&(i==e || ((ops[e]?).map (fun o=>o.after.any fun x=>Region.binds md x&&x.on==i)).getD false))&&decide (e<ops.size)
structure zmV (md:Region.Mode)(ops:Array Oper)(e:Nat):Prop where
 he:e<ops.size
 fwd:∀ (i:Nat) (o:Oper),ops[i]?=some o->∀ x∈o.after,Region.binds md x=true->x.on<i
 all:∀ (i:Nat),i<ops.size->i≠e->∃ o,ops[e]?=some o/\∃ x∈o.after,Region.binds md x=true/\x.on=i
def zvA {e:Nat}(h:zuy md ops e=true):zmV md ops e:=by
 unfold zuy at h;simp only[zqbb,List.all_eq_true,List.mem_range,zqca] at h;obtain⟨h1,h2⟩:=h;refine⟨h2,fun i o ho x hx hb=>?_,fun i hi hne=>?_⟩
 ·have h3:=(h1 i (zqad.1 ho).1).1
  simp only[ho,Option.map_some,Option.getD_some,Array.all_eq_true_iff_forall_mem] at h3;have h4:=h3 x hx;simpa [hb] using h4
 have h3:=(h1 i hi).2;cases ho:ops[e]? with
 | none=>simp[ho,hne] at h3
 | some o =>
  simp only[ho,Option.map_some,Option.getD_some,Bool.or_eq_true,beq_iff_eq,hne,false_or] at h3;obtain⟨k,hk,hb⟩:=Array.any_eq_true.1 h3;simp only[zqbb,beq_iff_eq] at hb;exact⟨o,rfl,_,Array.getElem_mem hk,hb.1,hb.2⟩
def zlP {listed:Array Bool}{e:Nat}(hok:zmV md ops e)(hl:listed.size=ops.size)(h:∀ i,i≠e->i ∉ Region.ready md ops listed):∀ i,i<ops.size->i≠e->listed.getD i false=true:=by
 intro i
 induction i using Nat.strongRecOn with
 | ind i ih =>
  intro hi hne;apply Classical.byContradiction;intro hn
  have hn:listed.getD i true=false:=by
   have hi2:i<listed.size:=by omega
   simp[hi2] at hn ⊢;exact hn
  refine h i hne ?_;rw[mem_ready];refine⟨hn,ops[i],zqbv hi,fun x hx hb=>?_⟩;have hlt:=hok.fwd i _ (zqbv hi) x hx hb
  by_cases hxe:x.on=e
  ·obtain⟨oe,hoe,y,hy,hyb,hyi⟩:=hok.all i hi hne
   have:=hok.fwd e oe hoe y hy hyb;omega
  exact ih x.on hlt (by omega) hxe
def zqo {listed:Array Bool}{e:Nat}(hok:zmV md ops e)(hl:listed.size=ops.size)(he:listed.getD e true=false)(h:∀ i,i<ops.size->i≠e->listed.getD i false=true):e∈Region.ready md ops listed:=by
 rw[mem_ready];refine⟨he,ops[e]'hok.he,zqbv hok.he,fun x hx hb=>?_⟩;have hlt:=hok.fwd e _ (zqbv hok.he) x hx hb;exact h x.on (by have:=hok.he;omega) (by omega)
def zyc {listed:Array Bool}{e:Nat}(hok:zmV md ops e)(hl:listed.size=ops.size)(he:e∈Region.ready md ops listed):Region.ready md ops (listed.setIfInBounds e true)=[]:=by
 rw[List.eq_nil_iff_forall_not_mem];intro i hi;rw[mem_ready] at hi he;obtain⟨h1,o,ho,_⟩:=hi;obtain⟨h2,oe,hoe,h3⟩:=he;have hil:i<ops.size:=(zqad.1 ho).1
 by_cases hie:i=e
 ·subst hie
  have:i<listed.size:=by omega
  simp[this] at h1
 rw[getD_set_ne true (Ne.symm hie)] at h1;obtain⟨o2,ho2,x,hx,hb,hxi⟩:=hok.all i hil hie;rw[hoe] at ho2;cases ho2;have h4:=h3 x hx hb;rw[hxi] at h4;have:i<listed.size:=by omega
 simp[this] at h1 h4;rw[h1] at h4;cases h4
def zyd {e:Nat}(hok:zmV md ops e):∀ (fuel:Nat) (listed:Array Bool) (a:Act) (w:World),listed.size=ops.size->listed.getD e true=false ->
  wpAny P md ops (znK P ops Q e) fuel (listed.setIfInBounds e true) a w->wpAny P md ops Q (fuel+1) listed a w:=by
 intro fuel
 have fin:∀ (n:Nat) (listed:Array Bool) (a:Act) (w:World),Region.ready md ops (listed.setIfInBounds e true)=[]->znK P ops Q e .normal a w->wpOp P ops Q e (wpAny P md ops Q n (listed.setIfInBounds e true)) a w:=by
  intro n listed a w hr h;refine wpOp_mono (fun a' w' h'=>?_) h;cases n with
  | zero=>exact⟨hr,h'⟩
  | succ n=>exact⟨fun _=>h',by rw[hr];simp⟩
 induction fuel with
 | zero =>
  intro listed a w hl he h;have hall:=zlP hok hl (fun i hi hr=>by have:=ready_mono hr hi;rw[h.1] at this;cases this);have hre:=zqo hok hl he hall;refine⟨fun h0=>(by rw[h0] at hre;cases hre),fun i hi=>?_⟩
  by_cases hie:i=e
  subst hie;exact fin 0 listed a w h.1 h.2;have:=ready_mono hi hie;rw[h.1] at this;cases this
 | succ fuel ih =>
  intro listed a w hl he h;refine⟨fun h0=>?_,fun i hi=>?_⟩
  ·have hre:=zqo hok hl he (zlP hok hl (fun i _ hr=>by rw[h0] at hr;cases hr))
   rw[h0] at hre;cases hre
  by_cases hie:i=e
  ·subst hie
   have hr:=zyc hok hl hi;exact fin (fuel+1) listed a w hr (h.1 hr)
  have h1:=zBh (h.2 i (ready_mono hi hie));refine wpOp_mono (fun a' w' h'=>?_) h1;refine ih (listed.setIfInBounds i true) a' w' (by simpa using hl) (by rw[getD_set_ne true hie];exact he) ?_;rw[Array.setIfInBounds_comm _ _ hie];exact h'
def zgB {e:Nat}{o:Oper}{a:Act}{w:World}(ho:ops[e]?=some o)
  (h:∀ K':Act->World->Prop,(∀ a w,Q .normal a w->K' a w)->if Region.wanted o (yielded ops a.tmps)=true then Oper.wp P o a w K' Q else K' (a.put o.dst undef) w):znK P ops Q e .normal a w:=wpOp_step ho h
def zeq {id e n:Nat}{a:Act}{w:World}(S:World->Prop)(hm:P.follows .mixedOrders=true)(hok:zuy .any ops e=true)(hn:ops.size=n+1)
  (h:wpAnyH P .any ops (znK P ops Q e) S n ((Array.replicate ops.size false).setIfInBounds e true) a w.drew):(Code.region id ops true).wp P Q a w:=by
 refine wp_region_any hm ?_;rw[hn];have hs:=zvA hok;have h1:=zyd hs n (Array.replicate ops.size false) a w.drew (by simp) (by have:=hs.he;simp[this]) (wpAny_of_held _ _ _ _ h);rw[hn] at h1;exact h1
variable {P:Program} {ops:Array Oper} {Q:Exit->Act->World->Prop} {md:Region.Mode}
open Go.RowKit
def zBi (k:Int)(n:Nat)(w:World)(e:Ending)(w':World):Prop :=
 ∃ g vs,e=.returned (.slice (some ⟨g,0,none⟩) n n)/\zbk none n w g n 0 vs (fun _ _=>zaV k) w'
def zqp (k:Int)(n:Nat)(w:World)(hn:n<=60) :
  Calls prog 164 #[.int .i64 k,.int .i64 (n:Int)] w (zBi k n w):=by
 obtain⟨i0,hi,hz0,hz1,hz2⟩:=info_parts zoK;obtain⟨j0,ji,jz0,jz1,jz2⟩:=info_parts zoJ;have n0:¬ (n:Int)<0:=by omega
 have HN:=zHd hn;clear hn;go_enter func164,ntmps164;go_wp2_with (at_make;refine wpList_make_full _ rfl _ _ 105 rfl w.heap.size 109 i0 (.slice none 0 0) 1 underlying105 hi hz0 hz1 _ _ _ _ n rfl rfl ?c0 ?c1 ?c2 (by have:=HN.out;unfold maxLen;omega) (zqab _) ?_)
 case c0=>omega
 case c1=>omega
 case c2=>have:=HN.out;first|omega|(rw[hz2];omega)
 intro w1 zO hgr;have zF:=zbI.start zO hgr;have HF:=zHd ((zbk.start (r:=none) zF (fun b e=>by cases e)).any (fun _ _=>zaV k));clear zO hgr zF;go_wp2
 go_loopw [6] (fun iv wr=>∃ (i:Nat) (vs:List Value),i<=n/\iv=.int .i64 (i:Int)/\zbk none n w w.heap.size i 0 vs (fun _ _=>zaV k) wr) (fun iv _=>n-(intOf iv).toNat)
 case atStart=>exact⟨0,_,zqaw _,rfl,HF.out⟩
 case round =>
  obtain⟨i,vs,hi',rfl,hf⟩:=hrel
  by_cases hin:i<n
  ·have u1:decide (i<n)=true:=by simpa using hin
   have u1':decide ((i:Int)<(n:Int))=true:=by simpa using hin
   have u2:(i:Int)<(n:Int):=by omega
   have u3:(0:Int)<=(i:Int):=by omega
   have u4:IntKind.i64.wrap ((i:Int)+1)=(i:Int)+1:=by have:=HN.out;rw[zqah];omega
   have HI:=zHd (zAI hin hf);clear hi' hin hf;go_wp2;generalize wr=wq at *
   go_loopw [7] (fun jv wr=>∃ (j:Nat) (vs:List Value),j<=n/\jv=.int .i64 (j:Int)/\zbk none n w w.heap.size i j vs (fun _ _=>zaV k) wr) (fun jv _=>n-(intOf jv).toNat)
   case atStart=>exact⟨0,vs,zqaw _,rfl,HI.out.2⟩
   case round =>
    obtain⟨j,vs2,hj',rfl,hf⟩:=hrel
    by_cases hjn:j<n
    ·have x1:decide (j<n)=true:=by simpa using hjn
     have x1':decide ((j:Int)<(n:Int))=true:=(by simpa using hjn);have x2:(j:Int)<(n:Int):=(by omega);have x3:(0:Int)<=(j:Int):=(by omega);have x4:IntKind.i64.wrap ((j:Int)+1)=(j:Int)+1:=(by have:=HN.out;rw[zqah];omega);obtain⟨v,hv,hvc,hvo,hvn,A,c,rfl⟩:=hf.at_ HI.out.1;have k0:wr.drew.cell? ⟨w.heap.size,i,none⟩=some (.slice A j c):=hvc;have HX:=zHd (zAI hjn (zAI hf (zAI True.intro (zAI True.intro hv))));clear hj' hjn hf hv hvc hvo hvn;go_upto_region 8 with(fail);refine zeq (e:=11) (n:=11) (fun W':World=>W'.cell? ⟨w.heap.size,i,none⟩=some (.slice A j c)) (by kernel_rfl) (by kernel_rfl) rfl ?_;have hS0:(fun W':World=>W'.cell? ⟨w.heap.size,i,none⟩=some (.slice A j c)) wr.drew:=k0;refine zTk 0 (.slice (some ⟨w.heap.size,0,none⟩) n n) rfl hS0 ?_;(try simp only[zS,Act.put]);refine zTk 1 (.int .i64 (i:Int)) rfl hS0 ?_;(try simp only[zS,Act.put]);refine zTk 2 (.slice (some ⟨w.heap.size,0,none⟩) n n) rfl hS0 ?_;(try simp only[zS,Act.put]);refine zTk 3 (.int .i64 (i:Int)) rfl hS0 ?_;(try simp only[zS,Act.put]);refine zTk 4 (.pointer (some ⟨w.heap.size,i,none⟩)) rfl hS0 ?_;(try simp only[zS,Act.put]);refine zTk 5 (.slice A j c) rfl hS0 ?_;(try simp only[zS,Act.put]);refine zTk 6 (.int .i64 k) rfl hS0 ?_;(try simp only[zS,Act.put]);refine zqcc (rs:=[7]) (by kernel_rfl) (by simp) ?_;refine AllReadyH.cons rfl (fun K hK=>?_) AllReadyH.nil;go_simp;refine(zbj k _).mono ?_;rintro e w5 ⟨rfl,hg5⟩;have hf5:=HX.out.2.1.kept (zaa (zag wr none) hg5);obtain⟨v5,hv5,hvc5,hvo5,_⟩:=hf5.at_ HI.out.1;obtain rfl:v5=.slice A j c:=by have h:=hv5.symm.trans HX.out.2.2.2.2;cases h;rfl
     refine hK.out _ _ hvc5 (fun zH=>?_);refine zqcc (rs:=[8]) (by kernel_rfl) (by simp) ?_;refine AllReadyH.cons rfl (fun K hK=>?_) AllReadyH.nil;go_simp;have hal:=zGA w5 (.cells #[.string (zaV k)] 9) none;refine hK.out _ _ (hal.cell hvc5 (by simp)) (fun zH=>?_);refine zqcc (rs:=[9]) (by kernel_rfl) (by simp) ?_;refine AllReadyH.cons rfl (fun K hK=>?_) AllReadyH.nil;refine step_append_lies _ (by rfl) _ _ _ (by rfl) (w.heap.size+1) 9 j0 (.string ⟨#[]⟩) 1 16 underlying109 ji jz0 jz1 jz2 rfl (by omega) (.slice A j c) j (zbX n (fun _ _=>zaV k) i j i) (by rfl) (hvo5.alloc _) ⟨w5.heap.size,0,none⟩ 1 1 [.string (zaV k)] (by rfl) (by rfl) (World.news_of_block (cs:=#[.string (zaV k)]) (t:=9) (fr:=(0,0)) (zqce w5 _)) (by simp[Value.oneCell']) (by omega) (by have:=HN.out;have:=HX.out.1;unfold maxLen;omega) (by have:=HN.out;have:=HX.out.1;omega) (by have:=hf5.grid.lt;first|(simp;omega)|(simp at this ⊢;omega)) (w5.heap.size+1) (by simp) ?_;intro g2 cap W6 hown6 zG hat hlt6;have hrd:=hf5.ready hv5 zG;have z0:=hrd.2;have q0:=hrd.1;refine hK.out _ _ hrd.1 (fun zH=>?_);refine zTk 10 (.pointer (some ⟨w.heap.size,i,none⟩)) rfl zH ?_;(try simp only[zS,Act.put]);clear zH;refine wpAnyH_done (by kernel_rfl) ?_ _;refine zgB (by rfl) (fun K hK=>?_);go_simp;refine hK _ _ ?_;have hput:=hf5.put HI.out.1 HX.out.1 hv5 zG hown6 hat;have HP:=zHd hput;clear hput zG hown6 hat hrd;go_wp2;have hfin:=HP.out.1;rw[zxU] at hfin;exact⟨⟨j+1,_,HX.out.1,by simp,hfin⟩,by have:=HX.out.1;simp[intOf];omega⟩
    obtain rfl:j=n:=by omega
    have v1:decide (j<j)=false:=(by simp);have v1':decide ((j:Int)<(j:Int))=false:=(by simp);have HJ:=zHd hf;clear hj' hjn hf;go_wp2;exact⟨⟨i+1,vs2,HI.out.1,by simp,HJ.out.row⟩,by have:=HI.out.1;simp[intOf];omega⟩
  obtain rfl:i=n:=by omega
  have u1:decide (i<i)=false:=by simp
  have u1':decide ((i:Int)<(i:Int))=false:=by simp
  have HJ:=zHd hf;clear hi' hin hf;go_wp2;go_ret;exact⟨_,vs,rfl,HJ.out⟩
open Go.RowKit
def zbk.lift {n sb:Nat}{w w2:World}{g i j:Nat}{vs:List Value}{G:Nat->Nat->ByteArray}{wr:World}(h:zbk none n w2 g i j vs G wr)(hg:w.grownBy w2 (some sb))(hsb:sb<w.heap.size):zbk (some sb) n w g i j vs G wr :=
 ⟨h.len,h.grid,zaa hg (grown_none h.gr),zqam hg.size h.far,fun b e=>by cases e;exact hsb⟩
def zbk.since {n sb:Nat}{w w2:World}{g i j:Nat}{vs:List Value}{G:Nat->Nat->ByteArray}{wr:World}(h:zbk (some sb) n w2 g i j vs G wr)(hg:w.grownBy w2 (some sb))(hsb:sb<w.heap.size):zbk (some sb) n w g i j vs G wr :=
 ⟨h.len,h.grid,zaa hg h.gr,zqam hg.size h.far,fun b e=>by cases e;exact hsb⟩
def zbk.blocks {r:Option Nat}{n:Nat}{w:World}{g:Nat}{vs:List Value}{G:Nat->Nat->ByteArray}{wr:World}(h:zbk r n w g n 0 vs G wr) :
  ∃ rb cb:Nat->Nat,∀ i,i<n->vs[i]?=some (.slice (some ⟨rb i,0,none⟩) n (cb i))/\wr.cell? ⟨g,i,none⟩=some (.slice (some ⟨rb i,0,none⟩) n (cb i))/\g<rb i/\rb i<wr.heap.size/\n<=cb i /\
   (∃ cur:List Value,wr.heap[rb i]?=some (.cells cur.toArray 9 (0,0))/\n<=cur.length)/\∀ j,j<n->wr.cell? ⟨rb i,j,none⟩=some (.string (G i j))/\wr.frozen? ⟨rb i,j,none⟩=false:=by
 have hex:∀ i,∃ p:Nat×Nat,i<n->vs[i]?=some (.slice (some ⟨p.1,0,none⟩) n p.2)/\wr.cell? ⟨g,i,none⟩=some (.slice (some ⟨p.1,0,none⟩) n p.2)/\g<p.1/\p.1<wr.heap.size/\n<=p.2 /\
   (∃ cur:List Value,wr.heap[p.1]?=some (.cells cur.toArray 9 (0,0))/\n<=cur.length)/\∀ j,j<n->wr.cell? ⟨p.1,j,none⟩=some (.string (G i j))/\wr.frozen? ⟨p.1,j,none⟩=false:=by
  intro i
  by_cases hi:i<n
  ·have hv:vs[i]?=some (vs[i]'(by rw[h.len];exact hi)):=zqac (by rw[h.len];exact hi)
   have ho:=h.grid.own i _ hv;rw[zeQ,zeF hi] at ho;have hc0:=h.grid.cell hv;rcases ho.2 with⟨e,h0⟩|⟨c,cap,cur,e,hb,hg,h1,h2,h3,h4⟩
   omega;rw[e] at hv hc0;refine⟨(c,cap),fun _=>⟨hv,hc0,by show g<c;omega,(zqad.1 hg).1,h1,⟨cur.toList,hg,by rw[zqbs];show n<=_;omega⟩,fun j hj=>⟨?_,zqbx wr c j _ _ hg⟩⟩⟩
   have hc:=ho.cells (g:=c) (by rw[e];rfl) j (.string (G i j)) (by
    unfold zbX;rw[zqaj,zqbe (by rw[zeF hi];exact hj)];rfl)
   rw[zhY,zqat] at hc;exact hc
  exact⟨(0,0),fun h=>absurd h hi⟩
 exact⟨fun i=>(hex i).choose.1,fun i=>(hex i).choose.2,fun i hi=>(hex i).choose_spec hi⟩
def zbk.copy {r:Option Nat}{n:Nat}{w:World}{g i c cap:Nat}{vs:List Value}{G:Nat->Nat->ByteArray}{wr W':World}{GA:Nat->ByteArray}{cur:List Value}(h:zbk r n w g n 0 vs G wr)(hi:i<n)(hv:vs[i]?=some (.slice (some ⟨c,0,none⟩) n cap))
  (hc:wr.heap[c]?=some (.cells cur.toArray 9 (0,0))) (hl:n<=cur.length) (hb:W'.heap[c]?=some (.cells (splice cur 0 ((List.range n).map (fun y=>Value.string (GA y)))).toArray 9 (0,0))) (hg:wr.grownBy W' (some c)) :
  zbk r n w g n 0 vs (fun x y=>if x=i then GA y else G x y) W':=by
 have ho:=h.grid.own i _ hv;rw[zeQ,zeF hi] at ho;have hcg:=(ho.lt c rfl).1;have hfar:=h.far;refine⟨h.len,⟨(hg.block g h.grid.lt (by simp;omega)).trans h.grid.row,fun x u hx=>?_,h.grid.dis⟩,zae h.gr hg (by omega),h.far,h.low⟩
 by_cases e:x=i
 ·subst e
  rw[hv] at hx;cases hx;rw[zeQ,zeF hi]
  have er:zbX n (fun a y=>if a=x then GA y else G a y) n 0 x=(List.range n).map (fun y=>Value.string (GA y)):=by
   unfold zbX;rw[zeF hi];simp
  rw[er];refine⟨by simp,?_⟩;rcases ho.2 with⟨e,h0⟩|⟨g',cap',cur',e,hb',hg',h1,h2,h3,h4⟩
  omega;simp only[Value.slice.injEq,Option.some.injEq,Addr.mk.injEq,and_true,true_and] at e;obtain⟨rfl,rfl⟩:=e;rw[hc] at hg';have hcc:cur'=cur.toArray:=by simpa using hg'.symm
  refine .inr ⟨c,cap,_,rfl,hb',hb,h1,h2,?_,?_⟩
  ·rw[hcc] at h3
   have h3:cur.length=cap*1:=(by simpa using h3);simp[splice];omega
  simp[splice]
 have e2:zbX n (fun a y=>if a=i then GA y else G a y) n 0 x=zbX n G n 0 x:=by
  unfold zbX;refine List.map_congr_left (fun y _=>?_);show Value.string (if x=i then GA y else G x y)=_;rw[if_neg e]
 rw[e2];refine(h.grid.own x u hx).kept hg ?_;have:=h.grid.dis x i u _ e hx hv;rcases this with h1|h1
 exact .inl h1;exact .inr h1
structure zmW {k:Int}(hk:zam k)(A:Nat->Nat->El k)(n:Nat):Prop where
 star:∀ t,t<n->zav ((srE k hk).star (el (srE k hk) A t t t))
 once:∀ t i,t<n->i<n->zav ((srE k hk).mul (el (srE k hk) A t i t) ((srE k hk).star (el (srE k hk) A t t t)))
 twice:∀ t i j,t<n->i<n->j<n->zav ((srE k hk).mul ((srE k hk).mul (el (srE k hk) A t i t) ((srE k hk).star (el (srE k hk) A t t t))) (el (srE k hk) A t t j))
 sum:∀ t i j,t<n->i<n->j<n->zav (el (srE k hk) A (t+1) i j)
 last:∀ i,i<n->zav (stM (srE k hk) A n i i)
structure AtR {k:Int}(hk:zam k)(A:Nat->Nat->El k)(n:Nat)(bad:Bool)(M:Nat->Nat->El k)(G:Nat->Nat->ByteArray)(U:Nat->Nat->El k)(b1:Bool):Prop where
 tx:∀ i j,i<n->j<n->G i j=tx (U i j)/\zav (U i j)
 good:b1=false->bad=false/\∀ i j,i<n->j<n->U i j=M i j
 keeps:bad=false->zmW hk A n->b1=false
def zmX {α:Type}(U:Nat->Nat->α)(i j:Nat)(u:α)(x y:Nat):α:=if x=i/\y=j then u else U x y
def zGu {k:Int}(U:Nat->Nat->El k)(i j:Nat)(u:El k){G:Nat->Nat->ByteArray}{x y:Nat}(h:G x y=tx (U x y)):zeB G i j (tx u) x y=tx (zmX U i j u x y):=by
 unfold zeB zmX;split;rfl;exact h
def zwu {k:Int}(hk:zam k)(A:Nat->Nat->El k){t i j:Nat}(h:el (srE k hk) A t i t=(srE k hk).zero∨el (srE k hk) A t t j=(srE k hk).zero):el (srE k hk) A (t+1) i j=el (srE k hk) A t i j:=by
 show(srE k hk).add (el (srE k hk) A t i j) ((srE k hk).mul ((srE k hk).mul (el (srE k hk) A t i t) ((srE k hk).star (el (srE k hk) A t t t))) (el (srE k hk) A t t j))=_;rcases h with h|h
 rw[h,(srE k hk).zero_mul,(srE k hk).zero_mul,(srE k hk).add_zero];rw[h,(srE k hk).mul_zero,(srE k hk).add_zero]
def zGv {k:Int}(hk:zam k)(A:Nat->Nat->El k){n i j:Nat}(h:i≠j):stM (srE k hk) A n i j=el (srE k hk) A n i j:=by
 unfold stM idm;rw[if_neg h,(srE k hk).zero_add]
def zBj {k:Int}(hk:zam k)(A:Nat->Nat->El k)(n i:Nat):stM (srE k hk) A n i i=(srE k hk).add (srE k hk).one (el (srE k hk) A n i i):=by
 unfold stM idm;rw[if_pos rfl]
def zGw {k:Int}(hk:zam k)(w:World):Calls prog 23 #[.int .i64 k] w (zab (.string (tx (srE k hk).one)) w):=by
 rw[zmF hk];exact zfz k w
end Go.Proofs.YtadgpgofcjpnjaaGreatDoor
