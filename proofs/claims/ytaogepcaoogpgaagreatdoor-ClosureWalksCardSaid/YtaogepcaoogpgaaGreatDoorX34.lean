/- WB5 -/
import Derived.Test.YtaogepcaoogpgaaGreatDoorX33
set_option linter.unusedVariables false
set_option linter.unusedSimpArgs false
set_option maxRecDepth 100000
set_option maxHeartbeats 16000000
namespace Go.Proofs.YtaogepcaoogpgaaGreatDoor
open Go.RowKit
def zfw {α:Type}(S:Sr α)(A:Nat→Nat→α)(f:Nat→Nat):Nat→α
 | 0=>S.one
 | i+1=>if i=0 then S.one else S.mul (zfw S A f i) (A (f (i - 1)) (f i))
theorem zuq {α:Type}(S:Sr α)(A:Nat→Nat→α){n:Nat}(f:Nat→Nat):∀ i,(∀ x,x≤i→f x<n)→S.le (zfw S A f (i+1)) (stM S A n (f 0) (f i))
 | 0,_=>zCC S A n (f 0)
 | i+1,h=>by
  have ih:=zuq S A (n:=n) f i (fun x hx=>h x (by omega));show S.le (if i+1=0 then S.one else S.mul (zfw S A f (i+1)) (A (f i) (f (i+1)))) _;rw[if_neg (by omega),zwP S A (h 0 (by omega))];refine S.le_trans _ _ _ ?_ (S.le_trans _ _ _ (zrE S (fun m=>S.mul (stM S A n (f 0) m) (A m (f (i+1)))) (h i (by omega))) (S.le_add2 _ _));rw[S.mul_comm _ (A (f i) (f (i+1))),S.mul_comm (stM S A n (f 0) (f i)) (A (f i) (f (i+1)))];exact S.mul_mono _ _ _ ih
theorem zvv (k:Int)(n:Nat)(ln:Nat→Nat)(G:Nat→Nat→ByteArray)(av:Value)(L:Nat)(wk:Nat→Int)(wv:Value)(w:World)(ha:MatA w av n ln G)(hs:∀ i j,(G i j).size≤maxLen)(hw:RowR w wv L (fun i => .int .i64 (wk i))) :
  Calls Tryz.prog 8 #[.int .i64 k,av,wv] w (zab (.bool true) w):=by
 have hrd:=zrg k n ln G av w ha hs;have hsh1:∃ A c,av = .slice A n c:=by obtain⟨rs,⟨A,c,e,_⟩,_⟩:=ha;exact⟨A,c,e⟩
 have hsh2:∃ A c,wv = .slice A L c:=by obtain⟨A,c,e,_⟩:=hw;exact⟨A,c,e⟩
 obtain⟨Aa,ca,rfl⟩:=hsh1;obtain⟨Aw,cw,rfl⟩:=hsh2;have HRD:=zHd hrd;have HA:=zHd ha;have HWK:=zHd hw;have HS:=zHd hs;clear hrd ha hw hs;go_enter Tryz.func8,Tryz.ntmps8;go_wp2_with fail;refine HRD.out.mono ?_;rintro e w1 ⟨b,rfl,hb,hg1⟩;have HG1:=zHd hg1;cases b
 ·clear hb hg1
  go_wp2_with fail;refine(zav _).mono ?_;rintro e w2 ⟨rfl,hg2⟩;have HG2:=zHd (zaa HG1.out hg2);clear hg2;go_wp2;go_ret;exact⟨rfl,HG2.out⟩
 ·have hrdy:=hb.1 (by simp)
  have HM:=zHd hrdy;clear hb hg1 hrdy
  by_cases hL0:L=0
  ·subst hL0
   go_wp2_with fail;refine(zav _).mono ?_;rintro e w2 ⟨rfl,hg2⟩;have HG2:=zHd (zaa HG1.out hg2);clear hg2;go_wp2;go_ret;exact⟨rfl,HG2.out⟩
  ·have l0:((L:Int) == 0)=false:=by simp;omega
   by_cases hL1:L≤12
   rotate_left 1
   ·have l1:decide ((12:Int)<(L:Int))=true:=by simp;omega
    have l2:(12:Int)<(L:Int):=by omega
    go_wp2_with fail;refine(zav _).mono ?_;rintro e w2 ⟨rfl,hg2⟩;have HG2:=zHd (zaa HG1.out hg2);clear hg2;go_wp2;go_ret;exact⟨rfl,HG2.out⟩
   ·have l1:decide ((12:Int)<(L:Int))=false:=by simp;omega
    have l2:¬ (12:Int)<(L:Int):=by omega
    go_wp2_with fail;refine(zfN k n ln G _ w1 (by have:=HM.out.1;omega) (HA.out.grown HG1.out) HS.out).mono ?_;intro e w2 hq;obtain⟨hg2,hk,A,hA,v,c,rfl,hv⟩:=zmU HM.out.2 HM.out.1 hq;have HG2:=zHd (zaa HG1.out hg2);have HV:=zHd hv;have HAE:=zHd hA;clear hq hg2 hv hA
    by_cases hc:c=0
    rotate_left 1
    ·have u1:(c != 0)=true:=by simpa using hc
     go_wp2_with fail;refine(zav _).mono ?_;rintro e w3 ⟨rfl,hg3⟩;have HG3:=zHd (zaa HG2.out hg3);clear hg3;go_wp2;go_ret;exact⟨rfl,HG3.out⟩
    ·subst hc
     obtain⟨hmv,hmf⟩:=HV.out rfl;have hsh3:∃ A c,v = .slice A n c:=by obtain⟨rs,⟨A,c,e,_⟩,_⟩:=hmv;exact⟨A,c,e⟩
     obtain⟨Ab,cb,rfl⟩:=hsh3;have HMV:=zHd hmv;have HMF:=zHd hmf;have n1:((n:Int) != (n:Int))=false:=by simp
     clear hmv hmf HV;go_wp2_with fail;refine(zir k n (fun _=>n) (inM n (fun i j=>tx (stM (srE k hk) A n i j))) _ w2 (by have:=HM.out.1;omega) HMV.out.inM (zup HMF.out)).mono ?_;rintro e w3 ⟨b,rfl,hb,hg3⟩;obtain rfl:=hb.2 (zwM hk HMF.out);have HG3:=zHd (zaa HG2.out hg3);have HMV3:=zHd (HMV.out.grown hg3);have HA3:=zHd (HA.out.grown (zaa HG2.out hg3));have HW3:=zHd (HWK.out.grown (zaa HG2.out hg3));clear hb hg3 HMV;go_wp2_with fail;refine(zjl _ _).mono ?_;rintro e w4 ⟨rfl,hg4⟩;have hal:=zGA w3 (.cells #[.int .i64 k,.bool false] 45) none;have hsb:=(hg4.block _ (Array.getElem?_eq_some_iff.1 (zau w3 (.cells #[.int .i64 k,.bool false] 45))).1 (by simp)).trans (zau w3 (.cells #[.int .i64 k,.bool false] 45));have H34:=zHd (zaa hal hg4);have HSB:=zHd hsb;clear hal hsb hg4;generalize hsz:w3.heap.size=sb at *;have HSZ:=zHd hsz;clear hsz;go_wp2_with fail;have HL:=zHd (zAI hL0 hL1);clear hL0 hL1
     go_loopw [10,11] (fun uv iv wr=>∃ (i:Nat) (u:ByteArray) (bad:Bool),i≤L∧uv = .string u∧iv = .int .i64 (i:Int)∧w4.grownBy wr (some sb)∧wr.heap[sb]? = some (.cells #[.int .i64 k,.bool bad] 45 (0,0))∧TxOk k u ∧
      (∀ x,x<i→0≤wk x∧wk x<(n:Int))∧(bad=false→u=tx (zfw (srE k hk) A (fun x=>(wk x).toNat) i)∧FitE (zfw (srE k hk) A (fun x=>(wk x).toNat) i))) (fun _ iv _=>L - (intOf iv).toNat)
     case atStart=>exact⟨0,_,false,Nat.zero_le _,rfl,rfl,World.grownBy.refl _ _,HSB.out,.inl ⟨(srE k hk).one,zlF hk,(znW hk).symm⟩,fun x hx=>absurd hx (by omega),fun _=>⟨(znW hk).symm,zlF hk⟩⟩
     case round =>
      obtain⟨i,u,bad,hi,rfl,rfl,hg,hsb,hu,hwx,hbad⟩:=hrel;have hg3:=zaa (zbT (some sb) H34.out) hg
      by_cases hin:i<L
      ·have u1:decide (i<L)=true:=by simpa using hin
       have u1':decide ((i:Int)<(L:Int))=true:=by simpa using hin
       have hit:(i:Int)<(L:Int):=by omega
       have hi0:(0:Int)≤(i:Int):=by omega
       have nw:IntKind.i64.wrap ((i:Int)+1)=(i:Int)+1:=by have:=HL.out;rw[IntKind.wrap_i64];omega
       obtain⟨Aw',cw',ef,_,_,hf3⟩:=HW3.out;obtain⟨rfl,rfl⟩:Aw'=Aw∧cw'=cw:=by simp at ef;exact⟨ef.1.symm,ef.2.symm⟩
       obtain⟨wd,rfl,hwb,hwc⟩:=hf3 i hin;rw[HSZ.out] at hwb;have q1:wr.cell? (wd.add i)=some (.int .i64 (wk i)):=hg3.cell hwc (by rw[zaj];simp;omega);have HF3:=zHd hf3;have HI:=zHd (zAI hin (zAI hg (zAI hsb (zAI hu (zAI hwx hbad)))));have HWB:=zHd hwb;have HG3':=zHd hg3;clear hin hg hsb hu hwx hbad hwb hwc hf3 ef hi hg3;have HGW:=zHd (ziq (zaa (zbT (some sb) HG3.out) HG3'.out) (by have:=HG3.out.size;rw[HSZ.out] at this;exact this))
       by_cases hlow:0≤wk i
       rotate_left 1
       ·have v1:decide (wk i<0)=true:=by simp;omega
        have v2:wk i<0:=by omega
        go_wp2_with fail;refine(zav _).mono ?_;rintro e w5 ⟨rfl,hg5⟩;have HG5:=zHd (zaa HGW.out hg5);clear hg5;go_wp2;go_ret;exact⟨rfl,HG5.out⟩
       ·have v1:decide (wk i<0)=false:=by simp;omega
        have v2:¬ wk i<0:=by omega
        by_cases hhigh:wk i<(n:Int)
        rotate_left 1
        ·have v3:decide ((n:Int)≤wk i)=true:=by simp;omega
         have v4:(n:Int)≤wk i:=by omega
         go_wp2_with fail;refine(zav _).mono ?_;rintro e w5 ⟨rfl,hg5⟩;have HG5:=zHd (zaa HGW.out hg5);clear hg5;go_wp2;go_ret;exact⟨rfl,HG5.out⟩
        ·have v3:decide ((n:Int)≤wk i)=false:=by simp;omega
         have v4:¬ (n:Int)≤wk i:=by omega
         have HIN:=zHd (zAI hlow hhigh);clear hlow hhigh
         by_cases h0:i=0
         ·have v5:decide ((0:Int)<(i:Int))=false:=by simp;omega
          have v6:¬ (0:Int)<(i:Int):=by omega
          have H0:=zHd h0;clear h0;go_wp2_with fail;refine⟨⟨i+1,u,bad,HI.out.1,rfl,by simp,HI.out.2.1,HI.out.2.2.1,HI.out.2.2.2.1,fun x hx => ?_,fun hb => ?_⟩,by have:=HI.out.1;simp[intOf];omega⟩
          ·have:=H0.out
           rw[show x=i by omega];exact HIN.out
          ·have:=HI.out.2.2.2.2.2 hb
           rw[H0.out] at this ⊢;exact this
         ·obtain⟨j,hj⟩:∃ j,i=j+1:=⟨i - 1,by omega⟩
          have v5:decide ((0:Int)<(i:Int))=true:=by simp;omega
          have v6:(0:Int)<(i:Int):=by omega
          have nm:IntKind.i64.wrap ((i:Int) - 1)=(j:Int):=by have:=HL.out;have:=HI.out.1;rw[IntKind.wrap_i64];omega
          have hjL:j<L:=by have:=HI.out.1;omega
          have hjt:(j:Int)<(L:Int):=by omega
          have hj0:(0:Int)≤(j:Int):=by omega
          obtain⟨wd',ewd,hwb',hwc'⟩:=HF3.out j hjL;obtain rfl:wd'=wd:=by simp at ewd;exact ewd.symm
          have q0:wr.cell? (wd'.add j)=some (.int .i64 (wk j)):=HG3'.out.cell hwc' (by have:=HWB.out;rw[zaj];simp;omega);obtain⟨y,hy⟩:∃ y:Nat,wk j=(y:Int):=⟨(wk j).toNat,by have:=(HI.out.2.2.2.2.1 j (by omega)).1;omega⟩;obtain⟨z,hz⟩:∃ z:Nat,wk i=(z:Int):=⟨(wk i).toNat,by have:=HIN.out.1;omega⟩;have hyn:y<n:=by have:=(HI.out.2.2.2.2.1 j (by omega)).2;omega
          have hzn:z<n:=by have:=HIN.out.2;omega
          rw[hy] at q0;rw[hz] at q1 v1 v2 v3 v4;obtain⟨rs,⟨Aa',ca',eA,_,_,hA3⟩,hR3⟩:=HA3.out;obtain⟨rfl,rfl⟩:Aa'=Aa∧ca'=ca:=by simp at eA;exact⟨eA.1.symm,eA.2.symm⟩
          obtain⟨ad,rfl,hab,hac⟩:=hA3 y hyn;obtain⟨Ai,ci,hre,_,_,hr3⟩:=hR3 y hyn;rw[hre,HM.out.2.2.1 y hyn] at hac;rw[HM.out.2.2.1 y hyn] at hr3;obtain⟨rd,rfl,hrb,hrc⟩:=hr3 z hzn;rw[HSZ.out] at hab hrb;have d0:wr.drew.cell? (wd'.add j)=some (.int .i64 (y:Int)):=q0;have d1:wr.drew.cell? (wd'.add i)=some (.int .i64 (z:Int)):=q1;have d2:wr.drew.cell? (ad.add y)=some (.slice (some rd) n ci):=HG3'.out.cell hac (by rw[zaj];simp;omega);have d3:wr.drew.cell? (rd.add z)=some (.string (G y z)):=HG3'.out.cell hrc (by rw[zaj];simp;omega);have hyt:(y:Int)<(n:Int):=by omega
          have hy0:(0:Int)≤(y:Int):=by omega
          have hzt:(z:Int)<(n:Int):=by omega
          have hz0:(0:Int)≤(z:Int):=by omega
          have hti:=zgx k sb bad u (G y z) wr.drew HI.out.2.2.1 HI.out.2.2.2.1 (.inl ⟨_,(HAE.out y hyn z hzn).2,(HAE.out y hyn z hzn).1⟩);have HTI:=zHd hti;have HJ:=zHd (zAI hj (zAI hy (zAI hz (zAI hyn (zAI hzn (zAI hab hrb))))));clear hti hj hjL hwb' hwc' q0 hy hz hyn hzn eA hA3 hR3 hab hac hre hr3 hrb hrc h0;go_upto_region 16 with(fail)
          go_region_held2 (fun W'=>W'.cell? (wd'.add j)=some (.int .i64 (y:Int))∧W'.cell? (wd'.add i)=some (.int .i64 (z:Int))∧W'.cell? (ad.add y)=some (.slice (some rd) n ci)∧W'.cell? (rd.add z)=some (.string (G y z))) (first|exact⟨d0,d1,d2,d3⟩|exact S6|go_keep)
           (first
           | (go_at_call 35;refine HTI.out.mono ?_;rintro e w6 ⟨S1,b1,rfl,hg6,hb6,hk6,hv6⟩;have S6:(fun W':World=>W'.cell? (wd'.add j)=some (.int .i64 (y:Int))∧W'.cell? (wd'.add i)=some (.int .i64 (z:Int))∧W'.cell? (ad.add y)=some (.slice (some rd) n ci)∧W'.cell? (rd.add z)=some (.string (G y z))) w6:=⟨hg6.cell d0 (by have:=HWB.out;rw[zaj];simp;omega),hg6.cell d1 (by have:=HWB.out;rw[zaj];simp;omega),hg6.cell d2 (by have:=HJ.out;rw[zaj];simp;omega),hg6.cell d3 (by have:=HJ.out;rw[zaj];simp;omega)⟩;have H6:=zHd (zAI hg6 (zAI hb6 (zAI hk6 hv6)));clear hg6 hb6 hk6 hv6))
          all_goals
           go_wp2_with fail;refine⟨⟨i+1,S1,b1,HI.out.1,rfl,by simp,zaa (zaa HI.out.2.1 (zae wr (some sb))) H6.out.1,H6.out.2.1,H6.out.2.2.1,fun x hx => ?_,fun hb => ?_⟩,by have:=HI.out.1;simp[intOf];omega⟩
           ·by_cases e:x<i
            ·exact HI.out.2.2.2.2.1 x e
            ·rw[show x=i by omega];exact HIN.out
           ·obtain⟨hb0,hk2,u2,v2,fu2,fv2,eu2,ev2,ff2,e2⟩:=H6.out.2.2.2 hb
            obtain⟨hu,hf⟩:=HI.out.2.2.2.2.2 hb0;obtain⟨j1,j2,j3,j4,j5,_⟩:=HJ.out;have i2:=zdl fu2 hf (eu2.symm.trans hu);have i3:=zdl fv2 (HAE.out y j4 z j5).2 (ev2.symm.trans (HAE.out y j4 z j5).1)
            have e:zfw (srE k hk) A (fun x=>(wk x).toNat) (i+1)=(srE k hk2).mul u2 v2:=by
             show(if i=0 then (srE k hk).one else (srE k hk).mul (zfw (srE k hk) A (fun x=>(wk x).toNat) i) (A (wk (i - 1)).toNat (wk i).toNat))=_;rw[if_neg (by omega),i2,i3,show i - 1=j by omega,j2,j3]
             rfl
            rw[e];exact⟨e2,ff2⟩
      ·obtain rfl:i=L:=by omega
       have u1:decide (i<i)=false:=by simp
       have u1':decide ((i:Int)<(i:Int))=false:=by simp
       have HGW:=zHd (ziq (zaa (zbT (some sb) HG3.out) hg3) (by have:=HG3.out.size;rw[HSZ.out] at this;exact this));have HI:=zHd (zAI hsb (zAI hu (zAI hwx hbad)));have e1:wr.drew.cell? ⟨sb,1,none⟩=some (.bool bad):=cell_of_row wr sb 1 _ _ (0,0) hsb;obtain⟨Aw',cw',ef,_,_,hf3⟩:=HW3.out;obtain⟨rfl,rfl⟩:Aw'=Aw∧cw'=cw:=by simp at ef;exact⟨ef.1.symm,ef.2.symm⟩
       obtain⟨j,hj⟩:∃ j,i=j+1:=⟨i - 1,by have:=HL.out.1;omega⟩;have nm:IntKind.i64.wrap ((i:Int) - 1)=(j:Int):=by have:=HL.out;rw[IntKind.wrap_i64];omega
       obtain⟨wd,rfl,hwb,hwc⟩:=hf3 0 (by omega);obtain⟨wd',ewd,hwb',hwc'⟩:=hf3 j (by omega);obtain rfl:wd'=wd:=by simp at ewd;exact ewd.symm
       rw[HSZ.out] at hwb;obtain⟨x,hx⟩:∃ x:Nat,wk 0=(x:Int):=⟨(wk 0).toNat,by have:=(hwx 0 (by omega)).1;omega⟩;obtain⟨z,hz⟩:∃ z:Nat,wk j=(z:Int):=⟨(wk j).toNat,by have:=(hwx j (by omega)).1;omega⟩;have hxn:x<n:=by have:=(hwx 0 (by omega)).2;omega
       have hzn:z<n:=by have:=(hwx j (by omega)).2;omega
       obtain⟨rs,⟨Ab',cb',eA,_,_,hA3⟩,hR3⟩:=HMV3.out.texts;obtain⟨rfl,rfl⟩:Ab'=Ab∧cb'=cb:=by simp at eA;exact⟨eA.1.symm,eA.2.symm⟩
       obtain⟨ad,rfl,hab,hac⟩:=hA3 x hxn;obtain⟨Ai,ci,hre,_,_,hr3⟩:=hR3 x hxn;rw[hre] at hac;obtain⟨rd,rfl,hrb,hrc⟩:=hr3 z hzn;rw[HSZ.out] at hab hrb;have hwc:w3.cell? (wd'.add 0)=some (.int .i64 (wk 0)):=hwc;have hwc':w3.cell? (wd'.add j)=some (.int .i64 (wk j)):=hwc';rw[hx,zkG] at hwc;rw[hz] at hwc';have d0:wr.drew.cell? wd'=some (.int .i64 (x:Int)):=hg3.cell hwc (by simp;omega);have d1:wr.drew.cell? (wd'.add j)=some (.int .i64 (z:Int)):=hg3.cell hwc' (by rw[zaj];simp;omega);have d2:wr.drew.cell? (ad.add x)=some (.slice (some rd) n ci):=hg3.cell hac (by rw[zaj];simp;omega);have d3:wr.drew.cell? (rd.add z)=some (.string (tx (stM (srE k hk) A n x z))):=hg3.cell hrc (by rw[zaj];simp;omega);have hjt:(j:Int)<(i:Int):=by omega
       have hj0:(0:Int)≤(j:Int):=by omega
       have hit:(0:Int)<(i:Int):=by omega
       have hnz:¬ i=0:=by omega
       have hxt:(x:Int)<(n:Int):=by omega
       have hx0:(0:Int)≤(x:Int):=by omega
       have hzt:(z:Int)<(n:Int):=by omega
       have hz0:(0:Int)≤(z:Int):=by omega
       have HG2W:=zHd (zaa HGW.out (zae wr none))
       have hbet:bad=false→∃ bt:Int,0≤bt∧SOp 36 k u (tx (stM (srE k hk) A n x z)) (.int .i64 bt):=fun hb=>by
        obtain⟨hu1,hf1⟩:=hbad hb;have hle:=zuq (srE k hk) A (n:=n) (fun x=>(wk x).toNat) j (fun y hy=>by have:=hwx y (by omega);show(wk y).toNat<n;omega);have hfl:=zlW k (zfw (srE k hk) A (fun x=>(wk x).toNat) i).1 (stM (srE k hk) A n x z).1;refine⟨zbq k (zfw (srE k hk) A (fun x=>(wk x).toNat) i).1 (stM (srE k hk) A n x z).1,?_,?_⟩
        ·have h2:zbq k (stM (srE k hk) A n x z).1 (zfw (srE k hk) A (fun x=>(wk x).toNat) i).1≤0:=by
          have h3:zbq k (stM (srE k hk) A n (wk 0).toNat (wk j).toNat).1 (zfw (srE k hk) A (fun x=>(wk x).toNat) (j+1)).1≤0:=hle;rw[hx,hz,← hj] at h3;exact h3
         omega
        ·rw[hu1]
         exact zuW (zby hf1) (zby (HMF.out x hxn z hzn))
       have HBET:=zHd hbet;clear hbet hi hin hg hsb hu hwx hbad hg3 hj hx hz hxn hzn hwb hwc hwb' hwc' hf3 ef eA hA3 hR3 hab hac hre hr3 hrb hrc;cases bad
       ·obtain⟨bt,hb0,hbc⟩:=HBET.out rfl
        have HC:=zHd hbc;have k1:decide ((0:Int)≤bt)=true:=by simpa using hb0
        clear hbc HBET;go_upto_region 17 with(fail)
        refine wp_region_held_drew (S:=fun W':World=>W'.cell? ⟨sb,1,none⟩=some (.bool false)∧W'.cell? wd'=some (.int .i64 (x:Int))∧W'.cell? (wd'.add j)=some (.int .i64 (z:Int))∧W'.cell? (ad.add x)=some (.slice (some rd) n ci)∧W'.cell? (rd.add z)=some (.string (tx (stM (srE k hk) A n x z)))) (by kernel_rfl) (⟨e1,d0,d1,d2,d3⟩) (fun hHeld => ?_);refine zTk 0 (.pointer (some ⟨sb,0,none⟩)) rfl hHeld ?_
        (try simp only[zA1,zA2,zA3,Act.put,zA4,zA5,zA6])
        refine zTk 1 (.pointer (some ⟨sb,0,none⟩)) rfl hHeld ?_
        (try simp only[zA1,zA2,zA3,Act.put,zA4,zA5,zA6])
        refine zTk 2 (.pointer (some ⟨sb,1,none⟩)) rfl hHeld ?_
        (try simp only[zA1,zA2,zA3,Act.put,zA4,zA5,zA6])
        refine zTk 3 (.bool false) rfl hHeld ?_
        (try simp only[zA1,zA2,zA3,Act.put,zA4,zA5,zA6])
        refine zTk 4 (.bool false) rfl hHeld ?_
        (try simp only[zA1,zA2,zA3,Act.put,zA4,zA5,zA6])
        refine zTk 5 (.int .i64 k) rfl hHeld ?_
        (try simp only[zA1,zA2,zA3,Act.put,zA4,zA5,zA6])
        refine zTk 6 (.string u) rfl hHeld ?_
        (try simp only[zA1,zA2,zA3,Act.put,zA4,zA5,zA6])
        refine zTk 7 (.slice (some ad) n cb') rfl hHeld ?_
        (try simp only[zA1,zA2,zA3,Act.put,zA4,zA5,zA6])
        refine zTk 8 (.slice (some wd') i cw') rfl hHeld ?_
        (try simp only[zA1,zA2,zA3,Act.put,zA4,zA5,zA6])
        refine zTk 9 (.pointer (some wd')) rfl hHeld ?_
        (try simp only[zA1,zA2,zA3,Act.put,zA4,zA5,zA6])
        refine zTk 10 (.int .i64 (x:Int)) rfl hHeld ?_
        (try simp only[zA1,zA2,zA3,Act.put,zA4,zA5,zA6])
        refine zTk 11 (.pointer (some (ad.add x))) rfl hHeld ?_
        (try simp only[zA1,zA2,zA3,Act.put,zA4,zA5,zA6])
        refine zTk 12 (.slice (some rd) n ci) rfl hHeld ?_
        (try simp only[zA1,zA2,zA3,Act.put,zA4,zA5,zA6])
        refine zTk 13 (.slice (some wd') i cw') rfl hHeld ?_
        (try simp only[zA1,zA2,zA3,Act.put,zA4,zA5,zA6])
        refine zTk 14 (.slice (some wd') i cw') rfl hHeld ?_
        (try simp only[zA1,zA2,zA3,Act.put,zA4,zA5,zA6])
        refine zTk 15 (.int .i64 (i:Int)) rfl hHeld ?_
        (try simp only[zA1,zA2,zA3,Act.put,zA4,zA5,zA6])
        refine zTk 16 (.int .i64 (j:Int)) rfl hHeld ?_
        (try simp only[zA1,zA2,zA3,Act.put,zA4,zA5,zA6])
        refine zTk 17 (.pointer (some (wd'.add j))) rfl hHeld ?_
        (try simp only[zA1,zA2,zA3,Act.put,zA4,zA5,zA6])
        refine zTk 18 (.int .i64 (z:Int)) rfl hHeld ?_
        (try simp only[zA1,zA2,zA3,Act.put,zA4,zA5,zA6])
        refine zTk 19 (.pointer (some (rd.add z))) rfl hHeld ?_
        (try simp only[zA1,zA2,zA3,Act.put,zA4,zA5,zA6])
        refine zTk 20 (.string (tx (stM (srE k hk) A n x z))) rfl hHeld ?_
        (try simp only[zA1,zA2,zA3,Act.put,zA4,zA5,zA6])
        refine wpAnyH_ready (rs:=[21]) (by kernel_rfl) (by simp) ?_;refine AllReadyH.cons rfl (fun K hK => ?_) AllReadyH.nil
        go_simp
        refine(HC.out _).mono ?_;rintro e w6 ⟨rfl,hg6⟩;have S6:(fun W':World=>W'.cell? ⟨sb,1,none⟩=some (.bool false)∧W'.cell? wd'=some (.int .i64 (x:Int))∧W'.cell? (wd'.add j)=some (.int .i64 (z:Int))∧W'.cell? (ad.add x)=some (.slice (some rd) n ci)∧W'.cell? (rd.add z)=some (.string (tx (stM (srE k hk) A n x z)))) w6:=⟨hg6.cell e1 (by simp),hg6.cell d0 (by simp),hg6.cell d1 (by simp),hg6.cell d2 (by simp),hg6.cell d3 (by simp)⟩;have H6:=zHd (zaa HG2W.out hg6);clear hg6;refine hK.out _ _ (S6) (fun hHeld => ?_);clear hK K
        (try simp only[zA1,zA2,zA3,Act.put,zA4,zA5,zA6])
        refine zTk 22 (.bool true) rfl hHeld ?_
        (try simp only[zA1,zA2,zA3,Act.put,zA4,zA5,zA6])
        refine zTk 23 (.bool true) rfl hHeld ?_
        (try simp only[zA1,zA2,zA3,Act.put,zA4,zA5,zA6])
        refine zTk 24 (.bool true) rfl hHeld ?_
        (try simp only[zA1,zA2,zA3,Act.put,zA4,zA5,zA6])
        refine wpAnyH_ready (rs:=[25]) (by kernel_rfl) (by simp) ?_;refine AllReadyH.cons rfl (fun K hK => ?_) AllReadyH.nil
        go_simp
        refine(zav _).mono ?_;rintro e w7 ⟨rfl,hg7⟩;have S7:(fun W':World=>W'.cell? ⟨sb,1,none⟩=some (.bool false)∧W'.cell? wd'=some (.int .i64 (x:Int))∧W'.cell? (wd'.add j)=some (.int .i64 (z:Int))∧W'.cell? (ad.add x)=some (.slice (some rd) n ci)∧W'.cell? (rd.add z)=some (.string (tx (stM (srE k hk) A n x z)))) w7:=⟨hg7.cell S6.1 (by simp),hg7.cell S6.2.1 (by simp),hg7.cell S6.2.2.1 (by simp),hg7.cell S6.2.2.2.1 (by simp),hg7.cell S6.2.2.2.2 (by simp)⟩;have H7:=zHd (zaa H6.out hg7);clear hg7;refine hK.out _ _ (S7) (fun hHeld => ?_);clear hK K
        (try simp only[zA1,zA2,zA3,Act.put,zA4,zA5,zA6])
        refine zTk 26 (.bool true) rfl hHeld ?_
        (try simp only[zA1,zA2,zA3,Act.put,zA4,zA5,zA6])
        refine zTk 27 (.bool true) rfl hHeld ?_
        (try simp only[zA1,zA2,zA3,Act.put,zA4,zA5,zA6])
        refine wpAnyH_done (by kernel_rfl) ?_ _;go_wp2;go_ret;exact⟨rfl,H7.out⟩
       ·clear HBET d0 d1 d2 d3
        go_upto_region 17 with(fail);refine wp_region_held_drew (S:=fun W':World=>W'.cell? ⟨sb,1,none⟩=some (.bool true)) (by kernel_rfl) (e1) (fun hHeld => ?_);refine zTk 0 (.pointer (some ⟨sb,0,none⟩)) rfl hHeld ?_
        (try simp only[zA1,zA2,zA3,Act.put,zA4,zA5,zA6])
        refine zTk 1 (.pointer (some ⟨sb,0,none⟩)) rfl hHeld ?_
        (try simp only[zA1,zA2,zA3,Act.put,zA4,zA5,zA6])
        refine zTk 2 (.pointer (some ⟨sb,1,none⟩)) rfl hHeld ?_
        (try simp only[zA1,zA2,zA3,Act.put,zA4,zA5,zA6])
        refine zTk 3 (.bool true) rfl hHeld ?_
        (try simp only[zA1,zA2,zA3,Act.put,zA4,zA5,zA6])
        refine zTk 4 (.bool true) rfl hHeld ?_
        (try simp only[zA1,zA2,zA3,Act.put,zA4,zA5,zA6])
        refine zTu 5 rfl hHeld ?_
        (try simp only[zA1,zA2,zA3,Act.put,zA4,zA5,zA6])
        refine zTu 6 rfl hHeld ?_
        (try simp only[zA1,zA2,zA3,Act.put,zA4,zA5,zA6])
        refine zTu 7 rfl hHeld ?_
        (try simp only[zA1,zA2,zA3,Act.put,zA4,zA5,zA6])
        refine zTu 8 rfl hHeld ?_
        (try simp only[zA1,zA2,zA3,Act.put,zA4,zA5,zA6])
        refine zTu 9 rfl hHeld ?_
        (try simp only[zA1,zA2,zA3,Act.put,zA4,zA5,zA6])
        refine zTu 10 rfl hHeld ?_
        (try simp only[zA1,zA2,zA3,Act.put,zA4,zA5,zA6])
        refine zTu 11 rfl hHeld ?_
        (try simp only[zA1,zA2,zA3,Act.put,zA4,zA5,zA6])
        refine zTu 12 rfl hHeld ?_
        (try simp only[zA1,zA2,zA3,Act.put,zA4,zA5,zA6])
        refine zTu 13 rfl hHeld ?_
        (try simp only[zA1,zA2,zA3,Act.put,zA4,zA5,zA6])
        refine zTu 14 rfl hHeld ?_
        (try simp only[zA1,zA2,zA3,Act.put,zA4,zA5,zA6])
        refine zTu 15 rfl hHeld ?_
        (try simp only[zA1,zA2,zA3,Act.put,zA4,zA5,zA6])
        refine zTu 16 rfl hHeld ?_
        (try simp only[zA1,zA2,zA3,Act.put,zA4,zA5,zA6])
        refine zTu 17 rfl hHeld ?_
        (try simp only[zA1,zA2,zA3,Act.put,zA4,zA5,zA6])
        refine zTu 18 rfl hHeld ?_
        (try simp only[zA1,zA2,zA3,Act.put,zA4,zA5,zA6])
        refine zTu 19 rfl hHeld ?_
        (try simp only[zA1,zA2,zA3,Act.put,zA4,zA5,zA6])
        refine zTu 20 rfl hHeld ?_
        (try simp only[zA1,zA2,zA3,Act.put,zA4,zA5,zA6])
        refine zTu 21 rfl hHeld ?_
        (try simp only[zA1,zA2,zA3,Act.put,zA4,zA5,zA6])
        refine zTu 22 rfl hHeld ?_
        (try simp only[zA1,zA2,zA3,Act.put,zA4,zA5,zA6])
        refine zTk 23 (.bool true) rfl hHeld ?_
        (try simp only[zA1,zA2,zA3,Act.put,zA4,zA5,zA6])
        refine zTk 24 (.bool true) rfl hHeld ?_
        (try simp only[zA1,zA2,zA3,Act.put,zA4,zA5,zA6])
        refine wpAnyH_ready (rs:=[25]) (by kernel_rfl) (by simp) ?_;refine AllReadyH.cons rfl (fun K hK => ?_) AllReadyH.nil
        go_simp
        refine(zav _).mono ?_;rintro e w7 ⟨rfl,hg7⟩;have S7:(fun W':World=>W'.cell? ⟨sb,1,none⟩=some (.bool true)) w7:=hg7.cell e1 (by simp);have H7:=zHd (zaa HG2W.out hg7);clear hg7;refine hK.out _ _ (S7) (fun hHeld => ?_);clear hK K
        (try simp only[zA1,zA2,zA3,Act.put,zA4,zA5,zA6])
        refine zTk 26 (.bool true) rfl hHeld ?_
        (try simp only[zA1,zA2,zA3,Act.put,zA4,zA5,zA6])
        refine zTk 27 (.bool true) rfl hHeld ?_
        (try simp only[zA1,zA2,zA3,Act.put,zA4,zA5,zA6])
        refine wpAnyH_done (by kernel_rfl) ?_ _;go_wp2;go_ret;exact⟨rfl,H7.out⟩
end Go.Proofs.YtaogepcaoogpgaaGreatDoor
