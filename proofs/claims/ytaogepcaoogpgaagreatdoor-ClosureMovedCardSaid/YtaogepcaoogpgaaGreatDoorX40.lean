/- WD7 -/
import Derived.Test.YtaogepcaoogpgaaGreatDoorX38
import Derived.Test.YtaogepcaoogpgaaGreatDoorX39
set_option linter.unusedVariables false
set_option linter.unusedSimpArgs false
set_option maxRecDepth 100000
set_option maxHeartbeats 16000000
namespace Go.Proofs.YtaogepcaoogpgaaGreatDoor
open Go.RowKit
theorem zvw (k:Int)(n:Nat)(ln:Nat→Nat)(G:Nat→Nat→ByteArray)(av:Value)(p q:Int)(w:World)(ha:MatA w av n ln G)(hs:∀ i j,(G i j).size≤maxLen) :
  Calls Tryz.prog 6 #[.int .i64 k,av,.int .i64 p,.int .i64 q] w (zab (.bool true) w):=by
 have hrd:=zrg k n ln G av w ha hs;have hsh1:∃ A c,av = .slice A n c:=by obtain⟨rs,⟨A,c,e,_⟩,_⟩:=ha;exact⟨A,c,e⟩
 obtain⟨Aa,ca,rfl⟩:=hsh1;have HRD:=zHd hrd;have HA:=zHd ha;have HS:=zHd hs;clear hrd ha hs;go_enter Tryz.func6,Tryz.ntmps6;go_wp2_with fail;refine HRD.out.mono ?_;rintro e w1 ⟨b,rfl,hb,hg1⟩;have HG1:=zHd hg1;cases b
 ·clear hb hg1
  go_wp2_with fail;refine(zav _).mono ?_;rintro e w99 ⟨rfl,hg99⟩;have HG99:=zHd (zaa HG1.out hg99);clear hg99;go_wp2;go_ret;exact⟨rfl,HG99.out⟩
 have hrdy:=hb.1 (by simp);have HM:=zHd hrdy;clear hb hg1 hrdy
 by_cases c1:0≤p
 rotate_left 1
 ·have y1:decide (p<0)=true:=by simp;omega
  have y1':p<0:=by omega
  go_wp2_with fail;refine(zav _).mono ?_;rintro e w99 ⟨rfl,hg99⟩;have HG99:=zHd (zaa HG1.out hg99);clear hg99;go_wp2;go_ret;exact⟨rfl,HG99.out⟩
 have y1:decide (p<0)=false:=by simp;omega
 have y1':¬ p<0:=by omega
 by_cases c2:0≤q
 rotate_left 1
 ·have y2:decide (q<0)=true:=by simp;omega
  have y2':q<0:=by omega
  go_wp2_with fail;refine(zav _).mono ?_;rintro e w99 ⟨rfl,hg99⟩;have HG99:=zHd (zaa HG1.out hg99);clear hg99;go_wp2;go_ret;exact⟨rfl,HG99.out⟩
 have y2:decide (q<0)=false:=by simp;omega
 have y2':¬ q<0:=by omega
 by_cases c3:p<(n:Int)
 rotate_left 1
 ·have y3:decide ((n:Int)≤p)=true:=by simp;omega
  have y3':(n:Int)≤p:=by omega
  go_wp2_with fail;refine(zav _).mono ?_;rintro e w99 ⟨rfl,hg99⟩;have HG99:=zHd (zaa HG1.out hg99);clear hg99;go_wp2;go_ret;exact⟨rfl,HG99.out⟩
 have y3:decide ((n:Int)≤p)=false:=by simp;omega
 have y3':¬ (n:Int)≤p:=by omega
 by_cases c4:q<(n:Int)
 rotate_left 1
 ·have y4:decide ((n:Int)≤q)=true:=by simp;omega
  have y4':(n:Int)≤q:=by omega
  go_wp2_with fail;refine(zav _).mono ?_;rintro e w99 ⟨rfl,hg99⟩;have HG99:=zHd (zaa HG1.out hg99);clear hg99;go_wp2;go_ret;exact⟨rfl,HG99.out⟩
 have y4:decide ((n:Int)≤q)=false:=by simp;omega
 have y4':¬ (n:Int)≤q:=by omega
 obtain⟨pn,hpn⟩:∃ x:Nat,p=(x:Int):=⟨p.toNat,by omega⟩;obtain⟨qn,hqn⟩:∃ x:Nat,q=(x:Int):=⟨q.toNat,by omega⟩;subst hpn hqn;have HPQ:=zHd (show pn<n∧qn<n by omega);clear c1 c2 c3 c4;go_wp2_with fail;refine(zfN k n ln G _ w1 (by have:=HM.out.1;omega) (HA.out.grown HG1.out) HS.out).mono ?_;intro e w2 hq;obtain⟨hg2,hk,A,hA,v,c,rfl,hv⟩:=zmU HM.out.2 HM.out.1 hq;have HG2:=zHd (zaa HG1.out hg2);have HV:=zHd hv;have HAE:=zHd hA;clear hq hg2 hv hA;go_wp2_with fail;refine(zrh n pn qn G _ w2 HM.out.1 HPQ.out.1 HPQ.out.2 ((HA.out.grown HG2.out).square HM.out.2.2.1)).mono ?_;rintro e w3 ⟨g3,vs3,rfl,hf3⟩;have HF3:=zHd (hf3.matA (by have:=HM.out.1;omega));have HG3:=zHd hf3.gr;clear hf3;have hm3:zfr k n (fun _=>n) (fun i j=>G (sw pn qn i) (sw pn qn j)):=⟨HM.out.2.1,fun _ _=>rfl,fun i j hi hj=>HM.out.2.2.2 _ _ (zgy HPQ.out.1 HPQ.out.2 hi) (zgy HPQ.out.1 HPQ.out.2 hj)⟩;have HM3:=zHd hm3;clear hm3;go_wp2_with fail;refine(zfN k n (fun _=>n) (fun i j=>G (sw pn qn i) (sw pn qn j)) _ w3 (by have:=HM.out.1;omega) HF3.out (fun i j=>HS.out _ _)).mono ?_;intro e w4 hq;obtain⟨hg4,hk4,B,hB,v4,c4,rfl,hv4⟩:=zmU HM3.out HM.out.1 hq;have HG34:=zHd (zaa HG3.out hg4);have HG4:=zHd (zaa HG2.out HG34.out);have HV4:=zHd hv4;have HBE:=zHd hB;clear hq hg4 hv4 hB
 by_cases hc:c=0
 rotate_left 1
 ·have z1:(c != 0)=true:=by simpa using hc
  go_wp2_with fail;refine(zav _).mono ?_;rintro e w99 ⟨rfl,hg99⟩;have HG99:=zHd (zaa HG4.out hg99);clear hg99;go_wp2;go_ret;exact⟨rfl,HG99.out⟩
 subst hc
 by_cases hc4:c4=0
 rotate_left 1
 ·have z1:(c4 != 0)=true:=by simpa using hc4
  go_wp2_with fail;refine(zav _).mono ?_;rintro e w99 ⟨rfl,hg99⟩;have HG99:=zHd (zaa HG4.out hg99);clear hg99;go_wp2;go_ret;exact⟨rfl,HG99.out⟩
 subst hc4;obtain⟨hmv,hmf⟩:=HV.out rfl;obtain⟨hmv4,hmf4⟩:=HV4.out rfl;obtain⟨Ab,cb,rfl⟩:=hmv.shape;obtain⟨Ac,cc,rfl⟩:=hmv4.shape;have HMF:=zHd hmf;have HMI:=zHd (hmv.inM.grown HG34.out);have HMT:=zHd (hmv.texts.grown HG34.out);have HM4:=zHd hmv4.texts;have n1:((n:Int) == (n:Int))=true:=by simp
 have heq:∀ i j,i<n→j<n→stM (srE k hk4) B n i j=stM (srE k hk) A n (sw pn qn i) (sw pn qn j):=fun i j hi hj=>by
  rw[← zwR (srE k hk) A HPQ.out.1 HPQ.out.2 hi hj];refine zjW (srE k hk) (fun x y hx hy => ?_) hi hj;obtain⟨e1,f1⟩:=HBE.out x hx y hy;obtain⟨e2,f2⟩:=HAE.out _ (zgy HPQ.out.1 HPQ.out.2 hx) _ (zgy HPQ.out.1 HPQ.out.2 hy);exact zdl f1 f2 (e1.symm.trans e2)
 have HEQ:=zHd heq;clear hmv hmv4 hmf hmf4 HV HV4 heq;go_wp2_with fail;refine(zir k n (fun _=>n) (inM n (fun i j=>tx (stM (srE k hk) A n i j))) _ _ (by have:=HM.out.1;omega) HMI.out (zup HMF.out)).mono ?_;rintro e w5 ⟨b,rfl,hb,hg5⟩;obtain rfl:=hb.2 (zwM hk HMF.out);have HG5:=zHd hg5;clear hb hg5;go_wp2_with fail;refine(zrh n pn qn _ _ w5 HM.out.1 HPQ.out.1 HPQ.out.2 (HMT.out.grown HG5.out)).mono ?_;rintro e w6 ⟨g6,vs6,rfl,hf6⟩;have HF6:=zHd (hf6.matA (by have:=HM.out.1;omega));have HG6:=zHd (zaa HG5.out hf6.gr);clear hf6;go_wp2_with fail;refine(zeu n n (fun _=>n) (fun _=>n) _ (fun i j=>tx (stM (srE k hk4) B n i j)) _ _ w6 (by have:=HM.out.1;omega) (by have:=HM.out.1;omega) (fun _ _=>by have:=HM.out.1;omega) (fun _ _=>by have:=HM.out.1;omega) HF6.out (HM4.out.grown HG6.out)).mono ?_;rintro e w7 ⟨b,rfl,hb,hg7⟩;obtain rfl:=hb.2 ⟨rfl,fun i hi=>⟨rfl,fun j hj=>by have hj:j<n:=hj;show tx (stM (srE k hk) A n (sw pn qn i) (sw pn qn j))=tx (stM (srE k hk4) B n i j);rw[HEQ.out i j hi hj]⟩⟩;have HG7:=zHd (zaa HG4.out (zaa HG6.out hg7));clear hb hg7;go_wp2_with fail;refine(zav _).mono ?_;rintro e w99 ⟨rfl,hg99⟩;have HG99:=zHd (zaa HG7.out hg99);clear hg99;go_wp2;go_ret;exact⟨rfl,HG99.out⟩
end Go.Proofs.YtaogepcaoogpgaaGreatDoor
