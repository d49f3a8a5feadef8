/- Part. -/
import Derived.Test.YtadgpgofcjpnjaaGreatDoorZK36
set_option linter.unusedVariables false
set_option linter.defProp false
set_option linter.unusedSimpArgs false
set_option maxRecDepth 100000
set_option maxHeartbeats 16000000
namespace Go.Proofs.YtadgpgofcjpnjaaGreatDoor
open Go.Proofs.Tryz
open Go.RowKit
def zGH {k:Int}(hk:zam k)(m:zah)(x y:List Nat)(most n:Nat){i j p q:Nat}(hp:i<=p)(hq:j<=q) :
  powG hk m x y most n i j (p-i) (q-j)=(srE k hk).mul (VL hk m (zcc x i p) (zcc y j q)) (powV hk m most (n-1) (x.drop p) (y.drop q)):=by
 unfold powG;rw[show i+(p-i)=p by omega,show j+(q-j)=q by omega]
set_option maxHeartbeats 64000000 in
def zuP {k:Int}(hk:zam k)(w0:World)(m:zah)(u xv yv:Value)(x y:List Nat)(b:Nat)(hm:zan w0 (.agg #[.int .i64 m.kind,.int .i64 m.start,.string m.lead,u]) m)(zV:validB m=true)(hkd:m.kind=k)(hx:WIn w0 xv x)(hy:WIn w0 yv y) :
  ∀ (most:Nat) (zn:Int) (i j:Nat),most<=100 -> -1000+(most:Int)<=zn->zn<=1000->i<=x.length->j<=y.length->∀ (ok:Bool) (w:World),zbV w0 k m u xv yv b ok w ->
  Calls prog 37 #[.pointer (some ⟨b,0,none⟩),.int .i64 zn,.int .i64 (most:Int),.int .i64 (i:Int),.int .i64 (j:Int)] w (zni w0 m u xv yv b ok (powV hk m most zn.toNat (x.drop i) (y.drop j)) w)
 | 0,zn,i,j,hm100,hz1,hz2,hi,hj=>by
  intro ok w hb;have HSC:=zHd (zEJ hk m zn.toNat x y hi hj);have HOF:=zHd (fun i p j q hip hpx hjq hqy ok w hb=>zho hk w0 m u xv yv x y b ok i p j q hip hpx hjq hqy w hb hm zV hkd hx hy);have HE0:Hid (pow0 hk zn.toNat x y i j=if zn.toNat=0 then (if i=x.length/\j=y.length then (srE k hk).one else (srE k hk).zero) else (srE k hk).zero):=zHd rfl;have HN0:=zHd (zAI hx.len hy.len);obtain⟨Ax,cx,rfl⟩:=hx.form;obtain⟨Ay,cy,rfl⟩:=hy.form;generalize pow0 hk zn.toNat x y i j=E0 at *;generalize x.length=nx at *;generalize y.length=ny at *;have HN:=zHd (zAI (zAI hi hj) (zAI trivial HN0.out));have HK:=zHd hk;have HB:=zHd hb;have d0:w.cell? ⟨b,0,none⟩=some (.int .i64 k):=zqbw w b 0 _ _ (0,0) hb.at';have d1:w.cell? ⟨b,1,none⟩=some (.slice Ax nx cx):=zqbw w b 1 _ _ (0,0) hb.at';have d2:w.cell? ⟨b,2,none⟩=some (.slice Ay ny cy):=zqbw w b 2 _ _ (0,0) hb.at';clear hi hj hx hy hm zV hkd hb HN0;go_enter func37,ntmps37;go_wp2_with fail;refine(zbj _ _).mono ?_;rintro e w1 ⟨rfl,hg1⟩;have HT1:=zHd (HB.out.grown hg1);have HG1:=zHd hg1;clear hg1 d0 d1 d2 HB;have d0:w1.cell? ⟨b,0,none⟩=some (.int .i64 k):=zqbw w1 b 0 _ _ (0,0) HT1.out.at';have d1:w1.cell? ⟨b,1,none⟩=some (.slice Ax nx cx):=zqbw w1 b 1 _ _ (0,0) HT1.out.at';have d2:w1.cell? ⟨b,2,none⟩=some (.slice Ay ny cy):=zqbw w1 b 2 _ _ (0,0) HT1.out.at';go_upto_region 2 with(fail)
  go_cut [38] from 19 to 38 (fun bv wx=>bv=.bool (decide (zn<=0/\i=nx/\j=ny))/\w1.grownBy wx none)
  case first =>
   by_cases h0:zn<=0
   ·have t0:decide (zn<=0)=true:=by simpa using h0
    by_cases h1:i=nx
    ·have t1:((i:Int)==(nx:Int))=true:=by rw[beq_iff_eq];omega
     have t1':decide (i=nx)=true:=by simpa using h1
     by_cases h2:j=ny
     ·have t2:((j:Int)==(ny:Int))=true:=by rw[beq_iff_eq];omega
      exact zQaX
     exact zQaP
    exact zQaV
   have t0:decide (zn<=0)=false:=by simpa using h0
   exact zQbA
  case rest =>
   obtain⟨rfl,hgc⟩:=hcut;have HT1:=zHd (HT1.out.grown hgc);have HG1:=zHd (zaa HG1.out hgc);clear hgc d0 d1 d2;generalize wc=w2 at *;have d0:w2.cell? ⟨b,0,none⟩=some (.int .i64 k):=zqbw w2 b 0 _ _ (0,0) HT1.out.at';have d1:w2.cell? ⟨b,1,none⟩=some (.slice Ax nx cx):=zqbw w2 b 1 _ _ (0,0) HT1.out.at';have d2:w2.cell? ⟨b,2,none⟩=some (.slice Ay ny cy):=zqbw w2 b 2 _ _ (0,0) HT1.out.at';generalize hB:decide (zn<=0/\i=nx/\j=ny)=B at *;have HB:=zHd hB;clear hB
   go_upto_if 38 with(fail)
   go_cut [11] from 39 to 43 (fun sv wx=>sv=.string (tx E0)/\w2.grownBy wx none)
   case first =>
    cases B
    ·have HE1:Hid (tx E0=zaV k):=zHd (by have hn:=of_decide_eq_false HB.out;rw[HE0.out];by_cases hz:zn.toNat=0;(rw[if_pos hz,if_neg (fun h2=>hn ⟨by omega,h2⟩),zbJ]);(rw[if_neg hz,zbJ]))
     exact zQbF
    have HE1:Hid (tx E0=zak k):=zHd (by have hn:=of_decide_eq_true HB.out;rw[HE0.out,if_pos (by omega),if_pos hn.2];rw[zmF]);exact zQaU
   case rest =>
    obtain⟨rfl,hgc⟩:=hcut;clear HB;have HE2:Hid (zav E0):=zHd (by rw[HE0.out];split;split;exact zkL HK.out;exact zbp HK.out;exact zbp HK.out);have HT2:=zHd (HT1.out.grown hgc);have HGA:=zHd (zaw (some b) (zaa HG1.out hgc));clear hgc d0 d1 d2 HG1 HT1;generalize wc=w2 at *;go_wp2;go_ret;exact⟨E0,ok,rfl,HGA.out,HT2.out,HE2.out,fun h=>⟨h,HSC.out.symm⟩⟩
 | most+1,zn,i,j,hm100,hz1,hz2,hi,hj=>by
  intro ok w hb;have HIH:=zHd (zuP hk w0 m u xv yv x y b hm zV hkd hx hy most);have HSC:=zHd (zGG hk m most zn.toNat x y hi hj);have HGV:=zHd (fun p q hp hq=>zGH hk m x y most zn.toNat (i:=i) (j:=j) (p:=p) (q:=q) hp hq);obtain⟨M,hM⟩:∃ M:Int,((most+1:Nat):Int)=M:=⟨_,rfl⟩;have m0:(M==0)=false:=by rw[beq_eq_false_iff_ne];omega
  have m1:IntKind.i64.wrap (M-1)=(most:Int):=by rw[zqah];omega
  have m2:IntKind.i64.wrap (zn-1)=zn-1:=by rw[zqah];omega
  have HM:Hid (most<=100 /\ -1000+(most:Int)<=zn-1/\zn-1<=1000/\(zn-1).toNat=zn.toNat-1):=zHd ⟨by omega,by omega,by omega,by omega⟩;have HW:=zHd (zAI m1 m2);rw[hM];generalize powG hk m x y most zn.toNat i j=G at *;clear hm100 hz1 hz2 hM m1 m2;have HOF:=zHd (fun i p j q hip hpx hjq hqy ok w hb=>zho hk w0 m u xv yv x y b ok i p j q hip hpx hjq hqy w hb hm zV hkd hx hy);have HE0:Hid (pow0 hk zn.toNat x y i j=if zn.toNat=0 then (if i=x.length/\j=y.length then (srE k hk).one else (srE k hk).zero) else (srE k hk).zero):=zHd rfl;have HN0:=zHd (zAI hx.len hy.len);obtain⟨Ax,cx,rfl⟩:=hx.form;obtain⟨Ay,cy,rfl⟩:=hy.form;generalize pow0 hk zn.toNat x y i j=E0 at *;generalize x.length=nx at *;generalize y.length=ny at *;have HN:=zHd (zAI (zAI hi hj) (zAI trivial HN0.out));have HK:=zHd hk;have HB:=zHd hb;have d0:w.cell? ⟨b,0,none⟩=some (.int .i64 k):=zqbw w b 0 _ _ (0,0) hb.at';have d1:w.cell? ⟨b,1,none⟩=some (.slice Ax nx cx):=zqbw w b 1 _ _ (0,0) hb.at';have d2:w.cell? ⟨b,2,none⟩=some (.slice Ay ny cy):=zqbw w b 2 _ _ (0,0) hb.at';clear hi hj hx hy hm zV hkd hb HN0;go_enter func37,ntmps37;go_wp2_with fail;refine(zbj _ _).mono ?_;rintro e w1 ⟨rfl,hg1⟩;have HT1:=zHd (HB.out.grown hg1);have HG1:=zHd hg1;clear hg1 d0 d1 d2 HB;have d0:w1.cell? ⟨b,0,none⟩=some (.int .i64 k):=zqbw w1 b 0 _ _ (0,0) HT1.out.at';have d1:w1.cell? ⟨b,1,none⟩=some (.slice Ax nx cx):=zqbw w1 b 1 _ _ (0,0) HT1.out.at';have d2:w1.cell? ⟨b,2,none⟩=some (.slice Ay ny cy):=zqbw w1 b 2 _ _ (0,0) HT1.out.at';go_upto_region 2 with(fail)
  go_cut [38] from 19 to 38 (fun bv wx=>bv=.bool (decide (zn<=0/\i=nx/\j=ny))/\w1.grownBy wx none)
  case first =>
   by_cases h0:zn<=0
   ·have t0:decide (zn<=0)=true:=by simpa using h0
    by_cases h1:i=nx
    ·have t1:((i:Int)==(nx:Int))=true:=by rw[beq_iff_eq];omega
     have t1':decide (i=nx)=true:=by simpa using h1
     by_cases h2:j=ny
     ·have t2:((j:Int)==(ny:Int))=true:=by rw[beq_iff_eq];omega
      exact zQaX
     exact zQaP
    exact zQaV
   have t0:decide (zn<=0)=false:=by simpa using h0
   exact zQbA
  case rest =>
   obtain⟨rfl,hgc⟩:=hcut;have HT1:=zHd (HT1.out.grown hgc);have HG1:=zHd (zaa HG1.out hgc);clear hgc d0 d1 d2;generalize wc=w2 at *;have d0:w2.cell? ⟨b,0,none⟩=some (.int .i64 k):=zqbw w2 b 0 _ _ (0,0) HT1.out.at';have d1:w2.cell? ⟨b,1,none⟩=some (.slice Ax nx cx):=zqbw w2 b 1 _ _ (0,0) HT1.out.at';have d2:w2.cell? ⟨b,2,none⟩=some (.slice Ay ny cy):=zqbw w2 b 2 _ _ (0,0) HT1.out.at';generalize hB:decide (zn<=0/\i=nx/\j=ny)=B at *;have HB:=zHd hB;clear hB
   go_upto_if 38 with(fail)
   go_cut [11] from 39 to 43 (fun sv wx=>sv=.string (tx E0)/\w2.grownBy wx none)
   case first =>
    cases B
    ·have HE1:Hid (tx E0=zaV k):=zHd (by have hn:=of_decide_eq_false HB.out;rw[HE0.out];by_cases hz:zn.toNat=0;(rw[if_pos hz,if_neg (fun h2=>hn ⟨by omega,h2⟩),zbJ]);(rw[if_neg hz,zbJ]))
     exact zQbF
    have HE1:Hid (tx E0=zak k):=zHd (by have hn:=of_decide_eq_true HB.out;rw[HE0.out,if_pos (by omega),if_pos hn.2];rw[zmF]);exact zQaU
   case rest =>
    obtain⟨rfl,hgc⟩:=hcut;clear HB;have HE2:Hid (zav E0):=zHd (by rw[HE0.out];split;split;exact zkL HK.out;exact zbp HK.out;exact zbp HK.out);have HT2:=zHd (HT1.out.grown hgc);have HGA:=zHd (zaw (some b) (zaa HG1.out hgc));clear hgc d0 d1 d2 HG1 HT1;generalize wc=w2 at *;go_wp2;clear m0
    go_loopw [11,12] (fun sv pv wr=>∃ (p:Nat) (t:El k) (ok1:Bool),i<=p/\p<=nx+1/\sv=.string (tx t)/\pv=.int .i64 (p:Int)/\zav t/\zbV w0 k m u (.slice Ax nx cx) (.slice Ay ny cy) b ok1 wr/\w.grownBy wr (some b)/\(ok1=true->ok=true/\t=(srE k HK.out).add E0 (zfo (srE k HK.out) (ny-j) G (p-i) 0))) (fun _ pv _=>nx+1-(intOf pv).toNat)
    case atStart=>exact⟨i,E0,ok,zqab _,by have:=HN.out.1.1;omega,rfl,rfl,HE2.out,HT2.out,HGA.out,fun h=>⟨h,by rw[zqbr,zlI,(srE k HK.out).add_zero]⟩⟩
    case round =>
     obtain⟨p,t,ok1,hip,hpn,rfl,rfl,hft,htb,hgr,hok⟩:=hrel;have d0:wr.cell? ⟨b,0,none⟩=some (.int .i64 k):=zqbw wr b 0 _ _ (0,0) htb.at';have d1:wr.cell? ⟨b,1,none⟩=some (.slice Ax nx cx):=zqbw wr b 1 _ _ (0,0) htb.at';have d2:wr.cell? ⟨b,2,none⟩=some (.slice Ay ny cy):=zqbw wr b 2 _ _ (0,0) htb.at'
     by_cases hp:p<=nx
     ·have x1:decide (p<=nx)=true:=by simpa using hp
      have x1':decide ((p:Int)<=(nx:Int))=true:=(by simpa using hp);have x2:(p:Int)<=(nx:Int):=(by omega);have HP:=zHd (zAI hip (zAI hp hpn));have HR:=zHd (zAI hft (zAI htb (zAI hgr hok)));clear hip hpn hft htb hgr hok hp;go_wp2;generalize wr=wq at *;clear d0 d1 d2
      go_loopw [11,13] (fun sv qv wr=>∃ (q:Nat) (t:El k) (ok2:Bool),j<=q/\q<=ny+1/\sv=.string (tx t)/\qv=.int .i64 (q:Int)/\zav t/\zbV w0 k m u (.slice Ax nx cx) (.slice Ay ny cy) b ok2 wr/\w.grownBy wr (some b)/\(ok2=true->ok=true/\t=(srE k HK.out).add E0 (zfo (srE k HK.out) (ny-j) G (p-i) (q-j)))) (fun _ qv _=>ny+1-(intOf qv).toNat)
      case atStart=>exact⟨j,t,ok1,zqab _,by have:=HN.out.1.2;omega,rfl,rfl,HR.out.1,HR.out.2.1,HR.out.2.2.1,fun h=>by rw[zqbr];exact HR.out.2.2.2 h⟩
      case round =>
       clear HR;obtain⟨q,t,ok2,hjq,hqn,rfl,rfl,hft,htb,hgr,hok⟩:=hrel;have d0:wr.cell? ⟨b,0,none⟩=some (.int .i64 k):=zqbw wr b 0 _ _ (0,0) htb.at';have d1:wr.cell? ⟨b,1,none⟩=some (.slice Ax nx cx):=zqbw wr b 1 _ _ (0,0) htb.at';have d2:wr.cell? ⟨b,2,none⟩=some (.slice Ay ny cy):=zqbw wr b 2 _ _ (0,0) htb.at'
       by_cases hq:q<=ny
       ·have y1:decide (q<=ny)=true:=by simpa using hq
        have y1':decide ((q:Int)<=(ny:Int))=true:=(by simpa using hq);have y2:(q:Int)<=(ny:Int):=(by omega);have HQ:=zHd (zAI hjq (zAI hq hqn));have HT:=zHd htb;have HF:=zHd hft;have HGR:=zHd hgr;have HI:=zHd hok;have m1:=HW.out.1;have m2:=HW.out.2;clear hjq hqn hft htb hgr hok hq;go_wp2_with fail;refine(HOF.out i p j q HP.out.1 HP.out.2.1 HQ.out.1 HQ.out.2.1 ok2 _ HT.out).mono ?_;rintro e w3 ⟨t1,ok3,rfl,hg3,ht3,ft1,hi3⟩;have HC:=zHd (by have:=HIH.out (zn-1) p q HM.out.1 HM.out.2.1 HM.out.2.2.1 HP.out.2.1 HQ.out.2.1 ok3 w3 ht3;rw[HM.out.2.2.2] at this;exact this);have HT3:=zHd (zAI hg3 (zAI ht3 (zAI ft1 hi3)));clear hg3 ht3 ft1 hi3 HT;go_wp2_with fail;refine HC.out.mono ?_;rintro e w4 ⟨t2,ok4,rfl,hg4,ht4,ft2,hi4⟩;clear HC;have HC:=zHd (zfD HK.out w0 m u _ _ b ok4 t1 t2 HT3.out.2.2.1 ft2 w4 ht4);have HT4:=zHd (zAI hg4 hi4);clear hg4 ht4 ft2 hi4;go_wp2_with fail;refine HC.out.mono ?_;rintro e w5 ⟨t3,ok5,rfl,hg5,ht5,ft3,hi5⟩;clear HC;have HC:=zHd (ziE HK.out w0 m u _ _ b ok5 t t3 HF.out ft3 w5 ht5);have HT5:=zHd (zAI hg5 hi5);clear hg5 ht5 ft3 hi5;go_wp2_with fail;refine HC.out.mono ?_;rintro e w6 ⟨t4,ok6,rfl,hg6,ht6,ft4,hi6⟩;clear HC;have HT6:=zHd (zAI hg6 (zAI ht6 (zAI ft4 hi6)));clear hg6 ht6 ft4 hi6;have x9:IntKind.i64.wrap ((q:Int)+1)=(q:Int)+1:=(by have:=HQ.out.2.1;have:=HN.out.2.2.2;rw[zqah];omega);go_wp2;refine⟨⟨q+1,t4,ok6,by have:=HQ.out.1;omega,by have:=HQ.out.2.1;omega,rfl,by simp,HT6.out.2.2.1,HT6.out.2.1,((HGR.out.trans HT3.out.1).trans HT4.out.1).trans (HT5.out.1.trans HT6.out.1),fun h=>?_⟩,by have:=HQ.out.2.1;simp[intOf];omega⟩;obtain⟨h5,e4⟩:=HT6.out.2.2.2 h;obtain⟨h4,e3⟩:=HT5.out.2 h5;obtain⟨h3,e2⟩:=HT4.out.2 h4;obtain⟨h2,e1⟩:=HT3.out.2.2.2 h3;obtain⟨h1,e0⟩:=HI.out h2;refine⟨h1,?_⟩;rw[e4,e3,e2,e1,e0,show q+1-j=(q-j)+1 by have:=HQ.out.1;omega,ziG,<- (srE k HK.out).add_assoc];rw[HGV.out p q HP.out.1 HQ.out.1]
       exact zQau
     have x1:decide (p<=nx)=false:=(by simpa using hp);have x1':decide ((p:Int)<=(nx:Int))=false:=(by simpa using hp);have x2:¬ (p:Int)<=(nx:Int):=(by omega);have HP:Hid (p=nx+1):=zHd (by omega);have HT:=zHd htb;have HF:=zHd hft;have HGR:=zHd hgr;have HI:=zHd hok;clear hip hpn hft htb hgr hok hp;go_wp2;go_ret;refine⟨t,ok1,rfl,HGR.out,HT.out,HF.out,fun h=>?_⟩;obtain⟨h1,e0⟩:=HI.out h;refine⟨h1,?_⟩;rw[HSC.out,e0,HP.out,show nx+1-i=(nx-i)+1 by have:=HN.out.1.1;omega]
end Go.Proofs.YtadgpgofcjpnjaaGreatDoor
