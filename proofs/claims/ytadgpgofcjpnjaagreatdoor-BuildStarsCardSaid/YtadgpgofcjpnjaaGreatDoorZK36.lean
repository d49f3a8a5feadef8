/- Part. -/
import Derived.Test.YtadgpgofcjpnjaaGreatDoorZK33
set_option linter.unusedVariables false
set_option linter.defProp false
set_option linter.unusedSimpArgs false
set_option maxRecDepth 100000
set_option maxHeartbeats 16000000
namespace Go.Proofs.YtadgpgofcjpnjaaGreatDoor
open Go.Proofs.Tryz
open Go.RowKit
def zEK {k:Int}(hk:zam k)(m:zah)(x y:List Nat){i j p q:Nat}(hp:i<=p)(hq:j<=q)(hne:¬ (p=i/\q=j)) :
  starG hk m x y i j (p-i) (q-j)=(srE k hk).mul (VL hk m (zcc x i p) (zcc y j q)) (VL hk (zbt (zak k) m) (x.drop p) (y.drop q)):=by
 unfold starG;rw[if_neg (fun h=>hne ⟨by omega,by omega⟩),show i+(p-i)=p by omega,show j+(q-j)=q by omega]
def zBL {k:Int}(r:El k)(w:World)(e:Ending)(w':World):Prop:=∃ (S:ByteArray) (E:Int),e=.returned (.tuple #[.string S,.int .i64 E])/\w.grownBy w' none/\(E=0->zav r/\S=tx r)
def zyG {k:Int}(hk:zam k){t:El k}(ft:zav t)(w:World):Calls prog 64 #[.int .i64 k,.string (tx t)] w (zBL ((srE k hk).star t) w):=by
 have hop:zDs 64 k (tx t) (zdm ((srE k hk).star t).1):=zrU (zcW ft);refine(hop w).mono ?_;rintro e w' ⟨rfl,hg⟩;rcases zgi ((srE k hk).star t) with⟨hf,hE⟩|⟨hf,hE⟩
 exact⟨_,0,by rw[hE],hg,fun _=>⟨hf,rfl⟩⟩;exact⟨_,2,by rw[hE],hg,fun h=>absurd h (by decide)⟩
set_option maxHeartbeats 64000000 in
def zsm {k:Int}(hk:zam k)(w0:World)(m:zah)(u xv yv:Value)(x y:List Nat)(b:Nat)(hm:zan w0 (.agg #[.int .i64 m.kind,.int .i64 m.start,.string m.lead,u]) m)(zV:validB m=true)(hkd:m.kind=k)(hx:WIn w0 xv x)(hy:WIn w0 yv y) :
  ∀ (N i j:Nat),i<=x.length->j<=y.length->(x.length-i)+(y.length-j)<N->∀ (ok:Bool) (w:World),zbV w0 k m u xv yv b ok w ->
  Calls prog 35 #[.pointer (some ⟨b,0,none⟩),.int .i64 (i:Int),.int .i64 (j:Int)] w (zni w0 m u xv yv b ok (VL hk (zbt (zak k) m) (x.drop i) (y.drop j)) w)
 | 0,i,j,hi,hj,hn=>absurd hn (Nat.not_lt_zero _)
 | N+1,i,j,hi,hj,hn=>by
  intro ok w hb;have HIH:=zHd (zsm hk w0 m u xv yv x y b hm zV hkd hx hy N);have HOF:=zHd (fun i p j q hip hpx hjq hqy ok w hb=>zho hk w0 m u xv yv x y b ok i p j q hip hpx hjq hqy w hb hm zV hkd hx hy);have HSC:=zHd (zEI hk zV x y hi hj);have HGV:=zHd (fun p q hp hq hne=>zEK hk m x y (i:=i) (j:=j) (p:=p) (q:=q) hp hq hne);have HG0:Hid (starG hk m x y i j 0 0=(srE k hk).zero):=zHd (if_pos ⟨rfl,rfl⟩);have HE0:Hid (eps0 hk x y i j=if i=x.length/\j=y.length then (srE k hk).one else (srE k hk).zero):=zHd rfl;have HN0:=zHd (zAI hx.len hy.len);obtain⟨Ax,cx,rfl⟩:=hx.form;obtain⟨Ay,cy,rfl⟩:=hy.form;generalize starG hk m x y i j=G at *;generalize eps0 hk x y i j=E0 at *;generalize x.length=nx at *;generalize y.length=ny at *;have HN:=zHd (zAI (zAI hi hj) (zAI hn HN0.out));have HK:=zHd hk;have HB:=zHd hb;have d0:w.cell? ⟨b,0,none⟩=some (.int .i64 k):=zqbw w b 0 _ _ (0,0) hb.at';have d1:w.cell? ⟨b,1,none⟩=some (.slice Ax nx cx):=zqbw w b 1 _ _ (0,0) hb.at';have d2:w.cell? ⟨b,2,none⟩=some (.slice Ay ny cy):=zqbw w b 2 _ _ (0,0) hb.at';clear hi hj hn hx hy hm zV hkd hb HN0;go_enter func35,ntmps35;go_wp2_with fail;refine(zbj _ _).mono ?_;rintro e w1 ⟨rfl,hg1⟩;have HT1:=zHd (HB.out.grown hg1);have HG1:=zHd hg1;clear hg1 d0 d1 d2 HB;have d0:w1.cell? ⟨b,0,none⟩=some (.int .i64 k):=zqbw w1 b 0 _ _ (0,0) HT1.out.at';have d1:w1.cell? ⟨b,1,none⟩=some (.slice Ax nx cx):=zqbw w1 b 1 _ _ (0,0) HT1.out.at';have d2:w1.cell? ⟨b,2,none⟩=some (.slice Ay ny cy):=zqbw w1 b 2 _ _ (0,0) HT1.out.at';go_upto_region 2 with(fail)
  go_cut [32] from 17 to 32 (fun bv wx=>bv=.bool (decide (i=nx/\j=ny))/\w1.grownBy wx none)
  case first =>
   by_cases h1:i=nx
   ·have t1:((i:Int)==(nx:Int))=true:=by rw[beq_iff_eq];omega
    have t1':decide (i=nx)=true:=by simpa using h1
    by_cases h2:j=ny
    ·have t2:((j:Int)==(ny:Int))=true:=by rw[beq_iff_eq];omega
     have t2':decide (j=ny)=true:=(by simpa using h2);have Hh1:=zHd h1;clear h1;have Hh2:=zHd h2;clear h2;go_wp2;go_meet;exact ⟨zqbz Value.bool (decide_eq_true (by have h1:=Hh1.out;have h2:=Hh2.out;omega)).symm,World.grownBy.refl _ _⟩
    have t2:((j:Int)==(ny:Int))=false:=(by rw[beq_eq_false_iff_ne];omega);have t2':decide (j=ny)=false:=(by simpa using h2);have Hh1:=zHd h1;clear h1;have Hh2:=zHd h2;clear h2;go_wp2;go_meet;exact ⟨zqbz Value.bool (zqcb (by have h1:=Hh1.out;have h2:=Hh2.out;omega)).symm,World.grownBy.refl _ _⟩
   have t1:((i:Int)==(nx:Int))=false:=by rw[beq_eq_false_iff_ne];omega
   have t1':decide (i=nx)=false:=(by simpa using h1);have Hh1:=zHd h1;clear h1;go_wp2;go_meet;exact ⟨zqbz Value.bool (zqcb (by have h1:=Hh1.out;omega)).symm,World.grownBy.refl _ _⟩
  case rest =>
   obtain⟨rfl,hgc⟩:=hcut;have HT1:=zHd (HT1.out.grown hgc);have HG1:=zHd (zaa HG1.out hgc);clear hgc d0 d1 d2;generalize wc=w2 at *;have d0:w2.cell? ⟨b,0,none⟩=some (.int .i64 k):=zqbw w2 b 0 _ _ (0,0) HT1.out.at';have d1:w2.cell? ⟨b,1,none⟩=some (.slice Ax nx cx):=zqbw w2 b 1 _ _ (0,0) HT1.out.at';have d2:w2.cell? ⟨b,2,none⟩=some (.slice Ay ny cy):=zqbw w2 b 2 _ _ (0,0) HT1.out.at';generalize hB:decide (i=nx/\j=ny)=B at *;have HB:=zHd hB;clear hB
   go_upto_if 32 with(fail)
   go_cut [7] from 33 to 37 (fun sv wx=>sv=.string (tx E0)/\w2.grownBy wx none)
   case first =>
    cases B
    ·have HE1:Hid (tx E0=zaV k):=zHd (by have hn:=of_decide_eq_false HB.out;rw[HE0.out,if_neg hn,zbJ])
     exact zQbF
    have HE1:Hid (tx E0=zak k):=zHd (by have hn:=of_decide_eq_true HB.out;rw[HE0.out,if_pos hn];rw[zmF]);exact zQaU
   case rest =>
    obtain⟨rfl,hgc⟩:=hcut;clear HB;have HE2:Hid (zav E0):=zHd (by rw[HE0.out];split;exact zkL HK.out;exact zbp HK.out);have HT2:=zHd (HT1.out.grown hgc);have HGA:=zHd (zaw (some b) (zaa HG1.out hgc));clear hgc d0 d1 d2 HG1 HT1;generalize wc=w2 at *;go_wp2
    go_loopw [7,8] (fun sv pv wr=>∃ (p:Nat) (t:El k) (ok1:Bool),i<=p/\p<=nx+1/\sv=.string (tx t)/\pv=.int .i64 (p:Int)/\zav t/\zbV w0 k m u (.slice Ax nx cx) (.slice Ay ny cy) b ok1 wr/\w.grownBy wr (some b)/\(ok1=true->ok=true/\t=(srE k HK.out).add E0 (zfo (srE k HK.out) (ny-j) G (p-i) 0))) (fun _ pv _=>nx+1-(intOf pv).toNat)
    case atStart=>exact⟨i,E0,ok,zqab _,by have:=HN.out.1.1;omega,rfl,rfl,HE2.out,HT2.out,HGA.out,fun h=>⟨h,by rw[zqbr,zlI,(srE k HK.out).add_zero]⟩⟩
    case round =>
     obtain⟨p,t,ok1,hip,hpn,rfl,rfl,hft,htb,hgr,hok⟩:=hrel;have d0:wr.cell? ⟨b,0,none⟩=some (.int .i64 k):=zqbw wr b 0 _ _ (0,0) htb.at';have d1:wr.cell? ⟨b,1,none⟩=some (.slice Ax nx cx):=zqbw wr b 1 _ _ (0,0) htb.at';have d2:wr.cell? ⟨b,2,none⟩=some (.slice Ay ny cy):=zqbw wr b 2 _ _ (0,0) htb.at'
     by_cases hp:p<=nx
     ·have x1:decide (p<=nx)=true:=by simpa using hp
      have x1':decide ((p:Int)<=(nx:Int))=true:=(by simpa using hp);have x2:(p:Int)<=(nx:Int):=(by omega);have HP:=zHd (zAI hip (zAI hp hpn));have HR:=zHd (zAI hft (zAI htb (zAI hgr hok)));clear hip hpn hft htb hgr hok hp;go_wp2;generalize wr=wq at *;clear d0 d1 d2
      go_loopw [7,9] (fun sv qv wr=>∃ (q:Nat) (t:El k) (ok2:Bool),j<=q/\q<=ny+1/\sv=.string (tx t)/\qv=.int .i64 (q:Int)/\zav t/\zbV w0 k m u (.slice Ax nx cx) (.slice Ay ny cy) b ok2 wr/\w.grownBy wr (some b)/\(ok2=true->ok=true/\t=(srE k HK.out).add E0 (zfo (srE k HK.out) (ny-j) G (p-i) (q-j)))) (fun _ qv _=>ny+1-(intOf qv).toNat)
      case atStart=>exact⟨j,t,ok1,zqab _,by have:=HN.out.1.2;omega,rfl,rfl,HR.out.1,HR.out.2.1,HR.out.2.2.1,fun h=>by rw[zqbr];exact HR.out.2.2.2 h⟩
      case round =>
       clear HR;obtain⟨q,t,ok2,hjq,hqn,rfl,rfl,hft,htb,hgr,hok⟩:=hrel;have d0:wr.cell? ⟨b,0,none⟩=some (.int .i64 k):=zqbw wr b 0 _ _ (0,0) htb.at';have d1:wr.cell? ⟨b,1,none⟩=some (.slice Ax nx cx):=zqbw wr b 1 _ _ (0,0) htb.at';have d2:wr.cell? ⟨b,2,none⟩=some (.slice Ay ny cy):=zqbw wr b 2 _ _ (0,0) htb.at'
       by_cases hq:q<=ny
       ·have y1:decide (q<=ny)=true:=by simpa using hq
        have y1':decide ((q:Int)<=(ny:Int))=true:=(by simpa using hq);have y2:(q:Int)<=(ny:Int):=(by omega);have HQ:=zHd (zAI hjq (zAI hq hqn));have HT:=zHd htb;have HF:=zHd hft;have HGR:=zHd hgr;have HI:=zHd hok;clear hjq hqn hft htb hgr hok hq
        by_cases h1:i<p
        ·have HNE:Hid (¬ (p=i/\q=j)):=zHd (by omega)
         have t1:decide (i<p)=true:=(by simpa using h1);have t1':decide ((i:Int)<(p:Int))=true:=(by simpa using h1);have t1'':(i:Int)<(p:Int):=(by omega);clear h1;exact zQag
        have t1:decide (i<p)=false:=(by simpa using h1);have t1':decide ((i:Int)<(p:Int))=false:=(by simpa using h1);have t1'':¬ (i:Int)<(p:Int):=by omega
        by_cases h2:j<q
        ·have HNE:Hid (¬ (p=i/\q=j)):=zHd (by omega)
         have t2:decide (j<q)=true:=(by simpa using h2);have t2':decide ((j:Int)<(q:Int))=true:=(by simpa using h2);have t2'':(j:Int)<(q:Int):=(by omega);clear h1 h2;exact zQag
        have HNE:Hid (p=i/\q=j):=zHd (by have h3:=HP.out.1;have h4:=HQ.out.1;omega);have t2:decide (j<q)=false:=(by simpa using h2);have t2':decide ((j:Int)<(q:Int))=false:=(by simpa using h2);have t2'':¬ (j:Int)<(q:Int):=(by omega);have x9:IntKind.i64.wrap ((q:Int)+1)=(q:Int)+1:=(by have:=HQ.out.2.1;have:=HN.out.2.2.2;rw[zqah];omega);clear h1 h2;go_wp2;refine⟨⟨q+1,t,ok2,by have:=HQ.out.1;omega,by have:=HQ.out.2.1;omega,rfl,by simp,HF.out,HT.out,HGR.out,fun h=>?_⟩,by have:=HQ.out.2.1;simp[intOf];omega⟩;obtain⟨h1,e0⟩:=HI.out h;refine⟨h1,?_⟩;rw[e0,show q+1-j=(q-j)+1 by have:=HQ.out.1;omega,ziG,show q-j=0 by rw[HNE.out.2];omega,show p-i=0 by rw[HNE.out.1];omega,HG0.out,(srE k HK.out).add_zero]
       exact zQau
     have x1:decide (p<=nx)=false:=(by simpa using hp);have x1':decide ((p:Int)<=(nx:Int))=false:=(by simpa using hp);have x2:¬ (p:Int)<=(nx:Int):=(by omega);have HP:Hid (p=nx+1):=zHd (by omega);have HT:=zHd htb;have HF:=zHd hft;have HGR:=zHd hgr;have HI:=zHd hok;clear hip hpn hft htb hgr hok hp d2;have d0':wr.drew.cell? ⟨b,0,none⟩=some (.int .i64 k):=d0;have HC:=zHd (HOF.out i i j j (zqab _) HN.out.1.1 (zqab _) HN.out.1.2 ok1 wr.drew (HT.out.grown (zag wr none)));go_upto_region 12 with(fail);clear d0 d1
     go_region_held2 (fun W'=>W'.cell? ⟨b,0,none⟩=some (.int .i64 k)) (first|exact d0'|exact d0|go_keep)
      (first
      | (go_at_call 31;refine HC.out.mono ?_;rintro e w3 ⟨t1,ok3,rfl,hg3,ht3,ft1,hi3⟩;have d0:w3.cell? ⟨b,0,none⟩=some (.int .i64 k):=zqbw w3 b 0 _ _ (0,0) ht3.at';have HT3:=zHd (zAI hg3 (zAI ht3 (zAI ft1 hi3)));clear hg3 ht3 ft1 hi3 d0')
      | (go_at_call 64;refine(zyG HK.out HT3.out.2.2.1 _).mono ?_;rintro e w4 ⟨S,E,rfl,hg4,hE⟩;have d0:=hg4.cell d0 (by simp);have H4:=zHd (zAI hg4 hE);clear hg4 hE))
     obtain⟨hg4,hE⟩:=H4.out;have hb4:=HT3.out.2.1.grown hg4;have d7:=zqbw w4 b 7 _ _ (0,0) hb4.at';have z7:=zqbx w4 b 7 _ _ hb4.at';have hgr4:=(HGR.out.trans (zaw (some b) (zag wr none))).trans (HT3.out.1.trans (zaw (some b) hg4));have HB4:=zHd hb4;have HE:=zHd hE;have HG4:=zHd hgr4;clear hg4 hE hb4 hgr4 H4 d0
     by_cases h0:E=0
     ·subst h0
      obtain⟨hf,rfl⟩:=HE.out rfl;cases ok3
      ·have HC:=zHd (zfD HK.out w0 m u _ _ b false _ t hf HF.out _ (HB4.out.set false))
       clear hf;go_wp2_with fail;refine HC.out.mono ?_;rintro e w9 ⟨t9,ok9,rfl,hg9,ht9,ft9,hi9⟩;have H9:=zHd (zAI hg9 (zAI ht9 (zAI ft9 hi9)));clear hg9 ht9 ft9 hi9 HC;go_wp2;go_ret;exact⟨t9,ok9,rfl,HG4.out.trans ((zad _ _ _).trans H9.out.1),H9.out.2.1,H9.out.2.2.1,fun h=>by cases (H9.out.2.2.2 h).1⟩
      have HC:=zHd (zfD HK.out w0 m u _ _ b true _ t hf HF.out _ (HB4.out.set true));clear hf;go_wp2_with fail;refine HC.out.mono ?_;rintro e w9 ⟨t9,ok9,rfl,hg9,ht9,ft9,hi9⟩;have H9:=zHd (zAI hg9 (zAI ht9 (zAI ft9 hi9)));clear hg9 ht9 ft9 hi9 HC;go_wp2;go_ret;refine⟨t9,ok9,rfl,HG4.out.trans ((zad _ _ _).trans H9.out.1),H9.out.2.1,H9.out.2.2.1,fun h=>?_⟩;obtain⟨_,e9⟩:=H9.out.2.2.2 h;obtain⟨h2,e1⟩:=HT3.out.2.2.2 (by first|rfl|trivial);obtain⟨h1,e0⟩:=HI.out h2;refine⟨h1,?_⟩;rw[e9,e1,e0,HSC.out,HP.out,show nx+1-i=(nx-i)+1 by have:=HN.out.1.1;omega]
     have t0:(E != 0)=true:=(by simpa using h0);have t1':(E==0)=false:=(by simpa using h0);clear HE h0;cases ok3
     ·go_wp2
      exact zQbP
     go_wp2;exact zQbP
end Go.Proofs.YtadgpgofcjpnjaaGreatDoor
