/- WB2 -/
import Derived.Test.YtaogepcaoogpgaaGreatDoorX28
set_option linter.unusedVariables false
set_option linter.unusedSimpArgs false
set_option maxRecDepth 100000
set_option maxHeartbeats 16000000
namespace Go.Proofs.YtaogepcaoogpgaaGreatDoor
open Go.RowKit
theorem zir (k:Int)(n:Nat)(ln:Nat→Nat)(G:Nat→Nat→ByteArray)(av:Value)(w:World)(hn:n≤10000)(ha:MatA w av n ln G)(hs:∀ i j,(G i j).size≤maxLen) :
  Calls Tryz.prog 13 #[.int .i64 k,av] w (zbb (zfr k n ln G) w):=by
 obtain⟨rs,⟨A,c,rfl,ha1,ha2,ha3⟩,hr⟩:=ha;have HA:=zHd ha3;have HR:=zHd hr;have HN:=zHd hn;have HS:=zHd hs
 by_cases hk:zad k
 rotate_left 1
 ·have HK:=zHd (zwq (k:=k) hk)
  have HKN:=zHd hk;clear ha3 hr hn hs hk;go_enter Tryz.func13,Tryz.ntmps13;go_wp2_with fail;refine(HK.out _).mono ?_;rintro e w' ⟨rfl,rfl⟩;go_wp2;go_ret;exact zbb.no (fun h=>HKN.out h.1) (World.grownBy.refl _ _)
 ·have HK:=zHd (zpD (k:=k) hk)
  have HKY:=zHd hk;clear ha3 hr hn hs hk;go_enter Tryz.func13,Tryz.ntmps13;go_wp2_with fail;refine(HK.out _).mono ?_;rintro e w' ⟨rfl,rfl⟩;go_wp2_with fail
  go_loopw [5] (fun iv wr=>∃ i:Nat,i≤n∧iv = .int .i64 (i:Int)∧w.grownBy wr none∧∀ x,x<i→ln x=n∧∀ y,y<n→∃ v,Val k (G x y) v) (fun iv _=>n - (intOf iv).toNat)
  case atStart=>exact⟨0,Nat.zero_le _,rfl,World.grownBy.refl _ _,fun x hx=>absurd hx (by omega)⟩
  case round =>
   obtain⟨i,hi,rfl,hg,hx⟩:=hrel
   by_cases hin:i<n
   ·obtain⟨ad,rfl,hb,hc⟩:=HA.out i hin
    obtain⟨Ai,ci,hre,hi1,hi2,hi3⟩:=HR.out i hin;rw[hre] at hc;have q1:wr.cell? (ad.add i)=some (.slice Ai (ln i) ci):=(zaq (ad:=ad.add i) (by rw[zaj];exact hg.block ad.block hb (by simp))).trans hc;have u1:decide (i<n)=true:=by simpa using hin
    have u1':decide ((i:Int)<(n:Int))=true:=by simpa using hin
    have hit:(i:Int)<(n:Int):=by omega
    have hi0:(0:Int)≤(i:Int):=by omega
    have n1:IntKind.i64.wrap ((i:Int)+1)=(i:Int)+1:=by have:=HN.out;rw[IntKind.wrap_i64];omega
    by_cases hl:ln i=n
    rotate_left 1
    ·have HI:=zHd (zAI hin (zAI hg hl))
     have u2:((ln i:Int) != (n:Int))=true:=by simp[bne];omega
     clear hi hin hg hx hb hc hre hi1 hi2 hi3 hl;go_wp2;go_ret;exact zbb.no (fun h=>HI.out.2.2 (h.2.1 i HI.out.1)) HI.out.2.1
    ·have u2:((n:Int) != (n:Int))=false:=by simp
     rw[hl] at q1 hi3;have HI:=zHd (zAI hin (zAI hg (zAI hx hl)));have H3:=zHd hi3;have HQ:=zHd q1;clear hi hin hg hx hb hc hre hi1 hi2 hi3 hl;go_wp2;generalize wr=wq at *
     go_loopw [6] (fun jv wr=>∃ y:Nat,y≤n∧jv = .int .i64 (y:Int)∧wq.grownBy wr none∧∀ x,x<y→∃ v,Val k (G i x) v) (fun jv _=>n - (intOf jv).toNat)
     case atStart=>exact⟨0,Nat.zero_le _,rfl,World.grownBy.refl _ _,fun x hx=>absurd hx (by omega)⟩
     case round =>
      obtain⟨y,hy,rfl,hg,hv⟩:=hrel
      by_cases hyn:y<n
      ·obtain⟨rd,rfl,hrb,hrc⟩:=H3.out y hyn
       have hgw:=zaa HI.out.2.1 hg;have d1:wr.cell? (ad.add i)=some (.slice (some rd) n ci):=hg.cell HQ.out (by simp);have d2:wr.cell? (rd.add y)=some (.string (G i y)):=hgw.cell hrc (by simp);have v1:decide (y<n)=true:=by simpa using hyn
       have v1':decide ((y:Int)<(n:Int))=true:=by simpa using hyn
       have hyt:(y:Int)<(n:Int):=by omega
       have hy0:(0:Int)≤(y:Int):=by omega
       have n2:IntKind.i64.wrap ((y:Int)+1)=(y:Int)+1:=by have:=HN.out;rw[IntKind.wrap_i64];omega
       have hvb:∃ b:Bool,(b=true↔∃ v,Val k (G i y) v)∧VB 46 k (G i y) b:=by
        rcases zgi k (G i y) with⟨v,h⟩|h
        ·exact⟨true,⟨fun _=>⟨v,h⟩,fun _=>rfl⟩,zHw h⟩
        ·exact⟨false,⟨fun e=>by simp at e,fun⟨v,e⟩=>absurd e.has (by rw[h v e.e];simp)⟩,zHY h (HS.out i y)⟩
       obtain⟨b,hb1,hb2⟩:=hvb;have HV:=zHd hb1;have HC:=zHd hb2;have HJ:=zHd (zAI hyn (zAI hg (zAI hgw hv)));clear hy hyn hg hv hgw hb1 hb2 hrb hrc q1;go_wp2_with fail;refine(HC.out _).mono ?_;rintro e w5 ⟨rfl,hg5⟩;have H5:=zHd hg5;clear hg5;cases b
       ·go_wp2
        go_ret;refine zbb.no (fun h => ?_) (zaa HJ.out.2.2.1 H5.out);have:=HV.out.2 (h.2.2 i y HI.out.1 HJ.out.1);simp at this
       ·go_wp2
        refine⟨⟨y+1,HJ.out.1,by simp,zaa HJ.out.2.1 H5.out,fun x hx => ?_⟩,by have:=HJ.out.1;simp[intOf];omega⟩
        by_cases e:x<y
        ·exact HJ.out.2.2.2 x e
        ·rw[show x=y by omega];exact HV.out.1 (by simp)
      ·obtain rfl:y=n:=by omega
       have v1:decide (y<y)=false:=by simp
       have v1':decide ((y:Int)<(y:Int))=false:=by simp
       have HJ:=zHd (zAI hg hv);clear hy hyn hg hv q1;go_wp2;refine⟨⟨i+1,HI.out.1,by simp,zaa HI.out.2.1 HJ.out.1,fun x hx => ?_⟩,by have:=HI.out.1;simp[intOf];omega⟩
       by_cases e:x<i
       ·exact HI.out.2.2.1 x e
       ·rw[show x=i by omega];exact⟨HI.out.2.2.2,HJ.out.2⟩
   ·obtain rfl:i=n:=by omega
    have u1:decide (i<i)=false:=by simp
    have u1':decide ((i:Int)<(i:Int))=false:=by simp
    have HI:=zHd (zAI hg hx);clear hi hin hg hx;go_wp2;go_ret;exact zbb.yes ⟨HKY.out,fun x hx=>(HI.out.2 x hx).1,fun x y hx hy=>(HI.out.2 x hx).2 y hy⟩ HI.out.1
end Go.Proofs.YtaogepcaoogpgaaGreatDoor
