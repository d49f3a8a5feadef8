/- Part. -/
import Derived.Test.YtadgpgofcjpnjaaGreatDoorZK28
set_option linter.unusedVariables false
set_option linter.defProp false
set_option linter.unusedSimpArgs false
set_option maxRecDepth 100000
set_option maxHeartbeats 16000000
namespace Go.Proofs.YtadgpgofcjpnjaaGreatDoor
open Go.Proofs.Tryz
open Go.RowKit
def zyy {a:zah}{va:Value}{w:World}(ha:zan w va a)(fa:zaZ a)(hsb:zaC a=true)(wt:ByteArray)(hwt:wt.size<=40)(hvw:¬ (validB a=true/\wgtB a.kind wt=true))(x y:List Nat)(xv yv:Value)(hx:WIn w xv x)(hy:WIn w yv y)(hxy:x.length+y.length<=6) :
  Calls prog 9 #[va,.string wt,xv,yv] w (zab (.bool true) w):=by
 obtain⟨z0,hz⟩:∃ z,zao=z:=⟨_,rfl⟩;have HL:=zHd (fun w' (h:w.grownBy w' none)=>by have:=zbf (ha.grown h) fa;rw[hsb] at this;exact this);have HWD:=zHd (fun w' (h:w.grownBy w' none)=>zcx (hx.grown h) (hy.grown h) hxy)
 have HSC:=zHd (fun w' (h:w.grownBy w' none)=>by
  have:=zjb (ha.grown h) fa wt (by unfold maxLen;omega) wt (fun h1 h2=>absurd ⟨h1,h2⟩ hvw);rw[show scaleV wt a wt=(z0,1) by unfold scaleV;rw[if_neg hvw,hz]] at this;exact this)
 have HV:=zHd (fun w' (h:w.grownBy w' none)=>zaB (ha.grown h) fa);have HWG:=zHd (fun w'=>zeZ (k:=a.kind) (a:=wt) (by unfold maxLen;omega) w');generalize validB a=bv at HV hvw;generalize wgtB a.kind wt=bw at HWG hvw;have HH:=zHd hvw;have h40:¬ 40<wt.size:=by omega
 obtain⟨Ax,cx,rfl⟩:=hx.form;obtain⟨Ay,cy,rfl⟩:=hy.form;obtain⟨u,rfl,hst0⟩:=ha;have hg:w.grownBy (w.alloc (.cells #[.int .i64 a.kind,.int .i64 a.start,.string a.lead,u] 29)) none:=zGA _ _ _;have hbx:=zaf.new w a u;obtain⟨A,cap,us,rfl,_⟩:=hst0;have HB:=zHd hbx;have HG:=zHd hg;clear hz hbx hg hvw hsb hwt fa hx hy hxy;obtain⟨x0,x1,x2,x3⟩:=HB.out.cells;go_enter func9,ntmps9;go_upto_region 1 with(fail);generalize w.alloc (.cells #[.int .i64 a.kind,.int .i64 a.start,.string a.lead,.slice A a.states.length cap] 29)=W at *;go_wp2_with fail;refine(HL.out _ HG.out).mono ?_;rintro e w1 ⟨rfl,hg1⟩;have HG:=zHd (zaa HG.out hg1);have HB:=zHd (HB.out.grown hg1);clear hg1 x0 x1 x2 x3;go_wp2_with fail;refine(HWD.out _ HG.out).mono ?_;rintro e w2 ⟨rfl,hg2⟩;have HG:=zHd (zaa HG.out hg2);have HB:=zHd (HB.out.grown hg2);clear hg2;obtain⟨x0,x1,x2,x3⟩:=HB.out.cells;go_wp2_with fail;refine(HSC.out _ HG.out).mono ?_;intro e w3 h3;obtain⟨At,kt,rfl,hst3,hg3⟩:=h3.open6;have hga:=zGA w3 (.cells #[.int .i64 z0.kind,.int .i64 z0.start,.string z0.lead,.slice At z0.states.length kt] 29) none;have hgg:=zaa hg3 hga;have HG:=zHd (zaa HG.out hgg);have HB:=zHd (HB.out.grown hgg);have HE:=zHd (Ex9.new hst3);clear h3 hst3 hg3 hga hgg x0 x1 x2 x3;go_upto_region 4 with(fail);generalize w3.alloc (.cells #[.int .i64 z0.kind,.int .i64 z0.start,.string z0.lead,.slice At z0.states.length kt] 29)=w4 at *;obtain⟨x0,x1,x2,x3⟩:=HB.out.cells;go_wp2_with fail;refine(HV.out _ HG.out).mono ?_;rintro e w5 ⟨rfl,hg⟩;have HG:=zHd (zaa HG.out hg);have HB:=zHd (HB.out.grown hg);clear hg x0 x1 x2 x3 HE;cases bv
 ·clear HH
  go_wp2_with fail;refine(zap _).mono ?_;rintro e v9 ⟨rfl,hg⟩;have HG:=zHd (zaa HG.out hg);clear hg;exact zQbu
 have hbw:bw=false:=by
  cases bw;rfl;exact absurd ⟨rfl,rfl⟩ HH.out
 subst hbw;clear HH;obtain⟨x0,x1,x2,x3⟩:=HB.out.cells;go_wp2_with fail;refine(HWG.out _).mono ?_;rintro e w6 ⟨rfl,hg⟩;have HG:=zHd (zaa HG.out hg);clear hg x0 x1 x2 x3;go_wp2_with fail;refine(zap _).mono ?_;rintro e v9 ⟨rfl,hg⟩;have HG:=zHd (zaa HG.out hg);clear hg;exact zQbu
def zyz {a:zah}{va:Value}{w:World}(ha:zan w va a)(fa:zaZ a)(wt:ByteArray)(hwt:wt.size<=maxLen)(zx zy:List Int)(xv yv:Value)(hx:zax w xv zx)(hy:zax w yv zy)(bx:zx.length<=140737488355328)(by':zy.length<=140737488355328) :
  Calls prog 9 #[va,.string wt,xv,yv] w (zab (.bool true) w):=by
 cases hsb:zaC a;exact zlH ha fa wt hwt zx zy xv yv hx hy bx by' (.inl hsb)
 by_cases h40:40<wt.size
 exact zlH ha fa wt hwt zx zy xv yv hx hy bx by' (.inr (.inl h40));cases hwd:(decide (zx.length+zy.length<=6)&&(zat zx&&zat zy));exact zlH ha fa wt hwt zx zy xv yv hx hy bx by' (.inr (.inr hwd));rw[zqbb,zqbb,zqca] at hwd;obtain⟨x,hx',rfl⟩:=WIn.of hx hwd.2.1;obtain⟨y,hy',rfl⟩:=WIn.of hy hwd.2.2;have hl:=hwd.1;rw[zqbn,zqbn] at hl
 by_cases hvw:validB a=true/\wgtB a.kind wt=true
 exact zBI ha hvw.1 (zbw hsb) hsb wt (by omega) hvw.2 x y xv yv hx' hy' hl;exact zyy ha fa hsb wt (by omega) hvw x y xv yv hx' hy' hl
end Go.Proofs.YtadgpgofcjpnjaaGreatDoor
