/- Part. -/
import Derived.Test.YtadgpgofcjpnjaaGreatDoorZK23
import Derived.Test.YtadgpgofcjpnjaaGreatDoorZK17
import Derived.Test.YtadgpgofcjpnjaaGreatDoorZK25
set_option linter.unusedVariables false
set_option linter.defProp false
set_option linter.unusedSimpArgs false
set_option maxRecDepth 100000
set_option maxHeartbeats 16000000
namespace Go.Proofs.YtadgpgofcjpnjaaGreatDoor
open Go.Proofs.Tryz
open Go.RowKit
def zlH {a:zah}{va:Value}{w:World}(ha:zan w va a)(fa:zaZ a)(wt:ByteArray)(hwt:wt.size<=maxLen)(zx zy:List Int)(xv yv:Value)(hx:zax w xv zx)(hy:zax w yv zy)(bx:zx.length<=140737488355328)(by':zy.length<=140737488355328)
  (h:zaC a=false∨40<wt.size∨(decide (zx.length+zy.length<=6)&&(zat zx&&zat zy))=false) :
  Calls prog 9 #[va,.string wt,xv,yv] w (zab (.bool true) w):=by
 have HL:=zHd (fun w' (h:w.grownBy w' none)=>zbf (ha.grown h) fa);have HWD:=zHd (fun w' (h:w.grownBy w' none)=>zdH zx zy xv yv w' (hx.grown h) (hy.grown h) bx by');generalize zaC a=bs at HL h;generalize (decide (zx.length+zy.length<=6)&&(zat zx&&zat zy))=bw at HWD h;obtain⟨Ax,cx,rfl,_⟩:=hx;obtain⟨Ay,cy,rfl,_⟩:=hy;generalize zx.length=lx at *;generalize zy.length=ly at *;obtain⟨u,rfl,hst0⟩:=ha;have hg:w.grownBy (w.alloc (.cells #[.int .i64 a.kind,.int .i64 a.start,.string a.lead,u] 29)) none:=zGA _ _ _;have hbx:=zaf.new w a u;obtain⟨A,cap,us,rfl,_⟩:=hst0;have HB:=zHd hbx;have HG:=zHd hg;obtain⟨x0,x1,x2,x3⟩:=hbx.cells;have HH:=zHd h;clear hbx hg h bx by';go_enter func9,ntmps9;go_upto_region 1 with(fail);generalize w.alloc (.cells #[.int .i64 a.kind,.int .i64 a.start,.string a.lead,.slice A a.states.length cap] 29)=W at *;go_wp2_with fail;refine(HL.out _ HG.out).mono ?_;rintro e w1 ⟨rfl,hg1⟩;have HG1:=zHd (zaa HG.out hg1);clear hg1 x0 x1 x2 x3;cases bs
 ·go_wp2_with fail
  refine(zap _).mono ?_;rintro e w2 ⟨rfl,hg2⟩;have HG2:=zHd (zaa HG1.out hg2);clear hg2;exact zQbc
 by_cases h40:40<wt.size
 ·go_wp2_with fail
  refine(zap _).mono ?_;rintro e w2 ⟨rfl,hg2⟩;have HG2:=zHd (zaa HG1.out hg2);clear hg2;exact zQbc
 have hbw:bw=false:=by
  rcases HH.out with h|h|h;cases h;exact absurd h h40;exact h
 subst hbw;clear HH;go_wp2_with fail;refine(HWD.out _ HG1.out).mono ?_;rintro e w2 ⟨rfl,hg2⟩;have HG2:=zHd (zaa HG1.out hg2);clear hg2;go_wp2_with fail;refine(zap _).mono ?_;rintro e w3 ⟨rfl,hg3⟩;have HG3:=zHd (zaa HG2.out hg3);clear hg3;go_wp2;go_ret;exact⟨rfl,HG3.out⟩
end Go.Proofs.YtadgpgofcjpnjaaGreatDoor
