/- WB3 -/
import Derived.Test.YtaogepcaoogpgaaGreatDoorX31
set_option linter.unusedVariables false
set_option linter.unusedSimpArgs false
set_option maxRecDepth 100000
set_option maxHeartbeats 16000000
namespace Go.Proofs.YtaogepcaoogpgaaGreatDoor
open Go.RowKit
theorem zrg (k:Int)(n:Nat)(ln:Nat→Nat)(G:Nat→Nat→ByteArray)(av:Value)(w:World)(ha:MatA w av n ln G)(hs:∀ i j,(G i j).size≤maxLen) :
  Calls Tryz.prog 28 #[.int .i64 k,av] w (zbb (n≤9∧zfr k n ln G) w):=by
 have ha0:=ha;obtain⟨rs,⟨A,c,rfl,ha1,ha2,ha3⟩,hr⟩:=ha
 by_cases h9:n≤9
 ·have HM:=zHd (zir k n ln G _ w (by omega) ha0 hs)
  have H9:=zHd h9;have t1:decide ((n:Int)≤9)=true:=by simp;omega
  have t2:(n:Int)≤9:=by omega
  clear ha0 ha3 hr hs h9;go_enter Tryz.func28,Tryz.ntmps28;go_wp2_with fail;refine HM.out.mono ?_;rintro e w1 ⟨b,rfl,hb,hg⟩;have HB:=zHd (zAI hb hg);clear hb hg;cases b
  ·go_wp2
   go_ret;exact zbb.no (fun h=>by have:=HB.out.1.2 h.2;simp at this) HB.out.2
  ·go_wp2
   go_ret;exact zbb.yes ⟨H9.out,HB.out.1.1 (by simp)⟩ HB.out.2
 ·have H9:=zHd h9
  have t1:decide ((n:Int)≤9)=false:=by simp;omega
  have t2:¬ (n:Int)≤9:=by omega
  clear ha0 ha3 hr hs h9;go_enter Tryz.func28,Tryz.ntmps28;go_wp2;go_ret;exact zbb.no (fun h=>H9.out h.1) (World.grownBy.refl _ _)
end Go.Proofs.YtaogepcaoogpgaaGreatDoor
