/- Part. -/
import Derived.Test.YtadgpgofcjpnjaaGreatDoorZK45
set_option linter.unusedVariables false
set_option linter.defProp false
set_option linter.unusedSimpArgs false
set_option maxRecDepth 100000
set_option maxHeartbeats 16000000
namespace Go.Proofs.YtadgpgofcjpnjaaGreatDoor
open Go.Proofs.Tryz
open Go.RowKit
set_option maxHeartbeats 64000000 in
def zEQ {a:zah}{va:Value}{b:zah}{vb:Value}{c:zah}{vc:Value}{w:World}(ha:zan w va a)(fa:zaZ a)(hb:zan w vb b)(fb:zaZ b)(hc:zan w vc c)(fc:zaZ c)(zx zy:List Int)(xv yv:Value)(hx:zax w xv zx)(hy:zax w yv zy)(bx:zx.length<=140737488355328)(by':zy.length<=140737488355328)
  (h:(zaC a&&(zaC b&&(zaC c&&((decide (zx.length+zy.length<=6)&&(zat zx&&zat zy))&&(decide (zx.length+zy.length<=4)&&(validB a&&(validB b&&(validB c&&(decide (a.kind=b.kind)&&decide (a.kind=c.kind))))))))))=false) :
  Calls prog 10 #[va,vb,vc,xv,yv] w (zab (.bool true) w):=by
 have HLa:=zHd (fun w' (h:w.grownBy w' none)=>zbf (ha.grown h) fa);have HLb:=zHd (fun w' (h:w.grownBy w' none)=>zbf (hb.grown h) fb);have HLc:=zHd (fun w' (h:w.grownBy w' none)=>zbf (hc.grown h) fc);have HWD:=zHd (fun w' (h:w.grownBy w' none)=>zdH zx zy xv yv w' (hx.grown h) (hy.grown h) bx by');have HVa:=zHd (fun w' (h:w.grownBy w' none)=>zaB (ha.grown h) fa);have HVb:=zHd (fun w' (h:w.grownBy w' none)=>zaB (hb.grown h) fb);have HVc:=zHd (fun w' (h:w.grownBy w' none)=>zaB (hc.grown h) fc);have c4:∀ q,decide (zx.length+zy.length<=4)=q->decide ((4:Int)<(zx.length:Int)+(zy.length:Int)) = !q:=fun q e=>by subst e;rw[show decide ((4:Int)<(zx.length:Int)+(zy.length:Int))=decide (¬ (zx.length+zy.length<=4)) from decide_eq_decide.2 (by omega),decide_not]
 have c4w:IntKind.i64.wrap ((zx.length:Int)+(zy.length:Int))=(zx.length:Int)+(zy.length:Int):=by rw[zqah];omega
 have c8:∀ q,decide (a.kind=b.kind)=q->(a.kind != b.kind) = !q:=fun q e=>by subst e;by_cases e:a.kind=b.kind <;> simp[e]
 have c9:∀ q,decide (a.kind=c.kind)=q->(a.kind != c.kind) = !q:=fun q e=>by subst e;by_cases e:a.kind=c.kind <;> simp[e]
 generalize zaC a=q0 at HLa h;generalize zaC b=q1 at HLb h;generalize zaC c=q2 at HLc h;generalize (decide (zx.length+zy.length<=6)&&(zat zx&&zat zy))=q3 at HWD h;generalize hq4:decide (zx.length+zy.length<=4)=q4 at h
 replace c4:=c4 q4 hq4
 clear hq4;generalize validB a=q5 at HVa h;generalize validB b=q6 at HVb h;generalize validB c=q7 at HVc h;generalize hq8:decide (a.kind=b.kind)=q8 at h
 replace c8:=c8 q8 hq8
 clear hq8;generalize hq9:decide (a.kind=c.kind)=q9 at h
 replace c9:=c9 q9 hq9
 clear hq9;obtain⟨Ax,cx,rfl,_⟩:=hx;obtain⟨Ay,cy,rfl,_⟩:=hy;generalize zx.length=lx at *;generalize zy.length=ly at *;have ka:=ha;obtain⟨ua,rfl,hsta⟩:=ha;obtain⟨Aa,ca,usa,rfl,_⟩:=hsta;have kb:=hb;obtain⟨ub,rfl,hstb⟩:=hb;obtain⟨Ab,cb,usb,rfl,_⟩:=hstb;have kc:=hc;obtain⟨uc,rfl,hstc⟩:=hc;obtain⟨Ac,cc,usc,rfl,_⟩:=hstc;have g0:=zGA w (.cells #[.int .i64 a.kind,.int .i64 a.start,.string a.lead,.slice Aa a.states.length ca] 29) none;have b0:=zaf.new w a (.slice Aa a.states.length ca);have g1:=zGA (w.alloc (.cells #[.int .i64 a.kind,.int .i64 a.start,.string a.lead,.slice Aa a.states.length ca] 29)) (.cells #[.int .i64 b.kind,.int .i64 b.start,.string b.lead,.slice Ab b.states.length cb] 29) none;have b1:=zaf.new (w.alloc (.cells #[.int .i64 a.kind,.int .i64 a.start,.string a.lead,.slice Aa a.states.length ca] 29)) b (.slice Ab b.states.length cb);rw[show(w.alloc (.cells #[.int .i64 a.kind,.int .i64 a.start,.string a.lead,.slice Aa a.states.length ca] 29)).heap.size=w.heap.size+1 by simp] at b1;have g2:=zGA ((w.alloc (.cells #[.int .i64 a.kind,.int .i64 a.start,.string a.lead,.slice Aa a.states.length ca] 29)).alloc (.cells #[.int .i64 b.kind,.int .i64 b.start,.string b.lead,.slice Ab b.states.length cb] 29)) (.cells #[.int .i64 c.kind,.int .i64 c.start,.string c.lead,.slice Ac c.states.length cc] 29) none;have b2:=zaf.new ((w.alloc (.cells #[.int .i64 a.kind,.int .i64 a.start,.string a.lead,.slice Aa a.states.length ca] 29)).alloc (.cells #[.int .i64 b.kind,.int .i64 b.start,.string b.lead,.slice Ab b.states.length cb] 29)) c (.slice Ac c.states.length cc);rw[show((w.alloc (.cells #[.int .i64 a.kind,.int .i64 a.start,.string a.lead,.slice Aa a.states.length ca] 29)).alloc (.cells #[.int .i64 b.kind,.int .i64 b.start,.string b.lead,.slice Ab b.states.length cb] 29)).heap.size=w.heap.size+2 by simp] at b2;have HG:=zHd (zaa g0 (zaa g1 g2));have HBa:=zHd (zaf.grown (zaf.grown b0 g1) g2);have HBb:=zHd (zaf.grown b1 g2);have HBc:=zHd b2;clear g0 b0 g1 b1 g2 b2;have HH:=zHd h;have H4:=zHd c4;have H4w:=zHd c4w;have H8:=zHd c8;have H9:=zHd c9;clear h bx by' ka fa kb fb kc fc c4 c8 c9 c4w;go_enter func10,ntmps10;go_upto_region 1 with(fail);generalize ((w.alloc (.cells #[.int .i64 a.kind,.int .i64 a.start,.string a.lead,.slice Aa a.states.length ca] 29)).alloc (.cells #[.int .i64 b.kind,.int .i64 b.start,.string b.lead,.slice Ab b.states.length cb] 29)).alloc (.cells #[.int .i64 c.kind,.int .i64 c.start,.string c.lead,.slice Ac c.states.length cc] 29)=W at *;obtain⟨x0,x1,x2,x3⟩:=HBa.out.cells;go_wp2_with fail;refine(HLa.out _ HG.out).mono ?_;rintro e v61 ⟨rfl,hg⟩;have HG:=zHd (zaa HG.out hg);have HBa:=zHd (HBa.out.grown hg);have HBb:=zHd (HBb.out.grown hg);have HBc:=zHd (HBc.out.grown hg);clear hg x0 x1 x2 x3;cases q0
 ·go_wp2_with fail
  exact zQab
 obtain⟨y0,y1,y2,y3⟩:=HBb.out.cells;go_wp2_with fail;refine(HLb.out _ HG.out).mono ?_;rintro e v62 ⟨rfl,hg⟩;have HG:=zHd (zaa HG.out hg);have HBa:=zHd (HBa.out.grown hg);have HBb:=zHd (HBb.out.grown hg);have HBc:=zHd (HBc.out.grown hg);clear hg y0 y1 y2 y3;cases q1
 ·go_wp2_with fail
  exact zQab
 obtain⟨z0,z1,z2,z3⟩:=HBc.out.cells;go_wp2_with fail;refine(HLc.out _ HG.out).mono ?_;rintro e v63 ⟨rfl,hg⟩;have HG:=zHd (zaa HG.out hg);have HBa:=zHd (HBa.out.grown hg);have HBb:=zHd (HBb.out.grown hg);have HBc:=zHd (HBc.out.grown hg);clear hg z0 z1 z2 z3;cases q2
 ·go_wp2_with fail
  exact zQab
 go_wp2_with fail;refine(HWD.out _ HG.out).mono ?_;rintro e v64 ⟨rfl,hg⟩;have HG:=zHd (zaa HG.out hg);have HBa:=zHd (HBa.out.grown hg);have HBb:=zHd (HBb.out.grown hg);have HBc:=zHd (HBc.out.grown hg);clear hg;cases q3
 ·go_wp2_with fail
  exact zQab
 have c4w:=H4w.out;cases q4
 ·have c5:=H4.out
  try simp only[Bool.not_false,Bool.not_true] at c5
  go_wp2_with fail;exact zQab
 have c5:=H4.out
 try simp only[Bool.not_false,Bool.not_true] at c5
 obtain⟨x0,x1,x2,x3⟩:=HBa.out.cells;go_wp2_with fail;refine(HVa.out _ HG.out).mono ?_;rintro e v65 ⟨rfl,hg⟩;have HG:=zHd (zaa HG.out hg);have HBa:=zHd (HBa.out.grown hg);have HBb:=zHd (HBb.out.grown hg);have HBc:=zHd (HBc.out.grown hg);clear hg x0 x1 x2 x3;cases q5
 ·go_wp2_with fail
  exact zQab
 obtain⟨y0,y1,y2,y3⟩:=HBb.out.cells;go_wp2_with fail;refine(HVb.out _ HG.out).mono ?_;rintro e v66 ⟨rfl,hg⟩;have HG:=zHd (zaa HG.out hg);have HBa:=zHd (HBa.out.grown hg);have HBb:=zHd (HBb.out.grown hg);have HBc:=zHd (HBc.out.grown hg);clear hg y0 y1 y2 y3;cases q6
 ·go_wp2_with fail
  exact zQab
 obtain⟨z0,z1,z2,z3⟩:=HBc.out.cells;go_wp2_with fail;refine(HVc.out _ HG.out).mono ?_;rintro e v67 ⟨rfl,hg⟩;have HG:=zHd (zaa HG.out hg);have HBa:=zHd (HBa.out.grown hg);have HBb:=zHd (HBb.out.grown hg);have HBc:=zHd (HBc.out.grown hg);clear hg z0 z1 z2 z3;cases q7
 ·go_wp2_with fail
  exact zQab
 obtain⟨x0,x1,x2,x3⟩:=HBa.out.cells;obtain⟨y0,y1,y2,y3⟩:=HBb.out.cells;cases q8
 ·have c5:=H8.out
  try simp only[Bool.not_false,Bool.not_true] at c5
  go_wp2_with fail;exact zQab
 have c5:=H8.out
 try simp only[Bool.not_false,Bool.not_true] at c5
 obtain⟨x0,x1,x2,x3⟩:=HBa.out.cells;obtain⟨z0,z1,z2,z3⟩:=HBc.out.cells;cases q9
 ·have c5:=H9.out
  try simp only[Bool.not_false,Bool.not_true] at c5
  go_wp2_with fail;exact zQab
 have c5:=H9.out
 try simp only[Bool.not_false,Bool.not_true] at c5
 exact zQca
end Go.Proofs.YtadgpgofcjpnjaaGreatDoor
