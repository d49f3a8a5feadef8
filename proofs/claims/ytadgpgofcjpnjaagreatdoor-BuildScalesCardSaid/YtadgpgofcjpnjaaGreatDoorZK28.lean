/- Part. -/
import Derived.Test.YtadgpgofcjpnjaaGreatDoorZK26
import Derived.Test.YtadgpgofcjpnjaaGreatDoorZK27
set_option linter.unusedVariables false
set_option linter.defProp false
set_option linter.unusedSimpArgs false
set_option maxRecDepth 100000
set_option maxHeartbeats 16000000
namespace Go.Proofs.YtadgpgofcjpnjaaGreatDoor
open Go.Proofs.Tryz
open Go.RowKit
def zBI {a:zah}{va:Value}{w:World}(ha:zan w va a)(hv:validB a=true)(hs:zeT a)(hsb:zaC a=true)(wt:ByteArray)(hwt:wt.size<=40)(hw:wgtB a.kind wt=true)(x y:List Nat)(xv yv:Value)(hx:WIn w xv x)(hy:WIn w yv y)(hxy:x.length+y.length<=6) :
  Calls prog 9 #[va,.string wt,xv,yv] w (zab (.bool true) w):=by
 have hk:zam a.kind:=(zbQ _).1 (zbY hv);have fa:=zaq hv;obtain⟨lead,hld⟩:∃ lead,lead=tx ((srE a.kind hk).mul (vE hk wt) (vE hk a.lead)):=⟨_,rfl⟩;obtain⟨m,hm⟩:∃ m:zah,m = { a with lead:=lead }:=⟨_,rfl⟩;have hml:wgtB a.kind lead=true:=by rw[hld];exact zoZ hk hw (zdc hv) hwt hs.lead
 have hmv:validB m=true:=by rw[hm];exact zom hv hml
 have hmk:m.kind=a.kind:=by rw[hm]
 have hmval:VL hk m x y=(srE a.kind hk).mul (vE hk wt) (VL hk a x y):=by
  rw[hm];exact zsa (by rw[hld];exact zpa hk hw (zdc hv) hwt hs.lead) x y
 have hacc:everyB zbN a=true->everyB zbN m=true:=fun h=>by rw[hm];exact zBf (by rw[<- hm];exact hmv) h
 obtain⟨hw1,hw2⟩:=znH hk (zcO hw |>.imp fun _ h=>h.val);have HL:=zHd (fun w' (h:w.grownBy w' none)=>by have:=zbf (ha.grown h) fa;rw[hsb] at this;exact this);have HWD:=zHd (fun w' (h:w.grownBy w' none)=>zcx (hx.grown h) (hy.grown h) hxy)
 have HSC:=zHd (fun w' (h:w.grownBy w' none)=>by
  have:=zjb (ha.grown h) fa wt (by unfold maxLen;omega) lead (fun _ _=>by rw[hld];exact zjT hk hw (zdc hv) hwt hs.lead);rw[show scaleV lead a wt=(m,0) by unfold scaleV;rw[if_pos ⟨hv,hw⟩,hm]] at this;exact this)
 have HV:=zHd (fun w' (h:w.grownBy w' none)=>by have:=zaB (ha.grown h) fa;rw[hv] at this;exact this);have HWG:=zHd (fun w'=>by have:=zeZ (k:=a.kind) (a:=wt) (by unfold maxLen;omega) w';rw[hw] at this;exact this);have HAC:=zHd (fun w' (h:w.grownBy w' none)=>zbE (ha.grown h) fa);have HA:=zHd (fun w' (h:w.grownBy w' none)=>ha.grown h);have HX:=zHd hx;have HY:=zHd hy;have HW:=zHd (zAI hw1 hw2);have HM:=zHd (zAI hmv (zAI hmk (zAI hmval hacc)));have HK:=zHd hk;have HVA:=zHd hv;have h40:¬ 40<wt.size:=by omega
 obtain⟨Ax,cx,rfl⟩:=hx.form;obtain⟨Ay,cy,rfl⟩:=hy.form;obtain⟨u,rfl,hst0⟩:=ha;have hg:w.grownBy (w.alloc (.cells #[.int .i64 a.kind,.int .i64 a.start,.string a.lead,u] 29)) none:=zGA _ _ _;have hbx:=zaf.new w a u;obtain⟨A,cap,us,rfl,_⟩:=hst0;have HB:=zHd hbx;have HG:=zHd hg;clear hbx hg hm hmv hmk hmval hacc hld hml hv hs hsb hwt hw hw1 hw2 fa hx hy hxy;obtain⟨x0,x1,x2,x3⟩:=HB.out.cells;go_enter func9,ntmps9;go_upto_region 1 with(fail);generalize w.alloc (.cells #[.int .i64 a.kind,.int .i64 a.start,.string a.lead,.slice A a.states.length cap] 29)=W at *;go_wp2_with fail;refine(HL.out _ HG.out).mono ?_;rintro e w1 ⟨rfl,hg1⟩;have HG:=zHd (zaa HG.out hg1);have HB:=zHd (HB.out.grown hg1);clear hg1 x0 x1 x2 x3;go_wp2_with fail;refine(HWD.out _ HG.out).mono ?_;rintro e w2 ⟨rfl,hg2⟩;have HG:=zHd (zaa HG.out hg2);have HB:=zHd (HB.out.grown hg2);clear hg2;obtain⟨x0,x1,x2,x3⟩:=HB.out.cells;go_wp2_with fail;refine(HSC.out _ HG.out).mono ?_;intro e w3 h3;obtain⟨At,kt,rfl,hst3,hg3⟩:=h3.open6;have hga:=zGA w3 (.cells #[.int .i64 m.kind,.int .i64 m.start,.string m.lead,.slice At m.states.length kt] 29) none;have hgg:=zaa hg3 hga;have HG:=zHd (zaa HG.out hgg);have HB:=zHd (HB.out.grown hgg);have HE:=zHd (Ex9.new hst3);clear h3 hst3 hg3 hga hgg x0 x1 x2 x3;go_upto_region 4 with(fail);generalize w3.alloc (.cells #[.int .i64 m.kind,.int .i64 m.start,.string m.lead,.slice At m.states.length kt] 29)=w4 at *;obtain⟨x0,x1,x2,x3⟩:=HB.out.cells;go_wp2_with fail;refine(HV.out _ HG.out).mono ?_;rintro e w5 ⟨rfl,hg⟩;have HG:=zHd (zaa HG.out hg);have HB:=zHd (HB.out.grown hg);have HE:=zHd (HE.out.grown hg);clear hg x0 x1 x2 x3;obtain⟨x0,x1,x2,x3⟩:=HB.out.cells;go_wp2_with fail;refine(HWG.out _).mono ?_;rintro e w6 ⟨rfl,hg⟩;have HG:=zHd (zaa HG.out hg);have HB:=zHd (HB.out.grown hg);have HE:=zHd (HE.out.grown hg);clear hg x0 x1 x2 x3;obtain⟨x0,x1,x2,x3⟩:=HB.out.cells;go_upto_region 9 with(fail);have hal:=zGA w6 (.cells #[.int .i64 a.kind,.slice Ax x.length cx,.slice Ay y.length cy,.int .i64 a.kind,.int .i64 a.start,.string a.lead,.slice A a.states.length cap,.bool true] 48) none;have htb:zbV w6 a.kind a (.slice A a.states.length cap) (.slice Ax x.length cx) (.slice Ay y.length cy) w6.heap.size true (w6.alloc (.cells #[.int .i64 a.kind,.slice Ax x.length cx,.slice Ay y.length cy,.int .i64 a.kind,.int .i64 a.start,.string a.lead,.slice A a.states.length cap,.bool true] 48)):=⟨zaG w6 _,zqab _,hal⟩;have HT:=zHd htb;have HG6:=HG;clear htb hal x0 x1 x2 x3;generalize w6.alloc (.cells #[.int .i64 a.kind,.slice Ax x.length cx,.slice Ay y.length cy,.int .i64 a.kind,.int .i64 a.start,.string a.lead,.slice A a.states.length cap,.bool true] 48)=w7 at *;go_wp2_with fail;refine(zho HK.out w6 a (.slice A a.states.length cap) (.slice Ax x.length cx) (.slice Ay y.length cy) x y w6.heap.size true 0 x.length 0 y.length (zqaw _) (zqab _) (zqaw _) (zqab _) _ HT.out (HA.out _ HG6.out) HVA.out rfl (HX.out.grown HG6.out) (HY.out.grown HG6.out)).mono ?_;rintro e w8 ⟨t1,ok1,rfl,_,ht8,ft1,hi1⟩;have HC:=zHd (by have:=zfD HK.out w6 a (.slice A a.states.length cap) (.slice Ax x.length cx) (.slice Ay y.length cy) w6.heap.size ok1 (vE HK.out wt) t1 HW.out.2 ft1 w8 ht8;rw[<- HW.out.1] at this;exact this);have HI1:=zHd hi1;clear ht8 ft1 hi1 HT;go_wp2_with fail;refine HC.out.mono ?_;rintro e w9 ⟨t2,ok2,rfl,_,ht9,ft2,hi2⟩;have HT:=zHd ht9;have HI:=zHd (zAI HI1.out hi2);clear ht9 ft2 hi2 HC HI1;obtain⟨x0,x1,x2,x3⟩:=(HB.out.grown HT.out.gr).cells;have hba:=HM.out.2.2.2;generalize everyB zbN a=ba at HAC hba;cases ba
 ·clear hba
  go_wp2_with fail;refine(HAC.out _ (zaa HG6.out HT.out.gr)).mono ?_;rintro e v1 ⟨rfl,hg⟩;have HT:=zHd (HT.out.grown hg);clear hg x0 x1 x2 x3;obtain⟨x0,x1,x2,x3⟩:=(HE.out.grown HT.out.gr).box.cells;have HV2:=zHd (by have:=zaB ((HE.out.grown HT.out.gr).st) (zaq HM.out.1);rw[HM.out.1] at this;exact this);go_wp2_with fail;refine HV2.out.mono ?_;rintro e v2 ⟨rfl,hg⟩;have HT:=zHd (HT.out.grown hg);clear hg x0 x1 x2 x3;obtain⟨x0,x1,x2,x3⟩:=(HE.out.grown HT.out.gr).box.cells;obtain⟨y0,y1,y2,y3⟩:=(HB.out.grown HT.out.gr).cells;have d7:=zqbw _ _ 7 _ _ (0,0) HT.out.at';cases ok2
  ·go_wp2_with fail
   exact zQbx
  have hwant:zav (VL HK.out m x y)->tx t2=tx (VL HK.out m x y):=fun _=>by
   exact zQcg
  exact zQaH
 have HBA:=zHd (hba rfl);clear hba;go_wp2_with fail;refine(HAC.out _ (zaa HG6.out HT.out.gr)).mono ?_;rintro e v1 ⟨rfl,hg⟩;have HT:=zHd (HT.out.grown hg);clear hg x0 x1 x2 x3;obtain⟨x0,x1,x2,x3⟩:=(HE.out.grown HT.out.gr).box.cells;have HV1:=zHd (by have:=zbE ((HE.out.grown HT.out.gr).st) (zaq HM.out.1);rw[HBA.out] at this;exact this);go_wp2_with fail;refine HV1.out.mono ?_;rintro e v2 ⟨rfl,hg⟩;have HT:=zHd (HT.out.grown hg);clear hg x0 x1 x2 x3;obtain⟨x0,x1,x2,x3⟩:=(HE.out.grown HT.out.gr).box.cells;have HV2:=zHd (by have:=zaB ((HE.out.grown HT.out.gr).st) (zaq HM.out.1);rw[HM.out.1] at this;exact this);go_wp2_with fail;refine HV2.out.mono ?_;rintro e v3 ⟨rfl,hg⟩;have HT:=zHd (HT.out.grown hg);clear hg x0 x1 x2 x3;obtain⟨x0,x1,x2,x3⟩:=(HE.out.grown HT.out.gr).box.cells;obtain⟨y0,y1,y2,y3⟩:=(HB.out.grown HT.out.gr).cells;have d7:=zqbw _ _ 7 _ _ (0,0) HT.out.at';cases ok2
 ·go_wp2_with fail
  exact zQbx
 have hwant:zav (VL HK.out m x y)->tx t2=tx (VL HK.out m x y):=fun _=>by
  exact zQcg
 exact zQaH
end Go.Proofs.YtadgpgofcjpnjaaGreatDoor
