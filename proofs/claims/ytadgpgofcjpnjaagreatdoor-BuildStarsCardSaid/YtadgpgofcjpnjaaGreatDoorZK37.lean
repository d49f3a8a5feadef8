/- Part. -/
import Derived.Test.YtadgpgofcjpnjaaGreatDoorZK17
import Derived.Test.YtadgpgofcjpnjaaGreatDoorZK27
import Derived.Test.YtadgpgofcjpnjaaGreatDoorZK36
set_option linter.unusedVariables false
set_option linter.defProp false
set_option linter.unusedSimpArgs false
set_option maxRecDepth 100000
set_option maxHeartbeats 16000000
namespace Go.Proofs.YtadgpgofcjpnjaaGreatDoor
open Go.Proofs.Tryz
open Go.RowKit
set_option maxHeartbeats 64000000 in
def zBM {a:zah}{va:Value}{w:World}(ha:zan w va a)(fa:zaZ a)(zx zy:List Int)(xv yv:Value)(hx:zax w xv zx)(hy:zax w yv zy)(bx:zx.length<=140737488355328)(by':zy.length<=140737488355328)
  (h:(zaC a&&(decide (zx.length+zy.length<=6)&&(zat zx&&zat zy)))=false) :
  Calls prog 7 #[va,xv,yv] w (zab (.bool true) w):=by
 have HLa:=zHd (fun w' (h:w.grownBy w' none)=>zbf (ha.grown h) fa);have HWD:=zHd (fun w' (h:w.grownBy w' none)=>zdH zx zy xv yv w' (hx.grown h) (hy.grown h) bx by');generalize zaC a=q0 at HLa h;generalize (decide (zx.length+zy.length<=6)&&(zat zx&&zat zy))=q1 at HWD h;obtain⟨Ax,cx,rfl,_⟩:=hx;obtain⟨Ay,cy,rfl,_⟩:=hy;generalize zx.length=lx at *;generalize zy.length=ly at *;have ka:=ha;obtain⟨ua,rfl,hsta⟩:=ha;obtain⟨Aa,ca,usa,rfl,_⟩:=hsta;have g0:=zGA w (.cells #[.int .i64 a.kind,.int .i64 a.start,.string a.lead,.slice Aa a.states.length ca] 29) none;have b0:=zaf.new w a (.slice Aa a.states.length ca);have HG:=zHd g0;have HBa:=zHd b0;clear g0 b0;have HH:=zHd h;clear h bx by' ka fa;go_enter func7,ntmps7;go_upto_region 1 with(fail);generalize w.alloc (.cells #[.int .i64 a.kind,.int .i64 a.start,.string a.lead,.slice Aa a.states.length ca] 29)=W at *;obtain⟨x0,x1,x2,x3⟩:=HBa.out.cells;go_wp2_with fail;refine(HLa.out _ HG.out).mono ?_;rintro e v39 ⟨rfl,hg⟩;have HG:=zHd (zaa HG.out hg);have HBa:=zHd (HBa.out.grown hg);clear hg x0 x1 x2 x3;cases q0
 ·go_wp2_with fail
  exact zQab
 go_wp2_with fail;refine(HWD.out _ HG.out).mono ?_;rintro e v40 ⟨rfl,hg⟩;have HG:=zHd (zaa HG.out hg);have HBa:=zHd (HBa.out.grown hg);clear hg;cases q1
 ·go_wp2_with fail
  exact zQab
 exact zQca
set_option maxHeartbeats 64000000 in
def zBN {a:zah}{va:Value}{w:World}(ha:zan w va a)(fa:zaZ a)(sa:zeT a)(ba:zaC a=true)(hvw:¬ validB a=true)(x y:List Nat)(xv yv:Value)(hx:WIn w xv x)(hy:WIn w yv y)(hxy:x.length+y.length<=6) :
  Calls prog 7 #[va,xv,yv] w (zab (.bool true) w):=by
 obtain⟨z0,hz⟩:∃ z,zao=z:=⟨_,rfl⟩;have HLa:=zHd (fun w' (h:w.grownBy w' none)=>by have:=zbf (ha.grown h) fa;rw[ba] at this;exact this);have HVa:=zHd (fun w' (h:w.grownBy w' none)=>zaB (ha.grown h) fa);have HWD:=zHd (fun w' (h:w.grownBy w' none)=>zcx (hx.grown h) (hy.grown h) (by omega))
 have HU:=zHd (fun w' (h:w.grownBy w' none)=>by
  have:=ziD (ha.grown h) fa (by have:=sa.n;omega) (by have:=sa.n;have:=sa.arcs;omega);rw[show starV a=(z0,1) by unfold starV;rw[if_neg (hvw),hz]] at this;exact this)
 generalize validB a=bva at *;have HH:=zHd hvw;have HX:=zHd hx;have HY:=zHd hy;obtain⟨Ax,cx,rfl⟩:=hx.form;obtain⟨Ay,cy,rfl⟩:=hy.form;have ka:=ha;obtain⟨ua,rfl,hsta⟩:=ha;obtain⟨Aa,ca,usa,rfl,_⟩:=hsta;have g0:=zGA w (.cells #[.int .i64 a.kind,.int .i64 a.start,.string a.lead,.slice Aa a.states.length ca] 29) none;have b0:=zaf.new w a (.slice Aa a.states.length ca);have HG:=zHd g0;have HBa:=zHd b0;clear g0 b0;clear ka hz hvw fa sa ba hx hy hxy HX HY;go_enter func7,ntmps7;go_upto_region 1 with(fail);generalize w.alloc (.cells #[.int .i64 a.kind,.int .i64 a.start,.string a.lead,.slice Aa a.states.length ca] 29)=W at *;obtain⟨x0,x1,x2,x3⟩:=HBa.out.cells;go_wp2_with fail;refine(HLa.out _ HG.out).mono ?_;rintro e v41 ⟨rfl,hg⟩;have HG:=zHd (zaa HG.out hg);have HBa:=zHd (HBa.out.grown hg);clear hg x0 x1 x2 x3;go_wp2_with fail;refine(HWD.out _ HG.out).mono ?_;rintro e v42 ⟨rfl,hg⟩;have HG:=zHd (zaa HG.out hg);have HBa:=zHd (HBa.out.grown hg);clear hg;obtain⟨x0,x1,x2,x3⟩:=HBa.out.cells;go_wp2_with fail;refine(HU.out _ HG.out).mono ?_;intro e wm h3;obtain⟨Atm,ktm,rfl,hst3,hg3⟩:=h3.open6;have hga:=zGA wm (.cells #[.int .i64 z0.kind,.int .i64 z0.start,.string z0.lead,.slice Atm z0.states.length ktm] 29) none;have hgg:=zaa hg3 hga;have HG:=zHd (zaa HG.out hgg);have HBa:=zHd (HBa.out.grown hgg);have HEm:=zHd (Ex9.new hst3);clear h3 hst3 hg3 hga hgg x0 x1 x2 x3;go_upto_region 4 with(fail);generalize wm.alloc (.cells #[.int .i64 z0.kind,.int .i64 z0.start,.string z0.lead,.slice Atm z0.states.length ktm] 29)=wmm at *;clear HEm;obtain⟨x0,x1,x2,x3⟩:=HBa.out.cells;go_wp2_with fail;refine(HVa.out _ HG.out).mono ?_;rintro e v43 ⟨rfl,hg⟩;have HG:=zHd (zaa HG.out hg);have HBa:=zHd (HBa.out.grown hg);clear hg x0 x1 x2 x3;obtain rfl:bva=false:=by simpa using HH.out
 go_wp2_with fail;exact zQab
set_option maxHeartbeats 64000000 in
def zEL {a:zah}{va:Value}{w:World}(ha:zan w va a)(hva:validB a=true)(sa:zeT a)(ba:zaC a=true)(x y:List Nat)(xv yv:Value)(hx:WIn w xv x)(hy:WIn w yv y)(hxy:x.length+y.length<=6) :
  Calls prog 7 #[va,xv,yv] w (zab (.bool true) w):=by
 have hk:zam a.kind:=(zbQ _).1 (zbY hva);have fa:=zaq hva;obtain⟨m,hm⟩:∃ m:zah,m=zbt (zak a.kind) a:=⟨_,rfl⟩;have hmv:validB m=true:=by rw[hm];exact ziX hva (by have:=sa.n;omega) (by have:=sa.n;have:=sa.arcs;omega)
 have hmk:m.kind=a.kind:=by rw[hm];rfl
 have hmval:VL hk (zbt (zak a.kind) a) (x.drop 0) (y.drop 0)=VL hk m x y:=by rw[hm];rfl
 have hacc:everyB zbN a=true->everyB zbN m=true:=fun h1=>by rw[hm];exact zEn (by rw[<- hm];exact hmv) h1
 have HLa:=zHd (fun w' (h:w.grownBy w' none)=>by have:=zbf (ha.grown h) fa;rw[ba] at this;exact this);have HVa:=zHd (fun w' (h:w.grownBy w' none)=>by have:=zaB (ha.grown h) fa;rw[hva] at this;exact this);have HACa:=zHd (fun w' (h:w.grownBy w' none)=>zbE (ha.grown h) fa);have HWD:=zHd (fun w' (h:w.grownBy w' none)=>zcx (hx.grown h) (hy.grown h) hxy)
 have HBU:=zHd (fun w' (h:w.grownBy w' none)=>by
  have:=ziD (ha.grown h) fa (by have:=sa.n;omega) (by have:=sa.n;have:=sa.arcs;omega);rw[show starV a=(m,0) by unfold starV;rw[if_pos hva,hm]] at this;exact this)
 have HM:=zHd (zAI hmv (zAI hmk (zAI hmval hacc)));have HK:=zHd hk;have HX:=zHd hx;have HY:=zHd hy;obtain⟨Ax,cx,rfl⟩:=hx.form;obtain⟨Ay,cy,rfl⟩:=hy.form;have ka:=ha;obtain⟨ua,rfl,hsta⟩:=ha;obtain⟨Aa,ca,usa,rfl,_⟩:=hsta;have HST:=zHd (fun w6 (h6:w.grownBy w6 none) g ok wc (ht:zbV w6 a.kind a (.slice Aa a.states.length ca) (.slice Ax x.length cx) (.slice Ay y.length cy) g ok wc)=>zsm hk w6 a (.slice Aa a.states.length ca) (.slice Ax x.length cx) (.slice Ay y.length cy) x y g (ka.grown h6) hva rfl (HX.out.grown h6) (HY.out.grown h6) (x.length+y.length+1) 0 0 (zqaw _) (zqaw _) (by omega) ok wc ht);have g0:=zGA w (.cells #[.int .i64 a.kind,.int .i64 a.start,.string a.lead,.slice Aa a.states.length ca] 29) none;have b0:=zaf.new w a (.slice Aa a.states.length ca);have HG:=zHd g0;have HBa:=zHd b0;clear g0 b0;clear ka hm hmv hmk hmval hacc hva fa sa ba hx hy hxy;go_enter func7,ntmps7;go_upto_region 1 with(fail);generalize w.alloc (.cells #[.int .i64 a.kind,.int .i64 a.start,.string a.lead,.slice Aa a.states.length ca] 29)=W at *;obtain⟨x0,x1,x2,x3⟩:=HBa.out.cells;go_wp2_with fail;refine(HLa.out _ HG.out).mono ?_;rintro e v44 ⟨rfl,hg⟩;have HG:=zHd (zaa HG.out hg);have HBa:=zHd (HBa.out.grown hg);clear hg x0 x1 x2 x3;go_wp2_with fail;refine(HWD.out _ HG.out).mono ?_;rintro e v45 ⟨rfl,hg⟩;have HG:=zHd (zaa HG.out hg);have HBa:=zHd (HBa.out.grown hg);clear hg;obtain⟨x0,x1,x2,x3⟩:=HBa.out.cells;go_wp2_with fail;refine(HBU.out _ HG.out).mono ?_;intro e wm h3;obtain⟨Atm,ktm,rfl,hst3,hg3⟩:=h3.open6;have hga:=zGA wm (.cells #[.int .i64 m.kind,.int .i64 m.start,.string m.lead,.slice Atm m.states.length ktm] 29) none;have hgg:=zaa hg3 hga;have HG:=zHd (zaa HG.out hgg);have HBa:=zHd (HBa.out.grown hgg);have HEm:=zHd (Ex9.new hst3);clear h3 hst3 hg3 hga hgg x0 x1 x2 x3;go_upto_region 4 with(fail);generalize wm.alloc (.cells #[.int .i64 m.kind,.int .i64 m.start,.string m.lead,.slice Atm m.states.length ktm] 29)=wmm at *;obtain⟨x0,x1,x2,x3⟩:=HBa.out.cells;go_wp2_with fail;refine(HVa.out _ HG.out).mono ?_;rintro e w6 ⟨rfl,hg⟩;have HG:=zHd (zaa HG.out hg);have HBa:=zHd (HBa.out.grown hg);have HEm:=zHd (HEm.out.grown hg);clear hg x0 x1 x2 x3;obtain⟨x0,x1,x2,x3⟩:=HBa.out.cells;go_upto_region 9 with(fail);have hal:=zGA w6 (.cells #[.int .i64 a.kind,.slice Ax x.length cx,.slice Ay y.length cy,.int .i64 a.kind,.int .i64 a.start,.string a.lead,.slice Aa a.states.length ca,.bool true] 48) none;have htb:zbV w6 a.kind a (.slice Aa a.states.length ca) (.slice Ax x.length cx) (.slice Ay y.length cy) w6.heap.size true (w6.alloc (.cells #[.int .i64 a.kind,.slice Ax x.length cx,.slice Ay y.length cy,.int .i64 a.kind,.int .i64 a.start,.string a.lead,.slice Aa a.states.length ca,.bool true] 48)):=⟨zaG w6 _,zqab _,hal⟩;have HT:=zHd htb;clear htb hal x0 x1 x2 x3;generalize w6.alloc (.cells #[.int .i64 a.kind,.slice Ax x.length cx,.slice Ay y.length cy,.int .i64 a.kind,.int .i64 a.start,.string a.lead,.slice Aa a.states.length ca,.bool true] 48)=w7 at *;go_wp2_with fail;refine(HST.out w6 HG.out w6.heap.size true _ HT.out).mono ?_;rintro e w8 ⟨t1,ok1,rfl,_,ht1,ft1,hi1⟩;have HT:=zHd ht1;have HI:=zHd hi1;clear ht1 ft1 hi1;go_upto_region 10 with(fail)
 go_cut [62] from 51 to 62 (fun bv wx=>bv=.bool false/\w8.grownBy wx none)
 case first =>
  have HU:Hid (w8.grownBy w8 none):=zHd (World.grownBy.refl _ _);have hba:=HM.out.2.2.2;generalize everyB zbN a=baa at HACa hba;cases baa
  ·obtain⟨x0,x1,x2,x3⟩:=(HBa.out.grown (zaa HT.out.gr HU.out)).cells
   go_wp2_with fail;refine(HACa.out _ (zaa HG.out (zaa HT.out.gr HU.out))).mono ?_;rintro e v46 ⟨rfl,hg⟩;have HU:=zHd (zaa HU.out hg);clear hg;clear x0 x1 x2 x3;clear hba;obtain⟨z0,z1,z2,z3⟩:=(HEm.out.grown (zaa HT.out.gr HU.out)).box.cells;have HV2:=zHd (by have:=zaB ((HEm.out.grown (zaa HT.out.gr HU.out)).st) (zaq HM.out.1);rw[HM.out.1] at this;exact this);go_wp2_with fail;refine(HV2.out).mono ?_;rintro e v47 ⟨rfl,hg⟩;exact zQax
  obtain⟨x0,x1,x2,x3⟩:=(HBa.out.grown (zaa HT.out.gr HU.out)).cells;go_wp2_with fail;refine(HACa.out _ (zaa HG.out (zaa HT.out.gr HU.out))).mono ?_;rintro e v46 ⟨rfl,hg⟩;have HU:=zHd (zaa HU.out hg);clear hg;clear x0 x1 x2 x3;have HBA:=zHd (hba (by first|rfl|trivial));clear hba;obtain⟨z0,z1,z2,z3⟩:=(HEm.out.grown (zaa HT.out.gr HU.out)).box.cells;have HV1:=zHd (by have:=zbE ((HEm.out.grown (zaa HT.out.gr HU.out)).st) (zaq HM.out.1);rw[HBA.out] at this;exact this);go_wp2_with fail;refine(HV1.out).mono ?_;rintro e v48 ⟨rfl,hg⟩;have HU:=zHd (zaa HU.out hg);clear hg;clear z0 z1 z2 z3;obtain⟨z0,z1,z2,z3⟩:=(HEm.out.grown (zaa HT.out.gr HU.out)).box.cells;have HV2:=zHd (by have:=zaB ((HEm.out.grown (zaa HT.out.gr HU.out)).st) (zaq HM.out.1);rw[HM.out.1] at this;exact this);go_wp2_with fail;refine(HV2.out).mono ?_;rintro e v49 ⟨rfl,hg⟩;exact zQax
 case rest =>
  obtain⟨rfl,hgc⟩:=hcut;have HT:=zHd (HT.out.grown hgc);clear hgc;generalize wc=wt2 at *;have d7:=zqbw _ _ 7 _ _ (0,0) HT.out.at';cases ok1
  ·go_wp2_with fail
   exact zQam
  obtain⟨x0,x1,x2,x3⟩:=(HBa.out.grown HT.out.gr).cells;obtain⟨z0,z1,z2,z3⟩:=(HEm.out.grown HT.out.gr).box.cells;have hwant:zav (VL HK.out m x y)->tx t1=tx (VL HK.out m x y):=fun _=>by rw[(HI.out rfl).2];exact zqbz tx HM.out.2.2.1
  have HO:=zHd (zek HK.out (tx t1) ((HEm.out.grown HT.out.gr).st) HM.out.1 HM.out.2.1 (HX.out.grown (zaa HG.out HT.out.gr)) (HY.out.grown (zaa HG.out HT.out.gr)) hwant);clear hwant;go_wp2_with fail;refine HO.out.mono ?_;rintro e v8 ⟨rfl,hg⟩;have HT:=zHd (HT.out.grown hg);clear hg;go_wp2_with fail;exact zQam
def zBO {a:zah}{va:Value}{w:World}(ha:zan w va a)(fa:zaZ a)(zx zy:List Int)(xv yv:Value)(hx:zax w xv zx)(hy:zax w yv zy)(bx:zx.length<=140737488355328)(by':zy.length<=140737488355328) :
  Calls prog 7 #[va,xv,yv] w (zab (.bool true) w):=by
 by_cases hall:(zaC a&&(decide (zx.length+zy.length<=6)&&(zat zx&&zat zy)))=true
 ·have h:=hall
  rw[zqbb,zqbb,zqbb,zqca] at h;obtain⟨x,hx',rfl⟩:=WIn.of hx h.2.2.1;obtain⟨y,hy',rfl⟩:=WIn.of hy h.2.2.2;have hl:=h.2.1;rw[zqbn,zqbn] at hl
  by_cases hvw:validB a=true
  exact zEL ha hvw (zbw h.1) h.1 x y xv yv hx' hy' hl;exact zBN ha fa (zbw h.1) h.1 hvw x y xv yv hx' hy' hl
 exact zBM ha fa zx zy xv yv hx hy bx by' (by simpa using hall)
end Go.Proofs.YtadgpgofcjpnjaaGreatDoor
