/- Part. -/
import Derived.Test.YtadgpgofcjpnjaaGreatDoorZK17
import Derived.Test.YtadgpgofcjpnjaaGreatDoorZK27
import Derived.Test.YtadgpgofcjpnjaaGreatDoorZK39
set_option linter.unusedVariables false
set_option linter.defProp false
set_option linter.unusedSimpArgs false
set_option maxRecDepth 100000
set_option maxHeartbeats 16000000
namespace Go.Proofs.YtadgpgofcjpnjaaGreatDoor
open Go.Proofs.Tryz
open Go.RowKit
set_option maxHeartbeats 64000000 in
def zvF {a:zah}{va:Value}{w:World}(ha:zan w va a)(fa:zaZ a)(n:Int)(most:Int)(zx zy:List Int)(xv yv:Value)(hx:zax w xv zx)(hy:zax w yv zy)(bx:zx.length<=140737488355328)(by':zy.length<=140737488355328)
  (h:(zaC a&&((decide (zx.length+zy.length<=6)&&(zat zx&&zat zy))&&decide (zx.length+zy.length<=4)))=false) :
  Calls prog 8 #[va,.int .i64 n,.int .i64 most,xv,yv] w (zab (.bool true) w):=by
 have HLa:=zHd (fun w' (h:w.grownBy w' none)=>zbf (ha.grown h) fa);have HWD:=zHd (fun w' (h:w.grownBy w' none)=>zdH zx zy xv yv w' (hx.grown h) (hy.grown h) bx by');have c2:∀ q,decide (zx.length+zy.length<=4)=q->decide ((4:Int)<(zx.length:Int)+(zy.length:Int)) = !q:=fun q e=>by subst e;rw[show decide ((4:Int)<(zx.length:Int)+(zy.length:Int))=decide (¬ (zx.length+zy.length<=4)) from decide_eq_decide.2 (by omega),decide_not]
 have c2w:IntKind.i64.wrap ((zx.length:Int)+(zy.length:Int))=(zx.length:Int)+(zy.length:Int):=by rw[zqah];omega
 generalize zaC a=q0 at HLa h;generalize (decide (zx.length+zy.length<=6)&&(zat zx&&zat zy))=q1 at HWD h;generalize hq2:decide (zx.length+zy.length<=4)=q2 at h
 replace c2:=c2 q2 hq2
 clear hq2;obtain⟨Ax,cx,rfl,_⟩:=hx;obtain⟨Ay,cy,rfl,_⟩:=hy;generalize zx.length=lx at *;generalize zy.length=ly at *;have ka:=ha;obtain⟨ua,rfl,hsta⟩:=ha;obtain⟨Aa,ca,usa,rfl,_⟩:=hsta;have g0:=zGA w (.cells #[.int .i64 a.kind,.int .i64 a.start,.string a.lead,.slice Aa a.states.length ca] 29) none;have b0:=zaf.new w a (.slice Aa a.states.length ca);have HG:=zHd g0;have HBa:=zHd b0;clear g0 b0;have HH:=zHd h;have H2:=zHd c2;have H2w:=zHd c2w;clear h bx by' ka fa c2 c2w;go_enter func8,ntmps8;go_upto_region 1 with(fail);generalize w.alloc (.cells #[.int .i64 a.kind,.int .i64 a.start,.string a.lead,.slice Aa a.states.length ca] 29)=W at *;obtain⟨x0,x1,x2,x3⟩:=HBa.out.cells;go_wp2_with fail;refine(HLa.out _ HG.out).mono ?_;rintro e v50 ⟨rfl,hg⟩;have HG:=zHd (zaa HG.out hg);have HBa:=zHd (HBa.out.grown hg);clear hg x0 x1 x2 x3;cases q0
 ·go_wp2_with fail
  exact zQab
 go_wp2_with fail;refine(HWD.out _ HG.out).mono ?_;rintro e v51 ⟨rfl,hg⟩;have HG:=zHd (zaa HG.out hg);have HBa:=zHd (HBa.out.grown hg);clear hg;cases q1
 ·go_wp2_with fail
  exact zQab
 have c4w:=H2w.out;cases q2
 ·have c5:=H2.out
  try simp only[Bool.not_false,Bool.not_true] at c5
  go_wp2_with fail;exact zQab
 have c5:=H2.out
 try simp only[Bool.not_false,Bool.not_true] at c5
 exact zQca
set_option maxHeartbeats 64000000 in
def zvG {a:zah}{va:Value}{w:World}(ha:zan w va a)(fa:zaZ a)(sa:zeT a)(ba:zaC a=true)(n:Int)(most:Int)(hvw:¬ (validB a=true/\0<=n/\n<=most/\most<=30))(x y:List Nat)(xv yv:Value)(hx:WIn w xv x)(hy:WIn w yv y)(hxy:x.length+y.length<=4) :
  Calls prog 8 #[va,.int .i64 n,.int .i64 most,xv,yv] w (zab (.bool true) w):=by
 obtain⟨z0,hz⟩:∃ z,zao=z:=⟨_,rfl⟩;have HLa:=zHd (fun w' (h:w.grownBy w' none)=>by have:=zbf (ha.grown h) fa;rw[ba] at this;exact this);have HVa:=zHd (fun w' (h:w.grownBy w' none)=>zaB (ha.grown h) fa);have HWD:=zHd (fun w' (h:w.grownBy w' none)=>zcx (hx.grown h) (hy.grown h) (by omega));have q4:decide ((4:Int)<(x.length:Int)+(y.length:Int))=false:=by rw[decide_eq_false_iff_not];omega
 have q5:IntKind.i64.wrap ((x.length:Int)+(y.length:Int))=(x.length:Int)+(y.length:Int):=by rw[zqah];omega
 have HQ:=zHd (zAI q4 q5);clear q4 q5
 have HU:=zHd (fun w' (h:w.grownBy w' none)=>by
  have:=zfO (ha.grown h) fa n most (by have:=sa.n;omega) (by have:=sa.n;have:=sa.arcs;omega);rw[show repeatV a n most=(z0,1) by unfold repeatV;rw[if_neg (hvw),hz]] at this;exact this)
 generalize validB a=bva at *;have HH:=zHd hvw;have HX:=zHd hx;have HY:=zHd hy;obtain⟨Ax,cx,rfl⟩:=hx.form;obtain⟨Ay,cy,rfl⟩:=hy.form;have ka:=ha;obtain⟨ua,rfl,hsta⟩:=ha;obtain⟨Aa,ca,usa,rfl,_⟩:=hsta;have g0:=zGA w (.cells #[.int .i64 a.kind,.int .i64 a.start,.string a.lead,.slice Aa a.states.length ca] 29) none;have b0:=zaf.new w a (.slice Aa a.states.length ca);have HG:=zHd g0;have HBa:=zHd b0;clear g0 b0;clear ka hz hvw fa sa ba hx hy hxy HX HY;go_enter func8,ntmps8;go_upto_region 1 with(fail);generalize w.alloc (.cells #[.int .i64 a.kind,.int .i64 a.start,.string a.lead,.slice Aa a.states.length ca] 29)=W at *;obtain⟨x0,x1,x2,x3⟩:=HBa.out.cells;go_wp2_with fail;refine(HLa.out _ HG.out).mono ?_;rintro e v52 ⟨rfl,hg⟩;have HG:=zHd (zaa HG.out hg);have HBa:=zHd (HBa.out.grown hg);clear hg x0 x1 x2 x3;have q4:=HQ.out.1;have q5:=HQ.out.2;go_wp2_with fail;refine(HWD.out _ HG.out).mono ?_;rintro e v53 ⟨rfl,hg⟩;have HG:=zHd (zaa HG.out hg);have HBa:=zHd (HBa.out.grown hg);clear hg;obtain⟨x0,x1,x2,x3⟩:=HBa.out.cells;go_upto_region 3 with(fail);clear q4 q5 HQ;go_wp2_with fail;refine(HU.out _ HG.out).mono ?_;intro e wm h3;obtain⟨Atm,ktm,rfl,hst3,hg3⟩:=h3.open6;have hga:=zGA wm (.cells #[.int .i64 z0.kind,.int .i64 z0.start,.string z0.lead,.slice Atm z0.states.length ktm] 29) none;have hgg:=zaa hg3 hga;have HG:=zHd (zaa HG.out hgg);have HBa:=zHd (HBa.out.grown hgg);have HEm:=zHd (Ex9.new hst3);clear h3 hst3 hg3 hga hgg x0 x1 x2 x3;go_upto_region 4 with(fail);generalize wm.alloc (.cells #[.int .i64 z0.kind,.int .i64 z0.start,.string z0.lead,.slice Atm z0.states.length ktm] 29)=wmm at *;clear HEm;obtain⟨x0,x1,x2,x3⟩:=HBa.out.cells;go_wp2_with fail;refine(HVa.out _ HG.out).mono ?_;rintro e v54 ⟨rfl,hg⟩;have HG:=zHd (zaa HG.out hg);have HBa:=zHd (HBa.out.grown hg);clear hg x0 x1 x2 x3;cases bva
 ·go_wp2_with fail
  exact zQab
 by_cases p0:n<0
 ·have q0:decide (n<0)=true:=by simpa using p0
  have p0':=zHd p0;clear p0;go_wp2_with fail;exact zQab
 have q0:decide (n<0)=false:=by simpa using p0
 by_cases p1:most<n
 ·have q1:decide (most<n)=true:=by simpa using p1
  have p1':=zHd p1;clear p1;go_wp2_with fail;exact zQab
 have q1:decide (most<n)=false:=by simpa using p1
 by_cases p2:(30:Int)<most
 ·have q2:decide ((30:Int)<most)=true:=by simpa using p2
  have p2':=zHd p2;clear p2;go_wp2_with fail;exact zQab
 have q2:decide ((30:Int)<most)=false:=by simpa using p2
 exact absurd HH.out (by simp;omega)
set_option maxHeartbeats 64000000 in
def zyH {a:zah}{va:Value}{w:World}(ha:zan w va a)(hva:validB a=true)(sa:zeT a)(ba:zaC a=true)(x y:List Nat)(xv yv:Value)(hx:WIn w xv x)(hy:WIn w yv y)(hxy:x.length+y.length<=6)(n:Int)(M:Nat)(hn0:0<=n)(hn1:n<=(M:Int))(hM:M<=30)(hxy4:x.length+y.length<=4) :
  Calls prog 8 #[va,.int .i64 n,.int .i64 (M:Int),xv,yv] w (zab (.bool true) w):=by
 have hk:zam a.kind:=(zbQ _).1 (zbY hva);have fa:=zaq hva;have h9:M*(a.states.length+1)<=30*9:=Nat.mul_le_mul hM (by have:=sa.n;omega);have h10:M*(1+zaj a.states+a.states.length)<=30*49:=Nat.mul_le_mul hM (by have:=sa.n;have:=sa.arcs;omega);obtain⟨m,hm⟩:∃ m:zah,m=zaJ (zak a.kind) a n.toNat M:=⟨_,rfl⟩;have hmv:validB m=true:=by rw[hm];exact zjP hva n.toNat M (by omega) (by omega)
 have hmk:m.kind=a.kind:=by rw[hm];rfl
 have hmval:powV hk a M n.toNat (x.drop 0) (y.drop 0)=VL hk m x y:=by rw[hm];exact(zyD hk hva n.toNat M x y).symm
 have hacc:everyB zbN a=true->everyB zbN m=true:=fun h1=>by rw[hm];exact zyb (by rw[<- hm];exact hmv) h1
 have HLa:=zHd (fun w' (h:w.grownBy w' none)=>by have:=zbf (ha.grown h) fa;rw[ba] at this;exact this);have HVa:=zHd (fun w' (h:w.grownBy w' none)=>by have:=zaB (ha.grown h) fa;rw[hva] at this;exact this);have HACa:=zHd (fun w' (h:w.grownBy w' none)=>zbE (ha.grown h) fa);have HWD:=zHd (fun w' (h:w.grownBy w' none)=>zcx (hx.grown h) (hy.grown h) hxy)
 have HBU:=zHd (fun w' (h:w.grownBy w' none)=>by
  have:=zfO (ha.grown h) fa n (M:Int) (by have:=sa.n;omega) (by have:=sa.n;have:=sa.arcs;omega);rw[show repeatV a n (M:Int)=(m,0) by unfold repeatV;rw[if_pos ⟨hva,hn0,hn1,by omega⟩,hm];rfl] at this;exact this)
 have HM:=zHd (zAI hmv (zAI hmk (zAI hmval hacc)));have HK:=zHd hk;have HKM:Hid ((m.kind != a.kind)=false):=zHd (by rw[hmk];simp);have q4:decide ((4:Int)<(x.length:Int)+(y.length:Int))=false:=by rw[decide_eq_false_iff_not];omega
 have q5:IntKind.i64.wrap ((x.length:Int)+(y.length:Int))=(x.length:Int)+(y.length:Int):=by rw[zqah];omega
 have HQ:=zHd (zAI q4 q5);have r1:decide (n<0)=false:=by rw[decide_eq_false_iff_not];omega
 have r2:decide ((M:Int)<n)=false:=by rw[decide_eq_false_iff_not];omega
 have r3:decide ((30:Int)<(M:Int))=false:=by rw[decide_eq_false_iff_not];omega
 have HR:=zHd (zAI r1 (zAI r2 r3));clear q4 q5 r1 r2 r3;have HX:=zHd hx;have HY:=zHd hy;obtain⟨Ax,cx,rfl⟩:=hx.form;obtain⟨Ay,cy,rfl⟩:=hy.form;have ka:=ha;obtain⟨ua,rfl,hsta⟩:=ha;obtain⟨Aa,ca,usa,rfl,_⟩:=hsta;have HST:=zHd (fun w6 (h6:w.grownBy w6 none) g ok wc (ht:zbV w6 a.kind a (.slice Aa a.states.length ca) (.slice Ax x.length cx) (.slice Ay y.length cy) g ok wc)=>zuP hk w6 a (.slice Aa a.states.length ca) (.slice Ax x.length cx) (.slice Ay y.length cy) x y g (ka.grown h6) hva rfl (HX.out.grown h6) (HY.out.grown h6) M n 0 0 (by omega) (by omega) (by omega) (zqaw _) (zqaw _) ok wc ht);have HMM:=zHd hM;have g0:=zGA w (.cells #[.int .i64 a.kind,.int .i64 a.start,.string a.lead,.slice Aa a.states.length ca] 29) none;have b0:=zaf.new w a (.slice Aa a.states.length ca);have HG:=zHd g0;have HBa:=zHd b0;clear g0 b0;clear ka hm hmv hmk hmval hacc hva fa sa ba hx hy hxy hxy4 hn0 hn1 hM h9 h10;go_enter func8,ntmps8;go_upto_region 1 with(fail);generalize w.alloc (.cells #[.int .i64 a.kind,.int .i64 a.start,.string a.lead,.slice Aa a.states.length ca] 29)=W at *;obtain⟨x0,x1,x2,x3⟩:=HBa.out.cells;go_wp2_with fail;refine(HLa.out _ HG.out).mono ?_;rintro e v55 ⟨rfl,hg⟩;have HG:=zHd (zaa HG.out hg);have HBa:=zHd (HBa.out.grown hg);clear hg x0 x1 x2 x3;have q4:=HQ.out.1;have q5:=HQ.out.2;go_wp2_with fail;refine(HWD.out _ HG.out).mono ?_;rintro e v56 ⟨rfl,hg⟩;have HG:=zHd (zaa HG.out hg);have HBa:=zHd (HBa.out.grown hg);clear hg;obtain⟨x0,x1,x2,x3⟩:=HBa.out.cells;go_upto_region 3 with(fail);clear q4 q5 HQ;go_wp2_with fail;refine(HBU.out _ HG.out).mono ?_;intro e wm h3;obtain⟨Atm,ktm,rfl,hst3,hg3⟩:=h3.open6;have hga:=zGA wm (.cells #[.int .i64 m.kind,.int .i64 m.start,.string m.lead,.slice Atm m.states.length ktm] 29) none;have hgg:=zaa hg3 hga;have HG:=zHd (zaa HG.out hgg);have HBa:=zHd (HBa.out.grown hgg);have HEm:=zHd (Ex9.new hst3);clear h3 hst3 hg3 hga hgg x0 x1 x2 x3;go_upto_region 4 with(fail);generalize wm.alloc (.cells #[.int .i64 m.kind,.int .i64 m.start,.string m.lead,.slice Atm m.states.length ktm] 29)=wmm at *;obtain⟨x0,x1,x2,x3⟩:=HBa.out.cells;go_wp2_with fail;refine(HVa.out _ HG.out).mono ?_;rintro e w5 ⟨rfl,hg⟩;have HG:=zHd (zaa HG.out hg);have HBa:=zHd (HBa.out.grown hg);have HEm:=zHd (HEm.out.grown hg);clear hg x0 x1 x2 x3;obtain⟨r1,r2,r3⟩:=HR.out;go_upto_region 8 with(fail);clear r1 r2 r3 HR;go_upto_region 8 with(fail)
 go_cut [87] from 69 to 87 (fun bv wx=>bv=.bool false/\w5.grownBy wx none)
 case first =>
  have HU:Hid (w5.grownBy w5 none):=zHd (World.grownBy.refl _ _);have hba:=HM.out.2.2.2;generalize everyB zbN a=baa at HACa hba;cases baa
  ·obtain⟨x0,x1,x2,x3⟩:=(HBa.out.grown HU.out).cells
   go_wp2_with fail;refine(HACa.out _ (zaa HG.out HU.out)).mono ?_;rintro e v57 ⟨rfl,hg⟩;have HU:=zHd (zaa HU.out hg);clear hg;clear x0 x1 x2 x3;clear hba;obtain⟨z0,z1,z2,z3⟩:=(HEm.out.grown HU.out).box.cells;have HV2:=zHd (by have:=zaB ((HEm.out.grown HU.out).st) (zaq HM.out.1);rw[HM.out.1] at this;exact this);go_wp2_with fail;refine(HV2.out).mono ?_;rintro e v58 ⟨rfl,hg⟩;exact zQbb
  obtain⟨x0,x1,x2,x3⟩:=(HBa.out.grown HU.out).cells;go_wp2_with fail;refine(HACa.out _ (zaa HG.out HU.out)).mono ?_;rintro e v57 ⟨rfl,hg⟩;have HU:=zHd (zaa HU.out hg);clear hg;clear x0 x1 x2 x3;have HBA:=zHd (hba (by first|rfl|trivial));clear hba;obtain⟨z0,z1,z2,z3⟩:=(HEm.out.grown HU.out).box.cells;have HV1:=zHd (by have:=zbE ((HEm.out.grown HU.out).st) (zaq HM.out.1);rw[HBA.out] at this;exact this);go_wp2_with fail;refine(HV1.out).mono ?_;rintro e v59 ⟨rfl,hg⟩;have HU:=zHd (zaa HU.out hg);clear hg;clear z0 z1 z2 z3;obtain⟨z0,z1,z2,z3⟩:=(HEm.out.grown HU.out).box.cells;have HV2:=zHd (by have:=zaB ((HEm.out.grown HU.out).st) (zaq HM.out.1);rw[HM.out.1] at this;exact this);go_wp2_with fail;refine(HV2.out).mono ?_;rintro e v60 ⟨rfl,hg⟩;exact zQbb
 case rest =>
  obtain⟨rfl,hgc⟩:=hcut;have HG:=zHd (zaa HG.out hgc);have HBa:=zHd (HBa.out.grown hgc);have HEm:=zHd (HEm.out.grown hgc);clear hgc;generalize wc=w6 at *
  by_cases p3:(3:Int)<(M:Int)
  ·have q3:decide ((3:Int)<(M:Int))=true:=by simpa using p3
   clear p3;go_wp2_with fail;exact zQab
  have q3:decide ((3:Int)<(M:Int))=false:=by simpa using p3
  clear p3;obtain⟨x0,x1,x2,x3⟩:=HBa.out.cells;go_upto_region 13 with(fail);have hal:=zGA w6 (.cells #[.int .i64 a.kind,.slice Ax x.length cx,.slice Ay y.length cy,.int .i64 a.kind,.int .i64 a.start,.string a.lead,.slice Aa a.states.length ca,.bool true] 48) none;have htb:zbV w6 a.kind a (.slice Aa a.states.length ca) (.slice Ax x.length cx) (.slice Ay y.length cy) w6.heap.size true (w6.alloc (.cells #[.int .i64 a.kind,.slice Ax x.length cx,.slice Ay y.length cy,.int .i64 a.kind,.int .i64 a.start,.string a.lead,.slice Aa a.states.length ca,.bool true] 48)):=⟨zaG w6 _,zqab _,hal⟩;have HT:=zHd htb;clear htb hal x0 x1 x2 x3;generalize w6.alloc (.cells #[.int .i64 a.kind,.slice Ax x.length cx,.slice Ay y.length cy,.int .i64 a.kind,.int .i64 a.start,.string a.lead,.slice Aa a.states.length ca,.bool true] 48)=w7 at *;clear q3;go_wp2_with fail;refine(HST.out w6 HG.out w6.heap.size true _ HT.out).mono ?_;rintro e w8 ⟨t1,ok1,rfl,_,ht1,ft1,hi1⟩;have HT:=zHd ht1;have HI:=zHd hi1;clear ht1 ft1 hi1;have d7:=zqbw _ _ 7 _ _ (0,0) HT.out.at';cases ok1
  ·go_wp2_with fail
   exact zQam
  obtain⟨x0,x1,x2,x3⟩:=(HBa.out.grown HT.out.gr).cells;obtain⟨z0,z1,z2,z3⟩:=(HEm.out.grown HT.out.gr).box.cells;have hwant:zav (VL HK.out m x y)->tx t1=tx (VL HK.out m x y):=fun _=>by rw[(HI.out rfl).2];exact zqbz tx HM.out.2.2.1
  have HO:=zHd (zek HK.out (tx t1) ((HEm.out.grown HT.out.gr).st) HM.out.1 HM.out.2.1 (HX.out.grown (zaa HG.out HT.out.gr)) (HY.out.grown (zaa HG.out HT.out.gr)) hwant);clear hwant;go_wp2_with fail;refine HO.out.mono ?_;rintro e v8 ⟨rfl,hg⟩;have HT:=zHd (HT.out.grown hg);clear hg;go_wp2_with fail;exact zQam
def zvH {a:zah}{va:Value}{w:World}(ha:zan w va a)(fa:zaZ a)(n most:Int)(zx zy:List Int)(xv yv:Value)(hx:zax w xv zx)(hy:zax w yv zy)(bx:zx.length<=140737488355328)(by':zy.length<=140737488355328) :
  Calls prog 8 #[va,.int .i64 n,.int .i64 most,xv,yv] w (zab (.bool true) w):=by
 by_cases hall:(zaC a&&((decide (zx.length+zy.length<=6)&&(zat zx&&zat zy))&&decide (zx.length+zy.length<=4)))=true
 ·have h:=hall
  rw[zqbb,zqbb,zqbb,zqbb,zqca,zqca] at h;obtain⟨x,hx',rfl⟩:=WIn.of hx h.2.1.2.1;obtain⟨y,hy',rfl⟩:=WIn.of hy h.2.1.2.2;have hl:=h.2.1.1;have hl4:=h.2.2;rw[zqbn,zqbn] at hl hl4
  by_cases hvw:validB a=true/\0<=n/\n<=most/\most<=30
  ·obtain⟨M,rfl⟩:∃ M:Nat,most=(M:Int):=⟨most.toNat,by omega⟩
   exact zyH ha hvw.1 (zbw h.1) h.1 x y xv yv hx' hy' hl n M hvw.2.1 hvw.2.2.1 (by omega) hl4
  exact zvG ha fa (zbw h.1) h.1 n most hvw x y xv yv hx' hy' hl4
 exact zvF ha fa n most zx zy xv yv hx hy bx by' (by simpa using hall)
end Go.Proofs.YtadgpgofcjpnjaaGreatDoor
