/- Part. -/
import Derived.Test.YtadgpgofcjpnjaaGreatDoorZK27
import Derived.Test.YtadgpgofcjpnjaaGreatDoorZK17
set_option linter.unusedVariables false
set_option linter.defProp false
set_option linter.unusedSimpArgs false
set_option maxRecDepth 100000
set_option maxHeartbeats 16000000
namespace Go.Proofs.YtadgpgofcjpnjaaGreatDoor
open Go.Proofs.Tryz
open Go.RowKit
structure ziQ (k:Int)(n c:Nat)(m:zah):Prop where
 val:validB m=true
 kind:m.kind=k
 len:m.states.length<=n
 arcs:zaj m.states<=c
structure zdI (k:Int)(n c:Nat)(m:zah):Prop extends ziQ k n c m where
 lead:m.lead.size<=40
def zjU {k:Int}(hk:zam k):(zak k).size<=40:=by
 rcases hk with rfl|rfl|rfl <;> decide +kernel
section
variable {k:Int} {a b:zah} {va vb:Value} {w:World} {n1 c1 n2 c2:Nat}
def ziQ.wlead (h:ziQ k n1 c1 a):wgtB k a.lead=true:=by have:=zdc h.val;rw[h.kind] at this;exact this
def zje (hk:zam k)(ha:ziQ k n1 c1 a)(hb:ziQ k n2 c2 b)(h1:1+n1+n2<=3000)(h2:2+c1+c2<=30000):zdI k (1+n1+n2) (2+c1+c2) (zbA (zak k) a b) where
 val:=by have:=zkz ha.val hb.val (ha.kind.trans hb.kind.symm) (by have:=ha.len;have:=hb.len;omega) (by have:=ha.arcs;have:=hb.arcs;omega);rw[ha.kind] at this;exact this
 kind:=ha.kind
 len:=by rw[zsf];have:=ha.len;have:=hb.len;omega
 arcs:=by rw[zql];have:=ha.arcs;have:=hb.arcs;omega
 lead:=zjU hk
noncomputable def catL (hk:zam k)(a b:zah):ByteArray:=tx ((srE k hk).mul (vE hk a.lead) (vE hk b.lead))
def zgJ (hk:zam k)(ha:zdI k n1 c1 a)(hb:zdI k n2 c2 b)(h1:n2+n1<=3000)(h2:c2+c1+n1<=30000):ziQ k (n2+n1) (c2+c1+n1) (zba (catL hk a b) a b) where
 val:=by
  have hl:=zoZ hk ha.wlead hb.wlead ha.lead hb.lead;have hl2:wgtB a.kind (catL hk a b)=true:=by rw[ha.kind];exact hl
  exact zjO ha.val hb.val (ha.kind.trans hb.kind.symm) hl2 (by have:=ha.len;have:=hb.len;omega) (by have:=ha.len;have:=ha.arcs;have:=hb.arcs;omega)
 kind:=ha.kind
 len:=by rw[zqm];have:=ha.len;have:=hb.len;omega
 arcs:=zqam (zok _ _ _) (by have:=ha.len;have:=ha.arcs;have:=hb.arcs;omega)
def zBQ (hk:zam k)(ha:ziQ k n1 c1 a)(h1:1+n1<=3000)(h2:1+c1+n1<=30000):zdI k (1+n1) (1+c1+n1) (zbt (zak k) a) where
 val:=by have:=ziX ha.val (by have:=ha.len;omega) (by have:=ha.len;have:=ha.arcs;omega);rw[ha.kind] at this;exact this
 kind:=ha.kind
 len:=by rw[zuw];have:=ha.len;omega
 arcs:=zqam (zsg _ _) (by have:=ha.len;have:=ha.arcs;omega)
 lead:=zjU hk
def zkB (hk:zam k)(ha:ziQ k n1 c1 a)(n most:Nat)(h1:1+most*(n1+1)<=3000)(h2:1+most*(1+c1+n1)<=30000):zdI k (1+most*(n1+1)) (1+most*(1+c1+n1)) (zaJ (zak k) a n most) where
 val:=by
  have e1:most*(a.states.length+1)<=most*(n1+1):=Nat.mul_le_mul (zqab _) (by have:=ha.len;omega);have e2:most*(1+zaj a.states+a.states.length)<=most*(1+c1+n1):=Nat.mul_le_mul (zqab _) (by have:=ha.len;have:=ha.arcs;omega);have:=zjP ha.val n most (by omega) (by omega);rw[ha.kind] at this;exact this
 kind:=ha.kind
 len:=by
  have e1:most*(a.states.length+1)<=most*(n1+1):=Nat.mul_le_mul (zqab _) (by have:=ha.len;omega);rw[zgw];omega
 arcs:=zqam (zol _ _ _ _) (by
  have e2:most*(1+zaj a.states+a.states.length)<=most*(1+c1+n1):=Nat.mul_le_mul (zqab _) (by have:=ha.len;have:=ha.arcs;omega);omega)
 lead:=zjU hk
def zqx (hk:zam k):zdI k 1 0 (zbF k (zak k) (zak k) [] []) where
 val:=zgz ((zbQ _).2 hk) (zeG ((zbQ _).2 hk)) (fun s h=>by cases h) (fun s h=>by cases h) (by decide) (by decide)
 kind:=rfl
 len:=by rw[zjJ];simp
 arcs:=by simp[zbF,zaj]
 lead:=zjU hk
def zlJ (hk:zam k)(Ha:zan w va a)(Hb:zan w vb b)(ha:ziQ k n1 c1 a)(hb:ziQ k n2 c2 b)(h1:n1+n2+1<=3000)(h2:c1+c2+2<=30000):Calls prog 26 #[va,vb] w (zbb (zbA (zak k) a b,0) w):=by
 have:=zhL Ha Hb (zaq ha.val) (zaq hb.val) (by have:=ha.len;have:=hb.len;omega) (by have:=ha.arcs;have:=hb.arcs;omega);rw[show unionV a b=(zbA (zak k) a b,0) by unfold unionV;rw[if_pos (zkp ha.val hb.val (hb.kind.trans ha.kind.symm)),ha.kind]] at this;exact this
def ziH (hk:zam k)(Ha:zan w va a)(Hb:zan w vb b)(ha:zdI k n1 c1 a)(hb:zdI k n2 c2 b)(h1:n1+n2<=3000)(h2:c1+c2+n1<=30000):Calls prog 32 #[va,vb] w (zbb (zba (catL hk a b) a b,0) w):=by
 have:=zfP Ha Hb (zaq ha.val) (zaq hb.val) (by have:=ha.len;have:=hb.len;omega) (by have:=ha.len;have:=ha.arcs;have:=hb.arcs;omega) (catL hk a b) (fun _=>by rw[ha.kind];exact zjT hk ha.wlead hb.wlead ha.lead hb.lead);rw[show concatV (catL hk a b) a b=(zba (catL hk a b) a b,0) by unfold concatV;rw[if_pos (zkp ha.val hb.val (hb.kind.trans ha.kind.symm))]] at this;exact this
def zGI (hk:zam k)(Ha:zan w va a)(ha:ziQ k n1 c1 a)(h1:1+n1<=3000)(h2:1+c1+n1<=30000):Calls prog 34 #[va] w (zbb (zbt (zak k) a,0) w):=by
 have:=ziD Ha (zaq ha.val) (by have:=ha.len;omega) (by have:=ha.len;have:=ha.arcs;omega);rw[show starV a=(zbt (zak k) a,0) by unfold starV;rw[if_pos ha.val,ha.kind]] at this;exact this
def znj (hk:zam k)(Ha:zan w va a)(ha:ziQ k n1 c1 a)(n most:Nat)(h3:n<=most)(h4:most<=30)(h1:31+30*n1<=3000)(h2:30*(c1+n1+1)<=30000):Calls prog 36 #[va,.int .i64 (n:Int),.int .i64 (most:Int)] w (zbb (zaJ (zak k) a n most,0) w):=by
 have:=zfO Ha (zaq ha.val) (n:Int) (most:Int) (by have:=ha.len;omega) (by have:=ha.len;have:=ha.arcs;omega);rw[show repeatV a (n:Int) (most:Int)=(zaJ (zak k) a n most,0) by unfold repeatV;rw[if_pos ⟨ha.val,by omega,by omega,by omega⟩,ha.kind];rfl] at this;exact this
def zEO (hk:zam k):Calls prog 14 #[.int .i64 k,.slice none 0 0,.slice none 0 0,.string (zak k)] w (zbb (zbF k (zak k) (zak k) [] [],0) w):=by
 have h:=zep k [] [] (.slice none 0 0) (.slice none 0 0) (zak k) w (zhn w).at' (zhn w).at' (by have:=zjU hk;unfold maxLen;omega);rw[show wordV k [] [] (zak k)=(zbF k (zak k) (zak k) [] [],0) by unfold wordV;rw[if_pos ⟨by decide,by decide,zeG ((zbQ _).2 hk)⟩];rfl] at h;exact h
def znk (hk:zam k)(ha:validB a=true)(hb:validB b=true)(u v:List Nat):VL hk (zbA (zak k) a b) u v=(srE k hk).add (VL hk a u v) (VL hk b u v) :=
 ziC (S:=srE k hk) (zcB hk) (zcC hk) (zch hk) (zbB ha) (zbB hb) u v
def zhP (hk:zam k)(ha:zdI k n1 c1 a)(hb:zdI k n2 c2 b)(u v:List Nat):VL hk (zba (catL hk a b) a b) u v=sp (srE k hk) u v (fun p q r s=>(srE k hk).mul (VL hk a p r) (VL hk b q s)) :=
 zly (S:=srE k hk) (zcB hk) (zcC hk) (zpa hk ha.wlead hb.wlead ha.lead hb.lead) (zbB ha.val) (zbB hb.val) u v
def zyI (hk:zam k){c:zah}{n3 c3:Nat}(ha:zdI k n1 c1 a)(hb:zdI k n2 c2 b)(hc:zdI k n3 c3 c)(hu:zdI k (1+n1+n2) (2+c1+c2) (zbA (zak k) a b))(v1:validB (zba (catL hk a c) a c)=true)(v2:validB (zba (catL hk b c) b c)=true)(u v:List Nat) :
  VL hk (zba (catL hk (zbA (zak k) a b) c) (zbA (zak k) a b) c) u v=VL hk (zbA (zak k) (zba (catL hk a c) a c) (zba (catL hk b c) b c)) u v:=by
 rw[zhP hk hu hc,znk hk v1 v2,zhP hk ha hc,zhP hk hb hc,<- zmD];exact zcP (fun p q r s _ _=>by rw[znk hk ha.val hb.val,(srE k hk).add_mul])
def zEP (hk:zam k)(ha:zdI k n1 c1 a)(hs:zdI k n2 c2 (zbt (zak k) a))(vt:validB (zba (catL hk a (zbt (zak k) a)) a (zbt (zak k) a))=true){u v:List Nat}(hu:∀ s∈u,1<=s)(hv:∀ s∈v,1<=s) :
  VL hk (zbt (zak k) a) u v=VL hk (zbA (zak k) (zbF k (zak k) (zak k) [] []) (zba (catL hk a (zbt (zak k) a)) a (zbt (zak k) a))) u v:=by
 rw[znk hk (zqx hk).val vt,zhP hk ha hs];refine(zyi (S:=srE k hk) (zcB hk) (zcC hk) (zch hk) (zeI hk) (zbB ha.val) u v).trans ?_;congr 1;exact((zoO (S:=srE k hk) (zcB hk) (zcC hk) k (zch hk) (zeI hk) (zak k) (x:=[]) (y:=[]) (fun s h=>by cases h) (fun s h=>by cases h) hu hv).trans (by rw[zch];rfl)).symm
def zyJ (hk:zam k)(ha:validB a=true)(h1:zdI k n1 c1 (zaJ (zak k) a 1 1))(h2:zdI k n2 c2 (zaJ (zak k) a 0 2))(u v:List Nat) :
  VL hk (zba (catL hk (zaJ (zak k) a 1 1) (zaJ (zak k) a 0 2)) (zaJ (zak k) a 1 1) (zaJ (zak k) a 0 2)) u v=VL hk (zaJ (zak k) a 1 3) u v:=by
 rw[zhP hk h1 h2];exact(zuz (S:=srE k hk) (zcB hk) (zcC hk) (zch hk) (zbB ha) (zeI hk) u v).symm
end
set_option maxHeartbeats 64000000 in
def zEQ {a:zah}{va:Value}{b:zah}{vb:Value}{c:zah}{vc:Value}{w:World}(ha:zan w va a)(fa:zaZ a)(hb:zan w vb b)(fb:zaZ b)(hc:zan w vc c)(fc:zaZ c)(zx zy:List Int)(xv yv:Value)(hx:zax w xv zx)(hy:zax w yv zy)(bx:zx.length<=140737488355328)(by':zy.length<=140737488355328)
  (h:(zaC a&&(zaC b&&(zaC c&&((decide (zx.length+zy.length<=6)&&(zat zx&&zat zy))&&(decide (zx.length+zy.length<=4)&&(validB a&&(validB b&&(validB c&&(decide (a.kind=b.kind)&&decide (a.kind=c.kind))))))))))=false) :
  Calls prog 10 #[va,vb,vc,xv,yv] w (zab (.bool true) w):=by
 have HLa:=zHd (fun w' (h:w.grownBy w' none)=>zbf (ha.grown h) fa);have HLb:=zHd (fun w' (h:w.grownBy w' none)=>zbf (hb.grown h) fb);have HLc:=zHd (fun w' (h:w.grownBy w' none)=>zbf (hc.grown h) fc);have HWD:=zHd (fun w' (h:w.grownBy w' none)=>zdH zx zy xv yv w' (hx.grown h) (hy.grown h) bx by');have HVa:=zHd (fun w' (h:w.grownBy w' none)=>zaB (ha.grown h) fa);have HVb:=zHd (fun w' (h:w.grownBy w' none)=>zaB (hb.grown h) fb);have HVc:=zHd (fun w' (h:w.grownBy w' none)=>zaB (hc.grown h) fc);have c4:∀ q,decide (zx.length+zy.length<=4)=q->decide ((4:Int)<(zx.length:Int)+(zy.length:Int)) = !q:=fun q e=>by subst e;rw[show decide ((4:Int)<(zx.length:Int)+(zy.length:Int))=decide (¬ (zx.length+zy.length<=4)) from decide_eq_decide.2 (by omega),decide_not]
 have c4w:IntKind.i64.wrap ((zx.length:Int)+(zy.length:Int))=(zx.length:Int)+(zy.length:Int):=by rw[zqah];omega
 have c8:∀ q,decide (a.kind=b.kind)=q->(a.kind != b.kind) = !q:=fun q e=>by subst e;by_cases e:a.kind=b.kind <;> simp[e]
 have c9:∀ q,decide (a.kind=c.kind)=q->(a.kind != c.kind) = !q:=fun q e=>by subst e;by_cases e:a.kind=c.kind <;> simp[e]
 generalize zaC a=q0 at HLa h;generalize zaC b=q1 at HLb h;generalize zaC c=q2 at HLc h;generalize (decide (zx.length+zy.length<=6)&&(zat zx&&zat zy))=q3 at HWD h;generalize hq4:decide (zx.length+zy.length<=4)=q4 at h
 replace c4:=c4 q4 hq4
 clear hq4;generalize validB a=q5 at HVa h;generalize validB b=q6 at HVb h;generalize validB c=q7 at HVc h;generalize hq8:decide (a.kind=b.kind)=q8 at h
 replace c8:=c8 q8 hq8
 clear hq8;generalize hq9:decide (a.kind=c.kind)=q9 at h
 replace c9:=c9 q9 hq9
 clear hq9;obtain⟨Ax,cx,rfl,_⟩:=hx;obtain⟨Ay,cy,rfl,_⟩:=hy;generalize zx.length=lx at *;generalize zy.length=ly at *;have ka:=ha;obtain⟨ua,rfl,hsta⟩:=ha;obtain⟨Aa,ca,usa,rfl,_⟩:=hsta;have kb:=hb;obtain⟨ub,rfl,hstb⟩:=hb;obtain⟨Ab,cb,usb,rfl,_⟩:=hstb;have kc:=hc;obtain⟨uc,rfl,hstc⟩:=hc;obtain⟨Ac,cc,usc,rfl,_⟩:=hstc;have g0:=zGA w (.cells #[.int .i64 a.kind,.int .i64 a.start,.string a.lead,.slice Aa a.states.length ca] 29) none;have b0:=zaf.new w a (.slice Aa a.states.length ca);have g1:=zGA (w.alloc (.cells #[.int .i64 a.kind,.int .i64 a.start,.string a.lead,.slice Aa a.states.length ca] 29)) (.cells #[.int .i64 b.kind,.int .i64 b.start,.string b.lead,.slice Ab b.states.length cb] 29) none;have b1:=zaf.new (w.alloc (.cells #[.int .i64 a.kind,.int .i64 a.start,.string a.lead,.slice Aa a.states.length ca] 29)) b (.slice Ab b.states.length cb);rw[show(w.alloc (.cells #[.int .i64 a.kind,.int .i64 a.start,.string a.lead,.slice Aa a.states.length ca] 29)).heap.size=w.heap.size+1 by simp] at b1;have g2:=zGA ((w.alloc (.cells #[.int .i64 a.kind,.int .i64 a.start,.string a.lead,.slice Aa a.states.length ca] 29)).alloc (.cells #[.int .i64 b.kind,.int .i64 b.start,.string b.lead,.slice Ab b.states.length cb] 29)) (.cells #[.int .i64 c.kind,.int .i64 c.start,.string c.lead,.slice Ac c.states.length cc] 29) none;have b2:=zaf.new ((w.alloc (.cells #[.int .i64 a.kind,.int .i64 a.start,.string a.lead,.slice Aa a.states.length ca] 29)).alloc (.cells #[.int .i64 b.kind,.int .i64 b.start,.string b.lead,.slice Ab b.states.length cb] 29)) c (.slice Ac c.states.length cc);rw[show((w.alloc (.cells #[.int .i64 a.kind,.int .i64 a.start,.string a.lead,.slice Aa a.states.length ca] 29)).alloc (.cells #[.int .i64 b.kind,.int .i64 b.start,.string b.lead,.slice Ab b.states.length cb] 29)).heap.size=w.heap.size+2 by simp] at b2;have HG:=zHd (zaa g0 (zaa g1 g2));have Ba:=zHd (zaf.grown (zaf.grown b0 g1) g2);have Bb:=zHd (zaf.grown b1 g2);have Bc:=zHd b2;clear g0 b0 g1 b1 g2 b2;have HH:=zHd h;have H4:=zHd c4;have H4w:=zHd c4w;have H8:=zHd c8;have H9:=zHd c9;clear h bx by' ka fa kb fb kc fc c4 c8 c9 c4w;go_enter func10,ntmps10;go_upto_region 1 with(fail);generalize ((w.alloc (.cells #[.int .i64 a.kind,.int .i64 a.start,.string a.lead,.slice Aa a.states.length ca] 29)).alloc (.cells #[.int .i64 b.kind,.int .i64 b.start,.string b.lead,.slice Ab b.states.length cb] 29)).alloc (.cells #[.int .i64 c.kind,.int .i64 c.start,.string c.lead,.slice Ac c.states.length cc] 29)=W at *;obtain⟨x0,x1,x2,x3⟩:=Ba.out.cells;go_wp2_with fail;refine(HLa.out _ HG.out).mono ?_;rintro e v61 ⟨rfl,hg⟩;have HG:=zHd (zaa HG.out hg);have Ba:=zHd (Ba.out.grown hg);have Bb:=zHd (Bb.out.grown hg);have Bc:=zHd (Bc.out.grown hg);clear hg x0 x1 x2 x3;cases q0
 ·go_wp2_with fail
  exact zQab
 obtain⟨y0,y1,y2,y3⟩:=Bb.out.cells;go_wp2_with fail;refine(HLb.out _ HG.out).mono ?_;rintro e v62 ⟨rfl,hg⟩;have HG:=zHd (zaa HG.out hg);have Ba:=zHd (Ba.out.grown hg);have Bb:=zHd (Bb.out.grown hg);have Bc:=zHd (Bc.out.grown hg);clear hg y0 y1 y2 y3;cases q1
 ·go_wp2_with fail
  exact zQab
 obtain⟨z0,z1,z2,z3⟩:=Bc.out.cells;go_wp2_with fail;refine(HLc.out _ HG.out).mono ?_;rintro e v63 ⟨rfl,hg⟩;have HG:=zHd (zaa HG.out hg);have Ba:=zHd (Ba.out.grown hg);have Bb:=zHd (Bb.out.grown hg);have Bc:=zHd (Bc.out.grown hg);clear hg z0 z1 z2 z3;cases q2
 ·go_wp2_with fail
  exact zQab
 go_wp2_with fail;refine(HWD.out _ HG.out).mono ?_;rintro e v64 ⟨rfl,hg⟩;have HG:=zHd (zaa HG.out hg);have Ba:=zHd (Ba.out.grown hg);have Bb:=zHd (Bb.out.grown hg);have Bc:=zHd (Bc.out.grown hg);clear hg;cases q3
 ·go_wp2_with fail
  exact zQab
 have c4w:=H4w.out;cases q4
 ·have c5:=H4.out
  try simp only[Bool.not_false,Bool.not_true] at c5
  go_wp2_with fail;exact zQab
 have c5:=H4.out
 try simp only[Bool.not_false,Bool.not_true] at c5
 obtain⟨x0,x1,x2,x3⟩:=Ba.out.cells;go_wp2_with fail;refine(HVa.out _ HG.out).mono ?_;rintro e v65 ⟨rfl,hg⟩;have HG:=zHd (zaa HG.out hg);have Ba:=zHd (Ba.out.grown hg);have Bb:=zHd (Bb.out.grown hg);have Bc:=zHd (Bc.out.grown hg);clear hg x0 x1 x2 x3;cases q5
 ·go_wp2_with fail
  exact zQab
 obtain⟨y0,y1,y2,y3⟩:=Bb.out.cells;go_wp2_with fail;refine(HVb.out _ HG.out).mono ?_;rintro e v66 ⟨rfl,hg⟩;have HG:=zHd (zaa HG.out hg);have Ba:=zHd (Ba.out.grown hg);have Bb:=zHd (Bb.out.grown hg);have Bc:=zHd (Bc.out.grown hg);clear hg y0 y1 y2 y3;cases q6
 ·go_wp2_with fail
  exact zQab
 obtain⟨z0,z1,z2,z3⟩:=Bc.out.cells;go_wp2_with fail;refine(HVc.out _ HG.out).mono ?_;rintro e v67 ⟨rfl,hg⟩;have HG:=zHd (zaa HG.out hg);have Ba:=zHd (Ba.out.grown hg);have Bb:=zHd (Bb.out.grown hg);have Bc:=zHd (Bc.out.grown hg);clear hg z0 z1 z2 z3;cases q7
 ·go_wp2_with fail
  exact zQab
 obtain⟨x0,x1,x2,x3⟩:=Ba.out.cells;obtain⟨y0,y1,y2,y3⟩:=Bb.out.cells;cases q8
 ·have c5:=H8.out
  try simp only[Bool.not_false,Bool.not_true] at c5
  go_wp2_with fail;exact zQab
 have c5:=H8.out
 try simp only[Bool.not_false,Bool.not_true] at c5
 obtain⟨x0,x1,x2,x3⟩:=Ba.out.cells;obtain⟨z0,z1,z2,z3⟩:=Bc.out.cells;cases q9
 ·have c5:=H9.out
  try simp only[Bool.not_false,Bool.not_true] at c5
  go_wp2_with fail;exact zQab
 have c5:=H9.out
 try simp only[Bool.not_false,Bool.not_true] at c5
 exact zQca
def zuQ {wm:World}{m:zah}{A:Option Addr}{c g B:Nat}(hb:zaf wm g zao (.slice none 0 0))(hst:StN wm B (.slice A m.states.length c) m.states)(hg:g<B) :
  Ex9 ((((wm.setCell ⟨g,0,none⟩ (.int .i64 m.kind)).setCell ⟨g,1,none⟩ (.int .i64 m.start)).setCell ⟨g,2,none⟩ (.string m.lead)).setCell ⟨g,3,none⟩ (.slice A m.states.length c)) m g A c m.states.length /\
  wm.grownBy ((((wm.setCell ⟨g,0,none⟩ (.int .i64 m.kind)).setCell ⟨g,1,none⟩ (.int .i64 m.start)).setCell ⟨g,2,none⟩ (.string m.lead)).setCell ⟨g,3,none⟩ (.slice A m.states.length c)) (some g):=by
 have hgr:wm.grownBy ((((wm.setCell ⟨g,0,none⟩ (.int .i64 m.kind)).setCell ⟨g,1,none⟩ (.int .i64 m.start)).setCell ⟨g,2,none⟩ (.string m.lead)).setCell ⟨g,3,none⟩ (.slice A m.states.length c)) (some g) :=
  World.grownBy.trans (zad wm ⟨g,0,none⟩ _) (World.grownBy.trans (zad _ ⟨g,1,none⟩ _) (World.grownBy.trans (zad _ ⟨g,2,none⟩ _) (zad _ ⟨g,3,none⟩ _)))
 refine⟨⟨?_,⟨_,rfl,(hst.kept (zfv hgr hg)).sl⟩⟩,hgr⟩;have h0:=heap_setCell_same wm g 0 _ _ (.int .i64 m.kind) hb;have h1:=heap_setCell_same _ g 1 _ _ (.int .i64 m.start) h0;have h2:=heap_setCell_same _ g 2 _ _ (.string m.lead) h1;have h3:=heap_setCell_same _ g 3 _ _ (.slice A m.states.length c) h2;unfold zaf;rw[h3];rfl
set_option maxHeartbeats 64000000 in
def zGJ {a b c:zah}{va vb vc:Value}{w:World}{k:Int}(hk:zam k)(ha:zan w va a)(hb:zan w vb b)(hc:zan w vc c)(Fa:zdI k 8 40 a)(Fb:zdI k 8 40 b)(Fc:zdI k 8 40 c)(ba:zaC a=true)(bb:zaC b=true)(bc:zaC c=true)(x y:List Nat)(xv yv:Value)(hx:WIn w xv x)(hy:WIn w yv y)(hxy:x.length+y.length<=4) :
  Calls prog 10 #[va,vb,vc,xv,yv] w (zab (.bool true) w):=by
 have HLa:=zHd (fun w' (h:w.grownBy w' none)=>by have:=zbf (ha.grown h) (zaq Fa.val);rw[ba] at this;exact this);have HVa:=zHd (fun w' (h:w.grownBy w' none)=>by have:=zaB (ha.grown h) (zaq Fa.val);rw[Fa.val] at this;exact this);have HLb:=zHd (fun w' (h:w.grownBy w' none)=>by have:=zbf (hb.grown h) (zaq Fb.val);rw[bb] at this;exact this);have HVb:=zHd (fun w' (h:w.grownBy w' none)=>by have:=zaB (hb.grown h) (zaq Fb.val);rw[Fb.val] at this;exact this);have HLc:=zHd (fun w' (h:w.grownBy w' none)=>by have:=zbf (hc.grown h) (zaq Fc.val);rw[bc] at this;exact this);have HVc:=zHd (fun w' (h:w.grownBy w' none)=>by have:=zaB (hc.grown h) (zaq Fc.val);rw[Fc.val] at this;exact this);have HWD:=zHd (fun w' (h:w.grownBy w' none)=>zcx (hx.grown h) (hy.grown h) (by omega));have q4:decide ((4:Int)<(x.length:Int)+(y.length:Int))=false:=by rw[decide_eq_false_iff_not];omega
 have q5:IntKind.i64.wrap ((x.length:Int)+(y.length:Int))=(x.length:Int)+(y.length:Int):=by rw[zqah];omega
 have q6:(a.kind != b.kind)=false:=by rw[Fa.kind,Fb.kind];simp
 have q7:(a.kind != c.kind)=false:=by rw[Fa.kind,Fc.kind];simp
 have HQ:=zHd (zAI q4 (zAI q5 (zAI q6 q7)));clear q4 q5 q6 q7;obtain⟨mu,hmu⟩:∃ m:zah,m=zbA (zak k) a b:=⟨_,rfl⟩;have Fu:=zje hk Fa.toziQ Fb.toziQ (by decide) (by decide);rw[<- hmu] at Fu
 have Cu:∀ (w':World) (v1 v2:Value) (H1:zan w' v1 a) (H2:zan w' v2 b),Calls prog 26 #[v1,v2] w' (zbb (mu,0) w'):=by
  intros
  rename_i H1 H2
  rw[hmu];exact zlJ hk H1 H2 Fa.toziQ Fb.toziQ (by decide) (by decide)
 obtain⟨mv,hmv⟩:∃ m:zah,m=zbA (zak k) b a:=⟨_,rfl⟩;have Fv:=zje hk Fb.toziQ Fa.toziQ (by decide) (by decide);rw[<- hmv] at Fv
 have Cv:∀ (w':World) (v1 v2:Value) (H1:zan w' v1 b) (H2:zan w' v2 a),Calls prog 26 #[v1,v2] w' (zbb (mv,0) w'):=by
  intros
  rename_i H1 H2
  rw[hmv];exact zlJ hk H1 H2 Fb.toziQ Fa.toziQ (by decide) (by decide)
 obtain⟨mp,hmp⟩:∃ m:zah,m=zba (catL hk mu c) mu c:=⟨_,rfl⟩;have Fp:=zgJ hk Fu Fc (by decide) (by decide);rw[<- hmp] at Fp
 have Cp:∀ (w':World) (v1 v2:Value) (H1:zan w' v1 mu) (H2:zan w' v2 c),Calls prog 32 #[v1,v2] w' (zbb (mp,0) w'):=by
  intros
  rename_i H1 H2
  rw[hmp];exact ziH hk H1 H2 Fu Fc (by decide) (by decide)
 obtain⟨mq,hmq⟩:∃ m:zah,m=zba (catL hk a c) a c:=⟨_,rfl⟩;have Fq:=zgJ hk Fa Fc (by decide) (by decide);rw[<- hmq] at Fq
 have Cq:∀ (w':World) (v1 v2:Value) (H1:zan w' v1 a) (H2:zan w' v2 c),Calls prog 32 #[v1,v2] w' (zbb (mq,0) w'):=by
  intros
  rename_i H1 H2
  rw[hmq];exact ziH hk H1 H2 Fa Fc (by decide) (by decide)
 obtain⟨mr,hmr⟩:∃ m:zah,m=zba (catL hk b c) b c:=⟨_,rfl⟩;have Fr:=zgJ hk Fb Fc (by decide) (by decide);rw[<- hmr] at Fr
 have Cr:∀ (w':World) (v1 v2:Value) (H1:zan w' v1 b) (H2:zan w' v2 c),Calls prog 32 #[v1,v2] w' (zbb (mr,0) w'):=by
  intros
  rename_i H1 H2
  rw[hmr];exact ziH hk H1 H2 Fb Fc (by decide) (by decide)
 obtain⟨ms,hms⟩:∃ m:zah,m=zbA (zak k) mq mr:=⟨_,rfl⟩;have Fs:=zje hk Fq Fr (by decide) (by decide);rw[<- hms] at Fs
 have Cs:∀ (w':World) (v1 v2:Value) (H1:zan w' v1 mq) (H2:zan w' v2 mr),Calls prog 26 #[v1,v2] w' (zbb (ms,0) w'):=by
  intros
  rename_i H1 H2
  rw[hms];exact zlJ hk H1 H2 Fq Fr (by decide) (by decide)
 obtain⟨me,hme⟩:∃ m:zah,m=zbF k (zak k) (zak k) [] []:=⟨_,rfl⟩;have Fe:=zqx hk;rw[<- hme] at Fe
 have Ce:∀ (w':World),Calls prog 14 #[.int .i64 k,.slice none 0 0,.slice none 0 0,.string (zak k)] w' (zbb (me,0) w'):=by
  intros
  rename_i w'
  rw[hme];exact zEO hk (w:=w')
 obtain⟨mh,hmh⟩:∃ m:zah,m=zbt (zak k) a:=⟨_,rfl⟩;have Fh:=zBQ hk Fa.toziQ (by decide) (by decide);rw[<- hmh] at Fh
 have Ch:∀ (w':World) (v1:Value) (H1:zan w' v1 a),Calls prog 34 #[v1] w' (zbb (mh,0) w'):=by
  intros
  rename_i H1
  rw[hmh];exact zGI hk H1 Fa.toziQ (by decide) (by decide)
 obtain⟨mt,hmt⟩:∃ m:zah,m=zba (catL hk a mh) a mh:=⟨_,rfl⟩;have Ft:=zgJ hk Fa Fh (by decide) (by decide);rw[<- hmt] at Ft
 have Ct:∀ (w':World) (v1 v2:Value) (H1:zan w' v1 a) (H2:zan w' v2 mh),Calls prog 32 #[v1,v2] w' (zbb (mt,0) w'):=by
  intros
  rename_i H1 H2
  rw[hmt];exact ziH hk H1 H2 Fa Fh (by decide) (by decide)
 obtain⟨mw,hmw⟩:∃ m:zah,m=zbA (zak k) me mt:=⟨_,rfl⟩;have Fw:=zje hk Fe.toziQ Ft (by decide) (by decide);rw[<- hmw] at Fw
 have Cw:∀ (w':World) (v1 v2:Value) (H1:zan w' v1 me) (H2:zan w' v2 mt),Calls prog 26 #[v1,v2] w' (zbb (mw,0) w'):=by
  intros
  rename_i H1 H2
  rw[hmw];exact zlJ hk H1 H2 Fe.toziQ Ft (by decide) (by decide)
 obtain⟨mf,hmf⟩:∃ m:zah,m=zaJ (zak k) a 1 1:=⟨_,rfl⟩;have Ff:=zkB hk Fa.toziQ 1 1 (by decide) (by decide);rw[<- hmf] at Ff
 have Cf:∀ (w':World) (v1:Value) (H1:zan w' v1 a),Calls prog 36 #[v1,.int .i64 1,.int .i64 1] w' (zbb (mf,0) w'):=by
  intros
  rename_i H1
  rw[hmf];exact znj hk H1 Fa.toziQ 1 1 (by decide) (by decide) (by decide) (by decide)
 obtain⟨mg,hmg⟩:∃ m:zah,m=zaJ (zak k) a 0 2:=⟨_,rfl⟩;have Fg:=zkB hk Fa.toziQ 0 2 (by decide) (by decide);rw[<- hmg] at Fg
 have Cg:∀ (w':World) (v1:Value) (H1:zan w' v1 a),Calls prog 36 #[v1,.int .i64 0,.int .i64 2] w' (zbb (mg,0) w'):=by
  intros
  rename_i H1
  rw[hmg];exact znj hk H1 Fa.toziQ 0 2 (by decide) (by decide) (by decide) (by decide)
 obtain⟨mi,hmi⟩:∃ m:zah,m=zaJ (zak k) a 1 3:=⟨_,rfl⟩;have Fi:=zkB hk Fa.toziQ 1 3 (by decide) (by decide);rw[<- hmi] at Fi
 have Ci:∀ (w':World) (v1:Value) (H1:zan w' v1 a),Calls prog 36 #[v1,.int .i64 1,.int .i64 3] w' (zbb (mi,0) w'):=by
  intros
  rename_i H1
  rw[hmi];exact znj hk H1 Fa.toziQ 1 3 (by decide) (by decide) (by decide) (by decide)
 obtain⟨mj,hmj⟩:∃ m:zah,m=zba (catL hk mf mg) mf mg:=⟨_,rfl⟩;have Fj:=zgJ hk Ff Fg (by decide) (by decide);rw[<- hmj] at Fj
 have Cj:∀ (w':World) (v1 v2:Value) (H1:zan w' v1 mf) (H2:zan w' v2 mg),Calls prog 32 #[v1,v2] w' (zbb (mj,0) w'):=by
  intros
  rename_i H1 H2
  rw[hmj];exact ziH hk H1 H2 Ff Fg (by decide) (by decide)
 have V1:VL hk mu x y=VL hk mv x y:=by
  rw[hmu,hmv];exact zyh (S:=srE k hk) (zcB hk) (zcC hk) (zch hk) (zbB Fa.val) (zbB Fb.val) x y
 have E1:∀ (w':World) (v1 v2:Value),zan w' v1 mu->zan w' v2 mv->w.grownBy w' none->Calls prog 39 #[v1,.int .i64 0,v2,.int .i64 0,xv,yv] w' (zab (.bool true) w'):=fun w' v1 v2 H1 H2 hg=>zja hk H1 H2 Fu.val Fv.val Fu.kind Fv.kind (hx.grown hg) (hy.grown hg) V1
 have V2:VL hk mp x y=VL hk ms x y:=by
  rw[hmp,hms];rw[hmu,hmq,hmr];exact zyI hk Fa Fb Fc (by rw[<- hmu];exact Fu) (by rw[<- hmq];exact Fq.val) (by rw[<- hmr];exact Fr.val) x y
 have E2:∀ (w':World) (v1 v2:Value),zan w' v1 mp->zan w' v2 ms->w.grownBy w' none->Calls prog 39 #[v1,.int .i64 0,v2,.int .i64 0,xv,yv] w' (zab (.bool true) w'):=fun w' v1 v2 H1 H2 hg=>zja hk H1 H2 Fp.val Fs.val Fp.kind Fs.kind (hx.grown hg) (hy.grown hg) V2
 have V3:VL hk mh x y=VL hk mw x y:=by
  rw[hmh,hmw];rw[hme,hmt,hmh];exact zEP hk Fa (by rw[<- hmh];exact Fh) (by rw[<- hmh,<- hmt];exact Ft.val) (fun s h=>(hx.sym s h).1) (fun s h=>(hy.sym s h).1)
 have E3:∀ (w':World) (v1 v2:Value),zan w' v1 mh->zan w' v2 mw->w.grownBy w' none->Calls prog 39 #[v1,.int .i64 0,v2,.int .i64 0,xv,yv] w' (zab (.bool true) w'):=fun w' v1 v2 H1 H2 hg=>zja hk H1 H2 Fh.val Fw.val Fh.kind Fw.kind (hx.grown hg) (hy.grown hg) V3
 have V4:VL hk mj x y=VL hk mi x y:=by
  rw[hmj,hmi];rw[hmf,hmg];exact zyJ hk Fa.val (by rw[<- hmf];exact Ff) (by rw[<- hmg];exact Fg) x y
 have E4:∀ (w':World) (v1 v2:Value),zan w' v1 mj->zan w' v2 mi->w.grownBy w' none->Calls prog 39 #[v1,.int .i64 0,v2,.int .i64 0,xv,yv] w' (zab (.bool true) w'):=fun w' v1 v2 H1 H2 hg=>zja hk H1 H2 Fj.val Fi.val Fj.kind Fi.kind (hx.grown hg) (hy.grown hg) V4
 replace Ce:∀ w':World,Calls prog 14 #[.int .i64 a.kind,.slice none 0 0,.slice none 0 0,.string (zak a.kind)] w' (zbb (me,0) w'):=by rw[Fa.kind];exact Ce
 have HCu:=zHd Cu;have HCv:=zHd Cv;have HCp:=zHd Cp;have HCq:=zHd Cq;have HCr:=zHd Cr;have HCs:=zHd Cs;have HCe:=zHd Ce;have HCh:=zHd Ch;have HCt:=zHd Ct;have HCw:=zHd Cw;have HCf:=zHd Cf;have HCg:=zHd Cg;have HCi:=zHd Ci;have HCj:=zHd Cj;have HE1:=zHd E1;have HE2:=zHd E2;have HE3:=zHd E3;have HE4:=zHd E4;have HKA:Hid (a.kind=k):=zHd Fa.kind;have HON:=zHd (zfz k);obtain⟨Ax,cx,rfl⟩:=hx.form;obtain⟨Ay,cy,rfl⟩:=hy.form;have ka:=ha;obtain⟨ua,rfl,hsta⟩:=ha;obtain⟨Aa,ca,usa,rfl,_⟩:=hsta;have kb:=hb;obtain⟨ub,rfl,hstb⟩:=hb;obtain⟨Ab,cb,usb,rfl,_⟩:=hstb;have kc:=hc;obtain⟨uc,rfl,hstc⟩:=hc;obtain⟨Ac,cc,usc,rfl,_⟩:=hstc;have HMa:=zHd (fun w' (h:w.grownBy w' none)=>ka.grown h);have HMb:=zHd (fun w' (h:w.grownBy w' none)=>kb.grown h);have HMc:=zHd (fun w' (h:w.grownBy w' none)=>kc.grown h);have g0:=zGA w (.cells #[.int .i64 a.kind,.int .i64 a.start,.string a.lead,.slice Aa a.states.length ca] 29) none;have b0:=zaf.new w a (.slice Aa a.states.length ca);have g1:=zGA (w.alloc (.cells #[.int .i64 a.kind,.int .i64 a.start,.string a.lead,.slice Aa a.states.length ca] 29)) (.cells #[.int .i64 b.kind,.int .i64 b.start,.string b.lead,.slice Ab b.states.length cb] 29) none;have b1:=zaf.new (w.alloc (.cells #[.int .i64 a.kind,.int .i64 a.start,.string a.lead,.slice Aa a.states.length ca] 29)) b (.slice Ab b.states.length cb);rw[show(w.alloc (.cells #[.int .i64 a.kind,.int .i64 a.start,.string a.lead,.slice Aa a.states.length ca] 29)).heap.size=w.heap.size+1 by simp] at b1;have g2:=zGA ((w.alloc (.cells #[.int .i64 a.kind,.int .i64 a.start,.string a.lead,.slice Aa a.states.length ca] 29)).alloc (.cells #[.int .i64 b.kind,.int .i64 b.start,.string b.lead,.slice Ab b.states.length cb] 29)) (.cells #[.int .i64 c.kind,.int .i64 c.start,.string c.lead,.slice Ac c.states.length cc] 29) none;have b2:=zaf.new ((w.alloc (.cells #[.int .i64 a.kind,.int .i64 a.start,.string a.lead,.slice Aa a.states.length ca] 29)).alloc (.cells #[.int .i64 b.kind,.int .i64 b.start,.string b.lead,.slice Ab b.states.length cb] 29)) c (.slice Ac c.states.length cc);rw[show((w.alloc (.cells #[.int .i64 a.kind,.int .i64 a.start,.string a.lead,.slice Aa a.states.length ca] 29)).alloc (.cells #[.int .i64 b.kind,.int .i64 b.start,.string b.lead,.slice Ab b.states.length cb] 29)).heap.size=w.heap.size+2 by simp] at b2;have HG:=zHd (zaa g0 (zaa g1 g2));have Ba:=zHd (zaf.grown (zaf.grown b0 g1) g2);have Bb:=zHd (zaf.grown b1 g2);have Bc:=zHd b2;clear g0 b0 g1 b1 g2 b2;clear Cu hmu Fu Cv hmv Fv Cp hmp Fp Cq hmq Fq Cr hmr Fr Cs hms Fs Ce hme Fe Ch hmh Fh Ct hmt Ft Cw hmw Fw Cf hmf Ff Cg hmg Fg Ci hmi Fi Cj hmj Fj E1 E2 E3 E4 V1 V2 V3 V4 ka kb kc Fa Fb Fc ba bb bc hx hy hxy;go_enter func10,ntmps10;go_upto_region 1 with(fail);generalize ((w.alloc (.cells #[.int .i64 a.kind,.int .i64 a.start,.string a.lead,.slice Aa a.states.length ca] 29)).alloc (.cells #[.int .i64 b.kind,.int .i64 b.start,.string b.lead,.slice Ab b.states.length cb] 29)).alloc (.cells #[.int .i64 c.kind,.int .i64 c.start,.string c.lead,.slice Ac c.states.length cc] 29)=W at *;obtain⟨x0,x1,x2,x3⟩:=Ba.out.cells;go_wp2_with fail;refine(HLa.out _ HG.out).mono ?_;rintro e v68 ⟨rfl,hg⟩;have HG:=zHd (zaa HG.out hg);have Ba:=zHd (Ba.out.grown hg);have Bb:=zHd (Bb.out.grown hg);have Bc:=zHd (Bc.out.grown hg);clear hg x0 x1 x2 x3;obtain⟨y0,y1,y2,y3⟩:=Bb.out.cells;go_wp2_with fail;refine(HLb.out _ HG.out).mono ?_;rintro e v69 ⟨rfl,hg⟩;have HG:=zHd (zaa HG.out hg);have Ba:=zHd (Ba.out.grown hg);have Bb:=zHd (Bb.out.grown hg);have Bc:=zHd (Bc.out.grown hg);clear hg y0 y1 y2 y3;obtain⟨z0,z1,z2,z3⟩:=Bc.out.cells;go_wp2_with fail;refine(HLc.out _ HG.out).mono ?_;rintro e v70 ⟨rfl,hg⟩;have HG:=zHd (zaa HG.out hg);have Ba:=zHd (Ba.out.grown hg);have Bb:=zHd (Bb.out.grown hg);have Bc:=zHd (Bc.out.grown hg);clear hg z0 z1 z2 z3;obtain⟨q4,q5,q6,q7⟩:=HQ.out;go_wp2_with fail;refine(HWD.out _ HG.out).mono ?_;rintro e v71 ⟨rfl,hg⟩;have HG:=zHd (zaa HG.out hg);have Ba:=zHd (Ba.out.grown hg);have Bb:=zHd (Bb.out.grown hg);have Bc:=zHd (Bc.out.grown hg);clear hg;obtain⟨x0,x1,x2,x3⟩:=Ba.out.cells;go_wp2_with fail;refine(HVa.out _ HG.out).mono ?_;rintro e v72 ⟨rfl,hg⟩;have HG:=zHd (zaa HG.out hg);have Ba:=zHd (Ba.out.grown hg);have Bb:=zHd (Bb.out.grown hg);have Bc:=zHd (Bc.out.grown hg);clear hg x0 x1 x2 x3;obtain⟨y0,y1,y2,y3⟩:=Bb.out.cells;go_wp2_with fail;refine(HVb.out _ HG.out).mono ?_;rintro e v73 ⟨rfl,hg⟩;have HG:=zHd (zaa HG.out hg);have Ba:=zHd (Ba.out.grown hg);have Bb:=zHd (Bb.out.grown hg);have Bc:=zHd (Bc.out.grown hg);clear hg y0 y1 y2 y3;obtain⟨z0,z1,z2,z3⟩:=Bc.out.cells;go_wp2_with fail;refine(HVc.out _ HG.out).mono ?_;rintro e v74 ⟨rfl,hg⟩;have HG:=zHd (zaa HG.out hg);have Ba:=zHd (Ba.out.grown hg);have Bb:=zHd (Bb.out.grown hg);have Bc:=zHd (Bc.out.grown hg);clear hg z0 z1 z2 z3;obtain⟨x0,x1,x2,x3⟩:=Ba.out.cells;obtain⟨y0,y1,y2,y3⟩:=Bb.out.cells;obtain⟨z0,z1,z2,z3⟩:=Bc.out.cells;go_upto_region 3 with(fail);clear q4 q5 q6 q7 HQ x0 x1 x2 x3 y0 y1 y2 y3 z0 z1 z2 z3;obtain⟨x0,x1,x2,x3⟩:=Ba.out.cells;obtain⟨y0,y1,y2,y3⟩:=Bb.out.cells;go_wp2_with fail;refine(HCu.out _ _ _ (HMa.out _ HG.out) (HMb.out _ HG.out)).mono ?_;intro e wm h3;obtain⟨Atmu,ktmu,rfl,s3,g3⟩:=h3.open6;have hga:=zGA wm (.cells #[.int .i64 mu.kind,.int .i64 mu.start,.string mu.lead,.slice Atmu mu.states.length ktmu] 29) none;have gg:=zaa g3 hga;have HG:=zHd (zaa HG.out gg);have Ba:=zHd (Ba.out.grown gg);have Bb:=zHd (Bb.out.grown gg);have Bc:=zHd (Bc.out.grown gg);have HEmu:=zHd (Ex9.new s3);clear h3 s3 g3 hga gg x0 x1 x2 x3 y0 y1 y2 y3;go_upto_region 4 with(fail);generalize wm.alloc (.cells #[.int .i64 mu.kind,.int .i64 mu.start,.string mu.lead,.slice Atmu mu.states.length ktmu] 29)=wmmu at *;obtain⟨y0,y1,y2,y3⟩:=Bb.out.cells;obtain⟨x0,x1,x2,x3⟩:=Ba.out.cells;go_wp2_with fail;refine(HCv.out _ _ _ (HMb.out _ HG.out) (HMa.out _ HG.out)).mono ?_;intro e wm h3;obtain⟨Atmv,ktmv,rfl,s3,g3⟩:=h3.open6;have hga:=zGA wm (.cells #[.int .i64 mv.kind,.int .i64 mv.start,.string mv.lead,.slice Atmv mv.states.length ktmv] 29) none;have gg:=zaa g3 hga;have HG:=zHd (zaa HG.out gg);have Ba:=zHd (Ba.out.grown gg);have Bb:=zHd (Bb.out.grown gg);have Bc:=zHd (Bc.out.grown gg);have HEmu:=zHd (HEmu.out.grown gg);have HEmv:=zHd (Ex9.new s3);clear h3 s3 g3 hga gg y0 y1 y2 y3 x0 x1 x2 x3;go_upto_region 5 with(fail);generalize wm.alloc (.cells #[.int .i64 mv.kind,.int .i64 mv.start,.string mv.lead,.slice Atmv mv.states.length ktmv] 29)=wmmv at *;obtain⟨cu0,cu1,cu2,cu3⟩:=HEmu.out.box.cells;obtain⟨cv0,cv1,cv2,cv3⟩:=HEmv.out.box.cells;go_wp2_with fail;refine(HE1.out _ _ _ HEmu.out.st HEmv.out.st HG.out).mono ?_;rintro e v75 ⟨rfl,hg⟩;have HG:=zHd (zaa HG.out hg);have Ba:=zHd (Ba.out.grown hg);have Bb:=zHd (Bb.out.grown hg);have Bc:=zHd (Bc.out.grown hg);have HEmu:=zHd (HEmu.out.grown hg);have HEmv:=zHd (HEmv.out.grown hg);clear hg cu0 cu1 cu2 cu3 cv0 cv1 cv2 cv3;clear HEmv;obtain⟨cu0,cu1,cu2,cu3⟩:=HEmu.out.box.cells;obtain⟨z0,z1,z2,z3⟩:=Bc.out.cells;go_wp2_with fail;refine(HCp.out _ _ _ HEmu.out.st (HMc.out _ HG.out)).mono ?_;intro e wm h3;obtain⟨Atmp,ktmp,rfl,s3,g3⟩:=h3.open6;have hga:=zGA wm (.cells #[.int .i64 mp.kind,.int .i64 mp.start,.string mp.lead,.slice Atmp mp.states.length ktmp] 29) none;have gg:=zaa g3 hga;have HG:=zHd (zaa HG.out gg);have Ba:=zHd (Ba.out.grown gg);have Bb:=zHd (Bb.out.grown gg);have Bc:=zHd (Bc.out.grown gg);have HEmu:=zHd (HEmu.out.grown gg);have HEmp:=zHd (Ex9.new s3);clear h3 s3 g3 hga gg cu0 cu1 cu2 cu3 z0 z1 z2 z3;go_upto_region 9 with(fail);generalize wm.alloc (.cells #[.int .i64 mp.kind,.int .i64 mp.start,.string mp.lead,.slice Atmp mp.states.length ktmp] 29)=wmmp at *;obtain⟨x0,x1,x2,x3⟩:=Ba.out.cells;obtain⟨z0,z1,z2,z3⟩:=Bc.out.cells;go_wp2_with fail;refine(HCq.out _ _ _ (HMa.out _ HG.out) (HMc.out _ HG.out)).mono ?_;intro e wm h3;obtain⟨Atmq,ktmq,rfl,s3,g3⟩:=h3.open6;have hga:=zGA wm (.cells #[.int .i64 mq.kind,.int .i64 mq.start,.string mq.lead,.slice Atmq mq.states.length ktmq] 29) none;have gg:=zaa g3 hga;have HG:=zHd (zaa HG.out gg);have Ba:=zHd (Ba.out.grown gg);have Bb:=zHd (Bb.out.grown gg);have Bc:=zHd (Bc.out.grown gg);have HEmu:=zHd (HEmu.out.grown gg);have HEmp:=zHd (HEmp.out.grown gg);have HEmq:=zHd (Ex9.new s3);clear h3 s3 g3 hga gg x0 x1 x2 x3 z0 z1 z2 z3;go_upto_region 10 with(fail);generalize wm.alloc (.cells #[.int .i64 mq.kind,.int .i64 mq.start,.string mq.lead,.slice Atmq mq.states.length ktmq] 29)=wmmq at *;obtain⟨y0,y1,y2,y3⟩:=Bb.out.cells;obtain⟨z0,z1,z2,z3⟩:=Bc.out.cells;go_wp2_with fail;refine(HCr.out _ _ _ (HMb.out _ HG.out) (HMc.out _ HG.out)).mono ?_;intro e wm h3;obtain⟨Atmr,ktmr,rfl,s3,g3⟩:=h3.open6;have hga:=zGA wm (.cells #[.int .i64 mr.kind,.int .i64 mr.start,.string mr.lead,.slice Atmr mr.states.length ktmr] 29) none;have gg:=zaa g3 hga;have HG:=zHd (zaa HG.out gg);have Ba:=zHd (Ba.out.grown gg);have Bb:=zHd (Bb.out.grown gg);have Bc:=zHd (Bc.out.grown gg);have HEmu:=zHd (HEmu.out.grown gg);have HEmp:=zHd (HEmp.out.grown gg);have HEmq:=zHd (HEmq.out.grown gg);have HEmr:=zHd (Ex9.new s3);clear h3 s3 g3 hga gg y0 y1 y2 y3 z0 z1 z2 z3;go_upto_region 12 with(fail);generalize wm.alloc (.cells #[.int .i64 mr.kind,.int .i64 mr.start,.string mr.lead,.slice Atmr mr.states.length ktmr] 29)=wmmr at *;clear HEmu;obtain⟨cq0,cq1,cq2,cq3⟩:=HEmq.out.box.cells;obtain⟨cr0,cr1,cr2,cr3⟩:=HEmr.out.box.cells;go_wp2_with fail;refine(HCs.out _ _ _ HEmq.out.st HEmr.out.st).mono ?_;intro e wm h3;obtain⟨Atms,ktms,rfl,s3,g3⟩:=h3.open6;have hga:=zGA wm (.cells #[.int .i64 ms.kind,.int .i64 ms.start,.string ms.lead,.slice Atms ms.states.length ktms] 29) none;have gg:=zaa g3 hga;have HG:=zHd (zaa HG.out gg);have Ba:=zHd (Ba.out.grown gg);have Bb:=zHd (Bb.out.grown gg);have Bc:=zHd (Bc.out.grown gg);have HEmp:=zHd (HEmp.out.grown gg);have HEmq:=zHd (HEmq.out.grown gg);have HEmr:=zHd (HEmr.out.grown gg);have HEms:=zHd (Ex9.new s3);clear h3 s3 g3 hga gg cq0 cq1 cq2 cq3 cr0 cr1 cr2 cr3;go_upto_region 13 with(fail);generalize wm.alloc (.cells #[.int .i64 ms.kind,.int .i64 ms.start,.string ms.lead,.slice Atms ms.states.length ktms] 29)=wmms at *;obtain⟨cp0,cp1,cp2,cp3⟩:=HEmp.out.box.cells;obtain⟨cs0,cs1,cs2,cs3⟩:=HEms.out.box.cells;go_wp2_with fail;refine(HE2.out _ _ _ HEmp.out.st HEms.out.st HG.out).mono ?_;rintro e v76 ⟨rfl,hg⟩;have HG:=zHd (zaa HG.out hg);have Ba:=zHd (Ba.out.grown hg);have Bb:=zHd (Bb.out.grown hg);have Bc:=zHd (Bc.out.grown hg);have HEmp:=zHd (HEmp.out.grown hg);have HEmq:=zHd (HEmq.out.grown hg);have HEmr:=zHd (HEmr.out.grown hg);have HEms:=zHd (HEms.out.grown hg);clear hg cp0 cp1 cp2 cp3 cs0 cs1 cs2 cs3;clear HEmp HEmq HEmr HEms;go_upto_region 15 with(fail);obtain⟨x0,x1,x2,x3⟩:=Ba.out.cells;have x0':v76.drew.cell? ⟨w.heap.size,0,none⟩=some (.int .i64 a.kind):=x0;have x0a:(v76.alloc (.cells #[.int .i64 0,.int .i64 0,.string ⟨#[]⟩,.slice none 0 0] 29)).drew.cell? ⟨w.heap.size,0,none⟩=some (.int .i64 a.kind):=(zGA v76 (.cells #[.int .i64 0,.int .i64 0,.string ⟨#[]⟩,.slice none 0 0] 29) none).cell x0 (by simp);have hne2:¬ w.heap.size=v76.heap.size:=Nat.ne_of_lt Ba.out.lt;clear x0 x1 x2 x3
 go_cut [23,24] from 154 to 161 (fun pv ev wx=>∃ (g:Nat) (A:Option Addr) (c:Nat),pv=.pointer (some ⟨g,0,none⟩)/\ev=.int .i64 0/\Ex9 wx me g A c me.states.length/\v76.grownBy wx none)
 case first =>
  go_region_held2 (fun W'=>W'.cell? ⟨w.heap.size,0,none⟩=some (.int .i64 a.kind)) (first|with_reducible exact x0'|with_reducible exact x0|with_reducible exact x0a|with_reducible exact zdj hne1 (zdj hne1 (zdj hne1 (zdj hne1 x0)))|with_reducible exact zdj hne2 (zdj hne2 (zdj hne2 (zdj hne2 x0)))|go_keep)
   (first
   | (go_at_call 23;refine(zfz _ _).mono ?_;rintro e wo ⟨rfl,hg⟩;first|(have hg4:v76.drew.grownBy wo none:=(by with_reducible exact hg);have x0:=hg4.cell x0' (by simp);have hne1:¬ w.heap.size=wo.heap.size:=Nat.ne_of_lt (zqba Ba.out.lt hg4.size);have HG15:=zHd (zAI hg4 hne1);clear hg hg4)|(have hg4:(v76.alloc (.cells #[.int .i64 0,.int .i64 0,.string ⟨#[]⟩,.slice none 0 0] 29)).drew.grownBy wo none:=(by with_reducible exact hg);have x0:=hg4.cell x0a (by simp);have hal:=zGA v76 (.cells #[.int .i64 0,.int .i64 0,.string ⟨#[]⟩,.slice none 0 0] 29) none;have hbm:zaf (v76.alloc (.cells #[.int .i64 0,.int .i64 0,.string ⟨#[]⟩,.slice none 0 0] 29)).drew v76.heap.size zao (.slice none 0 0):=zaf.new v76 zao (.slice none 0 0);have hb3:=zaf.grown hbm hg4;have HG15a:=zHd (zAI (zaa (zaa hal (zag _ none)) hg4) (zAI hb3 (zqba (by simp) hg4.size:v76.heap.size<wo.heap.size)));clear hg hg4 hal hbm hb3))
   | (go_at_call 14;refine(HCe.out _).mono ?_;intro e wm h3;obtain⟨Atme,ktme,rfl,s3,g3⟩:=h3.open6;first|(have hg4:(wo.alloc (.cells #[.int .i64 0,.int .i64 0,.string ⟨#[]⟩,.slice none 0 0] 29)).grownBy wm none:=(by with_reducible exact g3);have hal:=zGA wo (.cells #[.int .i64 0,.int .i64 0,.string ⟨#[]⟩,.slice none 0 0] 29) none;have hbm:zaf (wo.alloc (.cells #[.int .i64 0,.int .i64 0,.string ⟨#[]⟩,.slice none 0 0] 29)) wo.heap.size zao (.slice none 0 0):=zaf.new wo zao (.slice none 0 0);have x0:=(zaa hal hg4).cell x0 (by simp);have hb3:=zaf.grown hbm hg4;have z0:=zqbx _ _ 0 _ _ hb3;have z1:=zqbx _ _ 1 _ _ hb3;have z2:=zqbx _ _ 2 _ _ hb3;have z3:=zqbx _ _ 3 _ _ hb3;have c0:=zqbw _ _ 0 _ _ (0,0) hb3;have c1:=zqbw _ _ 1 _ _ (0,0) hb3;have c2:=zqbw _ _ 2 _ _ (0,0) hb3;have c3:=zqbw _ _ 3 _ _ (0,0) hb3;have H15:=zHd (zAI s3 (zAI (zaa hal hg4) hb3));clear h3 s3 g3 hg4 hal hbm hb3)|(have hg4:wo.grownBy wm none:=(by with_reducible exact g3);have hb3:=zaf.grown HG15a.out.2.1 hg4;have x0:=hg4.cell x0 (by simp);have z0:=zqbx _ _ 0 _ _ hb3;have z1:=zqbx _ _ 1 _ _ hb3;have z2:=zqbx _ _ 2 _ _ hb3;have z3:=zqbx _ _ 3 _ _ hb3;have c0:=zqbw _ _ 0 _ _ (0,0) hb3;have c1:=zqbw _ _ 1 _ _ (0,0) hb3;have c2:=zqbw _ _ 2 _ _ (0,0) hb3;have c3:=zqbw _ _ 3 _ _ (0,0) hb3;have H15a:=zHd (zAI s3 (zAI hg4 hb3));clear h3 s3 g3 hg4 hb3)|(have hg4:wo.grownBy wm none:=(by with_reducible exact g3);have x0:=hg4.cell x0 (by simp);have H16:=zHd (zAI s3 hg4);clear h3 s3 g3 hg4)))
  all_goals first|(obtain⟨s3,hg4,hb3⟩:=H15a.out;obtain⟨e1,e2⟩:=zuQ hb3 s3 HG15a.out.2.2;have gg:=zae (zaa HG15a.out.1 hg4) e2 (zqab _);have HE:=zHd (zAI e1 gg);clear e1 e2 gg s3 hg4 hb3;go_wp2_with (fail);go_meet;exact⟨_,_,_,rfl,rfl,HE.out.1,HE.out.2⟩)|(obtain⟨s3,hg4,hb3⟩:=H15.out;obtain⟨e1,e2⟩:=zuQ hb3 s3 (by simp);have gg:=zae (zaa (zaa (zag v76 none) HG15.out.1) hg4) e2 (by have:=HG15.out.1.size;exact this);have HE:=zHd (zAI e1 gg);clear e1 e2 gg s3 hg4 hb3;go_wp2_with (fail);go_meet;exact⟨_,_,_,rfl,rfl,HE.out.1,HE.out.2⟩)|(obtain⟨s3,hg4⟩:=H16.out;have gg:=zaa (zaa (zaa (zag v76 none) HG15.out.1) hg4) (zGA wm (.cells #[.int .i64 me.kind,.int .i64 me.start,.string me.lead,.slice Atme me.states.length ktme] 29) none);have HE:=zHd (zAI (Ex9.new s3) gg);clear gg s3 hg4;go_wp2_with (fail);go_meet;exact⟨_,_,_,rfl,rfl,HE.out.1,HE.out.2⟩)
 case rest =>
  obtain⟨ge,Atme,ktme,rfl,rfl,hex,gg⟩:=hcut;have HG:=zHd (zaa HG.out gg);have Ba:=zHd (Ba.out.grown gg);have Bb:=zHd (Bb.out.grown gg);have Bc:=zHd (Bc.out.grown gg);have HEme:=zHd hex;clear hex gg x0' x0a hne2;generalize wc=wmme at *;obtain⟨x0,x1,x2,x3⟩:=Ba.out.cells;go_wp2_with fail;refine(HCh.out _ _ (HMa.out _ HG.out)).mono ?_;intro e wm h3;obtain⟨Atmh,ktmh,rfl,s3,g3⟩:=h3.open6;have hga:=zGA wm (.cells #[.int .i64 mh.kind,.int .i64 mh.start,.string mh.lead,.slice Atmh mh.states.length ktmh] 29) none;have gg:=zaa g3 hga;have HG:=zHd (zaa HG.out gg);have Ba:=zHd (Ba.out.grown gg);have Bb:=zHd (Bb.out.grown gg);have Bc:=zHd (Bc.out.grown gg);have HEme:=zHd (HEme.out.grown gg);have HEmh:=zHd (Ex9.new s3);clear h3 s3 g3 hga gg x0 x1 x2 x3;go_upto_region 18 with(fail);generalize wm.alloc (.cells #[.int .i64 mh.kind,.int .i64 mh.start,.string mh.lead,.slice Atmh mh.states.length ktmh] 29)=wmmh at *;obtain⟨x0,x1,x2,x3⟩:=Ba.out.cells;obtain⟨ch0,ch1,ch2,ch3⟩:=HEmh.out.box.cells;go_wp2_with fail;refine(HCt.out _ _ _ (HMa.out _ HG.out) HEmh.out.st).mono ?_;intro e wm h3;obtain⟨Atmt,ktmt,rfl,s3,g3⟩:=h3.open6;have hga:=zGA wm (.cells #[.int .i64 mt.kind,.int .i64 mt.start,.string mt.lead,.slice Atmt mt.states.length ktmt] 29) none;have gg:=zaa g3 hga;have HG:=zHd (zaa HG.out gg);have Ba:=zHd (Ba.out.grown gg);have Bb:=zHd (Bb.out.grown gg);have Bc:=zHd (Bc.out.grown gg);have HEme:=zHd (HEme.out.grown gg);have HEmh:=zHd (HEmh.out.grown gg);have HEmt:=zHd (Ex9.new s3);clear h3 s3 g3 hga gg x0 x1 x2 x3 ch0 ch1 ch2 ch3;go_upto_region 20 with(fail);generalize wm.alloc (.cells #[.int .i64 mt.kind,.int .i64 mt.start,.string mt.lead,.slice Atmt mt.states.length ktmt] 29)=wmmt at *;obtain⟨ce0,ce1,ce2,ce3⟩:=HEme.out.box.cells;obtain⟨ct0,ct1,ct2,ct3⟩:=HEmt.out.box.cells;go_wp2_with fail;refine(HCw.out _ _ _ HEme.out.st HEmt.out.st).mono ?_;intro e wm h3;obtain⟨Atmw,ktmw,rfl,s3,g3⟩:=h3.open6;have hga:=zGA wm (.cells #[.int .i64 mw.kind,.int .i64 mw.start,.string mw.lead,.slice Atmw mw.states.length ktmw] 29) none;have gg:=zaa g3 hga;have HG:=zHd (zaa HG.out gg);have Ba:=zHd (Ba.out.grown gg);have Bb:=zHd (Bb.out.grown gg);have Bc:=zHd (Bc.out.grown gg);have HEme:=zHd (HEme.out.grown gg);have HEmh:=zHd (HEmh.out.grown gg);have HEmt:=zHd (HEmt.out.grown gg);have HEmw:=zHd (Ex9.new s3);clear h3 s3 g3 hga gg ce0 ce1 ce2 ce3 ct0 ct1 ct2 ct3;go_upto_region 21 with(fail);generalize wm.alloc (.cells #[.int .i64 mw.kind,.int .i64 mw.start,.string mw.lead,.slice Atmw mw.states.length ktmw] 29)=wmmw at *;obtain⟨ch0,ch1,ch2,ch3⟩:=HEmh.out.box.cells;obtain⟨cw0,cw1,cw2,cw3⟩:=HEmw.out.box.cells;go_wp2_with fail;refine(HE3.out _ _ _ HEmh.out.st HEmw.out.st HG.out).mono ?_;rintro e v77 ⟨rfl,hg⟩;have HG:=zHd (zaa HG.out hg);have Ba:=zHd (Ba.out.grown hg);have Bb:=zHd (Bb.out.grown hg);have Bc:=zHd (Bc.out.grown hg);have HEme:=zHd (HEme.out.grown hg);have HEmh:=zHd (HEmh.out.grown hg);have HEmt:=zHd (HEmt.out.grown hg);have HEmw:=zHd (HEmw.out.grown hg);clear hg ch0 ch1 ch2 ch3 cw0 cw1 cw2 cw3;clear HEme HEmh HEmt HEmw;obtain⟨x0,x1,x2,x3⟩:=Ba.out.cells;go_wp2_with fail;refine(HCf.out _ _ (HMa.out _ HG.out)).mono ?_;intro e wm h3;obtain⟨Atmf,ktmf,rfl,s3,g3⟩:=h3.open6;have hga:=zGA wm (.cells #[.int .i64 mf.kind,.int .i64 mf.start,.string mf.lead,.slice Atmf mf.states.length ktmf] 29) none;have gg:=zaa g3 hga;have HG:=zHd (zaa HG.out gg);have Ba:=zHd (Ba.out.grown gg);have Bb:=zHd (Bb.out.grown gg);have Bc:=zHd (Bc.out.grown gg);have HEmf:=zHd (Ex9.new s3);clear h3 s3 g3 hga gg x0 x1 x2 x3;go_upto_region 24 with(fail);generalize wm.alloc (.cells #[.int .i64 mf.kind,.int .i64 mf.start,.string mf.lead,.slice Atmf mf.states.length ktmf] 29)=wmmf at *;obtain⟨x0,x1,x2,x3⟩:=Ba.out.cells;go_wp2_with fail;refine(HCg.out _ _ (HMa.out _ HG.out)).mono ?_;intro e wm h3;obtain⟨Atmg,ktmg,rfl,s3,g3⟩:=h3.open6;have hga:=zGA wm (.cells #[.int .i64 mg.kind,.int .i64 mg.start,.string mg.lead,.slice Atmg mg.states.length ktmg] 29) none;have gg:=zaa g3 hga;have HG:=zHd (zaa HG.out gg);have Ba:=zHd (Ba.out.grown gg);have Bb:=zHd (Bb.out.grown gg);have Bc:=zHd (Bc.out.grown gg);have HEmf:=zHd (HEmf.out.grown gg);have HEmg:=zHd (Ex9.new s3);clear h3 s3 g3 hga gg x0 x1 x2 x3;go_upto_region 25 with(fail);generalize wm.alloc (.cells #[.int .i64 mg.kind,.int .i64 mg.start,.string mg.lead,.slice Atmg mg.states.length ktmg] 29)=wmmg at *;obtain⟨x0,x1,x2,x3⟩:=Ba.out.cells;go_wp2_with fail;refine(HCi.out _ _ (HMa.out _ HG.out)).mono ?_;intro e wm h3;obtain⟨Atmi,ktmi,rfl,s3,g3⟩:=h3.open6;have hga:=zGA wm (.cells #[.int .i64 mi.kind,.int .i64 mi.start,.string mi.lead,.slice Atmi mi.states.length ktmi] 29) none;have gg:=zaa g3 hga;have HG:=zHd (zaa HG.out gg);have Ba:=zHd (Ba.out.grown gg);have Bb:=zHd (Bb.out.grown gg);have Bc:=zHd (Bc.out.grown gg);have HEmf:=zHd (HEmf.out.grown gg);have HEmg:=zHd (HEmg.out.grown gg);have HEmi:=zHd (Ex9.new s3);clear h3 s3 g3 hga gg x0 x1 x2 x3;go_upto_region 27 with(fail);generalize wm.alloc (.cells #[.int .i64 mi.kind,.int .i64 mi.start,.string mi.lead,.slice Atmi mi.states.length ktmi] 29)=wmmi at *;obtain⟨cf0,cf1,cf2,cf3⟩:=HEmf.out.box.cells;obtain⟨cg0,cg1,cg2,cg3⟩:=HEmg.out.box.cells;go_wp2_with fail;refine(HCj.out _ _ _ HEmf.out.st HEmg.out.st).mono ?_;intro e wm h3;obtain⟨Atmj,ktmj,rfl,s3,g3⟩:=h3.open6;have hga:=zGA wm (.cells #[.int .i64 mj.kind,.int .i64 mj.start,.string mj.lead,.slice Atmj mj.states.length ktmj] 29) none;have gg:=zaa g3 hga;have HG:=zHd (zaa HG.out gg);have Ba:=zHd (Ba.out.grown gg);have Bb:=zHd (Bb.out.grown gg);have Bc:=zHd (Bc.out.grown gg);have HEmf:=zHd (HEmf.out.grown gg);have HEmg:=zHd (HEmg.out.grown gg);have HEmi:=zHd (HEmi.out.grown gg);have HEmj:=zHd (Ex9.new s3);clear h3 s3 g3 hga gg cf0 cf1 cf2 cf3 cg0 cg1 cg2 cg3;go_upto_region 28 with(fail);generalize wm.alloc (.cells #[.int .i64 mj.kind,.int .i64 mj.start,.string mj.lead,.slice Atmj mj.states.length ktmj] 29)=wmmj at *;obtain⟨cj0,cj1,cj2,cj3⟩:=HEmj.out.box.cells;obtain⟨ci0,ci1,ci2,ci3⟩:=HEmi.out.box.cells;go_wp2_with fail;refine(HE4.out _ _ _ HEmj.out.st HEmi.out.st HG.out).mono ?_;rintro e v78 ⟨rfl,hg⟩;have HG:=zHd (zaa HG.out hg);have Ba:=zHd (Ba.out.grown hg);have Bb:=zHd (Bb.out.grown hg);have Bc:=zHd (Bc.out.grown hg);have HEmf:=zHd (HEmf.out.grown hg);have HEmg:=zHd (HEmg.out.grown hg);have HEmi:=zHd (HEmi.out.grown hg);have HEmj:=zHd (HEmj.out.grown hg);clear hg cj0 cj1 cj2 cj3 ci0 ci1 ci2 ci3;go_wp2_with fail;exact zQab
def zER {a b c:zah}{va vb vc:Value}{w:World}(ha:zan w va a)(fa:zaZ a)(hb:zan w vb b)(fb:zaZ b)(hc:zan w vc c)(fc:zaZ c)(zx zy:List Int)(xv yv:Value)(hx:zax w xv zx)(hy:zax w yv zy)(bx:zx.length<=140737488355328)(by':zy.length<=140737488355328) :
  Calls prog 10 #[va,vb,vc,xv,yv] w (zab (.bool true) w):=by
 by_cases hall:(zaC a&&(zaC b&&(zaC c&&((decide (zx.length+zy.length<=6)&&(zat zx&&zat zy))&&(decide (zx.length+zy.length<=4)&&(validB a&&(validB b&&(validB c&&(decide (a.kind=b.kind)&&decide (a.kind=c.kind))))))))))=true
 ·have h:=hall
  simp only[zqbb,zqca] at h;obtain⟨ba,bb,bc,⟨h6,hwx,hwy⟩,h4,va',vb',vc',kb,kc⟩:=h;obtain⟨x,hx',rfl⟩:=WIn.of hx hwx;obtain⟨y,hy',rfl⟩:=WIn.of hy hwy;rw[zqbn,zqbn] at h4;have sa:=zbw ba;have sb:=zbw bb;have sc:=zbw bc;exact zGJ ((zbQ _).1 (zbY va')) ha hb hc ⟨⟨va',rfl,sa.n,sa.arcs⟩,sa.lead⟩ ⟨⟨vb',kb.symm,sb.n,sb.arcs⟩,sb.lead⟩ ⟨⟨vc',kc.symm,sc.n,sc.arcs⟩,sc.lead⟩ ba bb bc x y xv yv hx' hy' h4
 exact zEQ ha fa hb fb hc fc zx zy xv yv hx hy bx by' (by simpa only[Bool.not_eq_true] using hall)
end Go.Proofs.YtadgpgofcjpnjaaGreatDoor
