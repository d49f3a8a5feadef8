/- Part. -/
import Derived.Test.YtadgpgofcjpnjaaGreatDoorZK14
import Derived.Test.YtadgpgofcjpnjaaGreatDoorZK15
set_option linter.unusedVariables false
set_option linter.defProp false
set_option linter.unusedSimpArgs false
set_option maxRecDepth 100000
set_option maxHeartbeats 16000000
namespace Go.Proofs.YtadgpgofcjpnjaaGreatDoor
open Go.Proofs.Tryz
open Go.RowKit
def zBx {a:ByteArray}{x:Rat}(h:zaM a x):a.size<=802:=by
 have h1:=h.short;unfold zcd at h1;rw[h.eq];show(zjp x).toArray.size<=802;unfold zjp;rw[List.size_toArray];have e1:(if x.num<0 then [45] else []:List UInt8).length<=1:=by split <;> simp
 have e2:=Lib.decDigits_length x.num.natAbs
 have e3:(if x.den=1 then [] else 47::Lib.decDigits x.den:List UInt8).length<=401:=by
  split;simp;rw[zqbu,Lib.decDigits_length];omega
 rw[zqag,zqag,e2];omega
def znf {k:Int}{a:ByteArray}(h:wgtB k a=true):a.size<=802:=by
 obtain⟨v,hv⟩:=zcO h
 match v,hv with
 | .inl b,hv=>exact absurd hv.has (by simp[zcs])
 | .inr x,hv=>exact zBx hv.e
def zaq {m:zah}(h:validB m=true):zaZ m:=by
 have hp:=zdG (zeh h);have hM:(802:Nat)<=maxLen:=by unfold maxLen;omega
 refine⟨by omega,zqam (znf hp.2.2.2.2.2) hM,fun s hs=>?_,fun s hs=>by have:=zhi h hs;omega,fun s hs a ha=>?_⟩
 ·have:=(zkw h hs).1
  unfold finB at this;rw[Bool.or_eq_true] at this;rcases this with e|e
  rw[decide_eq_true_iff] at e;omega;exact zqam (znf e) hM
 exact zqam (znf (zel ((zkw h hs).2 a ha)).2.2.2.2.2.2) hM
structure WIn (w:World)(v:Value)(x:List Nat):Prop where
 at':zax w v (x.map (fun s:Nat=>(s:Int)))
 word:zat (x.map (fun s:Nat=>(s:Int)))=true
def WIn.grown {w w':World}{v:Value}{x:List Nat}(h:WIn w v x)(hg:w.grownBy w' none):WIn w' v x:=⟨h.at'.grown hg,h.word⟩
def zEv {zs:List Int}(h:zat zs=true):∃ x:List Nat,zs=x.map (fun s:Nat=>(s:Int)):=by
 refine⟨zs.map Int.toNat,?_⟩;rw[List.map_map];refine(List.map_id zs).symm.trans (List.map_congr_left fun s hs=>?_);unfold zat at h;rw[zqbb,List.all_eq_true] at h;have:=h.2 s hs;unfold zaI at this;rw[zqca] at this;show s=((s.toNat:Nat):Int);omega
def WIn.of {w:World}{v:Value}{zs:List Int}(h:zax w v zs)(hw:zat zs=true):∃ x:List Nat,WIn w v x/\zs=x.map (fun s:Nat=>(s:Int)):=by
 obtain⟨x,rfl⟩:=zEv hw;exact⟨x,⟨h,hw⟩,rfl⟩
def WIn.form {w:World}{v:Value}{x:List Nat}(h:WIn w v x):∃ A c,v=.slice A x.length c:=by
 obtain⟨A,c,e,_⟩:=h.at';rw[zqbn] at e;exact⟨A,c,e⟩
def WIn.len {w:World}{v:Value}{x:List Nat}(h:WIn w v x):x.length<=200:=by
 have:=h.word;unfold zat at this;simp only[zqbb,zqca,zqbn] at this;omega
def WIn.sym {w:World}{v:Value}{x:List Nat}(h:WIn w v x):∀ s∈x,1<=s/\s<=500:=fun s hs=>by
 have:=h.word;unfold zat at this;rw[zqbb,List.all_eq_true] at this;have:=this.2 (s:Int) (zqbf.2 ⟨s,hs,rfl⟩);unfold zaI at this;rw[zqca] at this;omega
noncomputable def VL {k:Int}(hk:zam k)(m:zah)(x y:List Nat):El k:=zbK (srE k hk) (vE hk) (finE hk) m x y
def WF {k:Int}(hk:zam k)(m:zah)(x y:List Nat):Prop:=zsF hk m.states (vE hk m.lead) m.start.toNat x y
def zjS {k:Int}(hk:zam k){m:zah}{mv xv yv:Value}{x y:List Nat}{w:World}(hm:zan w mv m)(zV:validB m=true)(hkd:m.kind=k)(hx:WIn w xv x)(hy:WIn w yv y) :
  Calls prog 49 #[mv,xv,yv] w (znd (WF hk m x y) (VL hk m x y) w):=by
 obtain⟨k',st,ld,l⟩:=m
 replace hkd:k'=k:=hkd
 subst hkd;exact zuF hk x y mv xv yv w hm (zaq zV) zV hx.at' hy.at' hx.word hy.word
def zuG (a:ByteArray):(a.toList==a.toList)=true:=by simp
def znN (P:Prop)(t:ByteArray)(w:World)(e:Ending)(w':World):Prop :=
 w.grownBy w' none/\((P/\e=.returned (.tuple #[.string t,.int .i64 0]))∨e=.returned (.tuple #[.string ⟨#[]⟩,.int .i64 2]))
def znd.v {k:Int}{P:Prop}{F:El k}{w:World}{e:Ending}{w':World}(h:znd P F w e w'):znN (zav F) (tx F) w e w':=⟨h.1,h.2.imp id (fun e=>e.2)⟩
def zek {k:Int}(hk:zam k){m:zah}{mv xv yv:Value}{x y:List Nat}{w:World}(want:ByteArray)(hm:zan w mv m)(zV:validB m=true)(hkd:m.kind=k)(hx:WIn w xv x)(hy:WIn w yv y)(hw:zav (VL hk m x y)->want=tx (VL hk m x y)) :
  Calls prog 20 #[mv,.int .i64 k,xv,yv,.string want] w (zab (.bool true) w):=by
 have HV:=zHd (fun w' (h:w.grownBy w' none)=>zaB (hm.grown h) (zaq zV));have hc:∀ w',w.grownBy w' none->Calls prog 49 #[mv,xv,yv] w' (znN (zav (VL hk m x y)) (tx (VL hk m x y)) w'):=fun w' h=>(zjS hk (hm.grown h) zV hkd (hx.grown h) (hy.grown h)).mono fun e w h=>h.v;generalize tx (VL hk m x y)=t at hc hw;generalize zav (VL hk m x y)=P at hc hw;have HC:=zHd hc;have HB:=zHd zV;have HW:=zHd hw;clear hc;obtain⟨Ax,cx,rfl⟩:=hx.form;obtain⟨Ay,cy,rfl⟩:=hy.form;subst hkd;obtain⟨u,rfl,hst0⟩:=hm;have hg:w.grownBy (w.alloc (.cells #[.int .i64 m.kind,.int .i64 m.start,.string m.lead,u] 29)) none:=zGA _ _ _;have hbx:=zaf.new w m u;obtain⟨A,cap,us,rfl,_⟩:=hst0;have HBX:=zHd hbx;have HG:=zHd hg;obtain⟨x0,x1,x2,x3⟩:=hbx.cells;clear hbx hg hw zV hx hy;go_enter func20,ntmps20;go_upto_region 1 with(fail);generalize w.alloc (.cells #[.int .i64 m.kind,.int .i64 m.start,.string m.lead,.slice A m.states.length cap] 29)=W at *;go_wp2_with fail;refine(HV.out _ HG.out).mono ?_;rintro e w1 ⟨rfl,hg1⟩;have HG1:=zHd (zaa HG.out hg1);obtain⟨y0,y1,y2,y3⟩:=(HBX.out.grown hg1).cells;rw[HB.out];clear hg1;go_wp2_with fail;refine(HC.out _ HG1.out).mono ?_;rintro e w2 ⟨hg2,hr⟩;have HG2:=zHd (zaa HG1.out hg2);clear hg2;rcases hr with⟨hf,rfl⟩|rfl
 ·have ht:=HW.out hf
  have f1:=zuG t;subst ht;clear hf HC HV;exact zQbc
 clear HW HC HV;exact zQbc
def zqt {a b:zah}{av bv:Value}{w:World}(ha:zan w av a)(hb:zan w bv b)(hfa:zaZ a)(hfb:zaZ b)(r:Int)(hr:r=if (validB a&&validB b)=true then 6 else 1) :
  Calls prog 28 #[av,bv,.int .i64 r] w (zab (.bool true) w):=by
 have hv:=fun w' (h:w.grownBy w' none)=>zaB (ha.grown h) hfa;have hu:=fun w' (h:w.grownBy w' none)=>zaB (hb.grown h) hfb;generalize validB a=va at hv hr;generalize validB b=vb at hu hr;have HV:=zHd hv;have HU:=zHd hu;have HR:=zHd hr;clear hv hu hr;obtain⟨u,rfl,hst0⟩:=ha;obtain⟨u2,rfl,hst2⟩:=hb;obtain⟨A,cap,us,rfl,_⟩:=hst0;obtain⟨A2,cap2,us2,rfl,_⟩:=hst2;have hg:w.grownBy (w.alloc (.cells #[.int .i64 a.kind,.int .i64 a.start,.string a.lead,.slice A a.states.length cap] 29)) none:=zGA _ _ _;have hbx:=zaf.new w a (.slice A a.states.length cap);generalize hW:w.alloc (.cells #[.int .i64 a.kind,.int .i64 a.start,.string a.lead,.slice A a.states.length cap] 29)=W at *;have hg2:W.grownBy (W.alloc (.cells #[.int .i64 b.kind,.int .i64 b.start,.string b.lead,.slice A2 b.states.length cap2] 29)) none:=zGA _ _ _;have hsz:W.heap.size=w.heap.size+1:=by rw[<- hW];simp
 have hbx2:=zaf.new W b (.slice A2 b.states.length cap2);generalize hW2:W.alloc (.cells #[.int .i64 b.kind,.int .i64 b.start,.string b.lead,.slice A2 b.states.length cap2] 29)=W2 at *;have HB1:=zHd (hbx.grown hg2);have HB2:=zHd hbx2;have HG:=zHd (zaa hg hg2);have HW:=zHd hW;clear hbx hbx2 hg hg2;rw[hsz] at HB2;go_enter func28,ntmps28;go_upto_region 1 with(fail);obtain⟨x0,x1,x2,x3⟩:=HB1.out.cells;obtain⟨y0,y1,y2,y3⟩:=HB2.out.cells;clear HW hW2 hsz;go_wp2_with fail;refine(HV.out _ HG.out).mono ?_;rintro e w1 ⟨rfl,hg1⟩;have HG1:=zHd (zaa HG.out hg1);obtain⟨y0,y1,y2,y3⟩:=(HB2.out.grown hg1).cells;clear hg1 x0 x1 x2 x3;cases va
 ·have hr:r=1:=HR.out
  clear HR;subst hr;go_wp2;go_ret;exact⟨rfl,HG1.out⟩
 go_wp2_with fail;refine(HU.out _ HG1.out).mono ?_;rintro e w2 ⟨rfl,hg2⟩;have HG2:=zHd (zaa HG1.out hg2);clear hg2;cases vb
 ·have hr:r=1:=HR.out
  clear HR;subst hr;exact zQbc
 have hr:r=6:=HR.out;clear HR;subst hr;exact zQbc
open Go.RowKit
def zch {k:Int}(hk:zam k):vE hk (zak k)=(srE k hk).one:=Subtype.ext (zim hk ⟨zrl hk,((srE k hk).one).2⟩)
def zeI {k:Int}(hk:zam k):zak k≠noB:=by
 rcases hk with rfl|rfl|rfl <;> decide +kernel
def zck (u:List Nat):Prop:=∀ s∈u,1<=s
def zck.left {p q u:List Nat}(h:zck u)(e:p++q=u):zck p:=fun s hs=>h s (by rw[<- e];exact List.mem_append_left _ hs)
def zck.right {p q u:List Nat}(h:zck u)(e:p++q=u):zck q:=fun s hs=>h s (by rw[<- e];exact List.mem_append_right _ hs)
section
variable {α:Type} (S:Sr α)
def zqu {A B:List Nat->List Nat->α}(h:∀ p r,zck p->zck r->A p r=B p r):∀ (most n:Nat) (u v:List Nat),zck u->zck v->ziL S A most n u v=ziL S B most n u v
 | 0,n,u,v,hu,hv=>rfl
 | most+1,n,u,v,hu,hv=>by
  unfold ziL;rw[zcP (S:=S) (fun p q r s hp hr=>by rw[h p r (hu.left hp) (hv.left hr),zqu h most (n-1) q s (hu.right hp) (hv.right hr)])]
def zng (A:List Nat->List Nat->α):Nat->List Nat->List Nat->α
 | 0,_,_=>S.zero
 | d+1,u,v=>S.mul (S.star (A [] [])) (S.add (zfa S u v) (spx S u v (fun p q r s=>S.mul (A p r) (zng A d q s))))
def zoW {A B X:List Nat->List Nat->α}(h:∀ p r,zck p->zck r->A p r=B p r)(hX:∀ u v,X u v=S.mul (S.star (A [] [])) (S.add (zfa S u v) (spx S u v (fun p q r s=>S.mul (A p r) (X q s))))):∀ (d:Nat) (u v:List Nat),u.length+v.length<d->zck u->zck v->X u v=zng S B d u v
 | 0,u,v,hd,_,_=>absurd hd (by omega)
 | d+1,u,v,hd,hu,hv=>by
  rw[hX];unfold zng;rw[h [] [] (fun s hs=>by cases hs) (fun s hs=>by cases hs)]
  rw[zkj (S:=S) (fun p q r s hp hr hne=>by
   rw[h p r (hu.left hp) (hv.left hr),zoW h hX d q s (by
    have h1:=zqbz List.length hp;have h2:=zqbz List.length hr;rw[zqag] at h1 h2
    have:0<p.length+r.length:=by
     rcases p with _|⟨a,p⟩
     ·rcases r with _|⟨a,r⟩
      ·exact absurd ⟨rfl,rfl⟩ hne
      simp
     simp;omega
    omega) (hu.right hp) (hv.right hr)])]
end
def kd1:zam 1:=.inl rfl
def kd2:zam 2:=.inr (.inl rfl)
def f1 (x:Rat):El 1:=⟨.inr x,by unfold zaD;rfl⟩
def f2 (x:Rat)(h:decide (0<=x)=true):El 2:=⟨.inr x,by show(decide ((2:Int)=1) || ((decide ((2:Int)=2) || decide ((2:Int)=3))&&decide (0<=x)))=true;rw[h];rfl⟩
def W9 {k:Int}(hk:zam k)(x y:List Nat)(w:El k)(u v:List Nat):El k:=if u=x/\v=y then w else (srE k hk).zero
def zyp {k:Int}(hk:zam k){w:ByteArray}{x y:List Nat}(hx:zck x)(hy:zck y){e:El k}(he:vE hk w=e):∀ p r,zck p->zck r->VL hk (zbF k (zak k) w x y) p r=W9 hk x y e p r:=fun p r hp hr=>by
 unfold VL W9;rw[zoO (zcB hk) (zcC hk) k (zch hk) (zeI hk) w hx hy hp hr,he]
def s3:ByteArray:=⟨#[51]⟩
def s5:ByteArray:=⟨#[53]⟩
def s8:ByteArray:=⟨#[56]⟩
def s12:ByteArray:=⟨#[49,47,50]⟩
def q3:zaM s3 3:=⟨by decide +kernel,by decide +kernel⟩
def q5:zaM s5 5:=⟨by decide +kernel,by decide +kernel⟩
def q8:zaM s8 8:=⟨by decide +kernel,by decide +kernel⟩
def q12:zaM s12 (1/2):=⟨by decide +kernel,by decide +kernel⟩
def zgC {x:Rat}{a:ByteArray}(h:zaM a x):vE kd1 a=f1 x:=Subtype.ext (zim kd1 ⟨h,rfl⟩)
def zyq {x:Rat}{a:ByteArray}(h:zaM a x)(h0:decide (0<=x)=true):vE kd2 a=f2 x h0:=Subtype.ext (zim kd2 (v:=.inr x) ⟨h,(f2 x h0).2⟩)
def wg1 {a:ByteArray}{x:Rat}(h:zaM a x):wgtB 1 a=true:=zgc (v:=.inr x) ⟨h,rfl⟩
def wg2 {a:ByteArray}{x:Rat}(h:zaM a x)(h0:zcs 2 (.inr x)=true):wgtB 2 a=true:=zgc (v:=.inr x) ⟨h,h0⟩
def mA:zah:=zbF 1 (zak 1) s3 [1] [2]
def mB:zah:=zbF 1 (zak 1) s5 [1] [2]
def mU:zah:=zbA (zak 1) mA mB
def mC:zah:=zba s8 mA mB
def mS:zah:=zbt (zak 1) mA
def mR:zah:=zaJ (zak 1) mA 2 3
def s72:ByteArray:=⟨#[55,47,50]⟩
def q72:zaM s72 (7/2):=⟨by decide +kernel,by decide +kernel⟩
def mT:zah := { mA with lead:=s72 }
def mL:zah:=zcb 1 (zak 1) [1,2]
def mH:zah:=zbF 2 (zak 2) s12 [] []
def mK:zah:=zbt (zak 2) mH
def ps (l:List Nat)(h:l.all (fun s=>decide (1<=s))=true):zck l:=fun s hs=>by simpa using List.all_eq_true.1 h s hs
def ziZ (l:List Nat)(h:l.all (fun s=>decide (s<=500))=true):∀ s∈l,s<=500:=fun s hs=>by simpa using List.all_eq_true.1 h s hs
def vdA:validB mA=true:=zgz (by decide +kernel) (wg1 q3) (ziZ _ rfl) (ziZ _ rfl) (by decide) (by decide)
def vdB:validB mB=true:=zgz (by decide +kernel) (wg1 q5) (ziZ _ rfl) (ziZ _ rfl) (by decide) (by decide)
def vdH:validB mH=true:=zgz (by decide +kernel) (wg2 q12 (by decide +kernel)) (ziZ _ rfl) (ziZ _ rfl) (by decide) (by decide)
def vdU:validB mU=true:=zkz (a:=mA) (b:=mB) vdA vdB rfl (by decide +kernel) (by decide +kernel)
def vdC:validB mC=true:=zjO (a:=mA) (b:=mB) vdA vdB rfl (wg1 q8) (by decide +kernel) (by decide +kernel)
def vdS:validB mS=true:=ziX (a:=mA) vdA (by decide +kernel) (by decide +kernel)
def vdR:validB mR=true:=zjP (a:=mA) vdA 2 3 (by decide +kernel) (by decide +kernel)
def vdT:validB mT=true:=zom (a:=mA) vdA (wg1 q72)
def vdL:validB mL=true:=ziN (by decide +kernel) (ziZ _ rfl) (by decide)
def vdK:validB mK=true:=ziX (a:=mH) vdH (by decide +kernel) (by decide +kernel)
def zuH:∀ p r,zck p->zck r->VL kd1 mA p r=W9 kd1 [1] [2] (f1 3) p r:=zyp kd1 (ps _ rfl) (ps _ rfl) (zgC q3)
def valB:∀ p r,zck p->zck r->VL kd1 mB p r=W9 kd1 [1] [2] (f1 5) p r:=zyp kd1 (ps _ rfl) (ps _ rfl) (zgC q5)
def valH:∀ p r,zck p->zck r->VL kd2 mH p r=W9 kd2 [] [] (f2 (1/2) (by decide +kernel)) p r:=zyp kd2 (ps _ rfl) (ps _ rfl) (zyq q12 (by decide +kernel))
def valU (u v:List Nat)(hu:zck u)(hv:zck v):VL kd1 mU u v=(srE 1 kd1).add (W9 kd1 [1] [2] (f1 3) u v) (W9 kd1 [1] [2] (f1 5) u v):=by
 rw[<- zuH u v hu hv,<- valB u v hu hv];exact ziC (zcB kd1) (zcC kd1) (zch kd1) (zbB vdA) (zbB vdB) u v
def valC (u v:List Nat)(hu:zck u)(hv:zck v):VL kd1 mC u v=sp (srE 1 kd1) u v (fun p q r s=>(srE 1 kd1).mul (W9 kd1 [1] [2] (f1 3) p r) (W9 kd1 [1] [2] (f1 5) q s)):=by
 have e:vE kd1 s8=(srE 1 kd1).mul (vE kd1 mA.lead) (vE kd1 mB.lead):=by
  rw[show mA.lead=s3 from rfl,show mB.lead=s5 from rfl,zgC q8,zgC q3,zgC q5];exact Subtype.ext (by decide +kernel)
 refine(zly (zcB kd1) (zcC kd1) e (zbB vdA) (zbB vdB) u v).trans ?_;exact zcP (fun p q r s hp hr=>by rw[<- zuH p r (hu.left hp) (hv.left hr),<- valB q s (hu.right hp) (hv.right hr)];rfl)
def zEw (d:Nat)(u v:List Nat)(hd:u.length+v.length<d)(hu:zck u)(hv:zck v):VL kd1 mS u v=zng (srE 1 kd1) (W9 kd1 [1] [2] (f1 3)) d u v :=
 zoW (srE 1 kd1) (X:=VL kd1 mS) zuH (fun u v=>zlz (zcB kd1) (zcC kd1) (zch kd1) (zeI kd1) (zbB vdA) u v) d u v hd hu hv
def valK (d:Nat)(u v:List Nat)(hd:u.length+v.length<d)(hu:zck u)(hv:zck v):VL kd2 mK u v=zng (srE 2 kd2) (W9 kd2 [] [] (f2 (1/2) (by decide +kernel))) d u v :=
 zoW (srE 2 kd2) (X:=VL kd2 mK) valH (fun u v=>zlz (zcB kd2) (zcC kd2) (zch kd2) (zeI kd2) (zbB vdH) u v) d u v hd hu hv
def valR (u v:List Nat)(hu:zck u)(hv:zck v):VL kd1 mR u v=ziL (srE 1 kd1) (W9 kd1 [1] [2] (f1 3)) 3 2 u v:=by
 refine(zhI (zcB kd1) (zcC kd1) (zch kd1) (zeI kd1) (zbB vdA) 2 3 u v).trans ?_;exact zqu (srE 1 kd1) zuH 3 2 u v hu hv
def valT (u v:List Nat)(hu:zck u)(hv:zck v):VL kd1 mT u v=(srE 1 kd1).mul (f1 (1/2)) (W9 kd1 [1] [2] (f1 3) u v):=by
 rw[<- zuH u v hu hv,<- zgC q12];exact zsa (by rw[zgC q72,zgC q12,show mA.lead=s3 from rfl,zgC q3];exact Subtype.ext (by decide +kernel)) u v
def valL (u v:List Nat)(hu:zck u)(hv:zck v):VL kd1 mL u v = @ite _ (∃ s,s∈[1,2]/\u=[s]/\v=[s]) (Classical.propDecidable _) (srE 1 kd1).one (srE 1 kd1).zero :=
 zoh (zcB kd1) (zcC kd1) 1 (zch kd1) (zeI kd1) (by decide) (ps _ rfl) hu hv
def tU1:tx (VL kd1 mU [1] [2])=s3:=by rw[valU _ _ (ps _ rfl) (ps _ rfl)];decide +kernel
def tU2:tx (VL kd1 mU [1] [1])=zcU:=by rw[valU _ _ (ps _ rfl) (ps _ rfl)];decide +kernel
def tC1:tx (VL kd1 mC [1,1] [2,2])=s8:=by rw[valC _ _ (ps _ rfl) (ps _ rfl)];decide +kernel
def tS1:tx (VL kd1 mS [] [])=zcD:=by rw[zEw 1 _ _ (by decide) (ps _ rfl) (ps _ rfl)];decide +kernel
def tS2:tx (VL kd1 mS [1,1] [2,2])=⟨#[54]⟩:=by rw[zEw 5 _ _ (by decide) (ps _ rfl) (ps _ rfl)];decide +kernel
def tS3:tx (VL kd1 mS [1] [])=zcU:=by rw[zEw 2 _ _ (by decide) (ps _ rfl) (ps _ rfl)];decide +kernel
def tR1:tx (VL kd1 mR [1] [2])=zcU:=by rw[valR _ _ (ps _ rfl) (ps _ rfl)];decide +kernel
def tR2:tx (VL kd1 mR [1,1] [2,2])=⟨#[54]⟩:=by rw[valR _ _ (ps _ rfl) (ps _ rfl)];decide +kernel
def tT1:tx (VL kd1 mT [1] [2])=s72:=by rw[valT _ _ (ps _ rfl) (ps _ rfl)];decide +kernel
def tL1:tx (VL kd1 mL [2] [2])=zcD:=by
 rw[valL _ _ (ps _ rfl) (ps _ rfl),if_pos ⟨2,by decide,rfl,rfl⟩];decide +kernel
def tL2:tx (VL kd1 mL [1,2] [1,2])=zcU:=by
 rw[valL _ _ (ps _ rfl) (ps _ rfl),if_neg (by rintro ⟨s,_,h,_⟩;simp at h)];decide +kernel
def tK1:tx (VL kd2 mK [] [])=⟨#[50]⟩:=by rw[valK 1 _ _ (by decide) (ps _ rfl) (ps _ rfl)];decide +kernel
open Go.RowKit
section
variable {k:Int} {hk:zam k}
def znO (h:k=1∨k=3){n:Nat}{u v:El k}(hu:zaA n u.1)(hv:zaA n v.1):zaA n ((srE k hk).add u v).1:=by
 rcases h with rfl|rfl
 ·rcases (zxM hk).pick u v with e|e <;> rw[e] <;> assumption
 rcases (zxN hk).pick u v with e|e <;> rw[e] <;> assumption
def znh {m n:Nat}{u v:El k}(hm:1<=m)(hu:zaA m u.1)(hv:zaA n v.1):zaA (m+n+1) ((srE k hk).mul u v).1:=zkt k hm hu hv
def znP {n:Nat}(h1:1<=n):zaA n (srE k hk).zero.1:=zaA.mono (zoa k) h1
def zyr {n:Nat}(h1:1<=n):zaA n (srE k hk).one.1:=zaA.mono (zli k) h1
def zys (h:k=1∨k=3){n:Nat}(h1:1<=n):∀ {L:List (Nat×El k)},(∀ e∈L,zaA n e.2.1)->∀ y,zaA n (cs (srE k hk) L y).1
 | [],_,y=>znP h1
 | e::L,hL,y=>by
  show zaA n (if e.1=y then (srE k hk).add e.2 (cs (srE k hk) L y) else cs (srE k hk) L y).1;have ih:=zys h h1 (L:=L) (fun x hx=>hL x (zqao _ hx)) y;split;exact znO h (hL e (zqbm ..)) ih;exact ih
def zEx (h:k=1∨k=3){n:Nat}(h1:1<=n){f:Nat->El k}:∀ {N:Nat},(∀ m,m<N->zaA n (f m).1)->zaA n (sm (srE k hk) N f).1
 | 0,_=>znP h1
 | N+1,hf=>znO h (zEx h h1 (fun m hm=>hf m (by omega))) (hf N (by omega))
def zsG (h:k=1∨k=3){n:Nat}(h1:1<=n)(h4:n<=400){L:List (Nat×El k)}(hL:∀ e∈L,zaA n e.2.1):zaR (srE k hk) zav L:=fun D e R he=>by
 subst he;have he:zaA n e.2.1:=hL e (by simp);exact⟨zaA.fits he h4,zaA.fits (znO h (zys h h1 (fun x hx=>hL x (by simp[hx])) _) he) h4⟩
def zwv (h:k=1∨k=3){A:Nat->Nat->El k}{N w:Nat}(hw:1<=w)(hA:∀ x y,x<N->y<N->zaA w (A x y).1){t i j:Nat}(ht:t<=N)(hi:i<N)(hj:j<N):zaA ((w+1)*(N+1)+1) (el (srE k hk) A t i j).1:=by
 have key:∀ I,zgh (srE k hk) I->(∀ v,I v->zaA 1 v.1)->zaA ((w+1)*(N+1)+1) (el (srE k hk) A t i j).1:=fun I P hI=>by
  rcases P.few (A:=A) (n:=t) (i:=i) (j:=j) with e|e|⟨ms,h1,h2,e⟩;rw[e];exact znP (by omega);exact zaA.mono (hI _ e) (by omega);rw[<- e];refine zaA.mono (zrZ (hk:=hk) hw hA hj ms i hi (fun m hm=>by have:=h2 m hm;omega)) ?_;have:=zqbd (w+1) (show ms.length+1<=N+1 by omega);omega
 rcases h with rfl|rfl;exact key _ (zxM hk) (fun v hv=>by rw[show v.1=.inl false from hv];trivial);exact key _ (zxN hk) (fun v hv=>by rw[show v.1=.inl true from hv];trivial)
def zBy (h:k=1∨k=3)(u:El k):zaA 1 ((srE k hk).star u).1:=by
 rcases h with rfl|rfl
 ·rcases (zxM hk).star u with e|e
  ·rw[e];exact zyr (by omega)
  rw[show((srE 1 hk).star u).1=.inl false from e];trivial
 rcases (zxN hk).star u with e|e
 ·rw[e];exact zyr (by omega)
 rw[show((srE 3 hk).star u).1=.inl true from e];trivial
def wB (w n:Nat):Nat:=(w+1)*(n+1)+1
def zyt (h:k=1∨k=3){A:Nat->Nat->El k}{N w:Nat}(hw:1<=w)(hA:∀ x y,x<N->y<N->zaA w (A x y).1){i j:Nat}(hi:i<N)(hj:j<N):zaA (wB w N) (stM (srE k hk) A N i j).1:=by
 have h1:=zwv (hk:=hk) h hw hA (zqab N) hi hj;unfold stM idm;refine znO h ?_ h1;unfold wB;split;exact zyr (by omega);exact znP (by omega)
def zHC (h:k=1∨k=3){A:Nat->Nat->El k}{N w:Nat}(hw:1<=w)(hA:∀ x y,x<N->y<N->zaA w (A x y).1)(hb:2*wB w N+3<=400):zmW hk A N:=by
 have he:∀ {t i j:Nat},t<=N->i<N->j<N->zaA (wB w N) (el (srE k hk) A t i j).1:=fun ht hi hj=>zwv (hk:=hk) h hw hA ht hi hj;have h1:1<=wB w N:=by unfold wB;omega
 have ho:∀ t i,t<N->i<N->zaA (wB w N+1+1) ((srE k hk).mul (el (srE k hk) A t i t) ((srE k hk).star (el (srE k hk) A t t t))).1:=fun t i ht hi=>znh h1 (he (by omega) hi ht) (zBy h _);refine⟨fun t ht=>zaA.fits (zBy h _) (by omega),fun t i ht hi=>zaA.fits (ho t i ht hi) (by omega),fun t i j ht hi hj=>?_,fun t i j ht hi hj=>zaA.fits (he (by omega) hi hj) (by omega),fun i hi=>zaA.fits (zyt h hw hA hi hi) (by omega)⟩;exact zaA.fits (znh (by omega) (ho t i ht hi) (he (t:=t) (by omega) ht hj)) (by omega)
structure W13 (hk:zam k)(w:Nat)(l:List zac):Prop where
 arcs:∀ i,∀ a∈stA l i,zaA w (vE hk a.w).1
 fins:∀ i,stF l i≠noB->zaA w (vE hk (stF l i)).1
variable {l:List zac} {w:Nat}
def W13.tgt (hl:W13 hk w l)(p:zaz->Bool)(i:Nat):∀ e∈zcj (vE hk) ((stA l i).filter p),zaA w e.2.1:=fun e he=>by
 obtain⟨a,ha,rfl⟩:=zqbf.1 he;exact hl.arcs i a (List.mem_filter.1 ha).1
def W13.E (h:k=1∨k=3)(hw:1<=w)(hl:W13 hk w l)(i j:Nat):zaA w ((wm9 hk l).E i j).1:=zys h hw (hl.tgt _ i) j
def W13.T (h:k=1∨k=3)(hw:1<=w)(hl:W13 hk w l)(a b i j:Nat):zaA w ((wm9 hk l).T a b i j).1:=by
 show zaA w (if a=0/\b=0 then (srE k hk).zero else cs (srE k hk) (zcj (vE hk) ((stA l i).filter (zdx a b))) j).1;split;exact znP hw;exact zys h hw (hl.tgt _ i) j
def W13.sil (h:k=1∨k=3)(hw:1<=w)(hl:W13 hk w l)(hn:l.length<=60)(hb:2*wB w l.length+3<=400):zqr hk l where
 rows q _:=by
  have hwb:w<=wB w l.length:=by unfold wB;have:=zqbd (w+1) (show 1<=l.length+1 by omega);omega
  exact zsG (hk:=hk) h hw (by omega) (by unfold silI;rw[List.take_length];exact hl.tgt _ q)
 n60:=hn
 star:=zHC h hw (fun x y _ _=>by rw[zuC];exact hl.E h hw x y) hb
def zBz {α:Type}{S:Sr α}{n:Nat}{f:Nat->α}{M:Nat->Nat->α}{e:Nat×α}(he:e∈restL S n f M n 0):∃ q p,q<n/\p<n/\e=(p,S.mul (f q) (M q p)):=by
 unfold restL restRow at he;rcases zqbo.1 he with he|he
 ·obtain⟨q,hq,he⟩:=List.mem_flatMap.1 he
  obtain⟨p,hp,he⟩:=List.mem_flatMap.1 he;split at he;cases he;exact⟨q,p,List.mem_range.1 hq,List.mem_range.1 hp,zqbk.1 he⟩
 simp at he
def zBA {α:Type}{S:Sr α}{ve:ByteArray->α}{l:List zac}{f:Nat->α}{a b:Nat}{e:Nat×α}(he:e∈stepL S ve l f a b l.length 0):∃ q x,q<l.length/\x∈stA l q/\e=zfL S ve f q x:=by
 have key:∀ {q t:Nat},e∈stepRow S ve l f a b q t->∃ x,x∈stA l q/\e=zfL S ve f q x:=fun {q t} h=>by
  unfold stepRow at h;split at h;cases h;obtain⟨x,hx,rfl⟩:=zqbf.1 h;exact⟨x,zqau (List.mem_filter.1 hx).1,rfl⟩
 unfold stepL at he;rcases zqbo.1 he with he|he
 ·obtain⟨q,hq,he⟩:=List.mem_flatMap.1 he
  obtain⟨x,hx,rfl⟩:=key he;exact⟨q,x,List.mem_range.1 hq,hx,rfl⟩
 unfold stepRow at he;split at he <;> simp at he
def zEy {α:Type}{S:Sr α}{ve:ByteArray->α}{l:List zac}{f:Nat->α}{n:Nat}{e:Nat×α}(he:e∈finL S ve l f n):∃ q,q<n/\stF l q≠noB/\e=(0,S.mul (f q) (ve (stF l q))):=by
 unfold finL at he;obtain⟨q,hq,he⟩:=List.mem_flatMap.1 he;split at he;cases he
 next h=>exact⟨q,List.mem_range.1 hq,h,zqbk.1 he⟩
def wG (w w0 n p:Nat):Nat:=w0+p*(wB w n+w+2)
def zGy (w w0 n p:Nat):wG w w0 n (p+1)=wG w w0 n p+(wB w n+w+2):=by unfold wG;rw[Nat.succ_mul];omega
def znQ (w w0 n:Nat){p q:Nat}(h:p<=q):wG w w0 n p<=wG w w0 n q:=by unfold wG;exact Nat.add_le_add_left (Nat.mul_le_mul_right _ h) _
def zfS (w w0 n:Nat)(V:Nat->Nat->Nat->El k)(i j:Nat):Prop:=∀ i' j' q,q<n->un i j i' j'=true->zaA (wG w w0 n (i'+j')) (V i' j' q).1
variable {w0:Nat}
def zBB (h:k=1∨k=3)(hw:1<=w)(h0:1<=w0)(hl:W13 hk w l){f:Nat->El k}{p:Nat}(hf:∀ q,q<l.length->zaA (wG w w0 l.length p) (f q).1){q:Nat}(hq:q<l.length):zaA (wG w w0 l.length p+wB w l.length+1) (zaW (srE k hk) (wm9 hk l) f q).1 :=
 zEx h (by omega) (fun m hm=>znh (by unfold wG;omega) (hf m hm) (zyt h hw (fun x y _ _=>hl.E h hw x y) hm hq))
def zHU (h:k=1∨k=3)(hw:1<=w)(hl:W13 hk w l){f:Nat->El k}{b:Nat}(hb:1<=b)(hf:∀ q,q<l.length->zaA b (f q).1)(x y q:Nat):zaA (b+w+1) (stp (srE k hk) (wm9 hk l) f x y q).1 :=
 zEx h (by omega) (fun m hm=>znh hb (hf m hm) (hl.T h hw x y m q))
def zfS.proc1 {n i j:Nat}{V:Nat->Nat->Nat->El k}{m:Wm (El k)}(h:zfS w w0 n V i j):zfS w w0 n (proc1 (srE k hk) m V i j) i (j+1):=fun i' j' q hq hu=>by
 have hu2:=of_decide_eq_true hu
 have e:Go.Proofs.YtadgpgofcjpnjaaGreatDoor.proc1 (srE k hk) m V i j i' j' q=V i' j' q:=by
  unfold Go.Proofs.YtadgpgofcjpnjaaGreatDoor.proc1 zov;rw[if_neg (by omega)]
 rw[e];exact h i' j' q hq (decide_eq_true (by omega))
def zfS.add (h13:k=1∨k=3){n i j i2 j2:Nat}{V:Nat->Nat->Nat->El k}{g:Nat->El k}(h:zfS w w0 n V i j)(h2:un i j i2 j2=true)(hg:∀ q,q<n->zaA (wG w w0 n (i2+j2)) (g q).1):zfS w w0 n (zfj (srE k hk) V i2 j2 g) i j:=fun i' j' q hq hu=>by
 unfold zfj;split
 ·next e =>
  rw[e.1,e.2];exact znO h13 (h i2 j2 q hq h2) (hg q hq)
 exact h i' j' q hq hu
def zrz (h:k=1∨k=3)(hw:1<=w)(h0:1<=w0)(hl:W13 hk w l){V:Nat->Nat->Nat->El k}{i j:Nat}(x y:List Nat)(hi:i<=x.length)(hj:j<=y.length)(any:Prop)(hv:zfS w w0 l.length V i j)(hb:wG w w0 l.length (x.length+y.length)+wB w l.length+w+2<=400) :
  zul (srE k hk) zav (vE hk) (finE hk) l x y any V i j/\zfS w w0 l.length (zfQ (srE k hk) (wm9 hk l) x y V i j) i (j+1):=by
 have hg0:1<=wG w w0 l.length (i+j):=by unfold wG;omega
 have hgm:=znQ w w0 l.length (show i+j<=x.length+y.length by omega);have hgs:=zGy w w0 l.length (i+j);have hfr:∀ q,q<l.length->zaA (wG w w0 l.length (i+j)+wB w l.length+1) (zaW (srE k hk) (wm9 hk l) (V i j) q).1:=fun q hq=>zBB h hw h0 hl (fun q hq=>hv i j q hq (by unfold un;simp)) hq;have hst:∀ a b q,zaA (wG w w0 l.length (i+j+1)) (stp (srE k hk) (wm9 hk l) (zaW (srE k hk) (wm9 hk l) (V i j)) a b q).1:=fun a b q=>zaA.mono (zHU h hw hl (by omega) hfr a b q) (by omega);have v1:zfS w w0 l.length (proc1 (srE k hk) (wm9 hk l) V i j) i (j+1):=hv.proc1
 have v2:zfS w w0 l.length (zci (srE k hk) (wm9 hk l) x (proc1 (srE k hk) (wm9 hk l) V i j) i j) i (j+1):=by
  unfold zci;split
  ·refine v1.add h (by unfold un;simp) (fun q hq=>?_)
   rw[zbS,show i+1+j=i+j+1 by omega];exact hst _ _ _
  exact v1
 have v3:zfS w w0 l.length (zdk (srE k hk) (wm9 hk l) y (zci (srE k hk) (wm9 hk l) x (proc1 (srE k hk) (wm9 hk l) V i j) i j) i j) i (j+1):=by
  unfold zdk;split
  ·refine v2.add h (by unfold un;simp) (fun q hq=>?_)
   rw[zdU,zbS,show i+(j+1)=i+j+1 by omega];exact hst _ _ _
  exact v2
 have v4:zfS w w0 l.length (zfQ (srE k hk) (wm9 hk l) x y V i j) i (j+1):=by
  unfold zfQ zgL;split
  ·refine v3.add h (by unfold un;simp) (fun q hq=>?_)
   rw[zhU,zdU,zbS];exact zaA.mono (hst _ _ _) (znQ w w0 l.length (by omega))
  exact v3
 have zS':∀ a b,zaR (srE k hk) zav (stepL (srE k hk) (vE hk) l (zaW (srE k hk) (wm9 hk l) (V i j)) a b l.length 0):=fun a b=>zsG (hk:=hk) (n:=wG w w0 l.length (i+j)+wB w l.length+w+2) h (by omega) (by omega) (fun e he=>by
  obtain⟨q,c,hq,hc,rfl⟩:=zBA he;exact zaA.mono (znh (hk:=hk) (by omega) (hfr q hq) (hl.arcs q c hc)) (by omega))
 have hsum:∀ (U:Nat->Nat->Nat->El k) i2 j2 a b,zfS w w0 l.length U i (j+1)->un i (j+1) i2 j2=true->i+j+1<=i2+j2->i2+j2<=x.length+y.length->∀ p,p<l.length->zav ((srE k hk).add (U i2 j2 p) (stp (srE k hk) (wm9 hk l) (zaW (srE k hk) (wm9 hk l) (V i j)) a b p)):=fun U i2 j2 a b hU hu h3 h4 p hp=>by
  have:=znQ w w0 l.length h4;exact zaA.fits (znO h (hU i2 j2 p hp hu) (zaA.mono (hst a b p) (znQ w w0 l.length h3))) (by omega)
 refine⟨⟨fun _=>?_,fun h1=>⟨?_,?_⟩,fun h1=>⟨?_,?_⟩,fun h1=>⟨?_,?_⟩⟩,v4⟩
 ·refine zsG (hk:=hk) (n:=wG w w0 l.length (i+j)+wB w l.length+1) h (by omega) (by omega) (fun e he=>?_)
  obtain⟨q,p,hq,hp,rfl⟩:=zBz he;exact znh (hk:=hk) hg0 (hv i j q hq (by unfold un;simp)) (zyt h hw (fun x y _ _=>hl.E h hw x y) hq hp)
 ·rw[show proc1 (srE k hk) (wmG (srE k hk) (vE hk) (finE hk) l) V i j i j=zaW (srE k hk) (wm9 hk l) (V i j) from zbS _ _ _]
  exact zS' _ _
 ·rw[show proc1 (srE k hk) (wmG (srE k hk) (vE hk) (finE hk) l) V i j i j=zaW (srE k hk) (wm9 hk l) (V i j) from zbS _ _ _]
  exact hsum _ _ _ _ _ v1 (by unfold un;simp) (by omega) (by omega)
 ·rw[zdU,show proc1 (srE k hk) (wmG (srE k hk) (vE hk) (finE hk) l) V i j i j=zaW (srE k hk) (wm9 hk l) (V i j) from zbS _ _ _]
  exact zS' _ _
 ·rw[zdU,show proc1 (srE k hk) (wmG (srE k hk) (vE hk) (finE hk) l) V i j i j=zaW (srE k hk) (wm9 hk l) (V i j) from zbS _ _ _]
  exact hsum _ _ _ _ _ v2 (by unfold un;simp) (by omega) (by omega)
 ·rw[zhU,zdU,show proc1 (srE k hk) (wmG (srE k hk) (vE hk) (finE hk) l) V i j i j=zaW (srE k hk) (wm9 hk l) (V i j) from zbS _ _ _]
  exact zS' _ _
 rw[zhU,zdU,show proc1 (srE k hk) (wmG (srE k hk) (vE hk) (finE hk) l) V i j i j=zaW (srE k hk) (wm9 hk l) (V i j) from zbS _ _ _];exact hsum _ _ _ _ _ v3 (by unfold un;simp) (by omega) (by omega)
def vi13 (h:k=1∨k=3)(hw:1<=w)(h0:1<=w0)(hl:W13 hk w l){lead:El k}{start:Nat}(x y:List Nat)(hlead:zaA w0 lead.1)(hb:wG w w0 l.length (x.length+y.length)+wB w l.length+w+2<=400) :
  ∀ i,i<=x.length->∀ j,j<=y.length+1->zfS w w0 l.length (VI9 hk l lead start x y i j) i j:=by
 intro i
 induction i with
 | zero =>
  intro hi j
  induction j with
  | zero =>
   intro _ i' j' q hq _;show zaA _ (V09 (srE k hk) lead start i' j' q).1;unfold V09;split;exact zaA.mono hlead (by unfold wG;omega);exact znP (by unfold wG;omega)
  | succ j ih=>intro hj;exact zQcr
 | succ i ihi =>
  intro hi j
  induction j with
  | zero =>
   intro _ i' j' q hq hu;refine ihi (by omega) (y.length+1) (zqab _) i' j' q hq ?_;have:=of_decide_eq_true hu;exact decide_eq_true (by omega)
  | succ j ih=>intro hj;exact zQcr
def zHD (h:k=1∨k=3)(hw:1<=w)(h0:1<=w0)(hl:W13 hk w l){lead:El k}{start:Nat}(x y:List Nat)(hlead:zaA w0 lead.1)(hn:l.length<=60)(hb:wG w w0 l.length (x.length+y.length)+wB w l.length+w+2<=400)(hb2:2*wB w l.length+3<=400):zsF hk l lead start x y where
 sil _:=hl.sil h hw hn hb2
 place i j hi hj:=(zrz h hw h0 hl x y hi hj _ (vi13 h hw h0 hl x y hlead hb i hi j (by omega)) hb).1
 fin:=by
  have e:VI9 hk l lead start x y x.length (y.length+1) x.length y.length=zaW (srE k hk) (wm9 hk l) (VI9 hk l lead start x y x.length y.length x.length y.length):=zmN _ _ _ _;rw[e];refine zsG (hk:=hk) (n:=wG w w0 l.length (x.length+y.length)+wB w l.length+w+2) h (by omega) hb (fun c hc=>?_);obtain⟨q,hq,hf,rfl⟩:=zEy hc;exact zaA.mono (znh (hk:=hk) (by omega) (zBB h hw h0 hl (fun q hq=>vi13 h hw h0 hl x y hlead hb x.length (zqab _) y.length (by omega) x.length y.length q hq (by unfold un;simp)) hq) (hl.fins q hf)) (by omega)
end
open Go.RowKit
def okW (a:ByteArray):Bool:=decide (a=zak 1) || decide (a=s3) || decide (a=s5)
def okS (s:zac):Bool:=(decide (s.fin=noB) || okW s.fin)&&s.arcs.all (fun a=>okW a.w)
def zoX {a:ByteArray}(h:okW a=true):zaA 1 (vE kd1 a).1:=by
 unfold okW at h;rw[Bool.or_eq_true,Bool.or_eq_true,zqca,zqca,zqca] at h;rcases h with(rfl|rfl)|rfl
 rw[zch];exact zyr (by omega);rw[zgC q3];show zdr 1 (3:Rat);unfold zdr;decide +kernel;rw[zgC q5];show zdr 1 (5:Rat);unfold zdr;decide +kernel
def zHE {l:List zac}(h:l.all okS=true):W13 kd1 1 l where
 arcs i a ha:=by
  unfold stA at ha;cases hs:l[i]? with
  | none=>rw[hs] at ha;cases ha
  | some s =>
   rw[hs] at ha;have:=List.all_eq_true.1 h s (zqak hs);unfold okS at this;rw[zqbb,List.all_eq_true] at this;exact zoX (this.2 a ha)
 fins i hi:=by
  unfold stF at hi ⊢;cases hs:l[i]? with
  | none=>rw[hs] at hi;exact absurd rfl hi
  | some s =>
   rw[hs] at hi;have:=List.all_eq_true.1 h s (zqak hs);unfold okS at this;rw[zqbb,Bool.or_eq_true,zqca] at this;rcases this.1 with e|e
   exact absurd e hi;exact zoX e
def znR {m:zah}(x y:List Nat)(h:m.states.all okS=true)(hl:zaA 1 (vE kd1 m.lead).1)(hn:m.states.length<=10)(hxy:x.length+y.length<=6):WF kd1 m x y:=by
 refine zHD (.inl rfl) (w:=1) (w0:=1) (by omega) (by omega) (zHE h) x y hl (by omega) ?_ ?_
 ·have h1:wB 1 m.states.length<=23:=by unfold wB;omega
  have h2:wG 1 1 m.states.length (x.length+y.length)<=1+6*26:=by
   unfold wG;have:=Nat.mul_le_mul hxy (show wB 1 m.states.length+1+2<=26 by omega);omega
  omega
 unfold wB;omega
def zsH:zaA 1 (vE kd1 (zak 1)).1:=zoX (by decide +kernel)
def l_8:zaA 1 (vE kd1 s8).1:=by rw[zgC q8];show zdr 1 (8:Rat);unfold zdr;decide +kernel
def l_72:zaA 1 (vE kd1 s72).1:=by rw[zgC q72];show zdr 1 (7/2:Rat);unfold zdr;decide +kernel
def wfU (x y:List Nat)(h:x.length+y.length<=6):WF kd1 mU x y:=znR x y (by decide +kernel) zsH (by decide +kernel) h
def wfC (x y:List Nat)(h:x.length+y.length<=6):WF kd1 mC x y:=znR x y (by decide +kernel) l_8 (by decide +kernel) h
def wfS (x y:List Nat)(h:x.length+y.length<=6):WF kd1 mS x y:=znR x y (by decide +kernel) zsH (by decide +kernel) h
def wfR (x y:List Nat)(h:x.length+y.length<=6):WF kd1 mR x y:=znR x y (by decide +kernel) zsH (by decide +kernel) h
def wfT (x y:List Nat)(h:x.length+y.length<=6):WF kd1 mT x y:=znR x y (by decide +kernel) l_72 (by decide +kernel) h
def wfL (x y:List Nat)(h:x.length+y.length<=6):WF kd1 mL x y:=znR x y (by decide +kernel) zsH (by decide +kernel) h
open Go.RowKit
def zEz:Ext->Bool
 | .inr x=>decide (Lib.nDigits x.num.natAbs<=400)&&decide (Lib.nDigits x.den<=400)
 | _=>true
def zkO {v:El 2}(h:zEz v.1=true):zav v:=by
 unfold zav;rcases hv:v.1 with b|x
 trivial;rw[hv] at h;unfold zEz at h;rw[zqbb,zqca,zqca] at h;exact h
def h12:decide ((0:Rat)<=1/2)=true:=by decide +kernel
def TK (i j:Nat):El 2:=if i=0 then (if 1=j then f2 (1/2) h12 else (srE 2 kd2).zero) else if i=1 then (if 0=j then (srE 2 kd2).one else (srE 2 kd2).zero) else (srE 2 kd2).zero
def kE (i j:Nat):(wm9 kd2 mK.states).E i j=TK i j:=by
 match i with
 | 0 =>
  show(if (1:Nat)=j then (srE 2 kd2).add (vE kd2 s12) (srE 2 kd2).zero else (srE 2 kd2).zero)=if 1=j then f2 (1/2) h12 else (srE 2 kd2).zero
  rw[zyq q12 h12,(srE 2 kd2).add_zero]
 | 1 =>
  show(if (0:Nat)=j then (srE 2 kd2).add (vE kd2 (zak 2)) (srE 2 kd2).zero else (srE 2 kd2).zero)=if 0=j then (srE 2 kd2).one else (srE 2 kd2).zero
  rw[zch kd2,(srE 2 kd2).add_zero]
 | i+2=>rfl
def kEf:(wm9 kd2 mK.states).E=TK:=funext fun i=>funext fun j=>kE i j
def kSil:silE kd2 mK.states=TK:=funext fun i=>funext fun j=>(zuC kd2 mK.states i j).trans (kE i j)
def zHX {P:Nat->Prop}(h0:P 0)(h1:P 1):∀ i,i<2->P i:=fun i hi=>by
 rcases (show i=0∨i=1 by omega) with rfl|rfl;exact h0;exact h1
def zqv (F:Nat->Nat->Nat->El 2)(h:(∀ t,t<2->∀ i,i<2->∀ j,j<2->zEz (F t i j).1=true))(t i j:Nat)(ht:t<2)(hi:i<2)(hj:j<2):zav (F t i j):=zkO (h t ht i hi j hj)
def kR:zmW kd2 TK 2 where
 star t ht:=zqv (fun t _ _=>(srE 2 kd2).star (el (srE 2 kd2) TK t t t)) (by decide +kernel) t 0 0 ht (by omega) (by omega)
 once t i ht hi:=zqv (fun t i _=>(srE 2 kd2).mul (el (srE 2 kd2) TK t i t) ((srE 2 kd2).star (el (srE 2 kd2) TK t t t))) (by decide +kernel) t i 0 ht hi (by omega)
 twice t i j ht hi hj:=zqv (fun t i j=>(srE 2 kd2).mul ((srE 2 kd2).mul (el (srE 2 kd2) TK t i t) ((srE 2 kd2).star (el (srE 2 kd2) TK t t t))) (el (srE 2 kd2) TK t t j)) (by decide +kernel) t i j ht hi hj
 sum t i j ht hi hj:=zqv (fun t i j=>el (srE 2 kd2) TK (t+1) i j) (by decide +kernel) t i j ht hi hj
 last i hi:=zqv (fun _ i _=>stM (srE 2 kd2) TK 2 i i) (by decide +kernel) 0 i 0 (by omega) hi (by omega)
def znS {y:Nat}{v:El 2}(h:zav v):zaR (srE 2 kd2) zav [(y,v)] :=
 zaR.snoc (D:=[]) zaR.nil h (by show zav ((srE 2 kd2).add (srE 2 kd2).zero v);rw[(srE 2 kd2).zero_add];exact h)
def zGz {y z:Nat}{u v:El 2}(hu:zav u)(hv:zav v)(hne:y≠z):zaR (srE 2 kd2) zav [(y,u),(z,v)] :=
 zaR.snoc (D:=[(y,u)]) (znS hu) hv (by
  show zav ((srE 2 kd2).add (if y=z then (srE 2 kd2).add u (srE 2 kd2).zero else (srE 2 kd2).zero) v);rw[if_neg hne,(srE 2 kd2).zero_add];exact hv)
def kSF:zqr kd2 mK.states where
 rows q hq:=by
  have hq2:q<2:=hq;rcases (show q=0∨q=1 by omega) with rfl|rfl
  exact znS (y:=1) (v:=vE kd2 s12) (by rw[zyq q12 h12];exact zkO (by decide +kernel));exact znS (y:=0) (v:=vE kd2 (zak 2)) (by rw[zch kd2];exact zkL kd2)
 n60:=by decide +kernel
 star:=by rw[kSil];exact kR
def fK (q:Nat):El 2:=if q=0 then (srE 2 kd2).one else (srE 2 kd2).zero
def kV:VI9 kd2 mK.states (vE kd2 mK.lead) mK.start.toNat [] [] 0 0 0 0=fK:=funext fun q=>by
 show(if (0:Nat)=0/\(0:Nat)=0/\q=0 then vE kd2 (zak 2) else (srE 2 kd2).zero)=if q=0 then (srE 2 kd2).one else (srE 2 kd2).zero
 rw[zch kd2]
 by_cases h:q=0
 rw[if_pos h,if_pos ⟨rfl,rfl,h⟩];rw[if_neg h,if_neg (fun e=>h e.2.2)]
def zuI {u v:El 2}(h:decide (u.1=v.1)=false):u≠v:=fun e=>by rw[e] at h;simp at h
def zHV:restL (srE 2 kd2) 2 fK (stM (srE 2 kd2) TK 2) 2 0=[(0,(srE 2 kd2).mul (fK 0) (stM (srE 2 kd2) TK 2 0 0)),(1,(srE 2 kd2).mul (fK 0) (stM (srE 2 kd2) TK 2 0 1))]:=by
 have z1:fK 1=(srE 2 kd2).zero:=rfl;have z0:fK 0≠(srE 2 kd2).zero:=zuI (by decide +kernel);have m0:stM (srE 2 kd2) TK 2 0 0≠(srE 2 kd2).zero:=zuI (by decide +kernel);have m1:stM (srE 2 kd2) TK 2 0 1≠(srE 2 kd2).zero:=zuI (by decide +kernel);unfold restL restRow;rw[show List.range 2=[0,1] from rfl,show List.range 0=[] from rfl];simp only[List.flatMap_cons,List.flatMap_nil,z1,true_or,if_true,if_neg (not_or.2 ⟨z0,m0⟩),if_neg (not_or.2 ⟨z0,m1⟩),List.append_nil,List.cons_append,List.nil_append]
def wfK:WF kd2 mK [] [] where
 sil _:=kSF
 place i j hi hj:=by
  obtain rfl:i=0:=by simpa using hi
  obtain rfl:j=0:=by simpa using hj
  refine⟨fun _=>?_,fun h=>absurd h (by decide),fun h=>absurd h (by decide),fun h=>absurd h.1 (by decide)⟩;rw[kV,show(wmG (srE 2 kd2) (vE kd2) (finE kd2) mK.states).E=TK from kEf,show mK.states.length=2 from rfl,zHV];exact zGz (zkO (by decide +kernel)) (zkO (by decide +kernel)) (by decide)
 fin:=by
  have e:VI9 kd2 mK.states (vE kd2 mK.lead) mK.start.toNat [] [] 0 1 0 0=zaW (srE 2 kd2) (wm9 kd2 mK.states) fK:=by
   rw[<- kV];exact zmN _ [] [] _
  show zgF kd2 (finI kd2 mK.states (VI9 kd2 mK.states (vE kd2 mK.lead) mK.start.toNat [] [] 0 1 0 0) 2);rw[e]
  have e2:finI kd2 mK.states (zaW (srE 2 kd2) (wm9 kd2 mK.states) fK) 2=[(0,(srE 2 kd2).mul (zaW (srE 2 kd2) (wm9 kd2 mK.states) fK 0) (vE kd2 (zak 2)))]:=by
   unfold finI finL;rw[show List.range 2=[0,1] from rfl];simp only[List.flatMap_cons,List.flatMap_nil];rw[if_neg (show ¬ stF mK.states 0=noB by decide +kernel),if_pos (show stF mK.states 1=noB by decide +kernel)];rfl
  rw[e2];refine znS ?_;rw[zch kd2];show zav ((srE 2 kd2).mul (sm (srE 2 kd2) 2 (fun q=>(srE 2 kd2).mul (fK q) (stM (srE 2 kd2) (wm9 kd2 mK.states).E 2 q 0))) (srE 2 kd2).one);rw[kEf];exact zkO (by decide +kernel)
open Go.RowKit
def zja {k:Int}(hk:zam k){a b:zah}{av bv xv yv:Value}{x y:List Nat}{w:World}(ha:zan w av a)(hb:zan w bv b)(va:validB a=true)(vb:validB b=true)(ka:a.kind=k)(kb:b.kind=k)(hx:WIn w xv x)(hy:WIn w yv y)(he:VL hk a x y=VL hk b x y) :
  Calls prog 39 #[av,.int .i64 0,bv,.int .i64 0,xv,yv] w (zab (.bool true) w):=by
 have hv:∀ w',w.grownBy w' none->Calls prog 49 #[av,xv,yv] w' (znN (zav (VL hk a x y)) (tx (VL hk a x y)) w'):=fun w' h=>(zjS hk (ha.grown h) va ka (hx.grown h) (hy.grown h)).mono fun e w h=>h.v;have hu:∀ w',w.grownBy w' none->Calls prog 49 #[bv,xv,yv] w' (znN (zav (VL hk b x y)) (tx (VL hk b x y)) w'):=fun w' h=>(zjS hk (hb.grown h) vb kb (hx.grown h) (hy.grown h)).mono fun e w h=>h.v;rw[<- he] at hu;generalize tx (VL hk a x y)=t at hv hu;generalize zav (VL hk a x y)=P at hv hu;have HV:=zHd hv;have HU:=zHd hu;clear hv hu he ka kb va vb;obtain⟨Ax,cx,rfl⟩:=hx.form;obtain⟨Ay,cy,rfl⟩:=hy.form;obtain⟨u,rfl,hst0⟩:=ha;obtain⟨u2,rfl,hst2⟩:=hb;obtain⟨A,cap,us,rfl,_⟩:=hst0;obtain⟨A2,cap2,us2,rfl,_⟩:=hst2;have hg:w.grownBy (w.alloc (.cells #[.int .i64 a.kind,.int .i64 a.start,.string a.lead,.slice A a.states.length cap] 29)) none:=zGA _ _ _;have hbx:=zaf.new w a (.slice A a.states.length cap);generalize hW:w.alloc (.cells #[.int .i64 a.kind,.int .i64 a.start,.string a.lead,.slice A a.states.length cap] 29)=W at *;have hg2:W.grownBy (W.alloc (.cells #[.int .i64 b.kind,.int .i64 b.start,.string b.lead,.slice A2 b.states.length cap2] 29)) none:=zGA _ _ _;have hsz:W.heap.size=w.heap.size+1:=by rw[<- hW];simp
 have hbx2:=zaf.new W b (.slice A2 b.states.length cap2);generalize hW2:W.alloc (.cells #[.int .i64 b.kind,.int .i64 b.start,.string b.lead,.slice A2 b.states.length cap2] 29)=W2 at *;have HB1:=zHd (hbx.grown hg2);have HB2:=zHd hbx2;have HG:=zHd (zaa hg hg2);have HW:=zHd hW;clear hbx hbx2 hg hg2;rw[hsz] at HB2;go_enter func39,ntmps39;go_upto_region 1 with(fail);obtain⟨x0,x1,x2,x3⟩:=HB1.out.cells;clear HW hW2 hsz hW;go_wp2_with fail;refine(HV.out _ HG.out).mono ?_;rintro e w1 ⟨hg1,hr⟩;have HG1:=zHd (zaa HG.out hg1);obtain⟨y0,y1,y2,y3⟩:=(HB2.out.grown hg1).cells;clear hg1 x0 x1 x2 x3;rcases hr with⟨h1,rfl⟩|rfl
 ·go_wp2_with fail
  refine(HU.out _ HG1.out).mono ?_;rintro e w2 ⟨hg2,hr⟩;have HG2:=zHd (zaa HG1.out hg2);clear hg2 HV HU;rcases hr with⟨h2,rfl⟩|rfl
  ·have f1:=zuG t
   exact zQbc
  exact zQbc
 go_wp2_with fail;refine(HU.out _ HG1.out).mono ?_;rintro e w2 ⟨hg2,hr⟩;have HG2:=zHd (zaa HG1.out hg2);clear hg2 HV HU;rcases hr with⟨h2,rfl⟩|rfl
 ·go_wp2
  go_ret;exact⟨rfl,HG2.out⟩
 exact zQbc
def zyu {k:Int}(hk:zam k){m:zah}{mv xv yv:Value}{x y:List Nat}{w:World}(hm:zan w mv m)(zV:validB m=true)(hkd:m.kind=k)(hx:WIn w xv x)(hy:WIn w yv y)(zf:WF hk m x y) :
  Calls prog 40 #[mv,.int .i64 0,xv,yv] w (zab (.string (tx (VL hk m x y))) w):=by
 have hc:∀ w',w.grownBy w' none->Calls prog 49 #[mv,xv,yv] w' (zab (.tuple #[.string (tx (VL hk m x y)),.int .i64 0]) w'):=fun w' h=>(zjS hk (hm.grown h) zV hkd (hx.grown h) (hy.grown h)).mono fun e w h=>by
  rcases h.2 with⟨_,e⟩|⟨hn,_⟩;exact⟨e,h.1⟩;exact absurd zf hn
 generalize tx (VL hk m x y)=t at hc;have HC:=zHd hc;clear hc hkd;obtain⟨Ax,cx,rfl⟩:=hx.form;obtain⟨Ay,cy,rfl⟩:=hy.form;obtain⟨u,rfl,hst0⟩:=hm;have hg:w.grownBy (w.alloc (.cells #[.int .i64 m.kind,.int .i64 m.start,.string m.lead,u] 29)) none:=zGA _ _ _;have hbx:=zaf.new w m u;obtain⟨A,cap,us,rfl,_⟩:=hst0;have HBX:=zHd hbx;have HG:=zHd hg;obtain⟨x0,x1,x2,x3⟩:=hbx.cells;clear hbx hg zV hx hy;go_enter func40,ntmps40;go_upto_region 1 with(fail);generalize w.alloc (.cells #[.int .i64 m.kind,.int .i64 m.start,.string m.lead,.slice A m.states.length cap] 29)=W at *;go_wp2_with fail;refine(HC.out _ HG.out).mono ?_;rintro e w1 ⟨rfl,hg1⟩;have HG1:=zHd (zaa HG.out hg1);clear hg1;go_wp2;go_ret;exact⟨rfl,HG1.out⟩
open Go.RowKit
noncomputable def scaleV (lead:ByteArray)(a:zah)(wt:ByteArray):zah×Int:=if validB a=true/\wgtB a.kind wt=true then ({ a with lead:=lead },0) else (zao,1)
def zaf.set_lead {W:World}{g:Nat}{m:zah}{u:Value}(h:zaf W g m u)(lead:ByteArray):zaf (W.setCell ⟨g,2,none⟩ (.string lead)) g { m with lead:=lead } u:=by
 unfold zaf;rw[heap_setCell_same W g 2 _ _ (.string lead) h];rfl
set_option maxHeartbeats 32000000 in
def zjb {a:zah}{va:Value}{w:World}(ha:zan w va a)(fa:zaZ a)(wt:ByteArray)(hwt:wt.size<=maxLen)(lead:ByteArray)(hlead:validB a=true->wgtB a.kind wt=true->∀ w,Calls prog 60 #[.int .i64 a.kind,.string wt,.string a.lead] w (zab (.tuple #[.string lead,.int .i64 0]) w)):Calls prog 38 #[va,.string wt] w (zbb (scaleV lead a wt) w):=by
 have HVA:=zHd (fun w' (h:w.grownBy w' none)=>zhF (ha.grown h) fa);have HCL:=zHd (fun w' (h:w.grownBy w' none) (hv:validB a=true)=>zxS (ha.grown h) (zhh hv) (fun s hs=>zhi hv hs));have HWG:=zHd (fun k=>zna (k:=k) hwt);have HLD:=zHd hlead;clear hwt hlead;obtain⟨ua,rfl,hst0⟩:=ha;have HST:=zHd hst0;have g1:=zGA w (.cells #[.int .i64 a.kind,.int .i64 a.start,.string a.lead,ua] 29) none;have b1:=zaf.new w a ua;generalize hW1:w.alloc (.cells #[.int .i64 a.kind,.int .i64 a.start,.string a.lead,ua] 29)=W1 at g1 b1;have e1:W1.heap.size=w.heap.size+1:=by rw[<- hW1];simp
 have g2:=zGA W1 (.cells #[.int .i64 0,.int .i64 0,.string ⟨#[]⟩,.slice none 0 0] 29) none;have b2:zaf (W1.alloc (.cells #[.int .i64 0,.int .i64 0,.string ⟨#[]⟩,.slice none 0 0] 29)) W1.heap.size zao (.slice none 0 0):=zaf.new W1 zao (.slice none 0 0);rw[e1] at b2;generalize hW2:W1.alloc (.cells #[.int .i64 0,.int .i64 0,.string ⟨#[]⟩,.slice none 0 0] 29)=W2 at g2 b2;have e2:W2.heap.size=w.heap.size+1+1:=by rw[<- hW2];simp[e1]
 have hg:=zaa g1 g2
 replace b1:=zaf.grown b1 g2
 have HB:=zHd (zAI b1 b2);have HG:=zHd hg;have HSZ2:Hid (w.heap.size+2<=W2.heap.size):=zHd (by omega);obtain⟨x0,x1,x2,x3⟩:=b1.cells;have hW:(w.alloc (.cells #[.int .i64 a.kind,.int .i64 a.start,.string a.lead,ua] 29)).alloc (.cells #[.int .i64 0,.int .i64 0,.string ⟨#[]⟩,.slice none 0 0] 29)=W2:=by rw[hW1,hW2]
 rw[<- hW] at x0 x1 x2 x3;have HW:=zHd hW;clear hW g1 g2 b1 b2 e1 e2 hg hst0 hW1 hW2;go_enter func38,ntmps38;go_wp2_with fail;rw[HW.out];refine(HVA.out _ HG.out).mono ?_;rintro e w1 ⟨rfl,hg1⟩;clear x0 x1 x2 x3 HW;have HG1:=zHd (zaa HG.out hg1);have HB1:=zHd (zAI (HB.out.1.grown hg1) (HB.out.2.grown hg1));have HSZ3:Hid (w.heap.size+2<=w1.heap.size):=zHd (zqam HSZ2.out hg1.size);obtain⟨x0,x1,x2,x3⟩:=HB1.out.1.cells;clear hg1;cases hV:validB a
 ·have HE:Hid (scaleV lead a wt=(zao,1)):=zHd (by unfold scaleV;rw[if_neg (fun h=>by rw[hV] at h;cases h.1)])
  clear hV;obtain⟨v0,v1,v2,v3⟩:=zaf.cells (HB1.out.2);simp only[zao] at v0 v1 v2;have f0:=zaf.free (HB1.out.2) 0;have f1:=zaf.free (HB1.out.2) 1;have f2:=zaf.free (HB1.out.2) 2;have f3:=zaf.free (HB1.out.2) 3;obtain⟨hbf,hgf⟩:=zby (n:=zao) (v:=.slice none 0 0) (HB1.out.2);have T:=zHd (zae (HG1.out) hgf (by omega));obtain⟨c0,c1,c2,c3⟩:=hbf.cells;clear hbf hgf;simp only[zao] at T c0 c1 c2 c3;go_wp2_with fail;generalize ((((w1).setCell ⟨w.heap.size+1,0,none⟩ (.int .i64 0)).setCell ⟨w.heap.size+1,1,none⟩ (.int .i64 0)).setCell ⟨w.heap.size+1,2,none⟩ (.string ByteArray.empty)).setCell ⟨w.heap.size+1,3,none⟩ (.slice none 0 0)=WW at *;exact zQba
 have HV:=zHd hV;clear hV;go_wp2_with fail;refine(HWG.out a.kind w1).mono ?_;rintro e w2 ⟨rfl,hg2⟩;clear x0 x1 x2 x3;have HG2:=zHd (zaa HG1.out hg2);have HB2:=zHd (zAI (HB1.out.1.grown hg2) (HB1.out.2.grown hg2));have HSZ4:Hid (w.heap.size+2<=w2.heap.size):=zHd (zqam HSZ3.out hg2.size);obtain⟨x0,x1,x2,x3⟩:=HB2.out.1.cells;clear hg2;cases hW:wgtB a.kind wt
 ·have HE:Hid (scaleV lead a wt=(zao,1)):=zHd (by unfold scaleV;rw[if_neg (fun h=>by rw[hW] at h;cases h.2)])
  clear hW;obtain⟨v0,v1,v2,v3⟩:=zaf.cells (HB2.out.2);simp only[zao] at v0 v1 v2;have f0:=zaf.free (HB2.out.2) 0;have f1:=zaf.free (HB2.out.2) 1;have f2:=zaf.free (HB2.out.2) 2;have f3:=zaf.free (HB2.out.2) 3;obtain⟨hbf,hgf⟩:=zby (n:=zao) (v:=.slice none 0 0) (HB2.out.2);have T:=zHd (zae (HG2.out) hgf (by omega));obtain⟨c0,c1,c2,c3⟩:=hbf.cells;clear hbf hgf;simp only[zao] at T c0 c1 c2 c3;go_wp2_with fail;generalize ((((w2).setCell ⟨w.heap.size+1,0,none⟩ (.int .i64 0)).setCell ⟨w.heap.size+1,1,none⟩ (.int .i64 0)).setCell ⟨w.heap.size+1,2,none⟩ (.string ByteArray.empty)).setCell ⟨w.heap.size+1,3,none⟩ (.slice none 0 0)=WW at *;exact zQba
 have HE:Hid (scaleV lead a wt=({ a with lead:=lead },0)):=zHd (by unfold scaleV;rw[if_pos ⟨HV.out,hW⟩]);have HTM:=zHd (HLD.out HV.out hW);clear hW;go_wp2_with fail;refine(HTM.out _).mono ?_;rintro e w3 ⟨rfl,hg3⟩;clear x0 x1 x2 x3;have HG3:=zHd (zaa HG2.out hg3);have HB3:=zHd (zAI (HB2.out.1.grown hg3) (HB2.out.2.grown hg3));obtain⟨x0,x1,x2,x3⟩:=HB3.out.1.cells;clear hg3;go_wp2_with fail;refine(HCL.out _ HG3.out HV.out).mono ?_;rintro e w4 ⟨v,rfl,hmo,hg4⟩;obtain⟨u4,rfl,hst4⟩:=hmo.mn;have hst5:=hst4;obtain⟨A4,c4,_,rfl,_⟩:=hst5;have hb4:=HB3.out.2.grown hg4;have hgw:=zaa HG3.out hg4;have hsz:=HSZ4.out;have hsz3:=HG3.out.size;have hle:w.heap.size+2<=w3.heap.size:=by have:=HB3.out.2.lt;omega
 obtain⟨v0,v1,v2,v3⟩:=hb4.cells;simp only[zao] at v0 v1 v2;have f0:=hb4.free 0;have f1:=hb4.free 1;have f2:=hb4.free 2;have f3:=hb4.free 3;obtain⟨hb5,hg5⟩:=zby (n:=a) (v:=.slice A4 a.states.length c4) hb4;obtain⟨q0,q1,q2,q3⟩:=hb5.cells;have e2:=hb5.free 2;have hb6:=hb5.set_lead lead;have hg6:=zad (((((w4).setCell ⟨w.heap.size+1,0,none⟩ (.int .i64 a.kind)).setCell ⟨w.heap.size+1,1,none⟩ (.int .i64 a.start)).setCell ⟨w.heap.size+1,2,none⟩ (.string a.lead)).setCell ⟨w.heap.size+1,3,none⟩ (.slice A4 a.states.length c4)) ⟨w.heap.size+1,2,none⟩ (.string lead);obtain⟨r0,r1,r2,r3⟩:=hb6.cells;simp only[] at r0 r1 r2 r3;have h0:=hb6.free 0;have h1:=hb6.free 1;have h2:=hb6.free 2;have h3:=hb6.free 3;obtain⟨hb7,hg7⟩:=zby (n := { a with lead:=lead }) (v:=.slice A4 a.states.length c4) hb6;obtain⟨c0,c1,c2,c3⟩:=hb7.cells;simp only[] at c0 c1 c2 c3;have hgs:=World.grownBy.trans hg5 (World.grownBy.trans hg6 hg7);have T:=zHd (zae hgw hgs (by show w.heap.size<=w.heap.size+1;omega));have T2:=zHd ((hst4.kept (zfv hgs (by show w.heap.size+1<_;omega))).mono (C:=w.heap.size) (by omega));clear x0 x1 x2 x3 hmo hst4 hb4 hb5 hb6 hb7 hg4 hg5 hg6 hg7 hgs hgw;go_wp2_with fail;generalize (((((((((w4).setCell ⟨w.heap.size+1,0,none⟩ (.int .i64 a.kind)).setCell ⟨w.heap.size+1,1,none⟩ (.int .i64 a.start)).setCell ⟨w.heap.size+1,2,none⟩ (.string a.lead)).setCell ⟨w.heap.size+1,3,none⟩ (.slice A4 a.states.length c4)).setCell ⟨w.heap.size+1,2,none⟩ (.string lead)).setCell ⟨w.heap.size+1,0,none⟩ (.int .i64 a.kind)).setCell ⟨w.heap.size+1,1,none⟩ (.int .i64 a.start)).setCell ⟨w.heap.size+1,2,none⟩ (.string lead)).setCell ⟨w.heap.size+1,3,none⟩ (.slice A4 a.states.length c4)=WW at *;exact zqby (v:=.tuple #[.agg #[.int .i64 a.kind,.int .i64 a.start,.string lead,.slice A4 a.states.length c4],.int .i64 0]) (by simp[results,results38,go_sem,c0,c1,c2,c3]) rfl (by rw[HE.out];exact⟨_,rfl,⟨_,rfl,T2.out⟩,T.out⟩)
open Go.RowKit
noncomputable def wordV (k:Int)(zx zy:List Int)(wt:ByteArray):zah×Int:=if zat zx=true/\zat zy=true/\wgtB k wt=true then (zbF k (zak k) wt (zx.map Int.toNat) (zy.map Int.toNat),0) else (zao,1)
def zlF {zs:List Int}(h:zat zs=true):zs.length<=200/\∀ z∈zs,1<=z/\z<=500:=by
 unfold zat at h;simp only[zqbb,zqca,List.all_eq_true] at h;exact⟨h.1,fun z hz=>of_decide_eq_true (h.2 z hz)⟩
def zqw {zs:List Int}(h:∀ z∈zs,0<=z)(i:Nat):(((zs.map Int.toNat).getD i 0:Nat):Int)=zs.getD i 0:=by
 rw[zqaa,zqaa,zqaj];cases e:zs[i]? with
 | none=>rfl
 | some z=>exact Int.toNat_of_nonneg (h z (zqak e))
structure zuJ (W0:World)(v:Value)(i:Nat)(z:Int):Prop where
 run:∀ w',W0.grownBy w' none->Calls prog 46 #[v,.int .i64 (i:Int)] w' (zab (.int .i64 z) w')
def zww {W0:World}{v:Value}{zs:List Int}(h:zax W0 v zs)(i:Nat):zuJ W0 v i (zs.getD i 0):=⟨fun w' hg=>zsw zs v i w' (h.grown hg)⟩
set_option maxHeartbeats 32000000 in
def zep (k:Int)(zx zy:List Int)(xv yv:Value)(wt:ByteArray)(w:World)(hx:zax w xv zx)(hy:zax w yv zy)(hwt:wt.size<=maxLen):Calls prog 14 #[.int .i64 k,xv,yv,.string wt] w (zbb (wordV k zx zy wt) w):=by
 have HIX:=zHd (fun w' (h:w.grownBy w' none)=>zon zx xv w' (hx.grown h));have HIY:=zHd (fun w' (h:w.grownBy w' none)=>zon zy yv w' (hy.grown h));have HWG:=zHd (zna (k:=k) hwt);have HX:=zHd hx;have HY:=zHd hy;obtain⟨Ax,cx,rfl,_⟩:=hx;obtain⟨Ay,cy,rfl,_⟩:=hy;have hg:=zGA w (.cells #[.int .i64 0,.int .i64 0,.string ⟨#[]⟩,.slice none 0 0] 29) none;have hb:zaf (w.alloc (.cells #[.int .i64 0,.int .i64 0,.string ⟨#[]⟩,.slice none 0 0] 29)) w.heap.size zao (.slice none 0 0):=zaf.new w zao (.slice none 0 0);generalize hW:w.alloc (.cells #[.int .i64 0,.int .i64 0,.string ⟨#[]⟩,.slice none 0 0] 29)=W at hg hb;have hsz:w.heap.size+1<=W.heap.size:=by rw[<- hW];simp
 have HW:=zHd hW;have HB:=zHd hb;have HG:=zHd hg;have HSZ2:=zHd hsz;clear hW hb hg hsz hwt;go_enter func14,ntmps14;go_wp2_with fail;rw[HW.out];refine(HIX.out _ HG.out).mono ?_;rintro e w1 ⟨rfl,hg1⟩;have HG1:=zHd (zaa HG.out hg1);have HB1:=zHd (HB.out.grown hg1);clear hg1 HW;cases hVx:zat zx
 ·have HE:Hid (wordV k zx zy wt=(zao,1)):=zHd (by unfold wordV;rw[if_neg (fun h=>by rw[hVx] at h;cases h.1)])
  clear hVx;obtain⟨v0,v1,v2,v3⟩:=zaf.cells (HB1.out);simp only[zao] at v0 v1 v2;have f0:=zaf.free (HB1.out) 0;have f1:=zaf.free (HB1.out) 1;have f2:=zaf.free (HB1.out) 2;have f3:=zaf.free (HB1.out) 3;obtain⟨hbf,hgf⟩:=zby (n:=zao) (v:=.slice none 0 0) (HB1.out);have T:=zHd (zae (HG1.out) hgf (zqab _));obtain⟨c0,c1,c2,c3⟩:=hbf.cells;clear hbf hgf;simp only[zao] at T c0 c1 c2 c3;go_wp2_with fail;generalize ((((w1).setCell ⟨w.heap.size,0,none⟩ (.int .i64 0)).setCell ⟨w.heap.size,1,none⟩ (.int .i64 0)).setCell ⟨w.heap.size,2,none⟩ (.string ByteArray.empty)).setCell ⟨w.heap.size,3,none⟩ (.slice none 0 0)=WW at *;exact zQaG
 have HVX:=zHd hVx;clear hVx;go_wp2_with fail;refine(HIY.out _ HG1.out).mono ?_;rintro e w2 ⟨rfl,hg2⟩;have HG2:=zHd (zaa HG1.out hg2);have HB2:=zHd (HB1.out.grown hg2);clear hg2;cases hVy:zat zy
 ·have HE:Hid (wordV k zx zy wt=(zao,1)):=zHd (by unfold wordV;rw[if_neg (fun h=>by rw[hVy] at h;cases h.2.1)])
  clear hVy;obtain⟨v0,v1,v2,v3⟩:=zaf.cells (HB2.out);simp only[zao] at v0 v1 v2;have f0:=zaf.free (HB2.out) 0;have f1:=zaf.free (HB2.out) 1;have f2:=zaf.free (HB2.out) 2;have f3:=zaf.free (HB2.out) 3;obtain⟨hbf,hgf⟩:=zby (n:=zao) (v:=.slice none 0 0) (HB2.out);have T:=zHd (zae (HG2.out) hgf (zqab _));obtain⟨c0,c1,c2,c3⟩:=hbf.cells;clear hbf hgf;simp only[zao] at T c0 c1 c2 c3;go_wp2_with fail;generalize ((((w2).setCell ⟨w.heap.size,0,none⟩ (.int .i64 0)).setCell ⟨w.heap.size,1,none⟩ (.int .i64 0)).setCell ⟨w.heap.size,2,none⟩ (.string ByteArray.empty)).setCell ⟨w.heap.size,3,none⟩ (.slice none 0 0)=WW at *;exact zQaG
 have HVY:=zHd hVy;clear hVy;go_wp2_with fail;refine(HWG.out w2).mono ?_;rintro e w3 ⟨rfl,hg3⟩;have HG3:=zHd (zaa HG2.out hg3);have HB3:=zHd (HB2.out.grown hg3);clear hg3;cases hVw:wgtB k wt
 ·have HE:Hid (wordV k zx zy wt=(zao,1)):=zHd (by unfold wordV;rw[if_neg (fun h=>by rw[hVw] at h;cases h.2.2)])
  clear hVw;obtain⟨v0,v1,v2,v3⟩:=zaf.cells (HB3.out);simp only[zao] at v0 v1 v2;have f0:=zaf.free (HB3.out) 0;have f1:=zaf.free (HB3.out) 1;have f2:=zaf.free (HB3.out) 2;have f3:=zaf.free (HB3.out) 3;obtain⟨hbf,hgf⟩:=zby (n:=zao) (v:=.slice none 0 0) (HB3.out);have T:=zHd (zae (HG3.out) hgf (zqab _));obtain⟨c0,c1,c2,c3⟩:=hbf.cells;clear hbf hgf;simp only[zao] at T c0 c1 c2 c3;go_wp2_with fail;generalize ((((w3).setCell ⟨w.heap.size,0,none⟩ (.int .i64 0)).setCell ⟨w.heap.size,1,none⟩ (.int .i64 0)).setCell ⟨w.heap.size,2,none⟩ (.string ByteArray.empty)).setCell ⟨w.heap.size,3,none⟩ (.slice none 0 0)=WW at *;exact zQaG
 have HE:Hid (wordV k zx zy wt=(zbF k (zak k) wt (zx.map Int.toNat) (zy.map Int.toNat),0)):=zHd (by unfold wordV;rw[if_pos ⟨HVX.out,HVY.out,hVw⟩]);clear hVw;have HASM:=zHd (zdT k w3);go_wp2_with fail;refine HASM.out.mono ?_;rintro e w4 ⟨bb,rfl,hbb,has,hg4⟩;have hM:zbL (fun b=>b<w3.heap.size) w4 bb k (zak k) (.slice none 0 0) [] []:=⟨has,fun e=>by omega,fun b e=>(by cases e),fun i u b hu=>(by simp at hu),fun b hb=>zqba hb hg4.size⟩;have HM:=zHd hM;have HBB:=zHd hbb;have HK4:=zHd (zaF hg4 (fun b e=>by cases e) (E:=fun b=>b<w3.heap.size) (fun b hb=>hb));have HLO:Hid (∀ b,b<w.heap.size->b<w3.heap.size):=zHd (fun b hb=>zqba hb HG3.out.size);have HRB:Hid (w.heap.size<w3.heap.size):=zHd (by have:=HB3.out.lt;exact this);clear hM has hg4 hbb;obtain⟨lx,hlx⟩:∃ lx,zx.length=lx:=⟨_,rfl⟩;obtain⟨ly,hly⟩:∃ ly,zy.length=ly:=⟨_,rfl⟩;rw[hlx,hly];have HLX:Hid (zx.length=lx/\lx<=200):=zHd ⟨hlx,by have:=(zlF HVX.out).1;omega⟩;have HLY:Hid (zy.length=ly/\ly<=200):=zHd ⟨hly,by have:=(zlF HVY.out).1;omega⟩;clear hlx hly;go_wp2;obtain⟨N,hN⟩:∃ N,max lx ly=N:=⟨_,rfl⟩;rw[show max (lx:Int) (ly:Int)=(N:Int) by omega];have HN:Hid (max lx ly=N/\N<=200):=zHd ⟨hN,by have:=HLX.out.2;have:=HLY.out.2;omega⟩;have hX:zax w (.slice Ax lx cx) zx:=by have h:=HX.out;rw[HLX.out.1] at h;exact h
 have hY:zax w (.slice Ay ly cy) zy:=by have h:=HY.out;rw[HLY.out.1] at h;exact h
 have HXX:=zHd hX;have HYY:=zHd hY;obtain⟨F,hF⟩:∃ F:Nat->zac,F=fun i=>⟨noB,[⟨zx.getD i 0,zy.getD i 0,zak k,(i:Int)+1⟩]⟩:=⟨_,rfl⟩;have HF:Hid (∀ i,F i=⟨noB,[⟨zx.getD i 0,zy.getD i 0,zak k,(i:Int)+1⟩]⟩):=zHd (fun i=>by rw[hF]);clear hN hX hY hF HX HY HIX HIY HWG
 go_loopw [35] (fun iv wr=>∃ (i:Nat) (v':Value) (us':List Value),i<=N/\iv=.int .i64 (i:Int)/\zbU (fun b=>b<w3.heap.size) w3 wr/\zbL (fun b=>b<w3.heap.size) wr bb k (zak k) v' ((List.range i).map F) us') (fun iv _=>N-(intOf iv).toNat)
 case atStart=>exact⟨0,_,_,zqaw _,rfl,HK4.out,HM.out⟩
 case round =>
  obtain⟨i,v',us',hi',rfl,hk,hr⟩:=hrel;have zN:((List.range i).map F).length=i:=by rw[zqbn,List.length_range]
  by_cases hin:i<N
  ·have m1:(i:Int)<(N:Int):=by omega
   have m2:IntKind.i64.wrap ((i:Int)+1)=(i:Int)+1:=by have:=HN.out;rw[zqah];omega
   have hnext:(List.range (i+1)).map F=(List.range i).map F++[F i]:=by rw[List.range_succ,List.map_append];rfl
   have HADD:=zHd (zgj bb k (zak k) v' ((List.range i).map F) us' noB wr hr (by have:=HN.out;omega));unfold noB at HADD;have HI:=zHd (zAI hin (zAI zN (zAI hnext hk)));generalize (List.range i).map F=L at *;clear hr hk hin hi' hnext;go_wp2_with fail;refine HADD.out.mono ?_;rintro e w5 ⟨he,hk5,v5,hp5⟩;rw[HI.out.2.1] at he;subst he;have HP5:=zHd (hp5.same (zag w5 none));have HK5:=zHd ((HI.out.2.2.2.trans hk5).trans (zaF (zag w5 none) (fun b e=>by cases e) hp5.lt));have hGW:=zfG HG3.out HK5.out HLO.out;obtain⟨zi,hzi⟩:∃ zi,zx.getD i 0=zi:=⟨_,rfl⟩;obtain⟨zj,hzj⟩:∃ zj,zy.getD i 0=zj:=⟨_,rfl⟩;have SX:zuJ w5.drew (.slice Ax lx cx) i zi:=by rw[<- hzi];exact zww (HXX.out.grown hGW) i
   have SY:zuJ w5.drew (.slice Ay ly cy) i zj:=by rw[<- hzj];exact zww (HYY.out.grown hGW) i
   have HFI:Hid (F i=⟨noB,[⟨zi,zj,zak k,(i:Int)+1⟩]⟩):=zHd (by rw[HF.out,hzi,hzj]);have d2:w5.drew.cell? ⟨bb,2,none⟩=some (.string (zak k)):=HP5.out.at_.c2;clear hp5 hk5 hGW hzi hzj zN;go_upto_region 8 with(fail)
   go_region_held2 (fun W':World=>W'.cell? ⟨bb,2,none⟩=some (.string (zak k))) (first|exact d2|exact s7|exact s6|exact s9|go_keep)
    (first
     | (go_at_call 46;refine(zuJ.run (by assumption) _ G6.out).mono ?_;rintro e w7 ⟨rfl,hg7⟩;have s7:=hg7.cell s6 (by simp);have G7:=zHd (zaa G6.out hg7);clear hg7)
     | (go_at_call 46;refine(zuJ.run (by assumption) _ (World.grownBy.refl _ _)).mono ?_;rintro e w6 ⟨rfl,hg6⟩;have s6:=hg6.cell d2 (by simp);have G6:=zHd hg6;clear hg6)
     | (go_at_call 45;refine(zoS bb k (zak k) v5 _ (us'++[.slice none 0 0]) i ⟨noB,[]⟩ ⟨zi,zj,zak k,(i:Int)+1⟩ w7 (HP5.out.same G7.out) (zmZ _ _ HI.out.2.1) (by have:=HN.out;have:=HI.out.2.1;simp;omega) (by simp)).mono ?_;rintro e w9 ⟨rfl,hk9,us9,hp9⟩;have s9:=hp9.at_.c2;have H9:=zHd hp9;have HK9:=zHd ((HK5.out.trans (zaF G7.out (fun b e=>by cases e) HP5.out.lt)).trans hk9);clear hk9 hp9))
   clear d2 s6 s7 s9 SX SY;have hp9:=H9.out;rw[zko _ _ _ HI.out.2.1] at hp9;have HP9:Hid (zbL (fun b=>b<w3.heap.size) w9 bb k (zak k) v5 (L++[F i]) us9):=zHd (by rw[HFI.out];exact hp9);clear hp9;go_wp2;exact⟨⟨i+1,_,_,HI.out.1,by simp,HK9.out,by rw[HI.out.2.2.1];exact HP9.out⟩,by have:=HI.out.1;simp[intOf];omega⟩
  obtain rfl:i=N:=by omega
  have v1:¬ (i:Int)<(i:Int):=by omega
  have HADD:=zHd (zgj bb k (zak k) v' ((List.range i).map F) us' (zak k) wr.drew (hr.same (zag wr none)) (by have:=HN.out;omega));have d2:wr.drew.cell? ⟨bb,2,none⟩=some (.string (zak k)):=hr.at_.c2;have HKD:=zHd (hk.trans (zaF (zag wr none) (fun b e=>by cases e) hr.lt));clear hr hk zN hin hi';go_upto_region 10 with(fail)
  go_region_held2 (fun W':World=>W'.cell? ⟨bb,2,none⟩=some (.string (zak k))) (first|exact d2|exact s7|go_keep)
   (first|(go_at_call 44;refine(HADD.out).mono ?_;rintro e w7 ⟨rfl,hk7,v7,hp7⟩;have s7:=hp7.at_.c2;have H7:=zHd hp7;have HK7:=zHd (HKD.out.trans hk7);clear hk7 hp7))
  clear d2 s7
  have HEQ:Hid ((List.range i).map F++[(⟨zak k,[]⟩:zac)]=(zbF k (zak k) wt (zx.map Int.toNat) (zy.map Int.toNat)).states):=zHd (by
   unfold zbF;rw[zqbn,zqbn,HLX.out.1,HLY.out.1,HN.out.1];congr 1;refine List.map_congr_left (fun j _=>?_);rw[HF.out,zqw (fun z hz=>by have:=(zlF HVX.out).2 z hz;omega),zqw (fun z hz=>by have:=(zlF HVY.out).2 z hz;omega)];rfl)
  have hp7:=H7.out;generalize (List.range i).map F++[(⟨zak k,[]⟩:zac)]=ss9 at hp7 HEQ;have HMM:=zHd (zfn bb k (zak k) _ ss9 _ 0 wt w7 hp7.at_);have HR8:=zHd (zdX HB3.out HK7.out HRB.out);have HG8:=zHd (zfG HG3.out HK7.out HLO.out);clear hp7;go_wp2_with fail;refine HMM.out.mono ?_;rintro e w9 ⟨A9,c9,rfl,hsn,hg9⟩;have hb9:=zaf.grown HR8.out hg9;have hgw:=zaa HG8.out hg9;have hbb:=HBB.out;have hs4:=HRB.out;clear hg9;simp only[] at hsn;obtain⟨v0,v1,v2,v3⟩:=hb9.cells;simp only[zao] at v0 v1 v2;have f0:=hb9.free 0;have f1:=hb9.free 1;have f2:=hb9.free 2;have f3:=hb9.free 3;obtain⟨hbf,hgf⟩:=zby (n:=⟨k,0,wt,ss9⟩) (v:=.slice A9 ss9.length c9) hb9;have T:=zHd (zae hgw hgf (zqab _));have T2:=zHd ((hsn.kept (zfv hgf (by omega))).mono (C:=w.heap.size) (by have:=hgw.size;omega));obtain⟨c0,c1,c2,c3⟩:=hbf.cells;simp only[] at c0 c1 c2 c3;clear hbf hgf hb9 hsn hgw;go_wp2_with fail;generalize ((((w9).setCell ⟨w.heap.size,0,none⟩ (.int .i64 k)).setCell ⟨w.heap.size,1,none⟩ (.int .i64 0)).setCell ⟨w.heap.size,2,none⟩ (.string wt)).setCell ⟨w.heap.size,3,none⟩ (.slice A9 ss9.length c9)=WW at *;have T3:∀ L,ss9=L->StN WW w.heap.size (.slice A9 ss9.length c9) L:=fun L h=>by rw[<- h];exact T2.out
  exact zqby (v:=.tuple #[.agg #[.int .i64 k,.int .i64 0,.string wt,.slice A9 ss9.length c9],.int .i64 0]) (by simp[results,results14,go_sem,c0,c1,c2,c3]) rfl (by rw[HE.out];exact⟨_,rfl,⟨_,rfl,T3 _ HEQ.out⟩,T.out⟩)
open Go.RowKit
def ziO (zs:List Int):List Nat:=(List.range 501).filter (fun s=>decide ((s:Int)∈zs))
noncomputable def lettersV (k:Int)(zs:List Int):zah×Int:=if zbv k=true/\zs.all zaI=true then (zcb k (zak k) (ziO zs),0) else (zao,1)
def zyv (F:Nat->Bool)(n s:Nat):((List.range n).map F).set s true=(List.range n).map (fun x=>if x=s then true else F x):=by
 apply List.ext_getElem?;intro i
 by_cases e:i=s
 ·subst e
  by_cases hi:i<n
  rw[zqbi (by simpa using hi),zqaj,zqbe hi];simp;rw[zqas (by simp;omega),zqas (by simp;omega)]
 rw[zqbl (Ne.symm e),zqaj,zqaj]
 by_cases hi:i<n
 ·rw[zqbe hi]
  simp[e]
 rw[zqas (by simp;omega)];rfl
def zeb (w:World)(g:Nat)(F:Nat->Bool):Prop:=w.heap[g]?=some (.cells (bv ((List.range 501).map F)).toArray 79 (0,0))
section
variable {w w':World} {g:Nat} {F:Nat->Bool}
def zeb.cell (h:zeb w g F){s:Nat}(hs:s<501):w.cell? ⟨g,s,none⟩=some (.bool (F s)):=by
 rw[zqbw w g s _ _ (0,0) h,zqap];exact ztV _ s _ (by rw[zqaj,zqbe hs];rfl)
def zeb.free (h:zeb w g F)(s:Nat):w.frozen? ⟨g,s,none⟩=false:=zqbx w g s _ _ h
def zeb.lt (h:zeb w g F):g<w.heap.size:=(zqad.1 h).1
def zeb.set (h:zeb w g F)(s:Nat):zeb (w.setCell ⟨g,s,none⟩ (.bool true)) g (fun x=>if x=s then true else F x):=by
 have h1:=heap_setCell_same w g s _ _ (.bool true) h;rw[List.setIfInBounds_toArray,zAO,zyv] at h1;exact h1
def zeb.congr {G:Nat->Bool}(h:zeb w g F)(e:∀ s,F s=G s):zeb w g G:=by
 have:F=G:=funext e;rw[<- this];exact h
end
def zyw:Tryz.zeroCells79=(bv ((List.range 501).map (fun _=>false))).toArray:=by kernel_rfl
def zBC:(prog.info? 79).map (·.size)=some 501:=by kernel_rfl
set_option maxHeartbeats 32000000 in
def zhM (k:Int)(zs:List Int)(lv:Value)(w:World)(hx:zax w lv zs)(hl:zs.length<=1000000):Calls prog 22 #[.int .i64 k,lv] w (zbb (lettersV k zs) w):=by
 have HIS:=zHd (fun w' (h:w.grownBy w' none)=>zkm zs lv w' (hx.grown h) hl);have HX:=zHd hx;have HLL:=zHd hl;obtain⟨Ax,cx,rfl,_⟩:=hx;have hg:=zGA w (.cells #[.int .i64 0,.int .i64 0,.string ⟨#[]⟩,.slice none 0 0] 29) none;have hb:zaf (w.alloc (.cells #[.int .i64 0,.int .i64 0,.string ⟨#[]⟩,.slice none 0 0] 29)) w.heap.size zao (.slice none 0 0):=zaf.new w zao (.slice none 0 0);have HB:=zHd hb;have HG:=zHd hg;have hsz:w.heap.size+1<=(w.alloc (.cells #[.int .i64 0,.int .i64 0,.string ⟨#[]⟩,.slice none 0 0] 29)).heap.size:=by simp
 have HSZ:=zHd hsz;clear hb hg hl hsz;have HFAIL:Hid (¬ (zbv k=true/\zs.all zaI=true)->lettersV k zs=(zao,1)):=zHd (fun h=>by unfold lettersV;rw[if_neg h]);go_enter func22,ntmps22;go_upto_region 1 with(fail);generalize w.alloc (.cells #[.int .i64 0,.int .i64 0,.string ⟨#[]⟩,.slice none 0 0] 29)=W at *
 by_cases hk1:k<1
 ·have t1:decide (k<1)=true:=by simpa using hk1
  exact zQan
 have t1:decide (k<1)=false:=by simpa using hk1
 have t1':¬ k<1:=hk1
 by_cases hk3:3<k
 ·have t2:decide (3<k)=true:=by simpa using hk3
  have t3:decide (k > 3)=true:=by simpa using hk3
  exact zQan
 have t2:decide (3<k)=false:=by simpa using hk3
 have t3:decide (k > 3)=false:=by simpa using hk3
 have hkind:zbv k=true:=(zbQ k).2 (by omega);have HK:=zHd hkind;clear hkind;go_wp2_with fail;refine(HIS.out _ HG.out).mono ?_;rintro e w1 ⟨rfl,hg1⟩;have HG1:=zHd (zaa HG.out hg1);have HB1:=zHd (HB.out.grown hg1);have HSZ1:=zHd (zqam HSZ.out hg1.size);clear hg1 t1 t1' t2 t3 hk1 hk3;cases hV:zs.all zaI
 ·have HE:=zHd (HFAIL.out (fun h=>by rw[hV] at h;cases h.2))
  clear hV;obtain⟨v0,v1,v2,v3⟩:=zaf.cells (HB1.out);simp only[zao] at v0 v1 v2;have f0:=zaf.free (HB1.out) 0;have f1:=zaf.free (HB1.out) 1;have f2:=zaf.free (HB1.out) 2;have f3:=zaf.free (HB1.out) 3;obtain⟨hbf,hgf⟩:=zby (n:=zao) (v:=.slice none 0 0) (HB1.out);have T:=zHd (zae (HG1.out) hgf (zqab _));obtain⟨c0,c1,c2,c3⟩:=hbf.cells;clear hbf hgf;simp only[zao] at T c0 c1 c2 c3;go_wp2_with fail;generalize ((((w1).setCell ⟨w.heap.size,0,none⟩ (.int .i64 0)).setCell ⟨w.heap.size,1,none⟩ (.int .i64 0)).setCell ⟨w.heap.size,2,none⟩ (.string ByteArray.empty)).setCell ⟨w.heap.size,3,none⟩ (.slice none 0 0)=WW at *;exact zqby (v:=.tuple #[.agg #[.int .i64 0,.int .i64 0,.string ByteArray.empty,.slice none 0 0],.int .i64 1]) (by simp[results,results22,go_sem,c0,c1,c2,c3]) rfl (by rw[HE.out];exact⟨_,rfl,⟨_,rfl,StN.nil _ _⟩,T.out⟩)
 have HV:=zHd hV;have HE:Hid (lettersV k zs=(zcb k (zak k) (ziO zs),0)):=zHd (by unfold lettersV;rw[if_pos ⟨HK.out,hV⟩]);clear hV;go_upto_region 4 with(fail);have hga:=zGA w1 (.cells Tryz.zeroCells79 79) none
 have hct:zeb (w1.alloc (.cells Tryz.zeroCells79 79)) w1.heap.size (fun s=>decide ((s:Int)∈zs.take 0)):=by
  have:(fun s:Nat=>decide ((s:Int)∈zs.take 0))=fun _=>false:=by funext s;simp
  rw[this];unfold zeb;rw[<- zyw];show(w1.heap.push _)[w1.heap.size]?=_;rw[zqaz]
 have HCT:=zHd hct;have HGA:=zHd hga;clear hga hct;generalize w1.alloc (.cells Tryz.zeroCells79 79)=W2 at *;obtain⟨n,hn⟩:∃ n,zs.length=n:=⟨_,rfl⟩;have hX:zax w (.slice Ax n cx) zs:=by have h:=HX.out;rw[hn] at h;exact h
 have HXX:=zHd hX;rw[hn];have HN:Hid (zs.length=n/\n<=1000000):=zHd ⟨hn,by have:=HLL.out;omega⟩;clear hn hX HX HIS;go_wp2
 go_loopw [28] (fun iv wr=>∃ i:Nat,i<=n/\iv=.int .i64 (i:Int)/\zeb wr w1.heap.size (fun s=>decide ((s:Int)∈zs.take i))/\w1.grownBy wr none) (fun iv _=>n-(intOf iv).toNat)
 case atStart=>exact⟨0,zqaw _,rfl,HCT.out,HGA.out⟩
 case round =>
  obtain⟨i,hi',rfl,hct,hg⟩:=hrel
  by_cases hin:i<n
  ·have u2:(i:Int)<(n:Int):=by omega
   have u3:(0:Int)<=(i:Int):=by omega
   have u4:IntKind.i64.wrap ((i:Int)+1)=(i:Int)+1:=by have:=HN.out;rw[zqah];omega
   have hgw:=zaa HG1.out hg;obtain⟨A',c',hv',h1,h2,h3⟩:=HXX.out.grown hgw;cases hv';obtain⟨ad,rfl,hb,hc⟩:=h3 i (by rw[HN.out.1];exact hin)
   replace hc:wr.cell? (ad.add i)=some (.int .i64 (zs.getD i 0)):=hc
   have hz:zs[i]?=some (zs[i]'(by rw[HN.out.1];exact hin)):=zqac _;have hzd:zs.getD i 0=zs[i]'(by rw[HN.out.1];exact hin):=by rw[zqaa,hz];rfl
   have hsy:=List.all_eq_true.1 HV.out _ (zqak hz);have hsy2:1<=zs[i]'(by rw[HN.out.1];exact hin)/\zs[i]'(by rw[HN.out.1];exact hin)<=500:=of_decide_eq_true hsy;rw[hzd] at hc;generalize zs[i]'(by rw[HN.out.1];exact hin)=z at hc hz hsy2;obtain⟨s,rfl⟩:∃ s:Nat,z=(s:Int):=⟨z.toNat,by omega⟩;have b1:(0:Int)<=(s:Int):=by omega
   have b2:(s:Int)<501:=by omega
   have b3:s<501:=by omega
   have x0:=hct.cell b3;have x1:=hct.free s
   have hset:=(hct.set s).congr (G:=fun x=>decide ((x:Int)∈zs.take (i+1))) (fun x=>by
    rw[zeu hz]
    by_cases e:x=s
    subst e;simp;rw[if_neg e];have:¬ (x:Int)=(s:Int):=by omega
    simp[this])
   have hg2:=zae hg (zad wr ⟨w1.heap.size,s,none⟩ (.bool true)) (zqab _);have H2:=zHd (zAI hin (zAI hset hg2));generalize decide ((s:Int)∈zs.take i)=bb0 at x0;clear hct hg hgw h1 h2 h3 hb hz hzd hsy hsy2 hset hg2 hin hi';go_wp2;exact⟨⟨i+1,H2.out.1,by simp,H2.out.2.1,H2.out.2.2⟩,by have:=H2.out.1;simp[intOf];omega⟩
  obtain rfl:i=n:=by omega
  have v1:¬ (i:Int)<(i:Int):=by omega
  rw[zqaf (by rw[HN.out.1];exact zqab _)] at hct;have HCT3:=zHd hct;have HGW3:=zHd (zaa HG1.out hg);have HB3:=zHd (HB1.out.grown hg);have HASM:=zHd (zdT k wr);clear hct hg hin hi';generalize wr=w3 at *;go_wp2_with fail;refine HASM.out.mono ?_;rintro e w4 ⟨bb,rfl,hbb,has,hg4⟩;have hM:zbL (fun b=>b<w3.heap.size) w4 bb k (zak k) (.slice none 0 0) [] []:=⟨has,fun e=>by omega,fun b e=>(by cases e),fun i u b hu=>(by simp at hu),fun b hb=>zqba hb hg4.size⟩;have HM:=zHd (hM.same (zag w4 none));have HBB:=zHd hbb;have HK4:=zHd (zaF (zaa hg4 (zag w4 none)) (fun b e=>by cases e) (E:=fun b=>b<w3.heap.size) (fun b hb=>hb));have HLO:Hid (∀ b,b<w.heap.size->b<w3.heap.size):=zHd (fun b hb=>zqba hb HGW3.out.size);have d2:w4.drew.cell? ⟨bb,2,none⟩=some (.string (zak k)):=HM.out.at_.c2;have HA1:=zHd (zgj bb k (zak k) _ [] [] noB w4.drew HM.out (by simp));unfold noB at HA1;clear hM has hg4 hbb;go_upto_region 10 with(fail)
  go_region_held2 (fun W':World=>W'.cell? ⟨bb,2,none⟩=some (.string (zak k))) (first|exact d2|exact s7|exact s6|go_keep)
   (first
    | (go_at_call 44;refine(zgj bb k (zak k) _ _ _ (zak k) w6 H6.out (by simp)).mono ?_;rintro e w7 ⟨rfl,hk7,v7,hp7⟩;have s7:=hp7.at_.c2;have H7:=zHd hp7;have HK7:=zHd (HK6.out.trans hk7);clear hk7 hp7)
    | (go_at_call 44;refine(HA1.out).mono ?_;rintro e w6 ⟨rfl,hk6,v6,hp6⟩;have s6:=hp6.at_.c2;have H6:=zHd hp6;have HK6:=zHd (HK4.out.trans hk6);clear hk6 hp6))
  clear d2 s6 s7;have hp7:zbL (fun b=>b<w3.heap.size) w7 bb k (zak k) v7 [(⟨noB,[]⟩:zac),⟨zak k,[]⟩] _:=H7.out;have HP7:=zHd hp7;clear hp7;have hct7:zeb w7 w1.heap.size (fun s=>decide ((s:Int)∈zs)):=(HK7.out.2 _ HCT3.out.lt).trans HCT3.out;obtain⟨cs,hcs⟩:∃ cs:Array Value,(bv ((List.range 501).map (fun s:Nat=>decide ((s:Int)∈zs)))).toArray=cs:=⟨_,rfl⟩;have hsz:cs.size=501:=by rw[<- hcs];simp[bv]
  have zW:w7.heap[w1.heap.size]?=some (.cells cs 79 (0,0)):=by rw[<- hcs];exact hct7
  have hat:∀ s:Nat,s<501->cs[s]?=some (.bool (decide ((s:Int)∈zs))):=fun s hs=>by
   rw[<- hcs,zqap];exact ztV _ s _ (by rw[zqaj,zqbe hs];rfl)
  have HAT:=zHd hat;have HSZC:=zHd hsz;clear hct7 hcs hat;go_wp2;refine wp_load_row 79 _ rfl w1.heap.size rfl 79 cs (0,0) _ zW underlying79 rfl (by rw[hsz];exact zBC) ?_;clear zW;clear hsz;go_wp2
  go_loopw [50] (fun sv wr=>∃ (s:Nat) (us':List Value),s<=501/\sv=.int .i64 (s:Int)/\zbU (fun b=>b<w3.heap.size) w3 wr/\zbL (fun b=>b<w3.heap.size) wr bb k (zak k) v7 [(⟨noB,((List.range s).filter (fun s:Nat=>decide ((s:Int)∈zs))).map (fun s:Nat=>(⟨(s:Nat),(s:Nat),zak k,1⟩:zaz))⟩:zac),⟨zak k,[]⟩] us') (fun sv _=>501-(intOf sv).toNat)
  case atStart=>exact⟨0,_,by omega,rfl,HK7.out,HP7.out⟩
  case round =>
   obtain⟨s,us',hs',rfl,hk,hr⟩:=hrel
   by_cases hsn:s<501
   ·have m1:(s:Int)<501:=by omega
    have m2:IntKind.i64.wrap ((s:Int)+1)=(s:Int)+1:=(by rw[zqah];omega);have m3:(0:Int)<=(s:Int):=by omega
    have hpart:∀ w':World,(part 4 cs s).run prog w'=.ok (.bool (decide ((s:Int)∈zs))) w':=fun w'=>by
     have h1:=HAT.out s hsn;have h2:=HSZC.out
     have h3:cs[s]'(by omega)=.bool (decide ((s:Int)∈zs)):=by
      rw[zqbv (by omega)] at h1;exact Option.some.inj h1
     simp[part,isAgg4,h1,h3]
    have hix:∀ w':World,(Instr.index 79 (.agg cs) (.int .i64 (s:Int))).run prog w'=.ok (.bool (decide ((s:Int)∈zs))) w':=fun w'=>by
     simp[Instr.index,asIntOf,run_underlying underlying79,m1,hsn,hpart]
    clear hpart
    have hnx:(List.range (s+1)).filter (fun s:Nat=>decide ((s:Int)∈zs))=(List.range s).filter (fun s:Nat=>decide ((s:Int)∈zs))++if decide ((s:Int)∈zs)=true then [s] else []:=by
     rw[List.range_succ,List.filter_append];congr 1
     by_cases h:(s:Int)∈zs <;> simp[h]
    have hle:((List.range s).filter (fun s:Nat=>decide ((s:Int)∈zs))).length<=s:=(by have:=List.length_filter_le (fun s:Nat=>decide ((s:Int)∈zs)) (List.range s);rwa [List.length_range] at this);have HNX:=zHd hnx;have HLE:=zHd hle;have HSN:=zHd hsn;cases hm:decide ((s:Int)∈zs)
    ·rw[hm] at hix
     have HM1:=zHd hm;have HKR:=zHd (zAI hk hr);clear hm hnx hle hk hr hs';go_wp2;refine⟨⟨s+1,us',HSN.out,by simp,HKR.out.1,?_⟩,by have:=HSN.out;simp[intOf];omega⟩;rw[HNX.out,HM1.out,if_neg (by simp),List.append_nil];exact HKR.out.2
    rw[hm] at hix;have HM1:=zHd hm;have HARC:=zHd (zoS bb k (zak k) v7 _ us' 0 ⟨noB,((List.range s).filter (fun s:Nat=>decide ((s:Int)∈zs))).map (fun s:Nat=>(⟨(s:Nat),(s:Nat),zak k,1⟩:zaz))⟩ ⟨(s:Nat),(s:Nat),zak k,1⟩ wr.drew (hr.same (zag wr none)) rfl (by simp) (by rw[zqbn];omega));have d2:wr.drew.cell? ⟨bb,2,none⟩=some (.string (zak k)):=hr.at_.c2;have HKD:=zHd (hk.trans (zaF (zag wr none) (fun b e=>by cases e) hr.lt));clear hm hnx hle hk hr hs';go_upto_region 15 with(fail)
    go_region_held2 (fun W':World=>W'.cell? ⟨bb,2,none⟩=some (.string (zak k))) (first|exact d2|exact s9|go_keep)
     (first|(go_at_call 45;refine(HARC.out).mono ?_;rintro e w9 ⟨rfl,hk9,us9,hp9⟩;have s9:=hp9.at_.c2;have H9:=zHd hp9;have HK9:=zHd (HKD.out.trans hk9);clear hk9 hp9))
    clear d2 s9;go_wp2;refine⟨⟨s+1,us9,HSN.out,by simp,HK9.out,?_⟩,by have:=HSN.out;simp[intOf];omega⟩;rw[HNX.out,HM1.out,if_pos rfl,List.map_append];exact H9.out
   obtain rfl:s=501:=by omega
   obtain⟨ss9,hss⟩:∃ ss9:List zac,[(⟨noB,((List.range 501).filter (fun s:Nat=>decide ((s:Int)∈zs))).map (fun s:Nat=>(⟨(s:Nat),(s:Nat),zak k,1⟩:zaz))⟩:zac),⟨zak k,[]⟩]=ss9:=⟨_,rfl⟩;rw[hss] at hr;have HEQ:Hid (ss9=(zcb k (zak k) (ziO zs)).states):=zHd (by rw[<- hss];rfl);have x2:=hr.at_.c2;have HMM:=zHd (zfn bb k (zak k) _ ss9 _ 0 (zak k) wr hr.at_);have HR8:=zHd (zdX HB3.out hk (zqba HB3.out.lt (zqab _)));have HG8:=zHd (zfG HGW3.out hk HLO.out);have HRB:=zHd HB3.out.lt;clear hr hk hss hsn hs';go_wp2_with fail;refine HMM.out.mono ?_;rintro e w9 ⟨A9,c9,rfl,hsn,hg9⟩;have hb9:=zaf.grown HR8.out hg9;have hgw:=zaa HG8.out hg9;have hbb:=HBB.out;have hs4:=HRB.out;clear x2 hg9;simp only[] at hsn;obtain⟨v0,v1,v2,v3⟩:=hb9.cells;simp only[zao] at v0 v1 v2;have f0:=hb9.free 0;have f1:=hb9.free 1;have f2:=hb9.free 2;have f3:=hb9.free 3;obtain⟨hbf,hgf⟩:=zby (n:=⟨k,0,(zak k),ss9⟩) (v:=.slice A9 ss9.length c9) hb9;have T:=zHd (zae hgw hgf (zqab _));have T2:=zHd ((hsn.kept (zfv hgf (by omega))).mono (C:=w.heap.size) (by have:=hgw.size;omega));obtain⟨c0,c1,c2,c3⟩:=hbf.cells;simp only[] at c0 c1 c2 c3;clear hbf hgf hb9 hsn hgw;go_wp2_with fail;generalize ((((w9).setCell ⟨w.heap.size,0,none⟩ (.int .i64 k)).setCell ⟨w.heap.size,1,none⟩ (.int .i64 0)).setCell ⟨w.heap.size,2,none⟩ (.string (zak k))).setCell ⟨w.heap.size,3,none⟩ (.slice A9 ss9.length c9)=WW at *;have T3:∀ L,ss9=L->StN WW w.heap.size (.slice A9 ss9.length c9) L:=fun L h=>by rw[<- h];exact T2.out
   exact zqby (v:=.tuple #[.agg #[.int .i64 k,.int .i64 0,.string (zak k),.slice A9 ss9.length c9],.int .i64 0]) (by simp[results,results22,go_sem,c0,c1,c2,c3]) rfl (by rw[HE.out];exact⟨_,rfl,⟨_,rfl,T3 _ HEQ.out⟩,T.out⟩)
open Go.RowKit
structure Ex9 (w:World)(m:zah)(g:Nat)(A:Option Addr)(c n:Nat):Prop where
 box:zaf w g m (.slice A n c)
 st:zan w (.agg #[.int .i64 m.kind,.int .i64 m.start,.string m.lead,.slice A n c]) m
def Ex9.grown {w w':World}{m:zah}{g:Nat}{A:Option Addr}{c n:Nat}(h:Ex9 w m g A c n)(hg:w.grownBy w' none):Ex9 w' m g A c n:=⟨h.box.grown hg,h.st.grown hg⟩
def Ex9.new {w3:World}{m:zah}{A:Option Addr}{c:Nat}{B:Nat}(hst:StN w3 B (.slice A m.states.length c) m.states) :
  Ex9 (w3.alloc (.cells #[.int .i64 m.kind,.int .i64 m.start,.string m.lead,.slice A m.states.length c] 29)) m w3.heap.size A c m.states.length :=
 ⟨zaf.new w3 m _,⟨_,rfl,(hst.kept (zqd (zGA w3 _ none) _)).sl⟩⟩
def zrA {k:Int}(hk:zam k){a b:ByteArray}{u v r:El k}{c:ByteArray}(ha:Val k a u.1)(hb:Val k b v.1)(he:(srE k hk).mul u v=r)(hf:zav r)(hc:tx r=c):∀ w,Calls prog 60 #[.int .i64 k,.string a,.string b] w (zab (.tuple #[.string c,.int .i64 0]) w):=fun w=>by
 have h:=zxt ha hb w;rw[show zbP k u.1 v.1=r.1 from zqbz Subtype.val he] at h;rcases zgi r with⟨_,e⟩|⟨hn,_⟩
 rw[e,hc] at h;exact h;exact absurd hf hn
def zBD {x:Rat}(h:zdr 400 x):zav (f1 x):=h
def zBE {xv yv:Value}{w:World}(hx:WIn w xv [1])(hy:WIn w yv [2]):Calls prog 14 #[.int .i64 1,xv,yv,.string s3] w (zbb (mA,0) w):=by
 have h:=zep 1 [1] [2] xv yv s3 w hx.at' hy.at' (by decide);rw[show wordV 1 [1] [2] s3=(mA,0) by unfold wordV;rw[if_pos ⟨by decide,by decide,wg1 q3⟩];rfl] at h;exact h
def zHF {xv yv:Value}{w:World}(hx:WIn w xv [1])(hy:WIn w yv [2]):Calls prog 14 #[.int .i64 1,xv,yv,.string s5] w (zbb (mB,0) w):=by
 have h:=zep 1 [1] [2] xv yv s5 w hx.at' hy.at' (by decide);rw[show wordV 1 [1] [2] s5=(mB,0) by unfold wordV;rw[if_pos ⟨by decide,by decide,wg1 q5⟩];rfl] at h;exact h
def zHG {w:World}:Calls prog 14 #[.int .i64 2,.slice none 0 0,.slice none 0 0,.string s12] w (zbb (mH,0) w):=by
 have hn:zax w (.slice none 0 0) []:=⟨none,0,rfl,zqab _,zqaw _,fun j hj=>absurd hj (by simp)⟩;have h:=zep 2 [] [] (.slice none 0 0) (.slice none 0 0) s12 w hn hn (by decide);rw[show wordV 2 [] [] s12=(mH,0) by unfold wordV;rw[if_pos ⟨by decide,by decide,wg2 q12 (by decide +kernel)⟩];rfl] at h;exact h
def chAB:checkV mA mB=0:=by
 unfold checkV;rw[vdA,vdB];rfl
def zHH {va vb:Value}{w:World}(ha:zan w va mA)(hb:zan w vb mB):Calls prog 26 #[va,vb] w (zbb (mU,0) w):=by
 have h:=zhL ha hb (zaq vdA) (zaq vdB) (by decide +kernel) (by decide +kernel);rw[show unionV mA mB=(mU,0) by unfold unionV;rw[if_pos chAB];rfl] at h;exact h
def zGB {va vb:Value}{w:World}(ha:zan w va mA)(hb:zan w vb mB):Calls prog 32 #[va,vb] w (zbb (mC,0) w):=by
 have h:=zfP ha hb (zaq vdA) (zaq vdB) (by decide +kernel) (by decide +kernel) s8 (fun _=>zrA kd1 (u:=f1 3) (v:=f1 5) (r:=f1 8) ⟨q3,rfl⟩ ⟨q5,rfl⟩ (Subtype.ext (by decide +kernel)) (zBD (by unfold zdr;decide +kernel)) (by decide +kernel));rw[show concatV s8 mA mB=(mC,0) by unfold concatV;rw[if_pos chAB];rfl] at h;exact h
def zHW {va:Value}{w:World}(ha:zan w va mA):Calls prog 34 #[va] w (zbb (mS,0) w):=by
 have h:=ziD ha (zaq vdA) (by decide +kernel) (by decide +kernel);rw[show starV mA=(mS,0) by unfold starV;rw[if_pos vdA];rfl] at h;exact h
def zHI {va:Value}{w:World}(ha:zan w va mH):Calls prog 34 #[va] w (zbb (mK,0) w):=by
 have h:=ziD ha (zaq vdH) (by decide +kernel) (by decide +kernel);rw[show starV mH=(mK,0) by unfold starV;rw[if_pos vdH];rfl] at h;exact h
def zGC {va:Value}{w:World}(ha:zan w va mA):Calls prog 36 #[va,.int .i64 2,.int .i64 3] w (zbb (mR,0) w):=by
 have h:=zfO ha (zaq vdA) 2 3 (by decide +kernel) (by decide +kernel);rw[show repeatV mA 2 3=(mR,0) by unfold repeatV;rw[if_pos ⟨vdA,by decide,by decide,by decide⟩];rfl] at h;exact h
def zHJ {va:Value}{w:World}(ha:zan w va mA):Calls prog 38 #[va,.string s12] w (zbb (mT,0) w):=by
 have h:=zjb ha (zaq vdA) s12 (by decide) s72 (fun _ _=>zrA kd1 (u:=f1 (1/2)) (v:=f1 3) (r:=f1 (7/2)) ⟨q12,rfl⟩ ⟨q3,rfl⟩ (Subtype.ext (by decide +kernel)) (zBD (by unfold zdr;decide +kernel)) (by decide +kernel));rw[show scaleV s72 mA s12=(mT,0) by unfold scaleV;rw[if_pos ⟨vdA,wg1 q12⟩];rfl] at h;exact h
def zEA {lv:Value}{w:World}(hl:zax w lv [2,1,2]):Calls prog 22 #[.int .i64 1,lv] w (zbb (mL,0) w):=by
 have h:=zhM 1 [2,1,2] lv w hl (by decide);rw[show lettersV 1 [2,1,2]=(mL,0) by unfold lettersV;rw[if_pos ⟨by decide +kernel,by decide⟩,show ziO [2,1,2]=[1,2] by decide +kernel];rfl] at h;exact h
def zhn (w:World):WIn w (.slice none 0 0) []:=⟨⟨none,0,rfl,zqab _,zqaw _,fun j hj=>absurd hj (by simp)⟩,by decide⟩
end Go.Proofs.YtadgpgofcjpnjaaGreatDoor
