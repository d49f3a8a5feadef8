/- Part. -/
import Derived.Test.YtaogepcaoogpgaaGreatDoorKF02
import Derived.Shelf.Strings.OnBuilder
set_option linter.unusedVariables false
set_option linter.unusedSimpArgs false
set_option maxRecDepth 100000
set_option maxHeartbeats 16000000
namespace Go.Proofs.YtaogepcaoogpgaaGreatDoor
open Go.RowKit
open Go.Lib (nDigits)
theorem zkJ (B gx cx gy cy:Nat)(xs ys:List Nat)(w:World)(hxb:zaC B w (.slice (some ⟨gx,0,none⟩) xs.length cx) xs)(hyb:zaC B w (.slice (some ⟨gy,0,none⟩) ys.length cy) ys)(hne:gx≠gy)
  (hx:∀ x∈xs,x<1000000000) (hy:∀ y∈ys,y<1000000000) (hxt:zct xs) (hyt:zct ys) (h0:ys≠[]) (hn:xs.length<=10000) (hBw:B<=w.heap.size) :
  Calls Tryz.prog 257 #[.slice (some ⟨gx,0,none⟩) xs.length cx,.slice (some ⟨gy,0,none⟩) ys.length cy] w (zqW B gx gy xs ys w):=by
 rcases Nat.lt_or_ge xs.length ys.length with h|h
 ·exact zup B gx cx gy cy xs ys w hxb hne hx hxt hyt h
 ·obtain⟨m,hm⟩:∃ m,ys.length=m+1:=⟨ys.length-1,by have:=List.length_pos_iff.2 h0;omega⟩
  exact zwM B gx cx gy cy m xs ys w hxb hyb hne hx hy hyt hm h hn hBw
def zdd (a b:ByteArray):Value :=
 if zan a&&zan b then (if nv b=0 then .tuple #[.string ⟨#[]⟩,.string ⟨#[]⟩,.int .i64 4] else .tuple #[.string (zah (nv a/nv b)),.string (zah (nv a%nv b)),.int .i64 0])
 else .tuple #[.string ⟨#[]⟩,.string ⟨#[]⟩,.int .i64 1]
def zew (a b:ByteArray):Value:=if zan a&&zan b then .tuple #[.string (zah (Nat.gcd (nv a) (nv b))),.int .i64 0] else zij
theorem zuq (b:ByteArray)(h:zan b=true):(b.toList==[48])=decide (nv b=0):=by
 rw[Lib.toList_data]
 by_cases hz:nv b=0
 ·have:=(zbW b h).1
  rw[hz] at this;rw[this,zkH,Lib.decDigits_one (by decide)];simp[hz];rw[<- this,hz]
 ·have:b.data.toList≠[48]:=by
   intro e;apply hz;unfold nv;rw[e];rfl
  simp[hz,this]
theorem znO {xs:List Nat}(h:zct xs):xs=[]↔vl 1000000000 xs=0:=(zzb 1000000000 (by decide) xs h).symm
structure zcz (B gx cx gy cy:Nat)(xs ys:List Nat)(w0 wr:World)(G:Nat):Prop where
 xb:zaC B wr (.slice (some ⟨gx,0,none⟩) xs.length cx) xs
 yb:zaC B wr (.slice (some ⟨gy,0,none⟩) ys.length cy) ys
 ne:gx≠gy
 xlt:∀ x∈xs,x<1000000000
 ylt:∀ y∈ys,y<1000000000
 xt:zct xs
 yt:zct ys
 g:Nat.gcd (vl 1000000000 xs) (vl 1000000000 ys)=G
 xn:xs.length<=10000
 yn:ys.length<=10000
 bel:Below B w0 wr
 bs:B<=wr.heap.size
theorem zcz.step {B gx cx gy cy:Nat}{xs ys:List Nat}{w0 wr w':World}{G:Nat}(h:zcz B gx cx gy cy xs ys w0 wr G)(h0:ys≠[]){qv:Value}{qs rs:List Nat}{gr cr:Nat}
  (hd:zpo B gx gy xs ys wr w' qv qs gr cr rs):zcz B gy cy gr cr ys rs w0 w' G/\vl 1000000000 rs<vl 1000000000 ys:=by
 have hpos:0<vl 1000000000 ys:=by
  rcases Nat.eq_zero_or_pos (vl 1000000000 ys) with e|e
  ·exact absurd ((znO h.yt).2 e) h0
  ·exact e
 have hlt:vl 1000000000 rs<vl 1000000000 ys:=by rw[hd.rv];exact Nat.mod_lt _ hpos
 refine⟨⟨h.yb.grown hd.gr (by have:=h.ne;simp[Value.ownBlock];omega),hd.rb,fun e=>hd.rne e.symm,h.ylt,hd.rlt,h.yt,hd.rt,?_,h.yn,?_,?_,?_⟩,hlt⟩
 ·rw[hd.rv,<- h.g,Nat.gcd_comm (vl 1000000000 xs),Nat.gcd_rec (vl 1000000000 ys) (vl 1000000000 xs),Nat.gcd_comm]
 ·exact zqam (zBH ys rs h.ylt hd.rt (by omega)) h.yn
 ·refine h.bel.trans (below_grown hd.gr h.bs ?_)
  intro k hk;simp at hk;subst hk;exact(h.xb.lt gx rfl).1
 ·exact zqam h.bs hd.gr.size
def zIL (B G:Nat)(w:World)(e:Ending)(w':World):Prop :=
 ∃ g c zs,e=.returned (.slice (some ⟨g,0,none⟩) zs.length c)/\zaC B w' (.slice (some ⟨g,0,none⟩) zs.length c) zs/\(∀ z∈zs,z<1000000000)/\vl 1000000000 zs=G/\zs.length<=10000/\Below B w w'
theorem zoi {xs:List Nat}{n:Nat}(hn:2<=n)(hx:∀ x∈xs,x<1000000000)(hl:xs.length<=n):vl 1000000000 xs/1000000000 ^ (n-2)=zik xs (n:Int):=by
 have e1:zch xs ((n:Int)-1)=xs.getD (n-1) 0:=by unfold zch;rw[if_neg (by omega)];congr 1;omega
 have e2:zch xs ((n:Int)-2)=xs.getD (n-2) 0:=by unfold zch;rw[if_neg (by omega)];congr 1;omega
 unfold zik;rw[e1,e2];have h1:=zaH 1000000000 xs (n-2);have h2:=zaH 1000000000 xs (n-1);rw[show n-2+1=n-1 by omega] at h1;rw[show n-1+1=n by omega,zqaf hl] at h2;have h3:=zbM 1000000000 (xs.take (n-2)) (fun x hm=>hx x (zqau hm));have h4:(1000000000:Nat) ^ (xs.take (n-2)).length<=1000000000 ^ (n-2):=zqay (by decide) (by rw[zqan];omega);have h5:(1000000000:Nat) ^ (n-1)=1000000000 ^ (n-2)*1000000000:=by rw[<- zqbp];congr 1;omega
 rw[h2,h1,h5];have hP:0<(1000000000:Nat) ^ (n-2):=Nat.pow_pos (by decide);generalize (1000000000:Nat) ^ (n-2)=P at *;generalize xs.getD (n-1) 0=g1 at *;generalize xs.getD (n-2) 0=b at *;obtain⟨a,ha⟩:∃ a,g1*1000000000=a:=⟨_,rfl⟩;have h6:P*1000000000*g1=P*a:=by rw[<- ha,zqav,zqbc 1000000000]
 rw[h6,ha];clear h6 ha h5 h1 h2 e1 e2;have e3:vl 1000000000 (xs.take (n-2))+P*b+P*a=vl 1000000000 (xs.take (n-2))+P*(a+b):=by rw[zqbh];omega
 rw[e3,Nat.add_mul_div_left _ _ hP,Nat.div_eq_of_lt (by omega),zqat]
def zlV (B G:Nat)(ys:List Nat)(w:World)(e:Ending)(w':World):Prop :=
 ∃ gx cx,∃ (xs':List Nat),∃ gy cy,∃ (ys':List Nat),e=.returned (.tuple #[.slice (some ⟨gx,0,none⟩) xs'.length cx,.slice (some ⟨gy,0,none⟩) ys'.length cy])/\zcz B gx cx gy cy xs' ys' w w' G/\vl 1000000000 ys'<vl 1000000000 ys
theorem zst {B gx cx gy cy:Nat}{xs ys:List Nat}{w:World}{G:Nat}(h:zcz B gx cx gy cy xs ys w w G)(h0:ys≠[]){qv:Value}{qs rs:List Nat}{gr cr:Nat}{w1 w':World}(hg:w.grownBy w1 none)
  (hd:zpo B gx gy xs ys w1 w' qv qs gr cr rs):zcz B gy cy gr cr ys rs w w' G/\vl 1000000000 rs<vl 1000000000 ys:=by
 have h1:zcz B gx cx gy cy xs ys w w1 G:=⟨h.xb.grown hg (by simp),h.yb.grown hg (by simp),h.ne,h.xlt,h.ylt,h.xt,h.yt,h.g,h.xn,h.yn,below_grown hg h.bs (by simp),zqam h.bs hg.size⟩;exact h1.step h0 hd
theorem zcz.later {B gx cx gy cy:Nat}{xs ys:List Nat}{w:World}{G:Nat}(h:zcz B gx cx gy cy xs ys w w G){g1 g2 n A C:Nat}{zs ts:List Nat}{w':World}(hn:n<=10000)
  (hz:zaC w.heap.size w' (.slice (some ⟨g1,0,none⟩) zs.length n) zs) (ht:zaC w.heap.size w' (.slice (some ⟨g2,0,none⟩) ts.length n) ts) (hne:g1≠g2) (z1:∀ z∈zs,z<1000000000) (t1:∀ z∈ts,z<1000000000)
  (z2:vl 1000000000 zs=A) (t2:vl 1000000000 ts=C) (z3:zct zs) (t3:zct ts) (z4:zs.length<=n) (t4:ts.length<=n) (hG:Nat.gcd A C=Nat.gcd (vl 1000000000 xs) (vl 1000000000 ys)) (hg:w.grownBy w' none) :
  zcz B g1 n g2 n zs ts w w' G :=
 ⟨hz.base h.bs,ht.base h.bs,hne,z1,t1,z3,t3,by rw[z2,t2,hG];exact h.g,by omega,by omega,below_grown hg h.bs (by simp),zqam h.bs hg.size⟩
theorem zwO (B gx cx gy cy G:Nat)(xs ys:List Nat)(w:World)(h:zcz B gx cx gy cy xs ys w w G)(h0:ys≠[])(hl:xs.length<ys.length) :
  Calls Tryz.prog 274 #[.slice (some ⟨gx,0,none⟩) xs.length cx,.slice (some ⟨gy,0,none⟩) ys.length cy] w (zlV B G ys w):=by
 have hd:=fun(w1:World) (hg:w.grownBy w1 none)=>zkJ B gx cx gy cy xs ys w1 (h.xb.grown hg (by simp)) (h.yb.grown hg (by simp)) h.ne h.xlt h.ylt h.xt h.yt h0 h.xn (zqam h.bs hg.size);have t1:decide (ys.length<=xs.length)=false:=by simp;omega
 have t1':decide ((ys.length:Int)<=(xs.length:Int))=false:=by simp;omega
 have H:=zHd (zAI h h0);have HD:=zHd hd;clear h hd h0 hl;go_enter Tryz.func274,Tryz.ntmps274;go_wp2_with fail;refine(HD.out _ (zGA _ _ none)).mono ?_;rintro e w' ⟨qv,qs,gr,cr,rs,rfl,hok⟩;obtain⟨h1,h2⟩:=zst H.out.1 H.out.2 (zGA _ _ none) hok;have HP:=zHd (zAI h1 h2);clear hok h1 h2;go_wp2;go_ret2;exact⟨gy,cy,ys,gr,cr,rs,rfl,HP.out.1,HP.out.2⟩
theorem zBN {w w1:World}(h:(w.alloc (.cells #[.int .u64 0,.int .u64 0,.int .u64 0,.int .u64 0,.bool false] 241)).grownBy w1 none):w1.heap[w.heap.size]?=some (.cells #[.int .u64 0,.int .u64 0,.int .u64 0,.int .u64 0,.bool false] 241 (0,0)):=by
 rw[h.block w.heap.size (by simp) (by simp)];show(w.heap.push _)[w.heap.size]?=_;rw[zqaz]
theorem zBO {w1:World}{g a b c d:Nat}{sw:Bool}(h:w1.heap[g]?=some (.cells #[.int .u64 0,.int .u64 0,.int .u64 0,.int .u64 0,.bool false] 241 (0,0))) :
  zbB (((((w1.setCell ⟨g,0,none⟩ (.int .u64 (a:Int))).setCell ⟨g,1,none⟩ (.int .u64 (b:Int))).setCell ⟨g,2,none⟩ (.int .u64 (c:Int))).setCell ⟨g,3,none⟩ (.int .u64 (d:Int))).setCell ⟨g,4,none⟩ (.bool sw)) g a b c d sw:=by
 have h0:zbB w1 g 0 0 0 0 false:=h;exact((((h0.set0 a).set1 b).set2 c).set3 d).set4 sw
structure ztX (w w':World)(R n g:Nat)(zs:List Nat):Prop where
 b:zaC w.heap.size w' (.slice (some ⟨g,0,none⟩) zs.length n) zs
 lt:∀ z∈zs,z<1000000000
 v:vl 1000000000 zs=R
 t:zct zs
 n:zs.length<=n
 gr:w.grownBy w' none
structure Ask (w:World)(n:Nat)(v1:Value)(f:Int)(v2:Value)(g:Int)(R:Nat):Prop where
 use:∀ w',w.grownBy w' none->Calls Tryz.prog 288 #[v1,.int .u64 f,v2,.int .u64 g] w' fun e w''=>∃ gb zs,e=.returned (.slice (some ⟨gb,0,none⟩) zs.length n)/\ztX w' w'' R n gb zs
theorem zpq {w:World}{f g n R:Nat}{A1 A2:Option Addr}{c1 c2:Nat}{xs ys:List Nat}(hsx:∀ w1,w.grownBy w1 none->zgk w1 (.slice A1 xs.length c1) xs)(hsy:∀ w1,w.grownBy w1 none->zgk w1 (.slice A2 ys.length c2) ys)
  (hf:f<=1000000000) (hg:g<=1000000000) (hx:∀ x∈xs,x<1000000000) (hy:∀ y∈ys,y<1000000000) (hm:max xs.length ys.length=n) (hn:n<=10000)
  (hR:R+g*vl 1000000000 ys=f*vl 1000000000 xs) (hlt:R<1000000000 ^ n):Ask w n (.slice A1 xs.length c1) f (.slice A2 ys.length c2) g R:=⟨fun w' hw=>by
 refine(zqX f g n R A1 A2 c1 c2 xs ys w' (fun w1 h=>hsx w1 (zaa hw h)) (fun w1 h=>hsy w1 (zaa hw h)) hf hg hx hy hm hn hR hlt).mono ?_;rintro e w'' ⟨gb,zs,rfl,h1,h2,h3,h4,h5,h6⟩;exact⟨gb,zs,rfl,h1,h2,h3,h4,h5,h6⟩⟩
theorem znr {w w':World}{n:Nat}{v1 v2:Value}{f g:Int}{R:Nat}{Q:Ending->World->Prop}(h:Ask w n v1 f v2 g R)(hw:w.grownBy w' none)(hq:∀ gb zs w'',ztX w' w'' R n gb zs->Q (.returned (.slice (some ⟨gb,0,none⟩) zs.length n)) w'') :
  Calls Tryz.prog 288 #[v1,.int .u64 f,v2,.int .u64 g] w' Q:=(h.use w' hw).mono (by rintro e w'' ⟨gb,zs,rfl,h⟩;exact hq gb zs w'' h)
theorem zsu {B gx cx gy cy G n A C ga gc:Nat}{xs ys zs ts:List Nat}{w w2 w3 w4:World}(h:zcz B gx cx gy cy xs ys w w G)(hn:n<=10000)(hw:w.grownBy w2 none)(hG:Nat.gcd A C=Nat.gcd (vl 1000000000 xs) (vl 1000000000 ys))
  (h1:ztX w2 w3 A n ga zs) (h2:ztX w3 w4 C n gc ts):zcz B ga n gc n zs ts w w4 G:=by
 have l1:=(h1.b.lt ga rfl).2;have l2:=(h2.b.lt gc rfl).1;exact h.later hn ((h1.b.grown h2.gr (by simp)).base hw.size) (h2.b.base (zqam hw.size h1.gr.size)) (by omega) h1.lt h2.lt h1.v h2.v h1.t h2.t h1.n h2.n hG (zaa (zaa hw h1.gr) h2.gr)
theorem zzi (B gx cx gy cy G:Nat)(xs ys:List Nat)(w:World)(h:zcz B gx cx gy cy xs ys w w G)(h0:ys≠[])(hl:ys.length<=xs.length)(h2:2<xs.length) :
  Calls Tryz.prog 274 #[.slice (some ⟨gx,0,none⟩) xs.length cx,.slice (some ⟨gy,0,none⟩) ys.length cy] w (zlV B G ys w):=by
 have hsx:∀ w1,w.grownBy w1 none->zgk w1 (.slice (some ⟨gx,0,none⟩) xs.length cx) xs:=fun w1 hg=>(h.xb.grown hg (by simp)).sees;have hsy:∀ w1,w.grownBy w1 none->zgk w1 (.slice (some ⟨gy,0,none⟩) ys.length cy) ys:=fun w1 hg=>(h.yb.grown hg (by simp)).sees;have ht1:=fun w1 hg=>znq w1 _ xs (xs.length:Int) (hsx w1 hg) h.xlt h.xn (by omega) (by have:=h.xn;omega);have ht2:=fun w1 hg=>znq w1 _ ys (xs.length:Int) (hsy w1 hg) h.ylt h.yn (by omega) (by have:=h.xn;omega);have hfo:=fun w1=>zwN (zik xs xs.length) (zik ys xs.length) w1 (znp h.xlt _) (znp h.ylt _);have hq1:=zoi (n:=xs.length) (by omega) h.xlt (zqab _);have hq2:=zoi (n:=xs.length) (by omega) h.ylt hl;generalize zik xs xs.length=hx at *;generalize zik ys xs.length=hy at *;have t1:decide (ys.length<=xs.length)=true:=by simp;omega
 have t1':decide ((ys.length:Int)<=(xs.length:Int))=true:=by simp;omega
 have H:=zHd (zAI h h0);have HT1:=zHd ht1;have HT2:=zHd ht2;have HFO:=zHd hfo;have HQ:=zHd (zAI hq1 hq2);have HL:=zHd (zAI hl h2);have HSX:=zHd hsx;have HSY:=zHd hsy;have HDV:=zHd (fun(w1:World) (hg:w.grownBy w1 none)=>zkJ B gx cx gy cy xs ys w1 (h.xb.grown hg (by simp)) (h.yb.grown hg (by simp)) h.ne h.xlt h.ylt h.xt h.yt h0 h.xn (zqam h.bs hg.size));clear h h0 ht1 ht2 hfo hq1 hq2 hl h2 hsx hsy;go_enter Tryz.func274,Tryz.ntmps274;go_wp2_with fail;refine(HT1.out _ (zGA _ _ none)).mono ?_;rintro e w' ⟨rfl,rfl⟩;go_wp2_with fail;refine(HT2.out _ (zGA _ _ none)).mono ?_;rintro e w' ⟨rfl,rfl⟩;go_wp2_with fail;refine(HFO.out _).mono ?_;rintro e w1 ⟨x,y,a,b,c,d,ee,f,sw,rfl,hf,hg⟩;have hnew:=zBN hg;have h00:zbB w1 w.heap.size 0 0 0 0 false:=hnew;obtain⟨k0,k1,k2,k3,k4,z0,z1,z2,z3,z4⟩:=h00.cells;have HG:=zHd (zaa (zGA _ _ none) hg);have HF:=zHd hf;have HW:=zHd hnew;clear hg hf h00 hnew;unfold stV
 by_cases hc:c=0
 ·have t2:decide (c=0)=true:=by simpa using hc
  have t2':((c:Int)==0)=true:=by simpa using hc
  go_wp2_with fail;refine(HDV.out _ (zev HG.out (zaf w1 none))).mono ?_;rintro e w' ⟨qv,qs,gr,cr,rs,rfl,hok⟩;obtain⟨h1,h2⟩:=zst H.out.1 H.out.2 (zev HG.out (zaf w1 none)) hok;have HP:=zHd (zAI h1 h2);clear hok h1 h2;go_wp2;go_ret2;exact⟨gy,cy,ys,gr,cr,rs,rfl,HP.out.1,HP.out.2⟩
 ·have t2:decide (c=0)=false:=by simpa using hc
  have t2':((c:Int)==0)=false:=by simpa using hc
  obtain⟨A,C,hlat⟩:=HF.out.out hc (P:=1000000000 ^ (xs.length-2)) (Nat.pow_pos (by decide)) HQ.out.1 HQ.out.2;have hY:=zbM 1000000000 ys H.out.1.ylt;have hYX:(1000000000:Nat) ^ ys.length<=1000000000 ^ xs.length:=zqay (by decide) HL.out.1;have hal:=HF.out.al;have hbl:=HF.out.bl;have hcl:=HF.out.cl;have hdl:=HF.out.dl;have hmax:max xs.length ys.length=xs.length:=Nat.max_eq_left HL.out.1;have hmax2:max ys.length xs.length=xs.length:=Nat.max_eq_right HL.out.1;have hst:=zBO (a:=a) (b:=b) (c:=c) (d:=d) (sw:=sw) HW.out;have hw2:=zev (u0:=.int .u64 (a:Int)) (u1:=.int .u64 (b:Int)) (u2:=.int .u64 (c:Int)) (u3:=.int .u64 (d:Int)) (u4:=.bool sw) HG.out (zaf w1 none);have hle:vl 1000000000 ys<1000000000 ^ xs.length:=by omega
  have HLT:=zHd (zAI hlat (zAI hle (zAI hmax hmax2)));have HB:=zHd (zAI hal (zAI hbl (zAI hcl hdl)));have HST:=zHd hst;have HW2:=zHd hw2;clear hlat hY hYX hal hbl hcl hdl hmax hmax2 hst hw2 hle;cases sw
  ·have hA1:Ask w xs.length (.slice (some ⟨gx,0,none⟩) xs.length cx) a (.slice (some ⟨gy,0,none⟩) ys.length cy) c A:=zpq HSX.out HSY.out (by have:=HB.out;omega) (by have:=HB.out;omega) H.out.1.xlt H.out.1.ylt HLT.out.2.2.1 H.out.1.xn (HLT.out.1.t2 rfl).1 (by have:=HLT.out.1.le;have:=HLT.out.2.1;omega)
   have hA2:Ask w xs.length (.slice (some ⟨gy,0,none⟩) ys.length cy) d (.slice (some ⟨gx,0,none⟩) xs.length cx) b C:=zpq HSY.out HSX.out (by have:=HB.out;omega) (by have:=HB.out;omega) H.out.1.ylt H.out.1.xlt HLT.out.2.2.2 H.out.1.xn (HLT.out.1.t2 rfl).2 (by have:=HLT.out.1.le;have:=HLT.out.1.lt;have:=HLT.out.2.1;omega);go_wp2;have hst:=HST.out;have hw2:=HW2.out;have HST2:=zHd hst;generalize (((((w1.setCell ⟨w.heap.size,0,none⟩ (.int .u64 (a:Int))).setCell ⟨w.heap.size,1,none⟩ (.int .u64 (b:Int))).setCell ⟨w.heap.size,2,none⟩ (.int .u64 (c:Int))).setCell ⟨w.heap.size,3,none⟩ (.int .u64 (d:Int))).setCell ⟨w.heap.size,4,none⟩ (.bool false))=w2 at *;clear hst hw2 k0 k1 k2 k3 k4;have hw2d:w.grownBy w2.drew none:=zaa HW2.out (zag _ _);have hsd:zbB w2.drew w.heap.size a b c d false:=HST2.out;obtain⟨k0,k1,k2,k3,_⟩:=hsd.cells;have HWD:=zHd hw2d;clear hsd
   go_region_held3 (fun W'=>W'.cell? ⟨w.heap.size,0,none⟩=some (.int .u64 (a:Int))/\W'.cell? ⟨w.heap.size,1,none⟩=some (.int .u64 (b:Int))/\W'.cell? ⟨w.heap.size,2,none⟩=some (.int .u64 (c:Int))/\W'.cell? ⟨w.heap.size,3,none⟩=some (.int .u64 (d:Int))) (go_keep)
    (first
     | (go_at_call 288;refine znr hA1 hw2d ?_;clear hA1;intro ga zs w3 hd1;have hw3:=zaa HWD.out hd1.gr;have s0:=hd1.gr.cell k0 (by simp);have s1:=hd1.gr.cell k1 (by simp);have s2:=hd1.gr.cell k2 (by simp);have s3:=hd1.gr.cell k3 (by simp))
     | (go_at_call 288;refine znr hA2 hw3 ?_;clear hA2;intro gc ts w4 hd2;have t0:=hd2.gr.cell s0 (by simp);have t1:=hd2.gr.cell s1 (by simp);have t2:=hd2.gr.cell s2 (by simp);have t3:=hd2.gr.cell s3 (by simp)))
   all_goals
    go_wp2;go_ret2;refine⟨ga,xs.length,zs,gc,xs.length,ts,rfl,zsu H.out.1 H.out.1.xn HWD.out HLT.out.1.g hd1 hd2,?_⟩;have:=HLT.out.1.lt;have:=HLT.out.1.le;rw[hd2.v];omega
  ·have hA1:Ask w xs.length (.slice (some ⟨gy,0,none⟩) ys.length cy) c (.slice (some ⟨gx,0,none⟩) xs.length cx) a A:=zpq HSY.out HSX.out (by have:=HB.out;omega) (by have:=HB.out;omega) H.out.1.ylt H.out.1.xlt HLT.out.2.2.2 H.out.1.xn (HLT.out.1.t1 rfl).1 (by have:=HLT.out.1.le;have:=HLT.out.2.1;omega)
   have hA2:Ask w xs.length (.slice (some ⟨gx,0,none⟩) xs.length cx) b (.slice (some ⟨gy,0,none⟩) ys.length cy) d C:=zpq HSX.out HSY.out (by have:=HB.out;omega) (by have:=HB.out;omega) H.out.1.xlt H.out.1.ylt HLT.out.2.2.1 H.out.1.xn (HLT.out.1.t1 rfl).2 (by have:=HLT.out.1.le;have:=HLT.out.1.lt;have:=HLT.out.2.1;omega);go_wp2;have hst:=HST.out;have hw2:=HW2.out;have HST2:=zHd hst;generalize (((((w1.setCell ⟨w.heap.size,0,none⟩ (.int .u64 (a:Int))).setCell ⟨w.heap.size,1,none⟩ (.int .u64 (b:Int))).setCell ⟨w.heap.size,2,none⟩ (.int .u64 (c:Int))).setCell ⟨w.heap.size,3,none⟩ (.int .u64 (d:Int))).setCell ⟨w.heap.size,4,none⟩ (.bool true))=w2 at *;clear hst hw2 k0 k1 k2 k3 k4;have hw2d:w.grownBy w2.drew none:=zaa HW2.out (zag _ _);have hsd:zbB w2.drew w.heap.size a b c d true:=HST2.out;obtain⟨k0,k1,k2,k3,_⟩:=hsd.cells;have HWD:=zHd hw2d;clear hsd
   go_region_held3 (fun W'=>W'.cell? ⟨w.heap.size,0,none⟩=some (.int .u64 (a:Int))/\W'.cell? ⟨w.heap.size,1,none⟩=some (.int .u64 (b:Int))/\W'.cell? ⟨w.heap.size,2,none⟩=some (.int .u64 (c:Int))/\W'.cell? ⟨w.heap.size,3,none⟩=some (.int .u64 (d:Int))) (go_keep)
    (first
     | (go_at_call 288;refine znr hA1 hw2d ?_;clear hA1;intro ga zs w3 hd1;have hw3:=zaa HWD.out hd1.gr;have s0:=hd1.gr.cell k0 (by simp);have s1:=hd1.gr.cell k1 (by simp);have s2:=hd1.gr.cell k2 (by simp);have s3:=hd1.gr.cell k3 (by simp))
     | (go_at_call 288;refine znr hA2 hw3 ?_;clear hA2;intro gc ts w4 hd2;have t0:=hd2.gr.cell s0 (by simp);have t1:=hd2.gr.cell s1 (by simp);have t2:=hd2.gr.cell s2 (by simp);have t3:=hd2.gr.cell s3 (by simp)))
   all_goals
    go_wp2;go_ret2;refine⟨ga,xs.length,zs,gc,xs.length,ts,rfl,zsu H.out.1 H.out.1.xn HWD.out HLT.out.1.g hd1 hd2,?_⟩;have:=HLT.out.1.lt;have:=HLT.out.1.le;rw[hd2.v];omega
theorem zBP (B gx cx gy cy G:Nat)(xs ys:List Nat)(w:World)(h:zcz B gx cx gy cy xs ys w w G)(h0:ys≠[])(h2:2<max xs.length ys.length) :
  Calls Tryz.prog 274 #[.slice (some ⟨gx,0,none⟩) xs.length cx,.slice (some ⟨gy,0,none⟩) ys.length cy] w (zlV B G ys w):=by
 rcases Nat.lt_or_ge xs.length ys.length with hl|hl
 ·exact zwO B gx cx gy cy G xs ys w h h0 hl
 ·exact zzi B gx cx gy cy G xs ys w h h0 hl (by omega)
theorem zkK {xs:List Nat}(hx:∀ x∈xs,x<1000000000)(hl:xs.length<=2):zik xs 2=vl 1000000000 xs:=by
 have h:=zoi (n:=2) (zqab 2) hx hl;rw[zqbr,Nat.pow_zero,Nat.div_one] at h;exact h.symm
theorem zcz.self {B gx cx gy cy:Nat}{xs ys:List Nat}{w wr:World}{G:Nat}(h:zcz B gx cx gy cy xs ys w wr G):zcz B gx cx gy cy xs ys wr wr G :=
 ⟨h.xb,h.yb,h.ne,h.xlt,h.ylt,h.xt,h.yt,h.g,h.xn,h.yn,Below.refl _ _,h.bs⟩
theorem zKe (a:Nat):vl 1000000000 [a%1000000000,a/1000000000]=a:=by
 have:=zqbt a 1000000000;simp only[vl];omega
theorem zwP (B gx cx gy cy G:Nat)(xs ys:List Nat)(w:World)(h:zcz B gx cx gy cy xs ys w w G) :
  Calls Tryz.prog 256 #[.slice (some ⟨gx,0,none⟩) xs.length cx,.slice (some ⟨gy,0,none⟩) ys.length cy] w (zIL B G w):=by
 have H:=zHd h;clear h;go_enter Tryz.func256,Tryz.ntmps256;go_wp2
 go_loopg [0,1] (vl 1000000000 ys) (fun n x y wr=>∃ gx cx xs gy cy ys,x=.slice (some ⟨gx,0,none⟩) xs.length cx/\y=.slice (some ⟨gy,0,none⟩) ys.length cy/\zcz B gx cx gy cy xs ys w wr G/\vl 1000000000 ys=n)
 case atStart=>exact⟨_,_,_,_,_,_,rfl,rfl,H.out,rfl⟩
 case round =>
  obtain⟨gx,cx,xs,gy,cy,ys,rfl,rfl,hinv,hgk⟩:=hrel
  by_cases h0:ys=[]
  ·subst h0
   have HI:=zHd hinv;clear hinv hgk;have f1:¬ ((0:Int)<((([]:List Nat).length:Nat):Int)):=by simp
   go_wp2;go_ret;have hi:=HI.out;exact⟨gx,cx,xs,rfl,hi.xb,hi.xlt,by rw[<- hi.g];simp[vl],hi.xn,hi.bel⟩
  ·have hl:(0:Int)<(ys.length:Int):=by have:=List.length_pos_iff.2 h0;omega
   have hl1:decide (0<ys.length)=true:=by have:=List.length_pos_iff.2 h0;simpa using this
   by_cases h2:2<max xs.length ys.length
   ·have e2:(2:Int)<max (xs.length:Int) (ys.length:Int):=by omega
    have e2':decide ((2:Int)<max (xs.length:Int) (ys.length:Int))=true:=(by simpa using e2);have hd:=zBP B gx cx gy cy G xs ys wr hinv.self h0 h2;have HI:=zHd hinv;have HD:=zHd hd;have H0:=zHd h0;have HGK:=zHd hgk;have H2:=zHd h2;clear hinv hd h0 hgk h2;go_wp2_with fail;refine HD.out.mono ?_;rintro e w' ⟨gx2,cx2,xs2,gy2,cy2,ys2,rfl,hok,hlt⟩;have HS:=zHd hok;have HL:=zHd hlt;clear hok hlt;go_wp2
    go_roundg (vl 1000000000 ys2)
    case measure=>rw[<- HGK.out];exact HL.out
    case rel=>exact⟨_,_,_,_,_,_,rfl,rfl,⟨HS.out.xb,HS.out.yb,HS.out.ne,HS.out.xlt,HS.out.ylt,HS.out.xt,HS.out.yt,HS.out.g,HS.out.xn,HS.out.yn,HI.out.bel.trans HS.out.bel,HS.out.bs⟩,rfl⟩
   ·have e2:¬ (2:Int)<max (xs.length:Int) (ys.length:Int):=by omega
    have e2':decide ((2:Int)<max (xs.length:Int) (ys.length:Int))=false:=(by simpa using e2);have hne:¬ (ys.length:Int)=0:=(by omega);have hne2:((ys.length:Int)==0)=false:=(by simpa using hne);have ht1:=znq wr _ xs 2 hinv.xb.sees hinv.xlt hinv.xn (by omega) (by omega);have ht2:=znq wr _ ys 2 hinv.yb.sees hinv.ylt hinv.yn (by omega) (by omega);rw[zkK hinv.xlt (by omega)] at ht1;rw[zkK hinv.ylt (by omega)] at ht2;have l1:=znp hinv.xlt 2;have l2:=znp hinv.ylt 2;rw[zkK hinv.xlt (by omega)] at l1;rw[zkK hinv.ylt (by omega)] at l2;have hg:=hinv.g;generalize vl 1000000000 xs=a0 at *;generalize vl 1000000000 ys=b0 at *;have HI:=zHd hinv;have HT1:=zHd ht1;have HT2:=zHd ht2;have HG:=zHd (zAI hg (zAI l1 l2));clear hinv ht1 ht2 hg l1 l2 h2 h0 hgk;go_wp2_with fail;refine HT1.out.mono ?_;rintro e w' ⟨rfl,rfl⟩;go_wp2_with fail;refine HT2.out.mono ?_;rintro e w' ⟨rfl,rfl⟩;go_wp2;generalize hw1:wr=w1 at *;clear hw1
    go_loopw [5,6] (fun av bv wr=>∃ a b:Nat,av=.int .u64 (a:Int)/\bv=.int .u64 (b:Int)/\Nat.gcd a b=G/\a<1000000000000000000/\b<1000000000000000000/\w1.grownBy wr none) (fun _ bv _=>(intOf bv).toNat)
    case atStart=>exact⟨a0,b0,rfl,rfl,HG.out.1,HG.out.2.1,HG.out.2.2,zaf _ _⟩
    case round =>
     obtain⟨a,b,rfl,rfl,hab,ha,hb,hgr⟩:=hrel
     by_cases hb0:b=0
     ·subst hb0
      have ea:a=G:=(by rw[<- hab];simp);subst ea;obtain⟨p,hp⟩:∃ p,a%1000000000=p:=⟨_,rfl⟩;obtain⟨q,hq⟩:∃ q,a/1000000000=q:=⟨_,rfl⟩;have m1:(a:Int)%1000000000=(p:Int):=(by omega);have m2:(a:Int)/1000000000=(q:Int):=(by omega);have m3:IntKind.u64.wrap (p:Int)=(p:Int):=(by rw[IntKind.wrap_u64];omega);have m4:IntKind.u64.wrap (q:Int)=(q:Int):=(by rw[IntKind.wrap_u64];omega);have hv:=zKe a;rw[hp,hq] at hv;have HR:=zHd (zAI hgr (zAI hv (zAI ha (zAI hp hq))));have htr:=fun(W:World) (hW:zaF W wr.heap.size (uv [p,q]))=>zkF wr.heap.size wr.heap.size 2 [p,q] W (zaC.of_cells hW (zqab _) rfl (by unfold maxLen;omega) (by rw[zqaf (by rw[zaz];exact zqab _)]) (zqab _)) (by simp);have HT:=zHd htr;clear hab ha hb hgr hv hp hq htr;go_wp2_with fail;refine(HT.out _ ?cells).mono ?_
      case cells =>
       show(wr.heap.push _)[wr.heap.size]?=_;rw[zqaz];rfl
      rintro e w' ⟨m,hm,rfl,rfl,hv2,ht⟩;have HP:=zHd (zAI hm (zAI hv2 ht));clear hm hv2 ht;go_wp2;go_ret;obtain⟨hm,hv2,ht⟩:=HP.out;obtain⟨hgr,hv,ha,hp,hq⟩:=HR.out;have hm2:m<=2:=hm;have hl2:([p,q].take m).length=m:=(by rw[zqan];simp;omega);refine⟨wr.heap.size,2,[p,q].take m,by rw[hl2];rfl,?_,fun z hz=>?_,by rw[hv2];exact hv,by omega,?_⟩
      ·have hbs:=HI.out.bs
       refine zaC.of_cells (l:=uv [p,q]) ?_ (zqam hbs hgr.size) rfl (by unfold maxLen;omega) (by rw[znl,hl2]) (by omega);show(wr.heap.push _)[wr.heap.size]?=_;rw[zqaz];rfl
      ·have:=zqau hz
       simp at this;omega
      ·exact HI.out.bel.trans (below_grown (zaa hgr (zGA _ _ none)) HI.out.bs (by simp))
     ·have hb1:¬ (b:Int)=0:=by omega
      have hb2:decide (0<b)=true:=(by simp;omega);have hb3:decide ((0:Int)<(b:Int))=true:=(by simp;omega);have hmod:a%b<b:=Nat.mod_lt _ (by omega);have hstep:Nat.gcd b (a%b)=G:=(by rw[<- hab,Nat.gcd_comm a b,Nat.gcd_rec b a,Nat.gcd_comm]);obtain⟨r,hr⟩:∃ r,a%b=r:=⟨_,rfl⟩;rw[hr] at hmod hstep;have e1:(a:Int)%(b:Int)=(r:Int):=(by rw[<- Int.natCast_emod,hr]);have HR:=zHd (zAI hgr (zAI hmod (zAI hstep hb)));clear hab ha hb hb0 hmod hstep hgr hr;go_wp2
      go_quiet (fail)
      go_wp2;obtain⟨hgr,hmod,hstep,hb⟩:=HR.out;exact⟨⟨b,r,rfl,by rw[e1],hstep,hb,by omega,zaa hgr (zcc _ _ _)⟩,by rw[e1];simpa [intOf] using hmod⟩
open Go.RowKit
open Go.Lib (nDigits)
theorem zxX (a b:ByteArray)(w:World)(ha:a.size<=maxLen)(hb:b.size<=maxLen) :
  Calls Tryz.prog 231 #[.string a,.string b] w (zab (zdd a b) w):=by
 have va:=fun w=>zcy a w ha;have vb:=fun w=>zcy b w hb;unfold maxLen at ha hb;cases hna:zan a
 ·have HV:=zHd (show zdd a b=.tuple #[.string ⟨#[]⟩,.string ⟨#[]⟩,.int .i64 1] by unfold zdd;rw[hna];rfl)
  simp only[hna] at va;clear vb hna;go_enter Tryz.func231,Tryz.ntmps231;go_wp2_with (go_at_call 225;refine(va _).mono ?_;rintro e w' ⟨rfl,rfl⟩)
  go_ret3
  exact⟨by rw[HV.out];rfl,zaf _ _⟩
 cases hnb:zan b
 ·have HV:=zHd (show zdd a b=.tuple #[.string ⟨#[]⟩,.string ⟨#[]⟩,.int .i64 1] by unfold zdd;rw[hnb,Bool.and_false];rfl)
  simp only[hna] at va;simp only[hnb] at vb;clear hna hnb;go_enter Tryz.func231,Tryz.ntmps231;go_wp2_with fail;refine(va _).mono ?_;rintro e w' ⟨rfl,rfl⟩;go_wp2_with fail;refine(vb _).mono ?_;rintro e w' ⟨rfl,rfl⟩;go_wp2
  go_ret3
  exact⟨by rw[HV.out];rfl,zaf _ _⟩
 have hzs:=zuq b hnb
 by_cases hz:nv b=0
 ·have HV:=zHd (show zdd a b=.tuple #[.string ⟨#[]⟩,.string ⟨#[]⟩,.int .i64 4] by unfold zdd;rw[hna,hnb];simp only[Bool.and_self,if_true];rw[if_pos hz])
  have f1:(b.toList==[48])=true:=by rw[hzs];simp[hz]
  simp only[hna] at va;simp only[hnb] at vb;clear hna hnb hz hzs;go_enter Tryz.func231,Tryz.ntmps231;go_wp2_with fail;refine(va _).mono ?_;rintro e w' ⟨rfl,rfl⟩;go_wp2_with fail;refine(vb _).mono ?_;rintro e w' ⟨rfl,rfl⟩;go_wp2
  go_ret3
  exact⟨by rw[HV.out];rfl,zaf _ _⟩
 have HV:=zHd (show zdd a b=.tuple #[.string (zah (nv a/nv b)),.string (zah (nv a%nv b)),.int .i64 0] by unfold zdd;rw[hna,hnb];simp only[Bool.and_self,if_true];rw[if_neg hz]);have f1:(b.toList==[48])=false:=by rw[hzs];simp[hz]
 have HZ:=zHd hz;clear hz hzs;have ra:=fun w=>zei a w hna;have rb:=fun w=>zei b w hnb;simp only[hna] at va;simp only[hnb] at vb;clear hna hnb;go_enter Tryz.func231,Tryz.ntmps231;go_wp2_with fail;refine(va _).mono ?_;rintro e w' ⟨rfl,rfl⟩;go_wp2_with fail;refine(vb _).mono ?_;rintro e w' ⟨rfl,rfl⟩;go_wp2_with fail;refine(ra _).mono ?_;rintro e w1 ⟨gx,cx,xs,rfl,hbx,hgx,hxl,hxv,hxt,hxn,hg1⟩;have HBX:=zHd hbx;have HXL:=zHd hxl;have HXV:=zHd hxv;have HG1:=zHd hg1;have HXT:=zHd hxt;clear hbx hxl hxv hxt hg1 ra va vb;go_wp2_with fail;refine(rb _).mono ?_;rintro e w2 ⟨gy,cy,ys,rfl,hby,hgy,hyl,hyv,hyt,hyn,hg2⟩;have hne:gx≠gy:=by have:=(HBX.out.lt gx rfl).2;omega
 have hy0:ys≠[]:=by
  intro e;have:=(znO hyt).1 e;rw[hyv] at this;exact HZ.out this
 have hsz:=hg2.size;have hsz1:=HG1.out.size;have hd:=zkJ w.heap.size gx cx gy cy xs ys w2 (HBX.out.grown hg2 (by simp)) (hby.base (by omega)) hne HXL.out hyl HXT.out hyt hy0 (by omega) (by omega);have HD:=zHd hd;have HG2:=zHd hg2;have HYV:=zHd hyv;clear hby hyl hyv hyt hg2 hd rb hy0;go_wp2_with fail;refine HD.out.mono ?_;rintro e w3 ⟨qv,qs,gr,cr,rs,rfl,hok⟩;have hw1:=zhS qv qs w3 hok.qb hok.qlt (by have:=hok.qn;omega);have hrb:=hok.rb;have hrl:=hok.rlt;have hrn:=hok.rn;have e1:=hok.qv;have e2:=hok.rv;have hg3:=hok.gr;rw[HXV.out,HYV.out] at e1 e2;rw[e1] at hw1;have hw2:=fun(w':World) (h:w3.grownBy w' none)=>zhS _ rs w' ((hrb.base (zqaw _)).grown h (by simp)) hrl (by omega);rw[e2] at hw2;have HW1:=zHd hw1;have HW2:=zHd hw2;have HG3:=zHd hg3;clear hok hw1 hw2 hrb hrl e1 e2 hg3 HD;go_wp2_with fail;refine HW1.out.mono ?_;rintro e w4 ⟨rfl,hg4⟩;have HG4:=zHd hg4;clear hg4;go_wp2_with fail;refine(HW2.out _ HG4.out).mono ?_;rintro e w5 ⟨rfl,hg5⟩;have HG5:=zHd hg5;clear hg5;go_wp2
 go_ret3
 exact⟨by rw[HV.out];rfl,zaj (g:=gx) (zaa HG1.out (zaS HG2.out)) (zaa HG3.out (zaS (zaa HG4.out (zaS HG5.out)))) hgx⟩
theorem zIM (a b:ByteArray)(w:World)(ha:a.size<=maxLen)(hb:b.size<=maxLen) :
  Calls Tryz.prog 230 #[.string a,.string b] w (zab (zew a b) w):=by
 have va:=fun w=>zcy a w ha;have vb:=fun w=>zcy b w hb;unfold maxLen at ha hb;cases hna:zan a
 ·have HV:=zHd (show zew a b=zij by unfold zew;rw[hna];rfl)
  simp only[hna] at va;clear vb hna;go_enter Tryz.func230,Tryz.ntmps230;go_wp2_with (go_at_call 225;refine(va _).mono ?_;rintro e w' ⟨rfl,rfl⟩);go_ret2;exact⟨by rw[HV.out];rfl,zaf _ _⟩
 cases hnb:zan b
 ·have HV:=zHd (show zew a b=zij by unfold zew;rw[hnb,Bool.and_false];rfl)
  simp only[hna] at va;simp only[hnb] at vb;clear hna hnb;go_enter Tryz.func230,Tryz.ntmps230;go_wp2_with fail;refine(va _).mono ?_;rintro e w' ⟨rfl,rfl⟩;go_wp2_with fail;refine(vb _).mono ?_;rintro e w' ⟨rfl,rfl⟩;go_wp2;go_ret2;exact⟨by rw[HV.out];rfl,zaf _ _⟩
 have HV:=zHd (show zew a b=.tuple #[.string (zah (Nat.gcd (nv a) (nv b))),.int .i64 0] by unfold zew;rw[hna,hnb];rfl);have ra:=fun w=>zei a w hna;have rb:=fun w=>zei b w hnb;simp only[hna] at va;simp only[hnb] at vb;clear hna hnb;go_enter Tryz.func230,Tryz.ntmps230;go_wp2_with fail;refine(va _).mono ?_;rintro e w' ⟨rfl,rfl⟩;go_wp2_with fail;refine(vb _).mono ?_;rintro e w' ⟨rfl,rfl⟩;go_wp2_with fail;refine(ra _).mono ?_;rintro e w1 ⟨gx,cx,xs,rfl,hbx,hgx,hxl,hxv,hxt,hxn,hg1⟩;have HBX:=zHd hbx;have HXL:=zHd hxl;have HXV:=zHd hxv;have HG1:=zHd hg1;have HXT:=zHd hxt;clear hbx hxl hxv hxt hg1 ra va vb;go_wp2_with fail;refine(rb _).mono ?_;rintro e w2 ⟨gy,cy,ys,rfl,hby,hgy,hyl,hyv,hyt,hyn,hg2⟩;have hne:gx≠gy:=by have:=(HBX.out.lt gx rfl).2;omega
 have hsz:=hg2.size;have hsz1:=HG1.out.size;have hg12:=zaa HG1.out (zaS hg2 (r:=none));have hd:=zwP w.heap.size gx cx gy cy (Nat.gcd (nv a) (nv b)) xs ys w2 ⟨HBX.out.grown hg2 (by simp),hby.base (by omega),hne,HXL.out,hyl,HXT.out,hyt,by rw[HXV.out,hyv],by omega,by omega,Below.refl _ _,by omega⟩;have HD:=zHd hd;have HG12:=zHd hg12;clear hby hyl hyv hyt hg2 hd rb hg12;go_wp2_with fail;refine HD.out.mono ?_;rintro e w3 ⟨g,c,zs,rfl,hzb,hzl,hzv,hzn,hbel⟩;have hw1:=zhS _ zs w3 (hzb.base (zqaw _)) hzl hzn;rw[hzv] at hw1;have HW1:=zHd hw1;have HB:=zHd hbel;clear hzb hzl hzv hbel hw1 HD;go_wp2_with fail;refine HW1.out.mono ?_;rintro e w4 ⟨rfl,hg4⟩;have HG4:=zHd hg4;clear hg4;go_wp2;go_ret2;have hb:=HB.out;have hg3:w.grownBy w3 none:=⟨hb.os.trans HG12.out.os,hb.tape.trans HG12.out.tape,hb.output.trans HG12.out.output,zqam HG12.out.size hb.size,fun i hi _=>(hb.block i hi).trans (HG12.out.block i hi (by simp))⟩;exact⟨by rw[HV.out];rfl,zaa hg3 (zaS HG4.out)⟩
open Go.RowKit
open Go.Lib (nDigits)
theorem zur (a b c:ByteArray)(ha:zan a=true)(hb:zan b=true)(hc:zan c=true)(h:nv c=nv a+nv b):zdQ a b=.tuple #[.string c,.int .i64 0]:=by
 unfold zdQ zdP;rw[ha,hb,<- h];simp only[Bool.and_self,if_true];rw[if_pos (zbW c hc).2,<- (zbW c hc).1]
theorem zFv (a b c:ByteArray)(ha:zan a=true)(hb:zan b=true)(hc:zan c=true)(h:nv c=nv a*nv b):zej a b=.tuple #[.string c,.int .i64 0]:=by
 unfold zej zdP;rw[ha,hb,<- h];simp only[Bool.and_self,if_true];rw[if_pos (zbW c hc).2,<- (zbW c hc).1]
theorem zFw (a b q r:ByteArray)(ha:zan a=true)(hb:zan b=true)(hq:zan q=true)(hr:zan r=true)(h0:nv b≠0)(h1:nv q=nv a/nv b)(h2:nv r=nv a%nv b):zdd a b=.tuple #[.string q,.string r,.int .i64 0]:=by
 unfold zdd;rw[ha,hb,<- h1,<- h2];simp only[Bool.and_self,if_true];rw[if_neg h0,<- (zbW q hq).1,<- (zbW r hr).1]
theorem zIN (a b:ByteArray)(ha:zan a=true)(hb:zan b=true)(h:nv a<nv b):zds a b=.tuple #[.string ⟨#[]⟩,.int .i64 4]:=by
 unfold zds;rw[ha,hb];simp only[Bool.and_self,if_true];rw[if_pos h]
open Go.RowKit
open Go.Lib (nDigits)
theorem zBQ {m:Nat}(a:ByteArray)(ha:zan a=true)(h:m<=nv a):zan (zah m)=true:=by
 rw[zqL];have:=(zbW a ha).2;have:=zbA h;simp;omega
theorem zdZ (b:ByteArray)(h:zan b=true):(b.toList==[48])=decide (nv b=0)/\(b.toList != [48]) = !decide (nv b=0):=by
 have:=zuq b h;exact⟨this,by rw[bne,this]⟩
def zju (s:ByteArray)(b:Bool):Prop:=∀ w,Calls Tryz.prog 225 #[.string s] w fun e w'=>e=.returned (.bool b)/\w=w'
theorem zIb (s:ByteArray)(hs:s.size<=maxLen):zju s (zan s):=fun w=>zcy s w hs
theorem zoj:zah 0=⟨#[48]⟩:=by decide +kernel
theorem zxY:zah 1=⟨#[49]⟩:=by decide +kernel
open Go.RowKit
theorem zKf (p:Addr)(x E:Int)(older:List PanicEntry)(w:World)(hc:w.cell? p=some (.int .i64 x))(hz:w.frozen? p=false) :
  CallsD Tryz.prog 229 #[.pointer (some p)] (.panicking ({ v:=.iface 24 (.int .i64 E),recovered:=false }::older)) w fun e u' w' =>
   e=.returned (.tuple #[])/\u'=.panicking ({ v:=.iface 24 (.int .i64 E),recovered:=true }::older)/\w'=w.setCell p (.int .i64 E):=by
 refine callsD_of_wpS Tryz.func229 rfl fun c₀ cs hu=>?_;apply wpS_seq;apply wpS_region;simp[wpOpsS,go_sem,recoverD,hu,Tryz.ntmps229,Exit.thenS];clear hu;obtain⟨fs,hfs⟩:∃ fs:List Frame,fs = { c₀ with mode:=.panicking ({ v:=.iface 24 (.int .i64 E),recovered:=true }::older) }::cs:=⟨_,rfl⟩;have HFS:=zHd hfs;rw[<- hfs];clear hfs;have h1:∀ w:World,(binOp .neq 20 (.iface 24 (.int .i64 E)) .nilIface).run Tryz.prog w=.ok (.bool true) w:=fun w=>run_neq_held_nil _ _ _ _ (by kernel_rfl);have h2:∀ w:World,(Instr.typeAssert (.iface 24 (.int .i64 E)) 20 24 false).run Tryz.prog w=.ok (.int .i64 E) w:=fun w=>by kernel_rfl
 refine wpS_of_wp ?_;go_wp2_with fail;clear h1 h2 hc hz;rw[HFS.out];exact⟨rfl,_,rfl,.tuple #[],by simp[results,Tryz.results229],rfl,rfl,rfl⟩
theorem idle (p:Addr)(w:World) :
  CallsD Tryz.prog 229 #[.pointer (some p)] .returning w fun e u' w'=>e=.returned (.tuple #[])/\u'=.returning/\w'=w:=by
 refine callsD_of_wpS Tryz.func229 rfl fun c₀ cs hu=>?_;apply wpS_seq;apply wpS_region;simp[wpOpsS,go_sem,recoverD,hu,Tryz.ntmps229,Exit.thenS];refine wpS_of_wp ?_;go_wp2;cases c₀
 simp_all [bodyPostS,results,Tryz.results229]
def zfG (E:Int)(w:World)(e:Ending)(w':World):Prop:=e=.panicked [{ v:=.iface 24 (.int .i64 E),recovered:=false }]/\w.grownBy w' none
def Enters (F:Nat):Prop:=∀ (args:Array Value) (w:World),(callFunc F args).run Tryz.prog w=.ok (.enter F args) w
theorem zaE (w:World)(o:Obj):(w.alloc o).heap[w.heap.size]?=some o:=by show(w.heap.push o)[w.heap.size]?=some o;simp
theorem zFx (S:ByteArray)(w w2:World)(tmps:Array Value)(ht:tmps=#[tmps.getD 0 undef,tmps.getD 1 undef,.string S,.pointer (some ⟨w.heap.size,0,none⟩),tmps.getD 4 undef,tmps.getD 5 undef,tmps.getD 6 undef])
  (hb:w2.heap[w.heap.size]?=some (.cells #[.int .i64 0] 24 (0,0))) (hg:w.grownBy w2 none) :
  Leaves Tryz.prog Tryz.f197 tmps (zab (.tuple #[.string S,.int .i64 0]) w) [{ target:=.fn (.func 229) #[.pointer (some ⟨w.heap.size,0,none⟩)],args:=#[] }] .returning w2:=by
 have hcell:=cell_of_one hb;refine leaves_cons (f:=229) (args:=#[.pointer (some ⟨w.heap.size,0,none⟩)]) (by simp) (by simp[go_sem]) ?_;refine(idle ⟨w.heap.size,0,none⟩ _).mono ?_;rintro e u' w'' ⟨rfl,rfl,rfl⟩;rw[ht];refine⟨.tuple #[.string S,.int .i64 0],by simp[results,Tryz.results197,go_sem,hcell],rfl,hg⟩
theorem zFy (E:Int)(w w2:World)(tmps:Array Value)(ht:tmps=#[tmps.getD 0 undef,tmps.getD 1 undef,.string ⟨#[]⟩,.pointer (some ⟨w.heap.size,0,none⟩),tmps.getD 4 undef,tmps.getD 5 undef,tmps.getD 6 undef])
  (hb:w2.heap[w.heap.size]?=some (.cells #[.int .i64 0] 24 (0,0))) (hg:w.grownBy w2 none) :
  Leaves Tryz.prog Tryz.f197 tmps (zab (.tuple #[.string ⟨#[]⟩,.int .i64 E]) w) [{ target:=.fn (.func 229) #[.pointer (some ⟨w.heap.size,0,none⟩)],args:=#[] }] (.panicking [{ v:=.iface 24 (.int .i64 E),recovered:=false }]) w2:=by
 have hcell:=cell_of_one (one_setCell (u:=.int .i64 E) hb);refine leaves_cons (f:=229) (args:=#[.pointer (some ⟨w.heap.size,0,none⟩)]) (by simp) (by simp[go_sem]) ?_;refine(zKf ⟨w.heap.size,0,none⟩ 0 E [] _ (cell_of_one hb) (free_of_one hb)).mono ?_;rintro e u' w'' ⟨rfl,rfl,rfl⟩;rw[ht];refine⟨.tuple #[.string ⟨#[]⟩,.int .i64 E],by simp[results,Tryz.results197,go_sem,hcell],rfl,?_⟩;exact zaj hg (zac w2 ⟨w.heap.size,0,none⟩ _) (zqab _)
theorem alloc_old {w w2:World}{o:Obj}(hg:(w.alloc o).grownBy w2 none):w2.heap[w.heap.size]?=some o :=
 (hg.block _ (by simp) (by simp)).trans (zaE w o)
theorem zpr (F:Nat)(he:Enters F)(first cap:Array Value)(S:ByteArray)(w:World)
  (h:Calls Tryz.prog F (first++cap) (w.alloc (.cells #[.int .i64 0] 24)) (zab (.string S) (w.alloc (.cells #[.int .i64 0] 24)))) :
  Calls Tryz.prog 197 #[.func (.func F) first cap] w (zab (.tuple #[.string S,.int .i64 0]) w):=by
 have hmf := @zMF Tryz.prog;have H:=zHd h;have HE:=zHd he;clear h he
 go_enter_defers Tryz.func197,Tryz.ntmps197
 go_wp2_with fail;rw[HE.out];refine H.out.mono ?_;rintro e w2 ⟨rfl,hg⟩;have hb:=alloc_old hg;have hcell:=cell_of_one hb;have hfree:=free_of_one hb;have HB:=zHd hb;have HG:=zHd hg;clear hb hg H HE;go_wp2;exact zFx S w _ _ rfl (one_setCell HB.out) (zaj (zaa (zGA _ _ none) HG.out) (zac w2 ⟨w.heap.size,0,none⟩ _) (zqab _))
theorem zps (F:Nat)(he:Enters F)(first cap:Array Value)(E:Int)(w:World)
  (h:Calls Tryz.prog F (first++cap) (w.alloc (.cells #[.int .i64 0] 24)) (zfG E (w.alloc (.cells #[.int .i64 0] 24)))) :
  Calls Tryz.prog 197 #[.func (.func F) first cap] w (zab (.tuple #[.string ⟨#[]⟩,.int .i64 E]) w):=by
 have hmf := @zMF Tryz.prog;have H:=zHd h;have HE:=zHd he;clear h he
 go_enter_defers Tryz.func197,Tryz.ntmps197
 go_wp2_with fail;rw[HE.out];refine H.out.mono ?_;rintro e w2 ⟨rfl,hg⟩;have hb:=alloc_old hg;have HB:=zHd hb;have HG:=zHd hg;clear hb hg H HE;exact zFy E w _ _ rfl HB.out (zaa (zGA _ _ none) HG.out)
open Go.RowKit
open Go.Lib (nDigits)
def cutV (s:ByteArray):Value:=.tuple #[.string ⟨(Lib.cut s.data.toList [47]).1.toArray⟩,.string ⟨(Lib.cut s.data.toList [47]).2.1.toArray⟩,.bool (Lib.cut s.data.toList [47]).2.2]
theorem zBR (s:ByteArray)(w:World)(hs:s.size<=maxLen) :
  Calls Tryz.prog 224 #[.string s,.string ⟨#[47]⟩] w (zab (cutV s) w):=by
 unfold maxLen at hs;rcases Lib.indexB_cases s ⟨#[47]⟩ with hix|⟨i,hix,hroom⟩
 ·obtain⟨e1,e2,e3⟩:=Lib.cutB_miss s ⟨#[47]⟩ hix
  have HV:=zHd (show cutV s=.tuple #[.string s,.string ⟨#[]⟩,.bool false] by unfold cutV;rw[show([47]:List UInt8)=(⟨#[47]⟩:ByteArray).data.toList from rfl,e1,e2,e3];rfl);have hi:Lib.indexByte s.data.toList 47 = -1:=by rw[<- Lib.index_one];exact hix
  have hc:=fun w=>Tryz.stringslite_Index_one s 47 w;rw[hi] at hc;have HC:=zHd hc;clear hix hi hc e1 e2 e3;go_enter Tryz.func224,Tryz.ntmps224;go_wp2_with fail;refine(HC.out _).mono ?_;rintro e w' ⟨rfl,rfl⟩;go_wp2
  go_ret3
  exact⟨by rw[HV.out];rfl,zaf _ _⟩
 ·obtain⟨e1,e2,e3⟩:=Lib.cutB_hit s ⟨#[47]⟩ i hix
  have HV:=zHd (show cutV s=.tuple #[.string (s.extract 0 i),.string (s.extract (i+1) s.size),.bool true] by unfold cutV;rw[show([47]:List UInt8)=(⟨#[47]⟩:ByteArray).data.toList from rfl,e1,e2,e3];rfl);have hi:Lib.indexByte s.data.toList 47=i:=by rw[<- Lib.index_one];exact hix
  have hc:=fun w=>Tryz.stringslite_Index_one s 47 w;rw[hi] at hc;have HC:=zHd hc;have hroom':i+1<=s.size:=hroom;clear hix hi hc e1 e2 e3 hroom;have c1:(0:Int)<=↑i:=by omega
  have c2:(↑i:Int)<=↑s.size:=by omega
  have c3:(0:Int)<=↑i+1:=by omega
  have c4:(↑i+1:Int)<=↑s.size:=by omega
  go_enter Tryz.func224,Tryz.ntmps224;go_wp2_with fail;refine(HC.out _).mono ?_;rintro e w' ⟨rfl,rfl⟩;go_wp2
  go_quiet (fail)
  go_wp2
  go_ret3
  exact⟨by rw[HV.out];rfl,zcc _ _ _⟩
theorem zIO (s:ByteArray)(w:World)(hs:s.size<=maxLen) :
  Calls Tryz.prog 190 #[.string s,.string ⟨#[47]⟩] w (zab (cutV s) w):=by
 have hc:=fun w=>zBR s w hs;unfold cutV at hc ⊢;obtain⟨A,hA⟩:∃ A:ByteArray,(⟨(Lib.cut s.data.toList [47]).1.toArray⟩:ByteArray)=A:=⟨_,rfl⟩;obtain⟨B,hB⟩:∃ B:ByteArray,(⟨(Lib.cut s.data.toList [47]).2.1.toArray⟩:ByteArray)=B:=⟨_,rfl⟩;obtain⟨C,hC⟩:∃ C:Bool,(Lib.cut s.data.toList [47]).2.2=C:=⟨_,rfl⟩;rw[hA,hB,hC] at hc ⊢;have HC:=zHd hc;clear hc hA hB hC;go_enter Tryz.func190,Tryz.ntmps190;go_wp2_with fail;refine(HC.out _).mono ?_;rintro e w' ⟨rfl,hg⟩;have HG:=zHd hg;clear hg;go_wp2
 go_ret3
 exact⟨rfl,HG.out⟩
theorem zgx (n:Nat):((zah n).toList==[49])=decide (n=1)/\((zah n).toList != [49]) = !decide (n=1):=by
 have e:((zah n).toList==[49])=decide (n=1):=by
  rw[Bool.eq_iff_iff,zqca,beq_iff_eq,Lib.toList_data];constructor
  ·intro h
   apply zni;rw[zxY];unfold zah at h ⊢;simp at h;rw[h]
  ·rintro rfl
   rw[zxY]
 exact⟨e,by rw[bne,e]⟩
theorem zero_str' (n:Nat):((zah n).toList==[48])=decide (n=0)/\((zah n).toList != [48]) = !decide (n=0):=by
 have e:((zah n).toList==[48])=decide (n=0):=by
  rw[Bool.eq_iff_iff,zqca,beq_iff_eq,Lib.toList_data];constructor
  ·intro h
   apply zni;rw[zoj];unfold zah at h ⊢;simp at h;rw[h]
  ·rintro rfl
   rw[zoj]
 exact⟨e,by rw[bne,e]⟩
theorem zus (m n:Nat)(hm:nDigits m<=1000)(hn:nDigits n<=1000)(h:nDigits (m*n)<=1000):zej (zah m) (zah n)=.tuple #[.string (zah (m*n)),.int .i64 0] :=
 zFv _ _ _ (zaX m hm) (zaX n hn) (zaX _ h) (by rw[zaO,zaO,zaO])
theorem zaR (n:Nat)(h:nDigits n<=1000):(zah n).size<=maxLen:=zbm (zaX n h)
theorem zBS (m n:Nat)(w:World)(hm:nDigits m<=1000)(hn:nDigits n<=1000)(h:nDigits (m*n)<=1000) :
  Calls Tryz.prog 201 #[.string (zah m),.string (zah n)] w (zab (.string (zah (m*n))) w):=by
 have f1:=(zgx m).1;have f2:=(zgx n).1
 by_cases h1:m=1
 ·subst h1
  simp only[decide_true] at f1;rw[Nat.one_mul];clear f2 h;generalize zah 1=A at *;generalize zah n=B at *;go_enter Tryz.func201,Tryz.ntmps201;go_wp2;go_ret;exact⟨rfl,zaf _ _⟩
 ·simp only[h1,decide_false] at f1
  by_cases h2:n=1
  ·subst h2
   simp only[decide_true] at f2;rw[Nat.mul_one];clear h h1;generalize zah 1=B at *;generalize zah m=A at *;go_enter Tryz.func201,Tryz.ntmps201;go_wp2;go_ret;exact⟨rfl,zaf _ _⟩
  ·simp only[h2,decide_false] at f2
   have hc:=fun w=>zIJ (zah m) (zah n) w (zaR m hm) (zaR n hn);rw[zus m n hm hn h] at hc;generalize zah m=A at *;generalize zah n=B at *;generalize zah (m*n)=C at *;have HC:=zHd hc;clear hc h1 h2 h;go_enter Tryz.func201,Tryz.ntmps201;go_wp2_with fail;refine(HC.out _).mono ?_;rintro e w' ⟨rfl,hg⟩;have HG:=zHd hg;clear hg;go_wp2;go_ret;exact⟨rfl,HG.out⟩
theorem zFz (m n:Nat)(hm:nDigits m<=1000)(hn:nDigits n<=1000):zew (zah m) (zah n)=.tuple #[.string (zah (Nat.gcd m n)),.int .i64 0]:=by
 unfold zew;rw[zaX m hm,zaX n hn,zaO,zaO];rfl
theorem zok (m n:Nat)(hm:nDigits m<=1000)(hn:nDigits n<=1000)(h0:n≠0):zdd (zah m) (zah n)=.tuple #[.string (zah (m/n)),.string (zah (m%n)),.int .i64 0]:=by
 unfold zdd;rw[zaX m hm,zaX n hn,zaO,zaO];simp only[Bool.and_self,if_true];rw[if_neg h0]
theorem zqY {w:World}{g:Nat}{a b c:Value}(h:w.heap[g]?=some (.cells #[a,b,c] 142 (0,0))) :
  w.cell? ⟨g,0,none⟩=some a/\w.cell? ⟨g,1,none⟩=some b/\w.cell? ⟨g,2,none⟩=some c/\w.frozen? ⟨g,0,none⟩=false/\w.frozen? ⟨g,1,none⟩=false/\w.frozen? ⟨g,2,none⟩=false :=
 ⟨by rw[zqbw w g 0 _ _ (0,0) h];rfl,by rw[zqbw w g 1 _ _ (0,0) h];rfl,by rw[zqbw w g 2 _ _ (0,0) h];rfl,zqbx w g 0 _ _ h,zqbx w g 1 _ _ h,zqbx w g 2 _ _ h⟩
theorem zeW {w w1:World}{g:Nat}{a b c:Value}(h:w.grownBy w1 none)(hg:w.heap.size<=g):w.grownBy (((w1.setCell ⟨g,0,none⟩ a).setCell ⟨g,1,none⟩ b).setCell ⟨g,2,none⟩ c) none :=
 zaj (zaj (zaj h (zac w1 ⟨g,0,none⟩ a) hg) (zac _ ⟨g,1,none⟩ b) hg) (zac _ ⟨g,2,none⟩ c) hg
theorem zkL {A:ByteArray}{c:Bool}(f:(A.toList != [48])=c):(A.toList==[48]) = !c:=by
 rw[<- f,bne,Bool.not_not]
theorem zut (neg b c:Bool)(A B:ByteArray)(w:World)(f0:(A.toList != [48])=c)(hb:(neg&&c)=b)(f1:(B.toList==[49])=true) :
  Calls Tryz.prog 200 #[.bool neg,.string A,.string B] w (zab (.agg #[.bool b,.string A,.string B]) w):=by
 have f00:=zkL f0;subst hb;cases neg <;> cases c <;> simp only[Bool.not_true,Bool.not_false] at f00
 all_goals
  go_enter Tryz.func200,Tryz.ntmps200;go_wp2;exact zqby (v:=.agg #[.bool _,.string A,.string B]) (by simp[results,Tryz.results200,go_sem]) rfl ⟨rfl,zGA _ _ _⟩
theorem zuu (neg b c:Bool)(A B G:ByteArray)(w:World)(f0:(A.toList != [48])=c)(hb:(neg&&c)=b)(f1:(B.toList==[49])=false)(f2:(G.toList==[49])=true)
  (C:Hid (∀ w,Calls Tryz.prog 230 #[.string A,.string B] w (zab (.tuple #[.string G,.int .i64 0]) w))) :
  Calls Tryz.prog 200 #[.bool neg,.string A,.string B] w (zab (.agg #[.bool b,.string A,.string B]) w):=by
 have f00:=zkL f0;subst hb;cases neg <;> cases c <;> simp only[Bool.not_true,Bool.not_false] at f00
 all_goals
  go_enter Tryz.func200,Tryz.ntmps200;go_wp2_with fail;refine(C.out _).mono ?_;rintro e w1 ⟨rfl,hg⟩;have hb:=alloc_old hg;have hc:=zqY hb;have G1:=zHd (zaa (zGA _ _ none) hg);have HB:=zHd hb;clear hg hb;go_wp2;exact zqby (v:=.agg #[.bool _,.string A,.string B]) (by simp[results,Tryz.results200,go_sem,hc]) rfl ⟨rfl,zeW G1.out (zqab _)⟩
theorem zzj (neg b c:Bool)(A B G Q1 R1 Q2 R2:ByteArray)(w:World)(f0:(A.toList != [48])=c)(hb:(neg&&c)=b)(f1:(B.toList==[49])=false)(f2:(G.toList==[49])=false)
  (C:Hid (∀ w,Calls Tryz.prog 230 #[.string A,.string B] w (zab (.tuple #[.string G,.int .i64 0]) w)))
  (D1:Hid (∀ w,Calls Tryz.prog 231 #[.string A,.string G] w (zab (.tuple #[.string Q1,.string R1,.int .i64 0]) w)))
  (D2:Hid (∀ w,Calls Tryz.prog 231 #[.string B,.string G] w (zab (.tuple #[.string Q2,.string R2,.int .i64 0]) w))) :
  Calls Tryz.prog 200 #[.bool neg,.string A,.string B] w (zab (.agg #[.bool b,.string Q1,.string Q2]) w):=by
 have f00:=zkL f0;subst hb;cases neg <;> cases c <;> simp only[Bool.not_true,Bool.not_false] at f00
 all_goals
  go_enter Tryz.func200,Tryz.ntmps200;go_wp2_with fail;refine(C.out _).mono ?_;rintro e w1 ⟨rfl,hg⟩;have hb:=alloc_old hg;have G1:=zHd (zaa (zGA _ _ none) hg);have HB:=zHd hb;clear hg hb;go_wp2_with fail;refine(D1.out _).mono ?_;rintro e w2 ⟨rfl,hg⟩;have G2:=zHd hg;clear hg;go_wp2_with fail;refine(D2.out _).mono ?_;rintro e w3 ⟨rfl,hg⟩;have G3:=zHd (zaa G2.out hg);clear hg;have hlt:=lt_of_block HB.out;have hc:=zqY ((G3.out.block _ hlt (by simp)).trans HB.out);clear hlt;go_wp2;exact zqby (v:=.agg #[.bool _,.string Q1,.string Q2]) (by simp[results,Tryz.results200,go_sem,hc]) rfl ⟨rfl,zeW (zaa G1.out G3.out) (zqab _)⟩
theorem zpt (neg:Bool)(n d:Nat)(w:World)(hd:d≠0)(hn:nDigits n<=1000)(hdd:nDigits d<=1000) :
  Calls Tryz.prog 200 #[.bool neg,.string (zah n),.string (zah d)] w (zab (zdH (mkRat (sg neg n) d)) w):=by
 have f0:=(zero_str' n).2;have f1:=(zgx d).1;have hg0:Nat.gcd n d≠0:=by have:=Nat.gcd_pos_of_pos_right n (Nat.pos_of_ne_zero hd);omega
 have hgl:Nat.gcd n d<=d:=Nat.le_of_dvd (Nat.pos_of_ne_zero hd) (Nat.gcd_dvd_right n d);have hgd:nDigits (Nat.gcd n d)<=1000:=zqam (zbA hgl) hdd;rw[zIx neg n d hd]
 by_cases h1:d=1
 ·subst h1
  rw[Nat.gcd_one_right,Nat.div_one,Nat.div_one];exact zut neg _ _ _ _ w f0 rfl (by simpa using f1)
 ·have hc:=fun w=>zIM (zah n) (zah d) w (zaR n hn) (zaR d hdd)
  rw[zFz n d hn hdd] at hc;have f2:=(zgx (Nat.gcd n d)).1;have f1':((zah d).toList==[49])=false:=by rw[f1];simpa using h1
  by_cases h2:Nat.gcd n d=1
  ·rw[h2] at f2 hc ⊢
   rw[Nat.div_one,Nat.div_one];exact zuu neg _ _ _ _ _ w f0 rfl f1' (by simpa using f2) (zHd hc)
  ·have hd1:=fun w=>zxX (zah n) (zah (Nat.gcd n d)) w (zaR n hn) (zaR _ hgd)
   have hd2:=fun w=>zxX (zah d) (zah (Nat.gcd n d)) w (zaR d hdd) (zaR _ hgd);rw[zok n _ hn hgd hg0] at hd1;rw[zok d _ hdd hgd hg0] at hd2;exact zzj neg _ _ _ _ _ _ _ _ _ w f0 rfl f1' (by rw[f2];simpa using h2) (zHd hc) (zHd hd1) (zHd hd2)
open Go.RowKit
open Go.Lib (nDigits decDigits)
theorem zFA (b:Bool)(A B S:ByteArray)(w:World)(h:max (A.size:Int) (B.size:Int)<=400)(f1:(B.toList==[49])=true)(hS:Hid ((if b then ⟨#[45]⟩++A else A)=S)) :
  Calls Tryz.prog 199 #[.agg #[.bool b,.string A,.string B]] w (zab (.string S) w):=by
 cases b
 all_goals
  go_enter Tryz.func199,Tryz.ntmps199;go_wp2;go_ret;exact⟨by rw[<- hS.out];rfl,zGA _ _ _⟩
theorem zBT (b:Bool)(A B S:ByteArray)(w:World)(h:max (A.size:Int) (B.size:Int)<=400)(f1:(B.toList==[49])=false)(hS:Hid ((if b then ⟨#[45]⟩++A else A)++(⟨#[47]⟩++B)=S)) :
  Calls Tryz.prog 199 #[.agg #[.bool b,.string A,.string B]] w (zab (.string S) w):=by
 cases b
 all_goals
  go_enter Tryz.func199,Tryz.ntmps199;go_wp2;go_ret;exact⟨by rw[<- hS.out];rfl,zGA _ _ _⟩
theorem zBU (b:Bool)(A B:ByteArray)(w:World)(h:400<max (A.size:Int) (B.size:Int)) :
  Calls Tryz.prog 199 #[.agg #[.bool b,.string A,.string B]] w (zfG 2 w):=by
 go_enter Tryz.func199,Tryz.ntmps199;go_wp2;exact⟨rfl,rfl,zGA _ _ _⟩
theorem zkM (a b:ByteArray):(a++b).data.toList=a.data.toList++b.data.toList:=by
 rw[ByteArray.data_append,Array.toList_append]
theorem zsv (x:Rat):zes x=(if decide (x.num<0) then ⟨#[45]⟩++zah x.num.natAbs else zah x.num.natAbs)++(if x.den=1 then ⟨#[]⟩ else (⟨#[47]⟩++zah x.den)):=by
 apply ByteArray.ext;apply Array.ext';rw[zkM];unfold zes zgO
 by_cases h1:x.num<0 <;> by_cases h2:x.den=1 <;> simp[h1,h2,zkM,zah]
theorem zxZ (x:Rat)(w:World)(h:zbp x):Calls Tryz.prog 199 #[zdH x] w (zab (.string (zes x)) w):=by
 have hx:max ((zah x.num.natAbs).size:Int) ((zah x.den).size:Int)<=400:=by
  rw[zcn,zcn];have:=h.1;have:=h.2;omega
 have f1:=(zgx x.den).1;have e:=zsv x;unfold zdH
 by_cases h1:x.den=1
 ·rw[if_pos h1] at e
  exact zFA _ _ _ _ w hx (by rw[f1];simpa using h1) (zHd (by rw[e];apply ByteArray.ext;apply Array.ext';rw[zkM];simp))
 ·rw[if_neg h1] at e
  exact zBT _ _ _ _ w hx (by rw[f1];simpa using h1) (zHd e.symm)
theorem zuv (x:Rat)(w:World)(h:¬ zbp x):Calls Tryz.prog 199 #[zdH x] w (zfG 2 w):=by
 have hx:400<max ((zah x.num.natAbs).size:Int) ((zah x.den).size:Int):=by
  rw[zcn,zcn];unfold zbp at h;omega
 exact zBU _ _ _ w hx
theorem znP:Enters 199:=enters_of Tryz.func199 (by kernel_rfl) rfl
theorem zwQ (x:Rat)(w:World):Calls Tryz.prog 197 #[.func (.func 199) #[zdH x] #[]] w (zab (zcN x) w):=by
 by_cases h:zbp x
 ·rw[ziE h]
  exact zpr _ znP _ _ _ w (zxZ x _ h)
 ·rw[zgs h]
  exact zps _ znP _ _ _ w (zuv x _ h)
open Go.RowKit
open Go.Lib (nDigits decDigits)
theorem zbx (x:Rat):∃ S E,zcN x=.tuple #[.string S,.int .i64 E]:=by
 rcases zpd x with⟨S,h,_⟩|⟨h,_⟩
 ·exact⟨_,_,h⟩
 ·exact⟨_,_,h⟩
theorem zBV (neg:Bool)(num den:ByteArray)(w:World)(V:Hid (zju num false)) :
  Calls Tryz.prog 191 #[.bool neg,.string num,.string den] w (zab (.tuple #[.string ⟨#[]⟩,.int .i64 1]) w):=by
 go_enter Tryz.func191,Tryz.ntmps191;go_wp2_with fail;refine(V.out _).mono ?_;rintro e w' ⟨rfl,rfl⟩;go_wp2;go_ret2;exact⟨rfl,zaf _ _⟩
theorem zBW (neg:Bool)(num den:ByteArray)(w:World)(V:Hid (zju num true))(U:Hid (zju den false)) :
  Calls Tryz.prog 191 #[.bool neg,.string num,.string den] w (zab (.tuple #[.string ⟨#[]⟩,.int .i64 1]) w):=by
 go_enter Tryz.func191,Tryz.ntmps191;go_wp2_with fail;refine(V.out _).mono ?_;rintro e w' ⟨rfl,rfl⟩;go_wp2_with fail;refine(U.out _).mono ?_;rintro e w' ⟨rfl,rfl⟩;go_wp2;go_ret2;exact⟨rfl,zaf _ _⟩
theorem zBX (neg:Bool)(num den:ByteArray)(w:World)(V:Hid (zju num true))(U:Hid (zju den true))(f:(den.toList==[48])=true) :
  Calls Tryz.prog 191 #[.bool neg,.string num,.string den] w (zab (.tuple #[.string ⟨#[]⟩,.int .i64 1]) w):=by
 go_enter Tryz.func191,Tryz.ntmps191;go_wp2_with fail;refine(V.out _).mono ?_;rintro e w' ⟨rfl,rfl⟩;go_wp2_with fail;refine(U.out _).mono ?_;rintro e w' ⟨rfl,rfl⟩;go_wp2;go_ret2;exact⟨rfl,zaf _ _⟩
theorem zIP (neg:Bool)(num den S:ByteArray)(N:Value)(E:Int)(w:World)(V:Hid (zju num true))(U:Hid (zju den true))(f:(den.toList==[48])=false)
  (R:Hid (∀ w,Calls Tryz.prog 200 #[.bool neg,.string num,.string den] w (zab N w)))
  (F:Hid (∀ w,Calls Tryz.prog 197 #[.func (.func 199) #[N] #[]] w (zab (.tuple #[.string S,.int .i64 E]) w))) :
  Calls Tryz.prog 191 #[.bool neg,.string num,.string den] w (zab (.tuple #[.string S,.int .i64 E]) w):=by
 have hmf := @zMF Tryz.prog;go_enter Tryz.func191,Tryz.ntmps191;go_wp2_with fail;refine(V.out _).mono ?_;rintro e w' ⟨rfl,rfl⟩;go_wp2_with fail;refine(U.out _).mono ?_;rintro e w' ⟨rfl,rfl⟩;go_wp2_with fail;refine(R.out _).mono ?_;rintro e w1 ⟨rfl,hg⟩;have G1:=zHd hg;clear hg;go_wp2_with fail;refine(F.out _).mono ?_;rintro e w2 ⟨rfl,hg⟩;have G2:=zHd (zaa G1.out hg);clear hg;go_wp2;go_ret2;exact⟨rfl,G2.out⟩
theorem zFB (neg:Bool)(num den:ByteArray)(w:World)(hn:num.size<=maxLen)(hd:den.size<=maxLen) :
  Calls Tryz.prog 191 #[.bool neg,.string num,.string den] w (zab (zgP neg num den) w):=by
 have va:=zIb num hn;have vb:=zIb den hd;unfold zgP;cases ha:zan num
 ·rw[ha] at va
  exact zBV neg num den w (zHd va)
 cases hb:zan den
 ·rw[ha] at va
  rw[hb] at vb;exact zBW neg num den w (zHd va) (zHd vb)
 rw[ha] at va;rw[hb] at vb;have hz:=(zdZ den hb).1
 by_cases h0:nv den=0
 ·rw[h0] at hz ⊢
  exact zBX neg num den w (zHd va) (zHd vb) (by simpa using hz)
 ·simp only[h0,Bool.and_self,Bool.true_and,decide_false,Bool.not_false,if_true]
  have hr:=fun w=>zpt neg (nv num) (nv den) w h0 (zbW num ha).2 (zbW den hb).2;rw[<- (zbW num ha).1,<- (zbW den hb).1] at hr;have hf:=fun w=>zwQ (mkRat (sg neg (nv num)) (nv den)) w;obtain⟨S,E,hE⟩:=zbx (mkRat (sg neg (nv num)) (nv den));rw[hE] at hf ⊢;exact zIP neg num den S _ E w (zHd va) (zHd vb) (by rw[hz];simpa using h0) (zHd hr) (zHd hf)
open Go.RowKit
open Go.Lib (nDigits decDigits)
def zpu:Value:=.agg #[.bool false,.string ⟨#[]⟩,.string ⟨#[]⟩]
structure zpv (a R M T D c:ByteArray)(N K:Bool)(E:Int):Prop where
 cp:∀ w,Calls Tryz.prog 189 #[.string a,.string ⟨#[45]⟩] w fun e w'=>e=.returned (.tuple #[.string R,.bool N])/\w=w'
 cut:∀ w,Calls Tryz.prog 190 #[.string R,.string ⟨#[47]⟩] w (zab (.tuple #[.string M,.string T,.bool K]) w)
 made:∀ w,Calls Tryz.prog 191 #[.bool N,.string M,.string D] w (zab (.tuple #[.string c,.int .i64 E]) w)
theorem zFC (a R M T D c:ByteArray)(N K:Bool)(E:Int)(w:World)(h:Hid (zpv a R M T D c N K E))(hd:(if K then T else ⟨#[49]⟩)=D)(f1:(E==0)=false)(f2:(E != 0)=true) :
  Calls Tryz.prog 152 #[.string a] w (zab (.tuple #[zpu,.bool false]) w):=by
 subst hd;unfold zpu;cases K
 all_goals
  go_enter Tryz.func152,Tryz.ntmps152;go_wp2_with fail;refine(h.out.cp _).mono ?_;rintro e w' ⟨rfl,rfl⟩;go_wp2_with fail;refine(h.out.cut _).mono ?_;rintro e w1 ⟨rfl,hg⟩;have G1:=zHd hg;clear hg;go_wp2_with fail;refine(h.out.made _).mono ?_;rintro e w2 ⟨rfl,hg⟩;have G2:=zHd (zaa G1.out hg);clear hg;have hb:=alloc_old G2.out;have hc:=zqY hb;have HG:=zHd (zaa (zGA _ _ none) G2.out);clear hb G1 G2;go_wp2;exact zqby (v:=.tuple #[.agg #[.bool false,.string ⟨#[]⟩,.string ⟨#[]⟩],.bool false]) (by simp[results,Tryz.results152,go_sem,hc]) rfl ⟨rfl,zeW HG.out (zqab _)⟩
theorem zzk (a R M T D c:ByteArray)(N K:Bool)(w:World)(h:Hid (zpv a R M T D c N K 0))(hd:(if K then T else ⟨#[49]⟩)=D)(f1:(c.toList==a.toList)=false)(f2:(c.toList != a.toList)=true) :
  Calls Tryz.prog 152 #[.string a] w (zab (.tuple #[zpu,.bool false]) w):=by
 subst hd;unfold zpu;cases K
 all_goals
  go_enter Tryz.func152,Tryz.ntmps152;go_wp2_with fail;refine(h.out.cp _).mono ?_;rintro e w' ⟨rfl,rfl⟩;go_wp2_with fail;refine(h.out.cut _).mono ?_;rintro e w1 ⟨rfl,hg⟩;have G1:=zHd hg;clear hg;go_wp2_with fail;refine(h.out.made _).mono ?_;rintro e w2 ⟨rfl,hg⟩;have G2:=zHd (zaa G1.out hg);clear hg;have hb:=alloc_old G2.out;have hc:=zqY hb;have HG:=zHd (zaa (zGA _ _ none) G2.out);clear hb G1 G2;go_wp2;exact zqby (v:=.tuple #[.agg #[.bool false,.string ⟨#[]⟩,.string ⟨#[]⟩],.bool false]) (by simp[results,Tryz.results152,go_sem,hc]) rfl ⟨rfl,zeW HG.out (zqab _)⟩
theorem zBY (a R M T D c:ByteArray)(N K:Bool)(w:World)(h:Hid (zpv a R M T D c N K 0))(hd:(if K then T else ⟨#[49]⟩)=D)(f1:(c.toList==a.toList)=true) :
  Calls Tryz.prog 152 #[.string a] w (zab (.tuple #[.agg #[.bool N,.string M,.string D],.bool true]) w):=by
 subst hd;cases K
 all_goals
  go_enter Tryz.func152,Tryz.ntmps152;go_wp2_with fail;refine(h.out.cp _).mono ?_;rintro e w' ⟨rfl,rfl⟩;go_wp2_with fail;refine(h.out.cut _).mono ?_;rintro e w1 ⟨rfl,hg⟩;have G1:=zHd hg;clear hg;go_wp2_with fail;refine(h.out.made _).mono ?_;rintro e w2 ⟨rfl,hg⟩;have G2:=zHd (zaa G1.out hg);clear hg;have hb:=alloc_old G2.out;have hc:=zqY hb;have HG:=zHd (zaa (zGA _ _ none) G2.out);clear hb G1 G2;go_wp2;exact zqby (v:=.tuple #[.agg #[.bool _,.string _,.string _],.bool true]) (by simp[results,Tryz.results152,go_sem,hc]) rfl ⟨rfl,zeW HG.out (zqab _)⟩
theorem zBZ (a:ByteArray):(zcO a).length<=a.size:=by
 unfold zcO Lib.trimPrefix;rw[Lib.size_eq];split
 ·rw[List.length_drop];omega
 ·exact zqab _
theorem zFD (s:List UInt8):(Lib.cut s [47]).1.length<=s.length/\(Lib.cut s [47]).2.1.length<=s.length:=by
 unfold Lib.cut;split
 ·simp only[zqan,List.length_drop];omega
 ·simp
theorem zlW (l:List UInt8):(⟨l.toArray⟩:ByteArray).size=l.length:=List.size_toArray
theorem zuw (a:ByteArray)(ha:a.size<=maxLen)(c:ByteArray)(E:Int)(h:zgP (zcF a) (zcG a) (zcu a)=.tuple #[.string c,.int .i64 E]) :
  zpv a ⟨(zcO a).toArray⟩ (zcG a) (tailA a) (zcu a) c (zcF a) (zcU a) E:=by
 have hr:=zBZ a;have hc:=zFD (zcO a);have h1:(zcG a).size<=maxLen:=by unfold zcG;rw[zlW];omega
 have h2:(zcu a).size<=maxLen:=by
  unfold zcu;split
  ·unfold tailA;rw[zlW];omega
  ·decide
 refine⟨fun w=>?_,fun w=>?_,fun w=>?_⟩
 ·exact(Tryz.strings_CutPrefix a ⟨#[45]⟩ w).mono fun e w' ⟨h,k⟩=>⟨h,k.symm⟩
 ·have:=zIO ⟨(zcO a).toArray⟩ w (by rw[zlW];omega)
  exact this
 ·rw[<- h];exact zFB _ _ _ w h1 h2
theorem zek {a c:ByteArray}:(c.toList==a.toList)=decide (c=a):=by
 rw[Bool.eq_iff_iff,zqca,beq_iff_eq,Lib.toList_data,Lib.toList_data];constructor
 ·intro h;exact ByteArray.ext (Array.ext' h)
 ·rintro rfl;rfl
theorem zkN {a:ByteArray}{x:Rat}(h:zaw a x)(w:World)(ha:a.size<=maxLen) :
  Calls Tryz.prog 152 #[.string a] w (zab (.tuple #[zdH x,.bool true]) w):=by
 obtain⟨h1,h2,h3,_⟩:=apart a x h.eq;have:=zBY a _ _ _ _ a _ _ w (zHd (zuw a ha a 0 (zBx h))) rfl (by simp);unfold zdH;rw[h1,h2,h3] at this;exact this
theorem zya {a:ByteArray}(h:∀ x,¬ zaw a x)(w:World)(ha:a.size<=maxLen) :
  Calls Tryz.prog 152 #[.string a] w (zab (.tuple #[zpu,.bool false]) w):=by
 rcases zwG (zcF a) (zcG a) (zcu a) with⟨S,x,hm,hS⟩|⟨E,hm,hE⟩
 ·have hne:S≠a:=fun e=>h x (e▸hS)
  have f:(S.toList==a.toList)=false:=by rw[zek];simpa using hne
  exact zzk a _ _ _ _ S _ _ w (zHd (zuw a ha S 0 hm)) rfl f (by rw[bne,f];rfl)
 ·have f:(E==0)=false:=by rcases hE with rfl|rfl <;> decide
  exact zFC a _ _ _ _ _ _ _ E w (zHd (zuw a ha _ E hm)) rfl f (by rw[bne,f];rfl)
open Go.Lib
theorem zfH (u:Nat):u<10 ^ nDigits u:=by
 induction u using Nat.strongRecOn with
 | _ u ih =>
  by_cases h:u<10
  ·rw[nDigits_small h];omega
  ·rw[nDigits_big h,zqbp]
   have:=ih (u/10) (by omega);omega
theorem zfI (n k:Nat)(hk:1<=k)(h:n<10 ^ k):nDigits n<=k:=by
 rcases Nat.lt_or_ge k (nDigits n) with h1|h1
 ·rcases zfV n k (by omega) with h2|h2
  ·omega
  ·omega
 ·exact h1
theorem znQ (m n:Nat):nDigits (m*n)<=nDigits m+nDigits n:=by
 apply zfI _ _ (by have:=nDigits_pos m;omega);rw[Nat.pow_add];exact Nat.mul_lt_mul'' (zfH m) (zfH n)
theorem zhG (m n k:Nat)(hm:nDigits m<=k)(hn:nDigits n<=k):nDigits (m+n)<=k+1:=by
 apply zfI _ _ (by omega);have h1:=zfH m;have h2:=zfH n;have h3:=zqay (show 0<10 by omega) hm;have h4:=zqay (show 0<10 by omega) hn;rw[zqbp];omega
def sgn (x:Rat):Bool:=decide (x.num<0)
theorem zdU (x:Rat):x.num=sg (sgn x) x.num.natAbs:=(zuh x).symm
theorem zns (s:Bool)(n d:Nat):sg s (n*d)=sg s n*(d:Int):=by
 unfold sg;split <;> simp[Int.neg_mul]
theorem zyb (s:Bool)(p q:Nat):sg s (p+q)=sg s p+sg s q:=by
 unfold sg;split <;> omega
theorem zyc (s t:Bool)(p q:Nat)(h:s≠t)(hl:p<q):sg t (q-p)=sg s p+sg t q:=by
 cases s <;> cases t <;> simp_all [sg] <;> omega
theorem zyd (s t:Bool)(p q:Nat)(h:s≠t)(hl:¬ p<q):sg s (p-q)=sg s p+sg t q:=by
 cases s <;> cases t <;> simp_all [sg] <;> omega
theorem zye (s t:Bool)(m n:Nat):sg (s != t) (m*n)=sg s m*sg t n:=by
 cases s <;> cases t <;> simp[sg,Int.neg_mul,Int.mul_neg]
theorem zgy (x y:Rat)(z:Int)(h:z=sg (sgn x) (x.num.natAbs*y.den)+sg (sgn y) (y.num.natAbs*x.den)):mkRat z (x.den*y.den)=x+y:=by
 rw[Rat.add_def',h,zns,zns,<- zdU,<- zdU]
theorem zlX (x y:Rat):mkRat (sg (sgn x != sgn y) (x.num.natAbs*y.num.natAbs)) (x.den*y.den)=x*y:=by
 rw[Rat.mul_def',zye,<- zdU,<- zdU]
theorem zsw (x y:Rat)(h:y.num≠0):mkRat (sg (sgn x != sgn y) (x.num.natAbs*y.den)) (x.den*y.num.natAbs)=x/y:=by
 rw[Rat.div_def,Rat.mul_def',Rat.num_inv,Rat.den_inv,if_neg h,zye,<- zdU];congr 2;unfold sg sgn
 by_cases hn:y.num<0
 ·rw[if_pos (by simpa using hn),Int.sign_eq_neg_one_of_neg hn];omega
 ·rw[if_neg (by simpa using hn),Int.sign_eq_one_of_pos (by omega)];omega
theorem zCa (x:Rat):zdH (-x)=.agg #[.bool (!sgn x && !decide (x.num.natAbs=0)),.string (zah x.num.natAbs),.string (zah x.den)]:=by
 unfold zdH sgn;rw[Rat.neg_num,Rat.neg_den,Int.natAbs_neg];congr 3;congr 1;rw[Bool.eq_iff_iff,zqca];simp only[zqbb,Bool.not_eq_true',decide_eq_false_iff_not];omega
theorem zlY {x:Rat}(h:zbp x):zbp (-x):=by
 unfold zbp at *;rw[Rat.neg_num,Rat.neg_den,Int.natAbs_neg];exact h
def zcv (x y:Rat):Int:=if x<y then -1 else if y<x then 1 else 0
theorem zCb (x y:Rat)(h1:sgn x=true)(h2:sgn y=false):zcv x y = -1:=by
 unfold sgn at h1 h2;have h1:x.num<0:=by simpa using h1
 have h2:¬ y.num<0:=by simpa using h2
 unfold zcv;rw[if_pos];rw[Rat.lt_iff];have:=Int.mul_neg_of_neg_of_pos h1 (show(0:Int)<y.den by have:=y.den_pos;omega);have:=Int.mul_nonneg (show 0<=y.num by omega) (show(0:Int)<=x.den by omega);omega
theorem zCc (x y:Rat)(h1:sgn x=false)(h2:sgn y=true):zcv x y=1:=by
 unfold sgn at h1 h2;have h1:¬ x.num<0:=by simpa using h1
 have h2:y.num<0:=by simpa using h2
 unfold zcv;have:=Int.mul_neg_of_neg_of_pos h2 (show(0:Int)<x.den by have:=x.den_pos;omega);have:=Int.mul_nonneg (show 0<=x.num by omega) (show(0:Int)<=y.den by omega);rw[if_neg (by rw[Rat.lt_iff];omega),if_pos (by rw[Rat.lt_iff];omega)]
theorem zFE (x y:Rat)(h1:sgn x=false)(h2:sgn y=false):zcv x y=zbF (x.num.natAbs*y.den) (y.num.natAbs*x.den):=by
 have ex:=zdU x;have ey:=zdU y;rw[h1,sg,if_neg (by simp)] at ex;rw[h2,sg,if_neg (by simp)] at ey;unfold zcv zbF;simp only[Rat.lt_iff];have e1:x.num*y.den=((x.num.natAbs*y.den:Nat):Int):=by rw[Int.natCast_mul,<- ex]
 have e2:y.num*x.den=((y.num.natAbs*x.den:Nat):Int):=by rw[Int.natCast_mul,<- ey]
 simp only[e1,e2,Int.ofNat_lt]
theorem zCd (x y:Rat)(h1:sgn x=true)(h2:sgn y=true):zcv x y=zbF (y.num.natAbs*x.den) (x.num.natAbs*y.den):=by
 have ex:=zdU x;have ey:=zdU y;rw[h1,sg,if_pos rfl] at ex;rw[h2,sg,if_pos rfl] at ey;unfold zcv zbF;simp only[Rat.lt_iff];have e1:x.num*y.den = -((x.num.natAbs*y.den:Nat):Int):=by rw[Int.natCast_mul,<- Int.neg_mul,<- ex]
 have e2:y.num*x.den = -((y.num.natAbs*x.den:Nat):Int):=by rw[Int.natCast_mul,<- Int.neg_mul,<- ey]
 simp only[e1,e2];generalize x.num.natAbs*y.den=p;generalize y.num.natAbs*x.den=q;split <;> split <;> (try split) <;> omega
theorem zkO:zaw ⟨#[48]⟩ 0:=⟨by decide +kernel,by decide +kernel⟩
theorem zFF {a:ByteArray}{x:Rat}(h:zaw a x):a.size<=802:=by
 rw[h.eq];have h1:=h.short.1;have h2:=h.short.2;show(zgO x).toArray.size<=_;rw[List.size_toArray];unfold zgO;rw[zqag,zqag];have:=decDigits_length x.num.natAbs;have:=decDigits_length x.den;split <;> split <;> simp <;> omega
theorem ziG {a:ByteArray}{x:Rat}(h:zaw a x):a.size<=maxLen:=by have:=zFF h;unfold maxLen;omega
open Go.RowKit
open Go.Lib (nDigits decDigits)
def Num (w:World)(g:Nat)(b:Bool)(A B:ByteArray):Prop:=w.heap[g]?=some (.cells #[.bool b,.string A,.string B] 142 (0,0))
theorem Num.cells {w:World}{g:Nat}{b:Bool}{A B:ByteArray}(h:Num w g b A B) :
  w.cell? ⟨g,0,none⟩=some (.bool b)/\w.cell? ⟨g,1,none⟩=some (.string A)/\w.cell? ⟨g,2,none⟩=some (.string B)/\w.frozen? ⟨g,0,none⟩=false/\w.frozen? ⟨g,1,none⟩=false/\w.frozen? ⟨g,2,none⟩=false:=zqY h
theorem Num.grown {w w':World}{g:Nat}{b:Bool}{A B:ByteArray}(h:Num w g b A B)(hg:w.grownBy w' none):Num w' g b A B:=(hg.block _ (lt_of_block h) (by simp)).trans h
theorem Num.other {W:World}{g g' i:Nat}{b:Bool}{A B:ByteArray}{v:Value}(h:Num W g b A B)(hne:g≠g'):Num (W.setCell ⟨g',i,none⟩ v) g b A B :=
 ((zac W ⟨g',i,none⟩ v).block g (lt_of_block h) (by simpa using hne)).trans h
theorem Num.set {W:World}{g:Nat}{b b':Bool}{A B A' B':ByteArray}(h:Num W g b A B):Num (((W.setCell ⟨g,0,none⟩ (.bool b')).setCell ⟨g,1,none⟩ (.string A')).setCell ⟨g,2,none⟩ (.string B')) g b' A' B':=by
 unfold Num at h ⊢;have h1:=heap_setCell_same W g 0 _ _ (.bool b') h;have h2:=heap_setCell_same _ g 1 _ _ (.string A') h1;have h3:=heap_setCell_same _ g 2 _ _ (.string B') h2;rw[h3];rfl
structure zdt (w W:World)(b1 b2:Bool)(A B C D:ByteArray):Prop where
 x:Num W w.heap.size b1 A B
 y:Num W (w.heap.size+1) b2 C D
 z:∃ b S T,Num W (w.heap.size+1+1) b S T
 g:w.grownBy W none
theorem zdt.next {w W W':World}{b1 b2:Bool}{A B C D:ByteArray}(h:zdt w W b1 b2 A B C D)(hg:W.grownBy W' none):zdt w W' b1 b2 A B C D :=
 ⟨h.x.grown hg,h.y.grown hg,by obtain⟨b,S,T,k⟩:=h.z;exact⟨b,S,T,k.grown hg⟩,zaa h.g hg⟩
theorem zdt.drew {w W:World}{b1 b2:Bool}{A B C D:ByteArray}(h:zdt w W b1 b2 A B C D):zdt w W.drew b1 b2 A B C D:=h.next (zag W none)
theorem zdt.store {w W:World}{b1 b2:Bool}{A B C D:ByteArray}(h:zdt w W b1 b2 A B C D)(b:Bool)(S T:ByteArray) :
  zdt w (((W.setCell ⟨w.heap.size+1+1,0,none⟩ (.bool b)).setCell ⟨w.heap.size+1+1,1,none⟩ (.string S)).setCell ⟨w.heap.size+1+1,2,none⟩ (.string T)) b1 b2 A B C D:=by
 obtain⟨b0,S0,T0,k⟩:=h.z;exact⟨((h.x.other (by omega)).other (by omega)).other (by omega),((h.y.other (by omega)).other (by omega)).other (by omega),⟨b,S,T,k.set⟩,zeW h.g (by omega)⟩
def Seen (w W:World)(b1 b2:Bool)(A B C D:ByteArray):Prop :=
 W.cell? ⟨w.heap.size,0,none⟩=some (.bool b1)/\W.cell? ⟨w.heap.size,1,none⟩=some (.string A)/\W.cell? ⟨w.heap.size,2,none⟩=some (.string B) /\
 W.cell? ⟨w.heap.size+1,0,none⟩=some (.bool b2)/\W.cell? ⟨w.heap.size+1,1,none⟩=some (.string C)/\W.cell? ⟨w.heap.size+1,2,none⟩=some (.string D)
theorem zdt.seen {w W:World}{b1 b2:Bool}{A B C D:ByteArray}(h:zdt w W b1 b2 A B C D):Seen w W b1 b2 A B C D:=by
 obtain⟨x0,x1,x2,_⟩:=h.x.cells;obtain⟨y0,y1,y2,_⟩:=h.y.cells;exact⟨x0,x1,x2,y0,y1,y2⟩
theorem zdt.room {w W:World}{b1 b2:Bool}{A B C D:ByteArray}(h:zdt w W b1 b2 A B C D):∃ b S T,
  W.cell? ⟨w.heap.size+1+1,0,none⟩=some (.bool b)/\W.cell? ⟨w.heap.size+1+1,1,none⟩=some (.string S)/\W.cell? ⟨w.heap.size+1+1,2,none⟩=some (.string T) /\
  W.frozen? ⟨w.heap.size+1+1,0,none⟩=false/\W.frozen? ⟨w.heap.size+1+1,1,none⟩=false/\W.frozen? ⟨w.heap.size+1+1,2,none⟩=false:=by
 obtain⟨b,S,T,k⟩:=h.z;exact⟨b,S,T,k.cells⟩
theorem zdI (w:World)(o:Obj)(g:Nat)(h:g=w.heap.size):(w.alloc o).heap[g]?=some o:=by subst h;exact zaE w o
theorem zbJ (w:World)(o:Obj)(g:Nat)(h:g<w.heap.size):(w.alloc o).heap[g]?=w.heap[g]?:=(zGA w o none).block g h (by simp)
theorem zfJ (w:World)(b1 b2:Bool)(A B C D:ByteArray) :
  zdt w (((w.alloc (.cells #[.bool b1,.string A,.string B] 142)).alloc (.cells #[.bool b2,.string C,.string D] 142)).alloc (.cells #[.bool false,.string ⟨#[]⟩,.string ⟨#[]⟩] 142)) b1 b2 A B C D:=by
 refine⟨?_,?_,⟨false,⟨#[]⟩,⟨#[]⟩,?_⟩,?_⟩
 ·unfold Num
  rw[zbJ _ _ _ (by simp;omega),zbJ _ _ _ (by simp),zdI _ _ _ rfl]
 ·unfold Num
  rw[zbJ _ _ _ (by simp),zdI _ _ _ (by simp)]
 ·unfold Num
  rw[zdI _ _ _ (by simp)]
 ·exact zaa (zGA _ _ none) (zaa (zGA _ _ none) (zGA _ _ none))
def zcW (A B:ByteArray):ByteArray:=zah (nv A*nv B)
def zbR (A C:ByteArray):Prop:=∀ w,Calls Tryz.prog 201 #[.string A,.string C] w (zab (.string (zcW A C)) w)
theorem zfK (A C:ByteArray)(h:zbR A C)(w:World):Calls Tryz.prog 201 #[.string A,.string C] w (zab (.string (zcW A C)) w):=h w
theorem zby (w:World)(b1 b2:Bool)(A B C D:ByteArray){W W':World}(hg:W.grownBy W' none)
  (h:(W.cell? ⟨w.heap.size,0,none⟩=some (.bool b1)/\W.cell? ⟨w.heap.size,1,none⟩=some (.string A)/\W.cell? ⟨w.heap.size,2,none⟩=some (.string B) /\
   W.cell? ⟨w.heap.size+1,0,none⟩=some (.bool b2)/\W.cell? ⟨w.heap.size+1,1,none⟩=some (.string C)/\W.cell? ⟨w.heap.size+1,2,none⟩=some (.string D))/\Hid (zdt w W b1 b2 A B C D)) :
  (W'.cell? ⟨w.heap.size,0,none⟩=some (.bool b1)/\W'.cell? ⟨w.heap.size,1,none⟩=some (.string A)/\W'.cell? ⟨w.heap.size,2,none⟩=some (.string B) /\
   W'.cell? ⟨w.heap.size+1,0,none⟩=some (.bool b2)/\W'.cell? ⟨w.heap.size+1,1,none⟩=some (.string C)/\W'.cell? ⟨w.heap.size+1,2,none⟩=some (.string D))/\Hid (zdt w W' b1 b2 A B C D) :=
 have k:=h.2.out.next hg
 ⟨k.seen,zHd k⟩
theorem zhT (w:World)(b1 b2:Bool)(A B C D:ByteArray){W:World}
  (h:(W.cell? ⟨w.heap.size,0,none⟩=some (.bool b1)/\W.cell? ⟨w.heap.size,1,none⟩=some (.string A)/\W.cell? ⟨w.heap.size,2,none⟩=some (.string B) /\
   W.cell? ⟨w.heap.size+1,0,none⟩=some (.bool b2)/\W.cell? ⟨w.heap.size+1,1,none⟩=some (.string C)/\W.cell? ⟨w.heap.size+1,2,none⟩=some (.string D))/\Hid (zdt w W b1 b2 A B C D)):∃ b S T,
  W.cell? ⟨w.heap.size+1+1,0,none⟩=some (.bool b)/\W.cell? ⟨w.heap.size+1+1,1,none⟩=some (.string S)/\W.cell? ⟨w.heap.size+1+1,2,none⟩=some (.string T) /\
  W.frozen? ⟨w.heap.size+1+1,0,none⟩=false/\W.frozen? ⟨w.heap.size+1+1,1,none⟩=false/\W.frozen? ⟨w.heap.size+1+1,2,none⟩=false:=h.2.out.room
theorem zpw (w:World)(b1 b2:Bool)(A B C D:ByteArray){W:World}(b:Bool)(S T:ByteArray)
  (h:(W.cell? ⟨w.heap.size,0,none⟩=some (.bool b1)/\W.cell? ⟨w.heap.size,1,none⟩=some (.string A)/\W.cell? ⟨w.heap.size,2,none⟩=some (.string B) /\
   W.cell? ⟨w.heap.size+1,0,none⟩=some (.bool b2)/\W.cell? ⟨w.heap.size+1,1,none⟩=some (.string C)/\W.cell? ⟨w.heap.size+1,2,none⟩=some (.string D))/\Hid (zdt w W b1 b2 A B C D)) :
  ((((W.setCell ⟨w.heap.size+1+1,0,none⟩ (.bool b)).setCell ⟨w.heap.size+1+1,1,none⟩ (.string S)).setCell ⟨w.heap.size+1+1,2,none⟩ (.string T)).cell? ⟨w.heap.size,0,none⟩=some (.bool b1)/\(((W.setCell ⟨w.heap.size+1+1,0,none⟩ (.bool b)).setCell ⟨w.heap.size+1+1,1,none⟩ (.string S)).setCell ⟨w.heap.size+1+1,2,none⟩ (.string T)).cell? ⟨w.heap.size,1,none⟩=some (.string A)/\(((W.setCell ⟨w.heap.size+1+1,0,none⟩ (.bool b)).setCell ⟨w.heap.size+1+1,1,none⟩ (.string S)).setCell ⟨w.heap.size+1+1,2,none⟩ (.string T)).cell? ⟨w.heap.size,2,none⟩=some (.string B) /\
    (((W.setCell ⟨w.heap.size+1+1,0,none⟩ (.bool b)).setCell ⟨w.heap.size+1+1,1,none⟩ (.string S)).setCell ⟨w.heap.size+1+1,2,none⟩ (.string T)).cell? ⟨w.heap.size+1,0,none⟩=some (.bool b2)/\(((W.setCell ⟨w.heap.size+1+1,0,none⟩ (.bool b)).setCell ⟨w.heap.size+1+1,1,none⟩ (.string S)).setCell ⟨w.heap.size+1+1,2,none⟩ (.string T)).cell? ⟨w.heap.size+1,1,none⟩=some (.string C)/\(((W.setCell ⟨w.heap.size+1+1,0,none⟩ (.bool b)).setCell ⟨w.heap.size+1+1,1,none⟩ (.string S)).setCell ⟨w.heap.size+1+1,2,none⟩ (.string T)).cell? ⟨w.heap.size+1,2,none⟩=some (.string D))/\Hid (zdt w (((W.setCell ⟨w.heap.size+1+1,0,none⟩ (.bool b)).setCell ⟨w.heap.size+1+1,1,none⟩ (.string S)).setCell ⟨w.heap.size+1+1,2,none⟩ (.string T)) b1 b2 A B C D) :=
 have k:=h.2.out.store b S T
 ⟨k.seen,zHd k⟩
theorem zlZ (b1 b2 b:Bool)(A B C D S T:ByteArray)(w:World)
  (T1:zbR A C) (T2:zbR B D)
  (R:Hid (∀ w,Calls Tryz.prog 200 #[.bool (b1 != b2),.string (zcW A C),.string (zcW B D)] w (zab (.agg #[.bool b,.string S,.string T]) w))) :
  Calls Tryz.prog 161 #[.agg #[.bool b1,.string A,.string B],.agg #[.bool b2,.string C,.string D]] w (zab (.agg #[.bool b,.string S,.string T]) w):=by
 have h0:=zfJ w b1 b2 A B C D;obtain⟨W0,hW0⟩:∃ W0,W0=(((w.alloc (.cells #[.bool b1,.string A,.string B] 142)).alloc (.cells #[.bool b2,.string C,.string D] 142)).alloc (.cells #[.bool false,.string ⟨#[]⟩,.string ⟨#[]⟩] 142)):=⟨_,rfl⟩;rw[<- hW0] at h0;have H0:=zHd h0;have HW0:=zHd hW0;clear h0 hW0;go_enter Tryz.func161,Tryz.ntmps161;go_wp2_with fail;rw[<- HW0.out];have hs:=H0.out.drew.seen;unfold Seen at hs;have hh:=zHd H0.out.drew
 go_region_held3 (fun W'=>(W'.cell? ⟨w.heap.size,0,none⟩=some (.bool b1)/\W'.cell? ⟨w.heap.size,1,none⟩=some (.string A)/\W'.cell? ⟨w.heap.size,2,none⟩=some (.string B) /\
   W'.cell? ⟨w.heap.size+1,0,none⟩=some (.bool b2)/\W'.cell? ⟨w.heap.size+1,1,none⟩=some (.string C)/\W'.cell? ⟨w.heap.size+1,2,none⟩=some (.string D))/\Hid (zdt w W' b1 b2 A B C D))
  (first
   | exact⟨hs,hh⟩
   | assumption
   | exact s1
   | exact s3
   | exact zpw w b1 b2 A B C D _ _ _ s3
   | go_keep)
  (first
   | (go_at_call 201;refine(zfK _ _ ?_ _).mono ?_;assumption;rintro e w5 ⟨rfl,hg5⟩;have s1:=zby w b1 b2 A B C D hg5 ‹_›)
   | (go_at_call 200;refine(R.out _).mono ?_;rintro e w7 ⟨rfl,hg7⟩;have s3:=zby w b1 b2 A B C D hg7 ‹_›;obtain⟨zb,zS,zT,z0,z1,z2,z3,z4,z5⟩:=zhT w b1 b2 A B C D s3))
 have hend:=zeW (a:=.bool b) (b:=.string S) (c:=.string T) s3.2.out.g (show w.heap.size<=w.heap.size+1+1 by omega);have HE:=zHd hend;clear hend s3 s1 hs hh;go_wp2;exact zqby (v:=.agg #[.bool _,.string _,.string _]) (by simp[results,Tryz.results161,go_sem,z0,z1,z2,z3,z4,z5]) rfl ⟨rfl,HE.out⟩
open Go.RowKit
open Go.Lib (nDigits decDigits)
theorem zux (s b c:Bool)(A B:ByteArray)(w:World)(f0:(A.toList != [48])=c)(hb:(!s&&c)=b) :
  Calls Tryz.prog 194 #[.agg #[.bool s,.string A,.string B]] w (zab (.agg #[.bool b,.string A,.string B]) w):=by
 have f00:=zkL f0;subst hb;cases s <;> cases c <;> simp only[Bool.not_true,Bool.not_false] at f00
 all_goals
  go_enter Tryz.func194,Tryz.ntmps194;go_wp2;exact zqby (v:=.agg #[.bool _,.string A,.string B]) (by simp[results,Tryz.results194,go_sem]) rfl ⟨rfl,zaa (zGA _ _ _) (zGA _ _ _)⟩
theorem zwR (x:Rat)(w:World):Calls Tryz.prog 194 #[zdH x] w (zab (zdH (-x)) w):=by
 rw[zCa];exact zux _ _ _ _ _ w (zero_str' _).2 rfl
theorem zCe (b1 b2 b:Bool)(A B C D N S T:ByteArray)(w:World)(he:(b1==b2)=true)
  (T1:zbR A D) (T2:zbR C B) (T3:zbR B D)
  (N1:Hid (∀ w,Calls Tryz.prog 226 #[.string (zcW A D),.string (zcW C B)] w (zab (.tuple #[.string N,.int .i64 0]) w)))
  (R:Hid (∀ w,Calls Tryz.prog 200 #[.bool b1,.string N,.string (zcW B D)] w (zab (.agg #[.bool b,.string S,.string T]) w))) :
  Calls Tryz.prog 192 #[.agg #[.bool b1,.string A,.string B],.agg #[.bool b2,.string C,.string D]] w (zab (.agg #[.bool b,.string S,.string T]) w):=by
 have h0:=zfJ w b1 b2 A B C D;obtain⟨W0,hW0⟩:∃ W0,W0=(((w.alloc (.cells #[.bool b1,.string A,.string B] 142)).alloc (.cells #[.bool b2,.string C,.string D] 142)).alloc (.cells #[.bool false,.string ⟨#[]⟩,.string ⟨#[]⟩] 142)):=⟨_,rfl⟩;rw[<- hW0] at h0;have H0:=zHd h0;have HW0:=zHd hW0;clear h0 hW0;go_enter Tryz.func192,Tryz.ntmps192;go_wp2_with fail;rw[<- HW0.out];have hs:=H0.out.drew.seen;unfold Seen at hs;have hh:=zHd H0.out.drew;clear HW0
 go_region_held3 (fun W'=>(W'.cell? ⟨w.heap.size,0,none⟩=some (.bool b1)/\W'.cell? ⟨w.heap.size,1,none⟩=some (.string A)/\W'.cell? ⟨w.heap.size,2,none⟩=some (.string B) /\
   W'.cell? ⟨w.heap.size+1,0,none⟩=some (.bool b2)/\W'.cell? ⟨w.heap.size+1,1,none⟩=some (.string C)/\W'.cell? ⟨w.heap.size+1,2,none⟩=some (.string D))/\Hid (zdt w W' b1 b2 A B C D))
  (first
   | exact⟨hs,hh⟩
   | assumption
   | exact s1
   | go_keep)
  (first
   | (go_at_call 201;refine(zfK _ _ ?_ _).mono ?_;assumption;rintro e w5 ⟨rfl,hg5⟩;have s1:=zby w b1 b2 A B C D hg5 ‹_›))
 clear hs hh H0;obtain⟨⟨x0,x1,x2,y0,y1,y2⟩,hh⟩:=s1;go_wp2_with fail;refine(T3 _).mono ?_;rintro e v6 ⟨rfl,hg⟩;have s6:=zby w b1 b2 A B C D hg ⟨⟨x0,x1,x2,y0,y1,y2⟩,hh⟩;clear x0 x1 x2 y0 y1 y2 hh hg;obtain⟨⟨x0,x1,x2,y0,y1,y2⟩,hh⟩:=s6;go_wp2_with fail;refine(N1.out _).mono ?_;rintro e v7 ⟨rfl,hg⟩;have s7:=zby w b1 b2 A B C D hg ⟨⟨x0,x1,x2,y0,y1,y2⟩,hh⟩;clear x0 x1 x2 y0 y1 y2 hh hg;obtain⟨⟨x0,x1,x2,y0,y1,y2⟩,hh⟩:=s7;go_wp2_with fail;refine(R.out _).mono ?_;rintro e v8 ⟨rfl,hg⟩;have s8:=zby w b1 b2 A B C D hg ⟨⟨x0,x1,x2,y0,y1,y2⟩,hh⟩;clear x0 x1 x2 y0 y1 y2 hh hg;obtain⟨zb,zS,zT,z0,z1,z2,z3,z4,z5⟩:=zhT w b1 b2 A B C D s8;have hend:=zeW (a:=.bool b) (b:=.string S) (c:=.string T) s8.2.out.g (show w.heap.size<=w.heap.size+1+1 by omega);have HE:=zHd hend;clear hend s8;go_wp2;exact zqby (v:=.agg #[.bool _,.string _,.string _]) (by simp[results,Tryz.results192,go_sem,z0,z1,z2,z3,z4,z5]) rfl ⟨rfl,HE.out⟩
theorem zFG (b1:Bool)(b:Bool)(A B C D N S T:ByteArray)(w:World)
  (T1:zbR A D) (T2:zbR C B) (T3:zbR B D)
  (N1:Hid (∀ w,Calls Tryz.prog 226 #[.string (zcW A D),.string (zcW C B)] w (zab (.tuple #[.string N,.int .i64 0]) w)))
  (R:Hid (∀ w,Calls Tryz.prog 200 #[.bool b1,.string N,.string (zcW B D)] w (zab (.agg #[.bool b,.string S,.string T]) w))) :
  Calls Tryz.prog 192 #[.agg #[.bool b1,.string A,.string B],.agg #[.bool b1,.string C,.string D]] w (zab (.agg #[.bool b,.string S,.string T]) w) :=
 zCe b1 b1 b A B C D N S T w (by simp) T1 T2 T3 N1 R
theorem zFH (b1 b2 b:Bool)(A B C D N S T:ByteArray)(c:Int)(w:World)(hne:b1≠b2)(hc:c<0)
  (T1:zbR A D) (T2:zbR C B) (T3:zbR B D)
  (CM:Hid (∀ w,Calls Tryz.prog 227 #[.string (zcW A D),.string (zcW C B)] w fun e w'=>e=.returned (.int .i64 c)/\w.grownBy w' none))
  (SU:Hid (∀ w,Calls Tryz.prog 228 #[.string (zcW C B),.string (zcW A D)] w (zab (.tuple #[.string N,.int .i64 0]) w)))
  (R:Hid (∀ w,Calls Tryz.prog 200 #[.bool b2,.string N,.string (zcW B D)] w (zab (.agg #[.bool b,.string S,.string T]) w))) :
  Calls Tryz.prog 192 #[.agg #[.bool b1,.string A,.string B],.agg #[.bool b2,.string C,.string D]] w (zab (.agg #[.bool b,.string S,.string T]) w):=by
 have he:(b1==b2)=false:=by simpa using hne
 have h0:=zfJ w b1 b2 A B C D;obtain⟨W0,hW0⟩:∃ W0,W0=(((w.alloc (.cells #[.bool b1,.string A,.string B] 142)).alloc (.cells #[.bool b2,.string C,.string D] 142)).alloc (.cells #[.bool false,.string ⟨#[]⟩,.string ⟨#[]⟩] 142)):=⟨_,rfl⟩;rw[<- hW0] at h0;have H0:=zHd h0;have HW0:=zHd hW0;clear h0 hW0;go_enter Tryz.func192,Tryz.ntmps192;go_wp2_with fail;rw[<- HW0.out];have hs:=H0.out.drew.seen;unfold Seen at hs;have hh:=zHd H0.out.drew;clear HW0
 go_region_held3 (fun W'=>(W'.cell? ⟨w.heap.size,0,none⟩=some (.bool b1)/\W'.cell? ⟨w.heap.size,1,none⟩=some (.string A)/\W'.cell? ⟨w.heap.size,2,none⟩=some (.string B) /\
   W'.cell? ⟨w.heap.size+1,0,none⟩=some (.bool b2)/\W'.cell? ⟨w.heap.size+1,1,none⟩=some (.string C)/\W'.cell? ⟨w.heap.size+1,2,none⟩=some (.string D))/\Hid (zdt w W' b1 b2 A B C D))
  (first
   | exact⟨hs,hh⟩
   | assumption
   | exact s1
   | go_keep)
  (first
   | (go_at_call 201;refine(zfK _ _ ?_ _).mono ?_;assumption;rintro e w5 ⟨rfl,hg5⟩;have s1:=zby w b1 b2 A B C D hg5 ‹_›))
 clear hs hh H0;obtain⟨⟨x0,x1,x2,y0,y1,y2⟩,hh⟩:=s1;go_wp2_with fail;refine(T3 _).mono ?_;rintro e v6 ⟨rfl,hg⟩;have s6:=zby w b1 b2 A B C D hg ⟨⟨x0,x1,x2,y0,y1,y2⟩,hh⟩;clear x0 x1 x2 y0 y1 y2 hh hg;obtain⟨⟨x0,x1,x2,y0,y1,y2⟩,hh⟩:=s6;go_wp2_with fail;refine(CM.out _).mono ?_;rintro e v7 ⟨rfl,hg⟩;have s7:=zby w b1 b2 A B C D hg ⟨⟨x0,x1,x2,y0,y1,y2⟩,hh⟩;clear x0 x1 x2 y0 y1 y2 hh hg;obtain⟨⟨x0,x1,x2,y0,y1,y2⟩,hh⟩:=s7;go_wp2_with fail;refine(SU.out _).mono ?_;rintro e v8 ⟨rfl,hg⟩;have s8:=zby w b1 b2 A B C D hg ⟨⟨x0,x1,x2,y0,y1,y2⟩,hh⟩;clear x0 x1 x2 y0 y1 y2 hh hg;obtain⟨⟨x0,x1,x2,y0,y1,y2⟩,hh⟩:=s8;go_wp2_with fail;refine(R.out _).mono ?_;rintro e v9 ⟨rfl,hg⟩;have s9:=zby w b1 b2 A B C D hg ⟨⟨x0,x1,x2,y0,y1,y2⟩,hh⟩;clear x0 x1 x2 y0 y1 y2 hh hg;obtain⟨zb,zS,zT,z0,z1,z2,z3,z4,z5⟩:=zhT w b1 b2 A B C D s9;have hend:=zeW (a:=.bool b) (b:=.string S) (c:=.string T) s9.2.out.g (show w.heap.size<=w.heap.size+1+1 by omega);have HE:=zHd hend;clear hend s9;go_wp2;exact zqby (v:=.agg #[.bool _,.string _,.string _]) (by simp[results,Tryz.results192,go_sem,z0,z1,z2,z3,z4,z5]) rfl ⟨rfl,HE.out⟩
theorem zFI (b1 b2 b:Bool)(A B C D N S T:ByteArray)(c:Int)(w:World)(hne:b1≠b2)(hc:¬ c<0)
  (T1:zbR A D) (T2:zbR C B) (T3:zbR B D)
  (CM:Hid (∀ w,Calls Tryz.prog 227 #[.string (zcW A D),.string (zcW C B)] w fun e w'=>e=.returned (.int .i64 c)/\w.grownBy w' none))
  (SU:Hid (∀ w,Calls Tryz.prog 228 #[.string (zcW A D),.string (zcW C B)] w (zab (.tuple #[.string N,.int .i64 0]) w)))
  (R:Hid (∀ w,Calls Tryz.prog 200 #[.bool b1,.string N,.string (zcW B D)] w (zab (.agg #[.bool b,.string S,.string T]) w))) :
  Calls Tryz.prog 192 #[.agg #[.bool b1,.string A,.string B],.agg #[.bool b2,.string C,.string D]] w (zab (.agg #[.bool b,.string S,.string T]) w):=by
 have he:(b1==b2)=false:=by simpa using hne
 have h0:=zfJ w b1 b2 A B C D;obtain⟨W0,hW0⟩:∃ W0,W0=(((w.alloc (.cells #[.bool b1,.string A,.string B] 142)).alloc (.cells #[.bool b2,.string C,.string D] 142)).alloc (.cells #[.bool false,.string ⟨#[]⟩,.string ⟨#[]⟩] 142)):=⟨_,rfl⟩;rw[<- hW0] at h0;have H0:=zHd h0;have HW0:=zHd hW0;clear h0 hW0;go_enter Tryz.func192,Tryz.ntmps192;go_wp2_with fail;rw[<- HW0.out];have hs:=H0.out.drew.seen;unfold Seen at hs;have hh:=zHd H0.out.drew;clear HW0
 go_region_held3 (fun W'=>(W'.cell? ⟨w.heap.size,0,none⟩=some (.bool b1)/\W'.cell? ⟨w.heap.size,1,none⟩=some (.string A)/\W'.cell? ⟨w.heap.size,2,none⟩=some (.string B) /\
   W'.cell? ⟨w.heap.size+1,0,none⟩=some (.bool b2)/\W'.cell? ⟨w.heap.size+1,1,none⟩=some (.string C)/\W'.cell? ⟨w.heap.size+1,2,none⟩=some (.string D))/\Hid (zdt w W' b1 b2 A B C D))
  (first
   | exact⟨hs,hh⟩
   | assumption
   | exact s1
   | go_keep)
  (first
   | (go_at_call 201;refine(zfK _ _ ?_ _).mono ?_;assumption;rintro e w5 ⟨rfl,hg5⟩;have s1:=zby w b1 b2 A B C D hg5 ‹_›))
 clear hs hh H0;obtain⟨⟨x0,x1,x2,y0,y1,y2⟩,hh⟩:=s1;go_wp2_with fail;refine(T3 _).mono ?_;rintro e v6 ⟨rfl,hg⟩;have s6:=zby w b1 b2 A B C D hg ⟨⟨x0,x1,x2,y0,y1,y2⟩,hh⟩;clear x0 x1 x2 y0 y1 y2 hh hg;obtain⟨⟨x0,x1,x2,y0,y1,y2⟩,hh⟩:=s6;go_wp2_with fail;refine(CM.out _).mono ?_;rintro e v7 ⟨rfl,hg⟩;have s7:=zby w b1 b2 A B C D hg ⟨⟨x0,x1,x2,y0,y1,y2⟩,hh⟩;clear x0 x1 x2 y0 y1 y2 hh hg;obtain⟨⟨x0,x1,x2,y0,y1,y2⟩,hh⟩:=s7;go_wp2_with fail;refine(SU.out _).mono ?_;rintro e v8 ⟨rfl,hg⟩;have s8:=zby w b1 b2 A B C D hg ⟨⟨x0,x1,x2,y0,y1,y2⟩,hh⟩;clear x0 x1 x2 y0 y1 y2 hh hg;obtain⟨⟨x0,x1,x2,y0,y1,y2⟩,hh⟩:=s8;go_wp2_with fail;refine(R.out _).mono ?_;rintro e v9 ⟨rfl,hg⟩;have s9:=zby w b1 b2 A B C D hg ⟨⟨x0,x1,x2,y0,y1,y2⟩,hh⟩;clear x0 x1 x2 y0 y1 y2 hh hg;obtain⟨zb,zS,zT,z0,z1,z2,z3,z4,z5⟩:=zhT w b1 b2 A B C D s9;have hend:=zeW (a:=.bool b) (b:=.string S) (c:=.string T) s9.2.out.g (show w.heap.size<=w.heap.size+1+1 by omega);have HE:=zHd hend;clear hend s9;go_wp2;exact zqby (v:=.agg #[.bool _,.string _,.string _]) (by simp[results,Tryz.results192,go_sem,z0,z1,z2,z3,z4,z5]) rfl ⟨rfl,HE.out⟩
open Go.RowKit
open Go.Lib (nDigits decDigits)
structure zgR (w W:World)(b1 b2:Bool)(A B C D:ByteArray):Prop where
 x:Num W w.heap.size b1 A B
 y:Num W (w.heap.size+1) b2 C D
 g:w.grownBy W none
def Two (w W:World)(b1 b2:Bool)(A B C D:ByteArray):Prop :=
 (W.cell? ⟨w.heap.size,0,none⟩=some (.bool b1)/\W.cell? ⟨w.heap.size,1,none⟩=some (.string A)/\W.cell? ⟨w.heap.size,2,none⟩=some (.string B) /\
  W.cell? ⟨w.heap.size+1,0,none⟩=some (.bool b2)/\W.cell? ⟨w.heap.size+1,1,none⟩=some (.string C)/\W.cell? ⟨w.heap.size+1,2,none⟩=some (.string D))/\Hid (zgR w W b1 b2 A B C D)
theorem zgR.next {w W W':World}{b1 b2:Bool}{A B C D:ByteArray}(h:zgR w W b1 b2 A B C D)(hg:W.grownBy W' none):zgR w W' b1 b2 A B C D :=
 ⟨h.x.grown hg,h.y.grown hg,zaa h.g hg⟩
theorem zgR.drew {w W:World}{b1 b2:Bool}{A B C D:ByteArray}(h:zgR w W b1 b2 A B C D):zgR w W.drew b1 b2 A B C D:=h.next (zag W none)
theorem zgR.two {w W:World}{b1 b2:Bool}{A B C D:ByteArray}(h:zgR w W b1 b2 A B C D):Two w W b1 b2 A B C D:=by
 obtain⟨x0,x1,x2,_⟩:=h.x.cells;obtain⟨y0,y1,y2,_⟩:=h.y.cells;exact⟨⟨x0,x1,x2,y0,y1,y2⟩,zHd h⟩
theorem zjv (w:World)(b1 b2:Bool)(A B C D:ByteArray){W W':World}(hg:W.grownBy W' none)
  (h:(W.cell? ⟨w.heap.size,0,none⟩=some (.bool b1)/\W.cell? ⟨w.heap.size,1,none⟩=some (.string A)/\W.cell? ⟨w.heap.size,2,none⟩=some (.string B) /\
   W.cell? ⟨w.heap.size+1,0,none⟩=some (.bool b2)/\W.cell? ⟨w.heap.size+1,1,none⟩=some (.string C)/\W.cell? ⟨w.heap.size+1,2,none⟩=some (.string D))/\Hid (zgR w W b1 b2 A B C D)) :
  (W'.cell? ⟨w.heap.size,0,none⟩=some (.bool b1)/\W'.cell? ⟨w.heap.size,1,none⟩=some (.string A)/\W'.cell? ⟨w.heap.size,2,none⟩=some (.string B) /\
   W'.cell? ⟨w.heap.size+1,0,none⟩=some (.bool b2)/\W'.cell? ⟨w.heap.size+1,1,none⟩=some (.string C)/\W'.cell? ⟨w.heap.size+1,2,none⟩=some (.string D))/\Hid (zgR w W' b1 b2 A B C D) :=
 (h.2.out.next hg).two
theorem zpx (w:World)(b1 b2:Bool)(A B C D:ByteArray) :
  zgR w ((w.alloc (.cells #[.bool b1,.string A,.string B] 142)).alloc (.cells #[.bool b2,.string C,.string D] 142)) b1 b2 A B C D:=by
 refine⟨?_,?_,?_⟩
 ·unfold Num
  rw[zbJ _ _ _ (by simp),zdI _ _ _ rfl]
 ·unfold Num
  rw[zdI _ _ _ (by simp)]
 ·exact zaa (zGA _ _ none) (zGA _ _ none)
theorem zma (b1 b2:Bool)(A B C D:ByteArray)(w:World)(hne:b1≠b2) :
  Calls Tryz.prog 196 #[.agg #[.bool b1,.string A,.string B],.agg #[.bool b2,.string C,.string D]] w (zab (.int .i64 (if b1 then -1 else 1)) w):=by
 cases b1 <;> cases b2 <;> simp only[ne_eq,not_true,Bool.false_eq_true,Bool.true_eq_false,not_false_eq_true] at hne
 all_goals
  go_enter Tryz.func196,Tryz.ntmps196;go_wp2;go_ret;exact⟨rfl,zaa (zGA _ _ _) (zGA _ _ _)⟩
theorem zuy (A B C D:ByteArray)(c:Int)(w:World)
  (T1:zbR A D) (T2:zbR C B)
  (CM:Hid (∀ w,Calls Tryz.prog 227 #[.string (zcW A D),.string (zcW C B)] w fun e w'=>e=.returned (.int .i64 c)/\w.grownBy w' none)) :
  Calls Tryz.prog 196 #[.agg #[.bool false,.string A,.string B],.agg #[.bool false,.string C,.string D]] w (zab (.int .i64 c) w):=by
 have h0:=zpx w false false A B C D;have H0:=zHd h0;obtain⟨hs,hh⟩:=h0.drew.two;obtain⟨⟨x0,x1,x2,y0,y1,y2⟩,hh0⟩:=h0.two;clear h0 hh0;go_enter Tryz.func196,Tryz.ntmps196;go_wp2_with fail;clear x0 x1 x2 y0 y1 y2
 go_region_held3 (fun W'=>(W'.cell? ⟨w.heap.size,0,none⟩=some (.bool false)/\W'.cell? ⟨w.heap.size,1,none⟩=some (.string A)/\W'.cell? ⟨w.heap.size,2,none⟩=some (.string B) /\
   W'.cell? ⟨w.heap.size+1,0,none⟩=some (.bool false)/\W'.cell? ⟨w.heap.size+1,1,none⟩=some (.string C)/\W'.cell? ⟨w.heap.size+1,2,none⟩=some (.string D))/\Hid (zgR w W' false false A B C D))
  (first
   | exact⟨hs,hh⟩
   | assumption
   | exact s1
   | go_keep)
  (first
   | (go_at_call 201;refine(zfK _ _ ?_ _).mono ?_;assumption;rintro e w5 ⟨rfl,hg5⟩;have s1:=zjv w false false A B C D hg5 ‹_›)
   | (go_at_call 227;refine(CM.out _).mono ?_;rintro e w5 ⟨rfl,hg5⟩;have s1:=zjv w false false A B C D hg5 ‹_›))
 have HE:=zHd s1.2.out.g;clear s1 hs hh H0;go_wp2;go_ret;exact⟨rfl,HE.out⟩
theorem ztD (A B C D:ByteArray)(c:Int)(w:World)
  (T1:zbR C B) (T2:zbR A D)
  (CM:Hid (∀ w,Calls Tryz.prog 227 #[.string (zcW C B),.string (zcW A D)] w fun e w'=>e=.returned (.int .i64 c)/\w.grownBy w' none)) :
  Calls Tryz.prog 196 #[.agg #[.bool true,.string A,.string B],.agg #[.bool true,.string C,.string D]] w (zab (.int .i64 c) w):=by
 have h0:=zpx w true true C D A B;obtain⟨hs,hh⟩:=h0.drew.two;clear h0;go_enter Tryz.func196,Tryz.ntmps196;go_wp2_with fail
 go_region_held3 (fun W'=>(W'.cell? ⟨w.heap.size,0,none⟩=some (.bool true)/\W'.cell? ⟨w.heap.size,1,none⟩=some (.string C)/\W'.cell? ⟨w.heap.size,2,none⟩=some (.string D) /\
   W'.cell? ⟨w.heap.size+1,0,none⟩=some (.bool true)/\W'.cell? ⟨w.heap.size+1,1,none⟩=some (.string A)/\W'.cell? ⟨w.heap.size+1,2,none⟩=some (.string B))/\Hid (zgR w W' true true C D A B))
  (first
   | exact⟨hs,hh⟩
   | assumption
   | exact s1
   | go_keep)
  (first
   | (go_at_call 201;refine(zfK _ _ ?_ _).mono ?_;assumption;rintro e w5 ⟨rfl,hg5⟩;have s1:=zjv w true true C D A B hg5 ‹_›)
   | (go_at_call 227;refine(CM.out _).mono ?_;rintro e w5 ⟨rfl,hg5⟩;have s1:=zjv w true true C D A B hg5 ‹_›))
 have HE:=zHd s1.2.out.g;clear s1 hs hh;go_wp2;go_ret;exact⟨rfl,HE.out⟩
theorem znt (m n:Nat)(hm:nDigits m<=1000)(hn:nDigits n<=1000):zeu (zah m) (zah n)=zbF m n:=by
 unfold zeu;rw[zaX m hm,zaX n hn,zaO,zaO];rfl
theorem znu (m n:Nat)(hm:nDigits m<=1000)(hn:nDigits n<=1000)(h:n<=m):zds (zah m) (zah n)=.tuple #[.string (zah (m-n)),.int .i64 0]:=by
 unfold zds;rw[zaX m hm,zaX n hn,zaO,zaO];simp only[Bool.and_self,if_true];rw[if_neg (by omega)]
open Go.RowKit
theorem zgS (a:Addr)(n:Nat):(a.add n).block=a.block:=by unfold Addr.add;split <;> rfl
def Reads (w:World)(B size:Nat)(A:Option Addr)(n:Nat)(xs:List Value):Prop :=
 xs.length=n*size/\(0<n->∃ ad,A=some ad/\ad.block<B/\∀ j u,xs[j]?=some u->w.cell? (ad.add j)=some u)
section
variable {w w':World} {B B' size n:Nat} {A:Option Addr} {xs:List Value}
theorem Reads.none_:Reads w B size A 0 []:=⟨by simp,fun h=>absurd h (by omega)⟩
theorem Reads.keep (h:Reads w B size A n xs)(hk:∀ p:Addr,p.block<B->w'.cell? p=w.cell? p):Reads w' B size A n xs :=
 ⟨h.1,fun hn=>by
  obtain⟨ad,e,hb,hc⟩:=h.2 hn;exact⟨ad,e,hb,fun j u hu=>(hk _ (by rw[zgS];exact hb)).trans (hc j u hu)⟩⟩
theorem Reads.more (h:Reads w B size A n xs)(hB:B<=B'):Reads w B' size A n xs :=
 ⟨h.1,fun hn=>by
  obtain⟨ad,e,hb,hc⟩:=h.2 hn;exact⟨ad,e,by omega,hc⟩⟩
theorem Reads.below (h:Reads w B size A n xs)(hb:Below B w w'):Reads w' B size A n xs:=h.keep fun _ hp=>hb.cell hp
end
end Go.Proofs.YtaogepcaoogpgaaGreatDoor
namespace Go.Proofs
open Go.Shelf Go.RowKit
def Tryz.lays156_ren:Go.Shelf.Ren:=⟨fun|156=>130|165=>162|166=>163|169=>164|240=>202|241=>203|276=>233|277=>234|n=>n,fun|0=>0|3=>3|4=>4|5=>5|9=>9|20=>20|31=>33|37=>149|70=>148|72=>151|75=>154|76=>155|80=>81|127=>177|164=>193|n=>n,fun|n=>n⟩
theorem Tryz.lays156:Go.Proofs.Lays.n156 Tryz.prog Tryz.lays156_ren := {
 mixed:=by kernel_rfl
 f156:=Tryz.func130.trans (zqbz some (by kernel_rfl))
 f165:=Tryz.func162.trans (zqbz some (by kernel_rfl))
 f166:=Tryz.func163.trans (zqbz some (by kernel_rfl))
 f169:=Tryz.func164.trans (zqbz some (by kernel_rfl))
 f240:=Tryz.func202.trans (zqbz some (by kernel_rfl))
 f241:=Tryz.func203.trans (zqbz some (by kernel_rfl))
 f276:=Tryz.func233.trans (zqbz some (by kernel_rfl))
 f277:=Tryz.func234.trans (zqbz some (by kernel_rfl))
 t0:=Tryz.underlying0
 a0:=Tryz.isAgg0
 z0:=Tryz.sizeOf0
 v0:=Tryz.zeroValue0
 t3:=Tryz.underlying3
 a3:=Tryz.isAgg3
 z3:=Tryz.sizeOf3
 v3:=Tryz.zeroValue3
 t4:=Tryz.underlying4
 a4:=Tryz.isAgg4
 z4:=Tryz.sizeOf4
 v4:=Tryz.zeroValue4
 t9:=Tryz.underlying9
 a9:=Tryz.isAgg9
 z9:=Tryz.sizeOf9
 v9:=Tryz.zeroValue9
 t20:=Tryz.underlying20
 a20:=Tryz.isAgg20
 z20:=Tryz.sizeOf20
 v20:=Tryz.zeroValue20
 t31:=Tryz.underlying33
 a31:=Tryz.isAgg33
 z31:=Tryz.sizeOf33
 v31:=Tryz.zeroValue33
 t37:=Tryz.underlying149
 a37:=Tryz.isAgg149
 z37:=Tryz.sizeOf149
 v37:=Tryz.zeroValue149
 t70:=Tryz.underlying148
 a70:=Tryz.isAgg148
 z70:=Tryz.sizeOf148
 v70:=Tryz.zeroValue148
 t72:=Tryz.underlying151
 a72:=Tryz.isAgg151
 z72:=Tryz.sizeOf151
 v72:=Tryz.zeroValue151
 t75:=Tryz.underlying154
 a75:=Tryz.isAgg154
 z75:=Tryz.sizeOf154
 v75:=Tryz.zeroValue154
 t76:=Tryz.underlying155
 a76:=Tryz.isAgg155
 z76:=Tryz.sizeOf155
 v76:=Tryz.zeroValue155
 t127:=Tryz.underlying177
 a127:=Tryz.isAgg177
 z127:=Tryz.sizeOf177
 v127:=Tryz.zeroValue177
 t164:=Tryz.underlying193
 a164:=Tryz.isAgg193
 z164:=Tryz.sizeOf193
 v164:=Tryz.zeroValue193 }
theorem Tryz.Builder_Extra_156:Builder.Extra Tryz.prog Tryz.lays156_ren := {
 sizeBuilder:=by kernel_rfl
 liesBuilder:=by kernel_rfl
 t5:=Tryz.underlying5
 a5:=Tryz.isAgg5
 z5:=Tryz.sizeOf5
 v5:=Tryz.zeroValue5
 infoByte:=by kernel_rfl
 cellsByte:=by kernel_rfl
 sizeByte:=by kernel_rfl
 neB5:=by decide }
theorem Tryz.sh_Join (bk o c:Nat)(xs:List ByteArray)(sep:ByteArray)(w:World)(hcells:∀ (j:Nat) x,xs[j]?=some x->w.cell? ⟨bk,o+j,none⟩=some (.string x))
  (hbk:bk<w.heap.size) (hN:xs.length<=140737488355328) (hcap:xs.length<=c) (hlen:(Lib.join (xs.map (·.data.toList)) sep.data.toList).length<=140737488355328) :
  Calls Tryz.prog 130 #[.slice (some ⟨bk,o,none⟩) xs.length c,.string sep] w fun e w'=>e=.returned (.string ⟨(Lib.join (xs.map (·.data.toList)) sep.data.toList).toArray⟩)/\Below w.heap.size w w':=Any.strings_Join Tryz.lays156 Tryz.Builder_Extra_156 bk o c xs sep w hcells hbk hN hcap hlen
end Go.Proofs
namespace Go.Proofs.YtaogepcaoogpgaaGreatDoor
variable {P:Program} {ops:Array Oper} {Q:Exit->Act->World->Prop} {md:Region.Mode}
def ziu (P:Program)(ops:Array Oper)(Q:Exit->Act->World->Prop)(e:Nat):Exit->Act->World->Prop
 | .normal,a,w=>wpOp P ops Q e (fun a' w'=>Q .normal a' w') a w
 | x,a,w=>Q x a w
theorem zCf {e:Nat}{o:Oper}{a:Act}{K:Act->World->Prop}{r:Result Next}(h:o.upon P a K (ziu P ops Q e) r):o.upon P a K Q r:=by
 cases r with
 | ok n w' =>
  cases n <;> simp only[Oper.upon] at h ⊢
  case enter f args =>
   refine Calls.mono h fun x w'' he=>?_;cases x with
   | returned u=>exact he
   | panicked c=>exact he
   | outgrown=>exact he
  all_goals exact h
 | halt x w' =>
  cases x <;> simp only[Oper.upon] at h ⊢
  case panic u=>exact h
theorem zsx {e i:Nat}{a:Act}{w:World}{K:Act->World->Prop}(h:wpOp P ops (ziu P ops Q e) i K a w):wpOp P ops Q i K a w:=by
 unfold wpOp at *;split
 ·rename_i ho;simpa [ho] using h
 ·rename_i o ho
  simp only[ho] at h;split
  ·rename_i hw
   simp only[hw,if_true] at h;rcases h with h|⟨h1,h2⟩
   ·exact .inl (zCf h)
   ·exact .inr ⟨h1,h2⟩
  ·rename_i hw
   simp only[hw] at h;exact h
def zuz (md:Region.Mode)(ops:Array Oper)(e:Nat):Bool :=
 (List.range ops.size).all (fun i=>((ops[i]?).map (fun o=>o.after.all fun x => !Region.binds md x || decide (x.on<i))).getD false&&(i==e || ((ops[e]?).map (fun o=>o.after.any fun x=>Region.binds md x&&x.on==i)).getD false))&&decide (e<ops.size)
structure zmb (md:Region.Mode)(ops:Array Oper)(e:Nat):Prop where
 he:e<ops.size
 fwd:∀ (i:Nat) (o:Oper),ops[i]?=some o->∀ x∈o.after,Region.binds md x=true->x.on<i
 all:∀ (i:Nat),i<ops.size->i≠e->∃ o,ops[e]?=some o/\∃ x∈o.after,Region.binds md x=true/\x.on=i
theorem zwS {e:Nat}(h:zuz md ops e=true):zmb md ops e:=by
 unfold zuz at h;simp only[zqbb,List.all_eq_true,List.mem_range,zqca] at h;obtain⟨h1,h2⟩:=h;refine⟨h2,fun i o ho x hx hb=>?_,fun i hi hne=>?_⟩
 ·have h3:=(h1 i (zqad.1 ho).1).1
  simp only[ho,Option.map_some,Option.getD_some,Array.all_eq_true_iff_forall_mem] at h3;have h4:=h3 x hx;simpa [hb] using h4
 ·have h3:=(h1 i hi).2
  cases ho:ops[e]? with
  | none=>simp[ho,hne] at h3
  | some o =>
   simp only[ho,Option.map_some,Option.getD_some,Bool.or_eq_true,beq_iff_eq,hne,false_or] at h3;obtain⟨k,hk,hb⟩:=Array.any_eq_true.1 h3;simp only[zqbb,beq_iff_eq] at hb;exact⟨o,rfl,_,Array.getElem_mem hk,hb.1,hb.2⟩
theorem zlE {listed:Array Bool}{e:Nat}(hok:zmb md ops e)(hl:listed.size=ops.size)(h:∀ i,i≠e->i ∉ Region.ready md ops listed):∀ i,i<ops.size->i≠e->listed.getD i false=true:=by
 intro i
 induction i using Nat.strongRecOn with
 | ind i ih =>
  intro hi hne;apply Classical.byContradiction;intro hn
  have hn:listed.getD i true=false:=by
   have hi2:i<listed.size:=by omega
   simp[hi2] at hn ⊢;exact hn
  refine h i hne ?_;rw[mem_ready];refine⟨hn,ops[i],zqbv hi,fun x hx hb=>?_⟩;have hlt:=hok.fwd i _ (zqbv hi) x hx hb
  by_cases hxe:x.on=e
  ·obtain⟨oe,hoe,y,hy,hyb,hyi⟩:=hok.all i hi hne
   have:=hok.fwd e oe hoe y hy hyb;omega
  ·exact ih x.on hlt (by omega) hxe
theorem zpy {listed:Array Bool}{e:Nat}(hok:zmb md ops e)(hl:listed.size=ops.size)(he:listed.getD e true=false)(h:∀ i,i<ops.size->i≠e->listed.getD i false=true):e∈Region.ready md ops listed:=by
 rw[mem_ready];refine⟨he,ops[e]'hok.he,zqbv hok.he,fun x hx hb=>?_⟩;have hlt:=hok.fwd e _ (zqbv hok.he) x hx hb;exact h x.on (by have:=hok.he;omega) (by omega)
theorem zzl {listed:Array Bool}{e:Nat}(hok:zmb md ops e)(hl:listed.size=ops.size)(he:e∈Region.ready md ops listed):Region.ready md ops (listed.setIfInBounds e true)=[]:=by
 rw[List.eq_nil_iff_forall_not_mem];intro i hi;rw[mem_ready] at hi he;obtain⟨h1,o,ho,_⟩:=hi;obtain⟨h2,oe,hoe,h3⟩:=he;have hil:i<ops.size:=(zqad.1 ho).1
 by_cases hie:i=e
 ·subst hie
  have:i<listed.size:=by omega
  simp[this] at h1
 ·rw[getD_set_ne true (Ne.symm hie)] at h1
  obtain⟨o2,ho2,x,hx,hb,hxi⟩:=hok.all i hil hie;rw[hoe] at ho2;cases ho2;have h4:=h3 x hx hb;rw[hxi] at h4;have:i<listed.size:=by omega
  simp[this] at h1 h4;rw[h1] at h4;cases h4
theorem zzm {e:Nat}(hok:zmb md ops e):∀ (fuel:Nat) (listed:Array Bool) (a:Act) (w:World),listed.size=ops.size->listed.getD e true=false ->
  wpAny P md ops (ziu P ops Q e) fuel (listed.setIfInBounds e true) a w->wpAny P md ops Q (fuel+1) listed a w:=by
 intro fuel
 have fin:∀ (n:Nat) (listed:Array Bool) (a:Act) (w:World),Region.ready md ops (listed.setIfInBounds e true)=[]->ziu P ops Q e .normal a w->wpOp P ops Q e (wpAny P md ops Q n (listed.setIfInBounds e true)) a w:=by
  intro n listed a w hr h;refine wpOp_mono (fun a' w' h'=>?_) h;cases n with
  | zero=>exact⟨hr,h'⟩
  | succ n=>exact⟨fun _=>h',by rw[hr];simp⟩
 induction fuel with
 | zero =>
  intro listed a w hl he h;have hall:=zlE hok hl (fun i hi hr=>by have:=ready_mono hr hi;rw[h.1] at this;cases this);have hre:=zpy hok hl he hall;refine⟨fun h0=>(by rw[h0] at hre;cases hre),fun i hi=>?_⟩
  by_cases hie:i=e
  ·subst hie;exact fin 0 listed a w h.1 h.2
  ·have:=ready_mono hi hie
   rw[h.1] at this;cases this
 | succ fuel ih =>
  intro listed a w hl he h;refine⟨fun h0=>?_,fun i hi=>?_⟩
  ·have hre:=zpy hok hl he (zlE hok hl (fun i _ hr=>by rw[h0] at hr;cases hr))
   rw[h0] at hre;cases hre
  ·by_cases hie:i=e
   ·subst hie
    have hr:=zzl hok hl hi;exact fin (fuel+1) listed a w hr (h.1 hr)
   ·have h1:=zsx (h.2 i (ready_mono hi hie))
    refine wpOp_mono (fun a' w' h'=>?_) h1;refine ih (listed.setIfInBounds i true) a' w' (by simpa using hl) (by rw[getD_set_ne true hie];exact he) ?_;rw[Array.setIfInBounds_comm _ _ hie];exact h'
theorem zfL {e:Nat}{o:Oper}{a:Act}{w:World}(ho:ops[e]?=some o)
  (h:∀ K':Act->World->Prop,(∀ a w,Q .normal a w->K' a w)->if Region.wanted o (yielded ops a.tmps)=true then Oper.wp P o a w K' Q else K' (a.put o.dst undef) w):ziu P ops Q e .normal a w:=wpOp_step ho h
theorem zex {id e n:Nat}{a:Act}{w:World}(S:World->Prop)(hm:P.follows .mixedOrders=true)(hok:zuz .any ops e=true)(hn:ops.size=n+1)
  (h:wpAnyH P .any ops (ziu P ops Q e) S n ((Array.replicate ops.size false).setIfInBounds e true) a w.drew):(Code.region id ops true).wp P Q a w:=by
 refine wp_region_any hm ?_;rw[hn];have hs:=zwS hok;have h1:=zzm hs n (Array.replicate ops.size false) a w.drew (by simp) (by have:=hs.he;simp[this]) (wpAny_of_held _ _ _ _ h);rw[hn] at h1;exact h1
variable {P:Program} {ops:Array Oper} {Q:Exit->Act->World->Prop} {md:Region.Mode}
def zqZ (md:Region.Mode)(ops:Array Oper)(e:Nat):Bool :=
 (List.range ops.size).all (fun i=>((ops[i]?).map (fun o=>o.after.all fun x => !Region.binds md x || decide (x.on<i))).getD false&&(i==e || (List.range ops.size).any (fun j=>((ops[j]?).map (fun o=>o.after.any fun x=>Region.binds md x&&x.on==i)).getD false)))&&decide (e+1=ops.size)
structure ziH (md:Region.Mode)(ops:Array Oper)(e:Nat):Prop where
 he:e+1=ops.size
 fwd:∀ (i:Nat) (o:Oper),ops[i]?=some o->∀ x∈o.after,Region.binds md x=true->x.on<i
 all:∀ (i:Nat),i<ops.size->i≠e->∃ (j:Nat) (o:Oper),ops[j]?=some o/\∃ x∈o.after,Region.binds md x=true/\x.on=i
theorem zuA {e:Nat}(h:zqZ md ops e=true):ziH md ops e:=by
 unfold zqZ at h;simp only[zqbb,List.all_eq_true,List.mem_range,zqca] at h;obtain⟨h1,h2⟩:=h;refine⟨h2,fun i o ho x hx hb=>?_,fun i hi hne=>?_⟩
 ·have h3:=(h1 i (zqad.1 ho).1).1
  simp only[ho,Option.map_some,Option.getD_some,Array.all_eq_true_iff_forall_mem] at h3;have h4:=h3 x hx;simpa [hb] using h4
 ·have h3:=(h1 i hi).2
  simp only[Bool.or_eq_true,beq_iff_eq,hne,false_or,List.any_eq_true,List.mem_range] at h3;obtain⟨j,hj,h3⟩:=h3;cases ho:ops[j]? with
  | none=>simp[ho] at h3
  | some o =>
   simp only[ho,Option.map_some,Option.getD_some] at h3;obtain⟨k,hk,hb⟩:=Array.any_eq_true.1 h3;simp only[zqbb,beq_iff_eq] at hb;exact⟨j,o,ho,_,Array.getElem_mem hk,hb.1,hb.2⟩
def Closed (md:Region.Mode)(ops:Array Oper)(listed:Array Bool):Prop:=∀ (i:Nat) (o:Oper),ops[i]?=some o->listed.getD i false=true->∀ x∈o.after,Region.binds md x=true->listed.getD x.on false=true
theorem zuB (n:Nat):Closed md ops (Array.replicate n false):=by
 intro i o _ h;rw[Array.getD_eq_getD_getElem?,Array.getElem?_replicate] at h;split at h <;> simp at h
theorem zlF {l:Array Bool}{i j:Nat}(h:l.getD j false=true):(l.setIfInBounds i true).getD j false=true:=by
 by_cases e:i=j
 ·subst e
  simp at h ⊢;obtain⟨h1,_⟩:=zqad.1 (show l[i]?=some true by cases hx:l[i]? with|none=>simp[hx] at h|some b=>simp[hx] at h;rw[h]);simp[h1]
 ·rw[getD_set_ne false e];exact h
theorem zwT {listed:Array Bool}{i:Nat}(hc:Closed md ops listed)(hi:i∈Region.ready md ops listed):Closed md ops (listed.setIfInBounds i true):=by
 intro k o ho hk x hx hb
 by_cases e:i=k
 ·subst e
  rw[mem_ready] at hi;obtain⟨_,o2,ho2,h3⟩:=hi;rw[ho] at ho2;cases ho2;exact zlF (h3 x hx hb)
 ·rw[getD_set_ne false e] at hk
  exact zlF (hc k o ho hk x hx hb)
theorem zCg {listed:Array Bool}{e:Nat}(hok:ziH md ops e)(hc:Closed md ops listed)(he:e∈Region.ready md ops listed):∀ d i,i+d=e->i<e->listed.getD i false=true:=by
 intro d
 induction d using Nat.strongRecOn with
 | ind d ih =>
  intro i hd hi;obtain⟨j,o,ho,x,hx,hb,hxi⟩:=hok.all i (by have:=hok.he;omega) (by omega);have hlt:=hok.fwd j o ho x hx hb;have hjl:j<ops.size:=(zqad.1 ho).1;have hje:j<=e:=by have:=hok.he;omega
  by_cases e2:j=e
  ·subst e2
   rw[mem_ready] at he;obtain⟨_,o2,ho2,h3⟩:=he;rw[ho] at ho2;cases ho2;rw[<- hxi];exact h3 x hx hb
  ·have:=ih (e-j) (by omega) j (by omega) (by omega)
   rw[<- hxi];exact hc j o ho this x hx hb
theorem zzn {listed:Array Bool}{e:Nat}(hok:ziH md ops e)(hc:Closed md ops listed)(hl:listed.size=ops.size)(he:e∈Region.ready md ops listed):Region.ready md ops (listed.setIfInBounds e true)=[]:=by
 have hall:=zCg hok hc he;rw[List.eq_nil_iff_forall_not_mem];intro i hi;rw[mem_ready] at hi;obtain⟨h1,o,ho,_⟩:=hi;have hil:i<ops.size:=(zqad.1 ho).1
 by_cases hie:i=e
 ·subst hie
  have:i<listed.size:=by omega
  simp[this] at h1
 ·rw[getD_set_ne true (Ne.symm hie)] at h1
  have h4:=hall (e-i) i (by have:=hok.he;omega) (by have:=hok.he;omega);have:i<listed.size:=by omega
  simp[this] at h1 h4;rw[h1] at h4;cases h4
theorem zjw {listed:Array Bool}{e:Nat}(hok:ziH md ops e)(hl:listed.size=ops.size)(h:∀ i,i≠e->i ∉ Region.ready md ops listed):∀ i,i<ops.size->i≠e->listed.getD i false=true:=by
 intro i
 induction i using Nat.strongRecOn with
 | ind i ih =>
  intro hi hne;apply Classical.byContradiction;intro hn
  have hn:listed.getD i true=false:=by
   have hi2:i<listed.size:=by omega
   simp[hi2] at hn ⊢;exact hn
  refine h i hne ?_;rw[mem_ready];refine⟨hn,ops[i],zqbv hi,fun x hx hb=>?_⟩;have hlt:=hok.fwd i _ (zqbv hi) x hx hb;exact ih x.on hlt (by omega) (by have:=hok.he;omega)
theorem znR {listed:Array Bool}{e:Nat}(hok:ziH md ops e)(he:listed.getD e true=false)(h:∀ i,i<ops.size->i≠e->listed.getD i false=true):e∈Region.ready md ops listed:=by
 rw[mem_ready];have hel:e<ops.size:=by have:=hok.he;omega
 refine⟨he,ops[e]'hel,zqbv hel,fun x hx hb=>?_⟩;have hlt:=hok.fwd e _ (zqbv hel) x hx hb;exact h x.on (by omega) (by omega)
theorem zwU {e:Nat}(hok:ziH md ops e):∀ (fuel:Nat) (listed:Array Bool) (a:Act) (w:World),listed.size=ops.size->listed.getD e true=false->Closed md ops listed ->
  wpAny P md ops (ziu P ops Q e) fuel (listed.setIfInBounds e true) a w->wpAny P md ops Q (fuel+1) listed a w:=by
 intro fuel
 have fin:∀ (n:Nat) (listed:Array Bool) (a:Act) (w:World),Region.ready md ops (listed.setIfInBounds e true)=[]->ziu P ops Q e .normal a w->wpOp P ops Q e (wpAny P md ops Q n (listed.setIfInBounds e true)) a w:=by
  intro n listed a w hr h;refine wpOp_mono (fun a' w' h'=>?_) h;cases n with
  | zero=>exact⟨hr,h'⟩
  | succ n=>exact⟨fun _=>h',by rw[hr];simp⟩
 induction fuel with
 | zero =>
  intro listed a w hl he hc h;have hall:=zjw hok hl (fun i hi hr=>by have:=ready_mono hr hi;rw[h.1] at this;cases this);have hre:=znR hok he hall;refine⟨fun h0=>(by rw[h0] at hre;cases hre),fun i hi=>?_⟩
  by_cases hie:i=e
  ·subst hie;exact fin 0 listed a w h.1 h.2
  ·have:=ready_mono hi hie
   rw[h.1] at this;cases this
 | succ fuel ih =>
  intro listed a w hl he hc h;refine⟨fun h0=>?_,fun i hi=>?_⟩
  ·have hre:=znR hok he (zjw hok hl (fun i _ hr=>by rw[h0] at hr;cases hr))
   rw[h0] at hre;cases hre
  ·by_cases hie:i=e
   ·subst hie
    have hr:=zzn hok hc hl hi;exact fin (fuel+1) listed a w hr (h.1 hr)
   ·have h1:=zsx (h.2 i (ready_mono hi hie))
    refine wpOp_mono (fun a' w' h'=>?_) h1;refine ih (listed.setIfInBounds i true) a' w' (by simpa using hl) (by rw[getD_set_ne true hie];exact he) (zwT hc hi) ?_;rw[Array.setIfInBounds_comm _ _ hie];exact h'
theorem zpz {id e n:Nat}{a:Act}{w:World}(S:World->Prop)(hm:P.follows .mixedOrders=true)(hok:zqZ .any ops e=true)(hn:ops.size=n+1)
  (h:wpAnyH P .any ops (ziu P ops Q e) S n ((Array.replicate ops.size false).setIfInBounds e true) a w.drew):(Code.region id ops true).wp P Q a w:=by
 refine wp_region_any hm ?_;rw[hn];have hs:=zuA hok;have h1:=zwU hs n (Array.replicate ops.size false) a w.drew (by simp) (by have:=hs.he;simp[this,show e<ops.size by omega]) (zuB _) (wpAny_of_held _ _ _ _ h);rw[hn] at h1;exact h1
end Go.Proofs.YtaogepcaoogpgaaGreatDoor
