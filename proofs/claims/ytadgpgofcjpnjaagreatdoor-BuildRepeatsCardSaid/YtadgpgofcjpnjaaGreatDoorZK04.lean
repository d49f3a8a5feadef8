/- Part. -/
import Derived.Test.YtadgpgofcjpnjaaGreatDoorZK03
set_option linter.unusedVariables false
set_option linter.defProp false
set_option linter.unusedSimpArgs false
set_option maxRecDepth 100000
set_option maxHeartbeats 16000000
namespace Go.Proofs.YtadgpgofcjpnjaaGreatDoor
open Go.Proofs.Tryz
open Go.RowKit
open Go.Lib (nDigits)
def zkV (B gx cx gy cy:Nat)(xs ys:List Nat)(w:World)(hxb:zaO B w (.slice (some ⟨gx,0,none⟩) xs.length cx) xs)(hyb:zaO B w (.slice (some ⟨gy,0,none⟩) ys.length cy) ys)(hne:gx≠gy)
  (hx:∀ x∈xs,x<1000000000) (hy:∀ y∈ys,y<1000000000) (hxt:zcZ xs) (hyt:zcZ ys) (h0:ys≠[]) (hn:xs.length<=10000) (hBw:B<=w.heap.size) :
  Calls prog 189 #[.slice (some ⟨gx,0,none⟩) xs.length cx,.slice (some ⟨gy,0,none⟩) ys.length cy] w (zqG B gx gy xs ys w):=by
 rcases Nat.lt_or_ge xs.length ys.length with h|h;exact zsU B gx cx gy cy xs ys w hxb hne hx hxt hyt h;obtain⟨m,hm⟩:∃ m,ys.length=m+1:=⟨ys.length-1,by have:=List.length_pos_iff.2 h0;omega⟩;exact zuW B gx cx gy cy m xs ys w hxb hyb hne hx hy hyt hm h hn hBw
def zdK (a b:ByteArray):Value :=
 if zas a&&zas b then (if nv b=0 then .tuple #[.string ⟨#[]⟩,.string ⟨#[]⟩,.int .i64 4] else .tuple #[.string (zal (nv a/nv b)),.string (zal (nv a%nv b)),.int .i64 0])
 else .tuple #[.string ⟨#[]⟩,.string ⟨#[]⟩,.int .i64 1]
def zfh (a b:ByteArray):Value:=if zas a&&zas b then .tuple #[.string (zal (Nat.gcd (nv a) (nv b))),.int .i64 0] else ziI
def zsW (b:ByteArray)(h:zas b=true):(b.toList==[48])=decide (nv b=0):=by
 rw[Lib.toList_data]
 by_cases hz:nv b=0
 ·have:=(zcE b h).1
  rw[hz] at this;rw[this,zkT,Lib.decDigits_one (by decide)];simp[hz];rw[<- this,hz]
 have:b.data.toList≠[48]:=by
  intro e;apply hz;unfold nv;rw[e];rfl
 simp[hz,this]
def znU {xs:List Nat}(h:zcZ xs):xs=[]↔vl 1000000000 xs=0:=(zwA 1000000000 (by decide) xs h).symm
structure zdh (B gx cx gy cy:Nat)(xs ys:List Nat)(w0 wr:World)(G:Nat):Prop where
 xb:zaO B wr (.slice (some ⟨gx,0,none⟩) xs.length cx) xs
 yb:zaO B wr (.slice (some ⟨gy,0,none⟩) ys.length cy) ys
 ne:gx≠gy
 xlt:∀ x∈xs,x<1000000000
 ylt:∀ y∈ys,y<1000000000
 xt:zcZ xs
 yt:zcZ ys
 g:Nat.gcd (vl 1000000000 xs) (vl 1000000000 ys)=G
 xn:xs.length<=10000
 yn:ys.length<=10000
 bel:Below B w0 wr
 bs:B<=wr.heap.size
def zdh.step {B gx cx gy cy:Nat}{xs ys:List Nat}{w0 wr w':World}{G:Nat}(h:zdh B gx cx gy cy xs ys w0 wr G)(h0:ys≠[]){qv:Value}{qs rs:List Nat}{gr cr:Nat}
  (hd:zpo B gx gy xs ys wr w' qv qs gr cr rs):zdh B gy cy gr cr ys rs w0 w' G/\vl 1000000000 rs<vl 1000000000 ys:=by
 have hpos:0<vl 1000000000 ys:=by
  rcases Nat.eq_zero_or_pos (vl 1000000000 ys) with e|e;exact absurd ((znU h.yt).2 e) h0;exact e
 have hlt:vl 1000000000 rs<vl 1000000000 ys:=by rw[hd.rv];exact Nat.mod_lt _ hpos
 refine⟨⟨h.yb.grown hd.gr (by have:=h.ne;simp[Value.ownBlock];omega),hd.rb,fun e=>hd.rne e.symm,h.ylt,hd.rlt,h.yt,hd.rt,?_,h.yn,?_,?_,?_⟩,hlt⟩;rw[hd.rv,<- h.g,Nat.gcd_comm (vl 1000000000 xs),Nat.gcd_rec (vl 1000000000 ys) (vl 1000000000 xs),Nat.gcd_comm];exact zqam (zyT ys rs h.ylt hd.rt (by omega)) h.yn
 ·refine h.bel.trans (below_grown hd.gr h.bs ?_)
  intro k hk;simp at hk;subst hk;exact(h.xb.lt gx rfl).1
 exact zqam h.bs hd.gr.size
def zFu (B G:Nat)(w:World)(e:Ending)(w':World):Prop :=
 ∃ g c zs,e=.returned (.slice (some ⟨g,0,none⟩) zs.length c)/\zaO B w' (.slice (some ⟨g,0,none⟩) zs.length c) zs/\(∀ z∈zs,z<1000000000)/\vl 1000000000 zs=G/\zs.length<=10000/\Below B w w'
def zos {xs:List Nat}{n:Nat}(hn:2<=n)(hx:∀ x∈xs,x<1000000000)(hl:xs.length<=n):vl 1000000000 xs/1000000000 ^ (n-2)=ziK xs (n:Int):=by
 have e1:zcK xs ((n:Int)-1)=xs.getD (n-1) 0:=by unfold zcK;rw[if_neg (by omega)];congr 1;omega
 have e2:zcK xs ((n:Int)-2)=xs.getD (n-2) 0:=by unfold zcK;rw[if_neg (by omega)];congr 1;omega
 unfold ziK;rw[e1,e2];have h1:=zaU 1000000000 xs (n-2);have h2:=zaU 1000000000 xs (n-1);rw[show n-2+1=n-1 by omega] at h1;rw[show n-1+1=n by omega,zqaf hl] at h2;have h3:=zcv 1000000000 (xs.take (n-2)) (fun x hm=>hx x (zqau hm));have h4:(1000000000:Nat) ^ (xs.take (n-2)).length<=1000000000 ^ (n-2):=zqay (by decide) (by rw[zqan];omega);have h5:(1000000000:Nat) ^ (n-1)=1000000000 ^ (n-2)*1000000000:=by rw[<- zqbp];congr 1;omega
 rw[h2,h1,h5];have hP:0<(1000000000:Nat) ^ (n-2):=Nat.pow_pos (by decide);generalize (1000000000:Nat) ^ (n-2)=P at *;generalize xs.getD (n-1) 0=g1 at *;generalize xs.getD (n-2) 0=b at *;obtain⟨a,ha⟩:∃ a,g1*1000000000=a:=⟨_,rfl⟩;have h6:P*1000000000*g1=P*a:=by rw[<- ha,zqav,zqbc 1000000000]
 rw[h6,ha];clear h6 ha h5 h1 h2 e1 e2;have e3:vl 1000000000 (xs.take (n-2))+P*b+P*a=vl 1000000000 (xs.take (n-2))+P*(a+b):=by rw[zqbh];omega
 rw[e3,Nat.add_mul_div_left _ _ hP,Nat.div_eq_of_lt (by omega),zqat]
def zmb (B G:Nat)(ys:List Nat)(w:World)(e:Ending)(w':World):Prop :=
 ∃ gx cx,∃ (xs':List Nat),∃ gy cy,∃ (ys':List Nat),e=.returned (.tuple #[.slice (some ⟨gx,0,none⟩) xs'.length cx,.slice (some ⟨gy,0,none⟩) ys'.length cy])/\zdh B gx cx gy cy xs' ys' w w' G/\vl 1000000000 ys'<vl 1000000000 ys
def zrG {B gx cx gy cy:Nat}{xs ys:List Nat}{w:World}{G:Nat}(h:zdh B gx cx gy cy xs ys w w G)(h0:ys≠[]){qv:Value}{qs rs:List Nat}{gr cr:Nat}{w1 w':World}(hg:w.grownBy w1 none)
  (hd:zpo B gx gy xs ys w1 w' qv qs gr cr rs):zdh B gy cy gr cr ys rs w w' G/\vl 1000000000 rs<vl 1000000000 ys:=by
 have h1:zdh B gx cx gy cy xs ys w w1 G:=⟨h.xb.grown hg (by simp),h.yb.grown hg (by simp),h.ne,h.xlt,h.ylt,h.xt,h.yt,h.g,h.xn,h.yn,below_grown hg h.bs (by simp),zqam h.bs hg.size⟩;exact h1.step h0 hd
def zdh.later {B gx cx gy cy:Nat}{xs ys:List Nat}{w:World}{G:Nat}(h:zdh B gx cx gy cy xs ys w w G){g1 g2 n A C:Nat}{zs ts:List Nat}{w':World}(hn:n<=10000)
  (hz:zaO w.heap.size w' (.slice (some ⟨g1,0,none⟩) zs.length n) zs) (ht:zaO w.heap.size w' (.slice (some ⟨g2,0,none⟩) ts.length n) ts) (hne:g1≠g2) (z1:∀ z∈zs,z<1000000000) (t1:∀ z∈ts,z<1000000000)
  (z2:vl 1000000000 zs=A) (t2:vl 1000000000 ts=C) (z3:zcZ zs) (t3:zcZ ts) (z4:zs.length<=n) (t4:ts.length<=n) (hG:Nat.gcd A C=Nat.gcd (vl 1000000000 xs) (vl 1000000000 ys)) (hg:w.grownBy w' none) :
  zdh B g1 n g2 n zs ts w w' G :=
 ⟨hz.base h.bs,ht.base h.bs,hne,z1,t1,z3,t3,by rw[z2,t2,hG];exact h.g,by omega,by omega,below_grown hg h.bs (by simp),zqam h.bs hg.size⟩
def zuY (B gx cx gy cy G:Nat)(xs ys:List Nat)(w:World)(h:zdh B gx cx gy cy xs ys w w G)(h0:ys≠[])(hl:xs.length<ys.length) :
  Calls prog 201 #[.slice (some ⟨gx,0,none⟩) xs.length cx,.slice (some ⟨gy,0,none⟩) ys.length cy] w (zmb B G ys w):=by
 have hd:=fun(w1:World) (hg:w.grownBy w1 none)=>zkV B gx cx gy cy xs ys w1 (h.xb.grown hg (by simp)) (h.yb.grown hg (by simp)) h.ne h.xlt h.ylt h.xt h.yt h0 h.xn (zqam h.bs hg.size);have t1:decide (ys.length<=xs.length)=false:=by simp;omega
 have t1':decide ((ys.length:Int)<=(xs.length:Int))=false:=by simp;omega
 have H:=zHd (zAI h h0);have HD:=zHd hd;clear h hd h0 hl;go_enter func201,ntmps201;go_wp2_with fail;refine(HD.out _ (zGA _ _ none)).mono ?_;rintro e w' ⟨qv,qs,gr,cr,rs,rfl,hok⟩;obtain⟨h1,h2⟩:=zrG H.out.1 H.out.2 (zGA _ _ none) hok;exact zQbL
def zzc {w w1:World}(h:(w.alloc (.cells #[.int .u64 0,.int .u64 0,.int .u64 0,.int .u64 0,.bool false] 194)).grownBy w1 none):w1.heap[w.heap.size]?=some (.cells #[.int .u64 0,.int .u64 0,.int .u64 0,.int .u64 0,.bool false] 194 (0,0)):=by
 rw[h.block w.heap.size (by simp) (by simp)];exact zQbm
def zzd {w1:World}{g a b c d:Nat}{sw:Bool}(h:w1.heap[g]?=some (.cells #[.int .u64 0,.int .u64 0,.int .u64 0,.int .u64 0,.bool false] 194 (0,0))) :
  zca (((((w1.setCell ⟨g,0,none⟩ (.int .u64 (a:Int))).setCell ⟨g,1,none⟩ (.int .u64 (b:Int))).setCell ⟨g,2,none⟩ (.int .u64 (c:Int))).setCell ⟨g,3,none⟩ (.int .u64 (d:Int))).setCell ⟨g,4,none⟩ (.bool sw)) g a b c d sw:=by
 have h0:zca w1 g 0 0 0 0 false:=h;exact((((h0.set0 a).set1 b).set2 c).set3 d).set4 sw
structure zsz (w w':World)(R n g:Nat)(zs:List Nat):Prop where
 b:zaO w.heap.size w' (.slice (some ⟨g,0,none⟩) zs.length n) zs
 lt:∀ z∈zs,z<1000000000
 v:vl 1000000000 zs=R
 t:zcZ zs
 n:zs.length<=n
 gr:w.grownBy w' none
structure Ask (w:World)(n:Nat)(v1:Value)(f:Int)(v2:Value)(g:Int)(R:Nat):Prop where
 use:∀ w',w.grownBy w' none->Calls prog 214 #[v1,.int .u64 f,v2,.int .u64 g] w' fun e w''=>∃ gb zs,e=.returned (.slice (some ⟨gb,0,none⟩) zs.length n)/\zsz w' w'' R n gb zs
def zpr {w:World}{f g n R:Nat}{A1 A2:Option Addr}{c1 c2:Nat}{xs ys:List Nat}(hsx:∀ w1,w.grownBy w1 none->zgO w1 (.slice A1 xs.length c1) xs)(hsy:∀ w1,w.grownBy w1 none->zgO w1 (.slice A2 ys.length c2) ys)
  (hf:f<=1000000000) (hg:g<=1000000000) (hx:∀ x∈xs,x<1000000000) (hy:∀ y∈ys,y<1000000000) (hm:max xs.length ys.length=n) (hn:n<=10000)
  (hR:R+g*vl 1000000000 ys=f*vl 1000000000 xs) (hlt:R<1000000000 ^ n):Ask w n (.slice A1 xs.length c1) f (.slice A2 ys.length c2) g R:=⟨fun w' hw=>by
 refine(zqH f g n R A1 A2 c1 c2 xs ys w' (fun w1 h=>hsx w1 (zaa hw h)) (fun w1 h=>hsy w1 (zaa hw h)) hf hg hx hy hm hn hR hlt).mono ?_;rintro e w'' ⟨gb,zs,rfl,h1,h2,h3,h4,h5,h6⟩;exact⟨gb,zs,rfl,h1,h2,h3,h4,h5,h6⟩⟩
def znx {w w':World}{n:Nat}{v1 v2:Value}{f g:Int}{R:Nat}{Q:Ending->World->Prop}(h:Ask w n v1 f v2 g R)(hw:w.grownBy w' none)(hq:∀ gb zs w'',zsz w' w'' R n gb zs->Q (.returned (.slice (some ⟨gb,0,none⟩) zs.length n)) w'') :
  Calls prog 214 #[v1,.int .u64 f,v2,.int .u64 g] w' Q:=(h.use w' hw).mono (by rintro e w'' ⟨gb,zs,rfl,h⟩;exact hq gb zs w'' h)
def zrH {B gx cx gy cy G n A C ga gc:Nat}{xs ys zs ts:List Nat}{w w2 w3 w4:World}(h:zdh B gx cx gy cy xs ys w w G)(hn:n<=10000)(hw:w.grownBy w2 none)(hG:Nat.gcd A C=Nat.gcd (vl 1000000000 xs) (vl 1000000000 ys))
  (h1:zsz w2 w3 A n ga zs) (h2:zsz w3 w4 C n gc ts):zdh B ga n gc n zs ts w w4 G:=by
 have l1:=(h1.b.lt ga rfl).2;have l2:=(h2.b.lt gc rfl).1;exact h.later hn ((h1.b.grown h2.gr (by simp)).base hw.size) (h2.b.base (zqam hw.size h1.gr.size)) (by omega) h1.lt h2.lt h1.v h2.v h1.t h2.t h1.n h2.n hG (zaa (zaa hw h1.gr) h2.gr)
def zwH (B gx cx gy cy G:Nat)(xs ys:List Nat)(w:World)(h:zdh B gx cx gy cy xs ys w w G)(h0:ys≠[])(hl:ys.length<=xs.length)(h2:2<xs.length) :
  Calls prog 201 #[.slice (some ⟨gx,0,none⟩) xs.length cx,.slice (some ⟨gy,0,none⟩) ys.length cy] w (zmb B G ys w):=by
 have hsx:∀ w1,w.grownBy w1 none->zgO w1 (.slice (some ⟨gx,0,none⟩) xs.length cx) xs:=fun w1 hg=>(h.xb.grown hg (by simp)).sees;have hsy:∀ w1,w.grownBy w1 none->zgO w1 (.slice (some ⟨gy,0,none⟩) ys.length cy) ys:=fun w1 hg=>(h.yb.grown hg (by simp)).sees;have ht1:=fun w1 hg=>znw w1 _ xs (xs.length:Int) (hsx w1 hg) h.xlt h.xn (by omega) (by have:=h.xn;omega);have ht2:=fun w1 hg=>znw w1 _ ys (xs.length:Int) (hsy w1 hg) h.ylt h.yn (by omega) (by have:=h.xn;omega);have hfo:=fun w1=>zuX (ziK xs xs.length) (ziK ys xs.length) w1 (znv h.xlt _) (znv h.ylt _);have hq1:=zos (n:=xs.length) (by omega) h.xlt (zqab _);have hq2:=zos (n:=xs.length) (by omega) h.ylt hl;generalize ziK xs xs.length=hx at *;generalize ziK ys xs.length=hy at *;have t1:decide (ys.length<=xs.length)=true:=by simp;omega
 have t1':decide ((ys.length:Int)<=(xs.length:Int))=true:=by simp;omega
 have H:=zHd (zAI h h0);have HT1:=zHd ht1;have HT2:=zHd ht2;have HFO:=zHd hfo;have HQ:=zHd (zAI hq1 hq2);have HL:=zHd (zAI hl h2);have HSX:=zHd hsx;have HSY:=zHd hsy;have HDV:=zHd (fun(w1:World) (hg:w.grownBy w1 none)=>zkV B gx cx gy cy xs ys w1 (h.xb.grown hg (by simp)) (h.yb.grown hg (by simp)) h.ne h.xlt h.ylt h.xt h.yt h0 h.xn (zqam h.bs hg.size));clear h h0 ht1 ht2 hfo hq1 hq2 hl h2 hsx hsy;go_enter func201,ntmps201;go_wp2_with fail;refine(HT1.out _ (zGA _ _ none)).mono ?_;rintro e w' ⟨rfl,rfl⟩;go_wp2_with fail;refine(HT2.out _ (zGA _ _ none)).mono ?_;rintro e w' ⟨rfl,rfl⟩;go_wp2_with fail;refine(HFO.out _).mono ?_;rintro e w1 ⟨x,y,a,b,c,d,ee,f,sw,rfl,hf,hg⟩;have hnew:=zzc hg;have h00:zca w1 w.heap.size 0 0 0 0 false:=hnew;obtain⟨k0,k1,k2,k3,k4,z0,z1,z2,z3,z4⟩:=h00.cells;have HG:=zHd (zaa (zGA _ _ none) hg);have HF:=zHd hf;have HW:=zHd hnew;clear hg hf h00 hnew;unfold stV
 by_cases hc:c=0
 ·have t2:decide (c=0)=true:=by simpa using hc
  have t2':((c:Int)==0)=true:=by simpa using hc
  go_wp2_with fail;refine(HDV.out _ (zfg HG.out (zai w1 none))).mono ?_;rintro e w' ⟨qv,qs,gr,cr,rs,rfl,hok⟩;obtain⟨h1,h2⟩:=zrG H.out.1 H.out.2 (zfg HG.out (zai w1 none)) hok;exact zQbL
 have t2:decide (c=0)=false:=by simpa using hc
 have t2':((c:Int)==0)=false:=by simpa using hc
 obtain⟨A,C,hlat⟩:=HF.out.out hc (P:=1000000000 ^ (xs.length-2)) (Nat.pow_pos (by decide)) HQ.out.1 HQ.out.2;have hY:=zcv 1000000000 ys H.out.1.ylt;have hYX:(1000000000:Nat) ^ ys.length<=1000000000 ^ xs.length:=zqay (by decide) HL.out.1;have hal:=HF.out.al;have hbl:=HF.out.bl;have hcl:=HF.out.cl;have hdl:=HF.out.dl;have hmax:max xs.length ys.length=xs.length:=Nat.max_eq_left HL.out.1;have hmax2:max ys.length xs.length=xs.length:=Nat.max_eq_right HL.out.1;have hst:=zzd (a:=a) (b:=b) (c:=c) (d:=d) (sw:=sw) HW.out;have hw2:=zfg (u0:=.int .u64 (a:Int)) (u1:=.int .u64 (b:Int)) (u2:=.int .u64 (c:Int)) (u3:=.int .u64 (d:Int)) (u4:=.bool sw) HG.out (zai w1 none);have hle:vl 1000000000 ys<1000000000 ^ xs.length:=by omega
 have HLT:=zHd (zAI hlat (zAI hle (zAI hmax hmax2)));have HB:=zHd (zAI hal (zAI hbl (zAI hcl hdl)));have HST:=zHd hst;have HW2:=zHd hw2;clear hlat hY hYX hal hbl hcl hdl hmax hmax2 hst hw2 hle;cases sw
 ·have hA1:Ask w xs.length (.slice (some ⟨gx,0,none⟩) xs.length cx) a (.slice (some ⟨gy,0,none⟩) ys.length cy) c A:=zpr HSX.out HSY.out (by have:=HB.out;omega) (by have:=HB.out;omega) H.out.1.xlt H.out.1.ylt HLT.out.2.2.1 H.out.1.xn (HLT.out.1.t2 rfl).1 (by have:=HLT.out.1.le;have:=HLT.out.2.1;omega)
  have hA2:Ask w xs.length (.slice (some ⟨gy,0,none⟩) ys.length cy) d (.slice (some ⟨gx,0,none⟩) xs.length cx) b C:=zpr HSY.out HSX.out (by have:=HB.out;omega) (by have:=HB.out;omega) H.out.1.ylt H.out.1.xlt HLT.out.2.2.2 H.out.1.xn (HLT.out.1.t2 rfl).2 (by have:=HLT.out.1.le;have:=HLT.out.1.lt;have:=HLT.out.2.1;omega);go_wp2;have hst:=HST.out;have hw2:=HW2.out;have HST2:=zHd hst;generalize (((((w1.setCell ⟨w.heap.size,0,none⟩ (.int .u64 (a:Int))).setCell ⟨w.heap.size,1,none⟩ (.int .u64 (b:Int))).setCell ⟨w.heap.size,2,none⟩ (.int .u64 (c:Int))).setCell ⟨w.heap.size,3,none⟩ (.int .u64 (d:Int))).setCell ⟨w.heap.size,4,none⟩ (.bool false))=w2 at *;clear hst hw2 k0 k1 k2 k3 k4;have hw2d:w.grownBy w2.drew none:=zaa HW2.out (zag _ _);have hsd:zca w2.drew w.heap.size a b c d false:=HST2.out;obtain⟨k0,k1,k2,k3,_⟩:=hsd.cells;have HWD:=zHd hw2d;clear hsd
  go_region_held3 (fun W'=>W'.cell? ⟨w.heap.size,0,none⟩=some (.int .u64 (a:Int))/\W'.cell? ⟨w.heap.size,1,none⟩=some (.int .u64 (b:Int))/\W'.cell? ⟨w.heap.size,2,none⟩=some (.int .u64 (c:Int))/\W'.cell? ⟨w.heap.size,3,none⟩=some (.int .u64 (d:Int))) (go_keep)
   (first
    | (go_at_call 214;refine znx hA1 hw2d ?_;clear hA1;intro ga zs w3 hd1;have hw3:=zaa HWD.out hd1.gr;have s0:=hd1.gr.cell k0 (by simp);have s1:=hd1.gr.cell k1 (by simp);have s2:=hd1.gr.cell k2 (by simp);have s3:=hd1.gr.cell k3 (by simp))
    | (go_at_call 214;refine znx hA2 hw3 ?_;clear hA2;intro gc ts w4 hd2;have t0:=hd2.gr.cell s0 (by simp);have t1:=hd2.gr.cell s1 (by simp);have t2:=hd2.gr.cell s2 (by simp);have t3:=hd2.gr.cell s3 (by simp)))
  all_goals
   exact zQbr
 have hA1:Ask w xs.length (.slice (some ⟨gy,0,none⟩) ys.length cy) c (.slice (some ⟨gx,0,none⟩) xs.length cx) a A:=zpr HSY.out HSX.out (by have:=HB.out;omega) (by have:=HB.out;omega) H.out.1.ylt H.out.1.xlt HLT.out.2.2.2 H.out.1.xn (HLT.out.1.t1 rfl).1 (by have:=HLT.out.1.le;have:=HLT.out.2.1;omega);have hA2:Ask w xs.length (.slice (some ⟨gx,0,none⟩) xs.length cx) b (.slice (some ⟨gy,0,none⟩) ys.length cy) d C:=zpr HSX.out HSY.out (by have:=HB.out;omega) (by have:=HB.out;omega) H.out.1.xlt H.out.1.ylt HLT.out.2.2.1 H.out.1.xn (HLT.out.1.t1 rfl).2 (by have:=HLT.out.1.le;have:=HLT.out.1.lt;have:=HLT.out.2.1;omega);go_wp2;have hst:=HST.out;have hw2:=HW2.out;have HST2:=zHd hst;generalize (((((w1.setCell ⟨w.heap.size,0,none⟩ (.int .u64 (a:Int))).setCell ⟨w.heap.size,1,none⟩ (.int .u64 (b:Int))).setCell ⟨w.heap.size,2,none⟩ (.int .u64 (c:Int))).setCell ⟨w.heap.size,3,none⟩ (.int .u64 (d:Int))).setCell ⟨w.heap.size,4,none⟩ (.bool true))=w2 at *;clear hst hw2 k0 k1 k2 k3 k4;have hw2d:w.grownBy w2.drew none:=zaa HW2.out (zag _ _);have hsd:zca w2.drew w.heap.size a b c d true:=HST2.out;obtain⟨k0,k1,k2,k3,_⟩:=hsd.cells;have HWD:=zHd hw2d;clear hsd
 go_region_held3 (fun W'=>W'.cell? ⟨w.heap.size,0,none⟩=some (.int .u64 (a:Int))/\W'.cell? ⟨w.heap.size,1,none⟩=some (.int .u64 (b:Int))/\W'.cell? ⟨w.heap.size,2,none⟩=some (.int .u64 (c:Int))/\W'.cell? ⟨w.heap.size,3,none⟩=some (.int .u64 (d:Int))) (go_keep)
  (first
   | (go_at_call 214;refine znx hA1 hw2d ?_;clear hA1;intro ga zs w3 hd1;have hw3:=zaa HWD.out hd1.gr;have s0:=hd1.gr.cell k0 (by simp);have s1:=hd1.gr.cell k1 (by simp);have s2:=hd1.gr.cell k2 (by simp);have s3:=hd1.gr.cell k3 (by simp))
   | (go_at_call 214;refine znx hA2 hw3 ?_;clear hA2;intro gc ts w4 hd2;have t0:=hd2.gr.cell s0 (by simp);have t1:=hd2.gr.cell s1 (by simp);have t2:=hd2.gr.cell s2 (by simp);have t3:=hd2.gr.cell s3 (by simp)))
 all_goals
  exact zQbr
def zze (B gx cx gy cy G:Nat)(xs ys:List Nat)(w:World)(h:zdh B gx cx gy cy xs ys w w G)(h0:ys≠[])(h2:2<max xs.length ys.length) :
  Calls prog 201 #[.slice (some ⟨gx,0,none⟩) xs.length cx,.slice (some ⟨gy,0,none⟩) ys.length cy] w (zmb B G ys w):=by
 rcases Nat.lt_or_ge xs.length ys.length with hl|hl;exact zuY B gx cx gy cy G xs ys w h h0 hl;exact zwH B gx cx gy cy G xs ys w h h0 hl (by omega)
def zkW {xs:List Nat}(hx:∀ x∈xs,x<1000000000)(hl:xs.length<=2):ziK xs 2=vl 1000000000 xs:=by
 have h:=zos (n:=2) (zqab 2) hx hl;rw[zqbr,Nat.pow_zero,Nat.div_one] at h;exact h.symm
def zdh.self {B gx cx gy cy:Nat}{xs ys:List Nat}{w wr:World}{G:Nat}(h:zdh B gx cx gy cy xs ys w wr G):zdh B gx cx gy cy xs ys wr wr G :=
 ⟨h.xb,h.yb,h.ne,h.xlt,h.ylt,h.xt,h.yt,h.g,h.xn,h.yn,Below.refl _ _,h.bs⟩
def zGU (a:Nat):vl 1000000000 [a%1000000000,a/1000000000]=a:=by
 have:=zqbt a 1000000000;simp only[vl];omega
def zuZ (B gx cx gy cy G:Nat)(xs ys:List Nat)(w:World)(h:zdh B gx cx gy cy xs ys w w G) :
  Calls prog 188 #[.slice (some ⟨gx,0,none⟩) xs.length cx,.slice (some ⟨gy,0,none⟩) ys.length cy] w (zFu B G w):=by
 have H:=zHd h;clear h;go_enter func188,ntmps188;go_wp2
 go_loopg [0,1] (vl 1000000000 ys) (fun n x y wr=>∃ gx cx xs gy cy ys,x=.slice (some ⟨gx,0,none⟩) xs.length cx/\y=.slice (some ⟨gy,0,none⟩) ys.length cy/\zdh B gx cx gy cy xs ys w wr G/\vl 1000000000 ys=n)
 case atStart=>exact⟨_,_,_,_,_,_,rfl,rfl,H.out,rfl⟩
 case round =>
  obtain⟨gx,cx,xs,gy,cy,ys,rfl,rfl,zI,hgk⟩:=hrel
  by_cases h0:ys=[]
  ·subst h0
   have HI:=zHd zI;clear zI hgk;have f1:¬ ((0:Int)<((([]:List Nat).length:Nat):Int)):=by simp
   go_wp2;go_ret;have hi:=HI.out;exact⟨gx,cx,xs,rfl,hi.xb,hi.xlt,by rw[<- hi.g];simp[vl],hi.xn,hi.bel⟩
  have hl:(0:Int)<(ys.length:Int):=by have:=List.length_pos_iff.2 h0;omega
  have hl1:decide (0<ys.length)=true:=by have:=List.length_pos_iff.2 h0;simpa using this
  by_cases h2:2<max xs.length ys.length
  ·have e2:(2:Int)<max (xs.length:Int) (ys.length:Int):=by omega
   have e2':decide ((2:Int)<max (xs.length:Int) (ys.length:Int))=true:=(by simpa using e2);have hd:=zze B gx cx gy cy G xs ys wr zI.self h0 h2;have HI:=zHd zI;have HD:=zHd hd;have H0:=zHd h0;have HGK:=zHd hgk;have H2:=zHd h2;clear zI hd h0 hgk h2;go_wp2_with fail;refine HD.out.mono ?_;rintro e w' ⟨gx2,cx2,xs2,gy2,cy2,ys2,rfl,hok,hlt⟩;have HS:=zHd hok;have HL:=zHd hlt;clear hok hlt;go_wp2
   go_roundg (vl 1000000000 ys2)
   case measure=>rw[<- HGK.out];exact HL.out
   case rel=>exact⟨_,_,_,_,_,_,rfl,rfl,⟨HS.out.xb,HS.out.yb,HS.out.ne,HS.out.xlt,HS.out.ylt,HS.out.xt,HS.out.yt,HS.out.g,HS.out.xn,HS.out.yn,HI.out.bel.trans HS.out.bel,HS.out.bs⟩,rfl⟩
  have e2:¬ (2:Int)<max (xs.length:Int) (ys.length:Int):=by omega
  have e2':decide ((2:Int)<max (xs.length:Int) (ys.length:Int))=false:=(by simpa using e2);have hne:¬ (ys.length:Int)=0:=(by omega);have hne2:((ys.length:Int)==0)=false:=(by simpa using hne);have ht1:=znw wr _ xs 2 zI.xb.sees zI.xlt zI.xn (by omega) (by omega);have ht2:=znw wr _ ys 2 zI.yb.sees zI.ylt zI.yn (by omega) (by omega);rw[zkW zI.xlt (by omega)] at ht1;rw[zkW zI.ylt (by omega)] at ht2;have l1:=znv zI.xlt 2;have l2:=znv zI.ylt 2;rw[zkW zI.xlt (by omega)] at l1;rw[zkW zI.ylt (by omega)] at l2;have hg:=zI.g;generalize vl 1000000000 xs=a0 at *;generalize vl 1000000000 ys=b0 at *;have HI:=zHd zI;have HT1:=zHd ht1;have HT2:=zHd ht2;have HG:=zHd (zAI hg (zAI l1 l2));clear zI ht1 ht2 hg l1 l2 h2 h0 hgk;go_wp2_with fail;refine HT1.out.mono ?_;rintro e w' ⟨rfl,rfl⟩;go_wp2_with fail;refine HT2.out.mono ?_;rintro e w' ⟨rfl,rfl⟩;go_wp2;generalize hw1:wr=w1 at *;clear hw1
  go_loopw [5,6] (fun av bv wr=>∃ a b:Nat,av=.int .u64 (a:Int)/\bv=.int .u64 (b:Int)/\Nat.gcd a b=G/\a<1000000000000000000/\b<1000000000000000000/\w1.grownBy wr none) (fun _ bv _=>(intOf bv).toNat)
  case atStart=>exact⟨a0,b0,rfl,rfl,HG.out.1,HG.out.2.1,HG.out.2.2,zai _ _⟩
  case round =>
   obtain⟨a,b,rfl,rfl,hab,ha,hb,hgr⟩:=hrel
   by_cases hb0:b=0
   ·subst hb0
    have ea:a=G:=(by rw[<- hab];simp);subst ea;obtain⟨p,hp⟩:∃ p,a%1000000000=p:=⟨_,rfl⟩;obtain⟨q,hq⟩:∃ q,a/1000000000=q:=⟨_,rfl⟩;have m1:(a:Int)%1000000000=(p:Int):=(by omega);have m2:(a:Int)/1000000000=(q:Int):=(by omega);have m3:IntKind.u64.wrap (p:Int)=(p:Int):=(by rw[IntKind.wrap_u64];omega);have m4:IntKind.u64.wrap (q:Int)=(q:Int):=(by rw[IntKind.wrap_u64];omega);have hv:=zGU a;rw[hp,hq] at hv;have HR:=zHd (zAI hgr (zAI hv (zAI ha (zAI hp hq))));have htr:=fun(W:World) (hW:zaS W wr.heap.size (uv [p,q]))=>zkR wr.heap.size wr.heap.size 2 [p,q] W (zaO.of_cells hW (zqab _) rfl (by unfold maxLen;omega) (by rw[zqaf (by rw[zaN];exact zqab _)]) (zqab _)) (by simp);have HT:=zHd htr;clear hab ha hb hgr hv hp hq htr;go_wp2_with fail;refine(HT.out _ ?cells).mono ?_
    case cells =>
     show(wr.heap.push _)[wr.heap.size]?=_;rw[zqaz];rfl
    rintro e w' ⟨m,hm,rfl,rfl,hv2,ht⟩;have HP:=zHd (zAI hm (zAI hv2 ht));clear hm hv2 ht;go_wp2;go_ret;obtain⟨hm,hv2,ht⟩:=HP.out;obtain⟨hgr,hv,ha,hp,hq⟩:=HR.out;have hm2:m<=2:=hm;have hl2:([p,q].take m).length=m:=(by rw[zqan];simp;omega);refine⟨wr.heap.size,2,[p,q].take m,by rw[hl2];rfl,?_,fun z hz=>?_,by rw[hv2];exact hv,by omega,?_⟩
    ·have hbs:=HI.out.bs
     refine zaO.of_cells (l:=uv [p,q]) ?_ (zqam hbs hgr.size) rfl (by unfold maxLen;omega) (by rw[zns,hl2]) (by omega);show(wr.heap.push _)[wr.heap.size]?=_;rw[zqaz];rfl
    ·have:=zqau hz
     simp at this;omega
    exact HI.out.bel.trans (below_grown (zaa hgr (zGA _ _ none)) HI.out.bs (by simp))
   have hb1:¬ (b:Int)=0:=by omega
   have hb2:decide (0<b)=true:=(by simp;omega);have hb3:decide ((0:Int)<(b:Int))=true:=(by simp;omega);have hmod:a%b<b:=Nat.mod_lt _ (by omega);have zS':Nat.gcd b (a%b)=G:=(by rw[<- hab,Nat.gcd_comm a b,Nat.gcd_rec b a,Nat.gcd_comm]);obtain⟨r,hr⟩:∃ r,a%b=r:=⟨_,rfl⟩;rw[hr] at hmod zS';have e1:(a:Int)%(b:Int)=(r:Int):=(by rw[<- Int.natCast_emod,hr]);have HR:=zHd (zAI hgr (zAI hmod (zAI zS' hb)));clear hab ha hb hb0 hmod zS' hgr hr;go_wp2
   go_quiet (fail)
   go_wp2;obtain⟨hgr,hmod,zS',hb⟩:=HR.out;exact⟨⟨b,r,rfl,by rw[e1],zS',hb,by omega,zaa hgr (zce _ _ _)⟩,by rw[e1];simpa [intOf] using hmod⟩
open Go.RowKit
open Go.Lib (nDigits)
def zvS (a b:ByteArray)(w:World)(ha:a.size<=maxLen)(hb:b.size<=maxLen) :
  Calls prog 176 #[.string a,.string b] w (zab (zdK a b) w):=by
 have va:=fun w=>zdg a w ha;have vb:=fun w=>zdg b w hb;unfold maxLen at ha hb;cases hna:zas a
 ·have HV:=zHd (show zdK a b=.tuple #[.string ⟨#[]⟩,.string ⟨#[]⟩,.int .i64 1] by unfold zdK;rw[hna];rfl)
  simp only[hna] at va;clear vb hna;go_enter func176,ntmps176;go_wp2_with (go_at_call 170;refine(va _).mono ?_;rintro e w' ⟨rfl,rfl⟩)
  go_ret3
  exact zQbl
 cases hnb:zas b
 ·have HV:=zHd (show zdK a b=.tuple #[.string ⟨#[]⟩,.string ⟨#[]⟩,.int .i64 1] by unfold zdK;rw[hnb,Bool.and_false];rfl)
  simp only[hna] at va;simp only[hnb] at vb;clear hna hnb;go_enter func176,ntmps176;go_wp2_with fail;refine(va _).mono ?_;rintro e w' ⟨rfl,rfl⟩;go_wp2_with fail;refine(vb _).mono ?_;rintro e w' ⟨rfl,rfl⟩;go_wp2
  go_ret3
  exact zQbl
 have hzs:=zsW b hnb
 by_cases hz:nv b=0
 ·have HV:=zHd (show zdK a b=.tuple #[.string ⟨#[]⟩,.string ⟨#[]⟩,.int .i64 4] by unfold zdK;rw[hna,hnb];simp only[Bool.and_self,if_true];rw[if_pos hz])
  have f1:(b.toList==[48])=true:=by rw[hzs];simp[hz]
  simp only[hna] at va;simp only[hnb] at vb;clear hna hnb hz hzs;go_enter func176,ntmps176;go_wp2_with fail;refine(va _).mono ?_;rintro e w' ⟨rfl,rfl⟩;go_wp2_with fail;refine(vb _).mono ?_;rintro e w' ⟨rfl,rfl⟩;go_wp2
  go_ret3
  exact zQbl
 have HV:=zHd (show zdK a b=.tuple #[.string (zal (nv a/nv b)),.string (zal (nv a%nv b)),.int .i64 0] by unfold zdK;rw[hna,hnb];simp only[Bool.and_self,if_true];rw[if_neg hz]);have f1:(b.toList==[48])=false:=by rw[hzs];simp[hz]
 have HZ:=zHd hz;clear hz hzs;have ra:=fun w=>zeU a w hna;have rb:=fun w=>zeU b w hnb;simp only[hna] at va;simp only[hnb] at vb;clear hna hnb;go_enter func176,ntmps176;go_wp2_with fail;refine(va _).mono ?_;rintro e w' ⟨rfl,rfl⟩;go_wp2_with fail;refine(vb _).mono ?_;rintro e w' ⟨rfl,rfl⟩;go_wp2_with fail;refine(ra _).mono ?_;rintro e w1 ⟨gx,cx,xs,rfl,hbx,hgx,hxl,hxv,hxt,hxn,hg1⟩;have HBX:=zHd hbx;have HXL:=zHd hxl;have HXV:=zHd hxv;have HG1:=zHd hg1;have HXT:=zHd hxt;clear hbx hxl hxv hxt hg1 ra va vb;go_wp2_with fail;refine(rb _).mono ?_;rintro e w2 ⟨gy,cy,ys,rfl,hby,hgy,hyl,hyv,hyt,hyn,hg2⟩;have hne:gx≠gy:=by have:=(HBX.out.lt gx rfl).2;omega
 have hy0:ys≠[]:=by
  intro e;have:=(znU hyt).1 e;rw[hyv] at this;exact HZ.out this
 have hsz:=hg2.size;have hsz1:=HG1.out.size;have hd:=zkV w.heap.size gx cx gy cy xs ys w2 (HBX.out.grown hg2 (by simp)) (hby.base (by omega)) hne HXL.out hyl HXT.out hyt hy0 (by omega) (by omega);have HD:=zHd hd;have HG2:=zHd hg2;have HYV:=zHd hyv;clear hby hyl hyv hyt hg2 hd rb hy0;go_wp2_with fail;refine HD.out.mono ?_;rintro e w3 ⟨qv,qs,gr,cr,rs,rfl,hok⟩;have hw1:=zis qv qs w3 hok.qb hok.qlt (by have:=hok.qn;omega);have hrb:=hok.rb;have hrl:=hok.rlt;have hrn:=hok.rn;have e1:=hok.qv;have e2:=hok.rv;have hg3:=hok.gr;rw[HXV.out,HYV.out] at e1 e2;rw[e1] at hw1;have hw2:=fun(w':World) (h:w3.grownBy w' none)=>zis _ rs w' ((hrb.base (zqaw _)).grown h (by simp)) hrl (by omega);rw[e2] at hw2;have HW1:=zHd hw1;have HW2:=zHd hw2;have HG3:=zHd hg3;clear hok hw1 hw2 hrb hrl e1 e2 hg3 HD;go_wp2_with fail;refine HW1.out.mono ?_;rintro e w4 ⟨rfl,hg4⟩;have HG4:=zHd hg4;clear hg4;go_wp2_with fail;refine(HW2.out _ HG4.out).mono ?_;rintro e w5 ⟨rfl,hg5⟩;have HG5:=zHd hg5;clear hg5;go_wp2
 go_ret3
 exact⟨by rw[HV.out];rfl,zae (g:=gx) (zaa HG1.out (grown_none HG2.out)) (zaa HG3.out (grown_none (zaa HG4.out (grown_none HG5.out)))) hgx⟩
def zFv (a b:ByteArray)(w:World)(ha:a.size<=maxLen)(hb:b.size<=maxLen) :
  Calls prog 175 #[.string a,.string b] w (zab (zfh a b) w):=by
 have va:=fun w=>zdg a w ha;have vb:=fun w=>zdg b w hb;unfold maxLen at ha hb;cases hna:zas a
 ·have HV:=zHd (show zfh a b=ziI by unfold zfh;rw[hna];rfl)
  simp only[hna] at va;clear vb hna;go_enter func175,ntmps175;exact zQaO
 cases hnb:zas b
 ·have HV:=zHd (show zfh a b=ziI by unfold zfh;rw[hnb,Bool.and_false];rfl)
  simp only[hna] at va;simp only[hnb] at vb;clear hna hnb;go_enter func175,ntmps175;exact zQaB
 have HV:=zHd (show zfh a b=.tuple #[.string (zal (Nat.gcd (nv a) (nv b))),.int .i64 0] by unfold zfh;rw[hna,hnb];rfl);have ra:=fun w=>zeU a w hna;have rb:=fun w=>zeU b w hnb;simp only[hna] at va;simp only[hnb] at vb;clear hna hnb;go_enter func175,ntmps175;go_wp2_with fail;refine(va _).mono ?_;rintro e w' ⟨rfl,rfl⟩;go_wp2_with fail;refine(vb _).mono ?_;rintro e w' ⟨rfl,rfl⟩;go_wp2_with fail;refine(ra _).mono ?_;rintro e w1 ⟨gx,cx,xs,rfl,hbx,hgx,hxl,hxv,hxt,hxn,hg1⟩;have HBX:=zHd hbx;have HXL:=zHd hxl;have HXV:=zHd hxv;have HG1:=zHd hg1;have HXT:=zHd hxt;clear hbx hxl hxv hxt hg1 ra va vb;go_wp2_with fail;refine(rb _).mono ?_;rintro e w2 ⟨gy,cy,ys,rfl,hby,hgy,hyl,hyv,hyt,hyn,hg2⟩;have hne:gx≠gy:=by have:=(HBX.out.lt gx rfl).2;omega
 have hsz:=hg2.size;have hsz1:=HG1.out.size;have hg12:=zaa HG1.out (grown_none hg2 (r:=none));have hd:=zuZ w.heap.size gx cx gy cy (Nat.gcd (nv a) (nv b)) xs ys w2 ⟨HBX.out.grown hg2 (by simp),hby.base (by omega),hne,HXL.out,hyl,HXT.out,hyt,by rw[HXV.out,hyv],by omega,by omega,Below.refl _ _,by omega⟩;have HD:=zHd hd;have HG12:=zHd hg12;clear hby hyl hyv hyt hg2 hd rb hg12;go_wp2_with fail;refine HD.out.mono ?_;rintro e w3 ⟨g,c,zs,rfl,hzb,hzl,hzv,hzn,hbel⟩;have hw1:=zis _ zs w3 (hzb.base (zqaw _)) hzl hzn;rw[hzv] at hw1;have HW1:=zHd hw1;have HB:=zHd hbel;clear hzb hzl hzv hbel hw1 HD;go_wp2_with fail;refine HW1.out.mono ?_;rintro e w4 ⟨rfl,hg4⟩;have HG4:=zHd hg4;clear hg4;go_wp2;go_ret2;have hb:=HB.out;have hg3:w.grownBy w3 none:=⟨hb.os.trans HG12.out.os,hb.tape.trans HG12.out.tape,hb.output.trans HG12.out.output,zqam HG12.out.size hb.size,fun i hi _=>(hb.block i hi).trans (HG12.out.block i hi (by simp))⟩;exact⟨by rw[HV.out];rfl,zaa hg3 (grown_none HG4.out)⟩
open Go.RowKit
open Go.Lib (nDigits)
def zsX (a b c:ByteArray)(ha:zas a=true)(hb:zas b=true)(hc:zas c=true)(h:nv c=nv a+nv b):zey a b=.tuple #[.string c,.int .i64 0]:=by
 unfold zey zex;exact zQbX
def zCk (a b c:ByteArray)(ha:zas a=true)(hb:zas b=true)(hc:zas c=true)(h:nv c=nv a*nv b):zeV a b=.tuple #[.string c,.int .i64 0]:=by
 unfold zeV zex;exact zQbX
def zCl (a b q r:ByteArray)(ha:zas a=true)(hb:zas b=true)(hq:zas q=true)(hr:zas r=true)(h0:nv b≠0)(h1:nv q=nv a/nv b)(h2:nv r=nv a%nv b):zdK a b=.tuple #[.string q,.string r,.int .i64 0]:=by
 unfold zdK;rw[ha,hb,<- h1,<- h2];simp only[Bool.and_self,if_true];rw[if_neg h0,<- (zcE q hq).1,<- (zcE r hr).1]
def zFw (a b:ByteArray)(ha:zas a=true)(hb:zas b=true)(h:nv a<nv b):zed a b=.tuple #[.string ⟨#[]⟩,.int .i64 4]:=by
 unfold zed;rw[ha,hb];simp only[Bool.and_self,if_true];rw[if_pos h]
open Go.RowKit
open Go.Lib (nDigits)
def zzf {m:Nat}(a:ByteArray)(ha:zas a=true)(h:m<=nv a):zas (zal m)=true:=by
 rw[zqB];have:=(zcE a ha).2;have:=zbZ h;simp;omega
def zeL (b:ByteArray)(h:zas b=true):(b.toList==[48])=decide (nv b=0)/\(b.toList != [48]) = !decide (nv b=0):=by
 have:=zsW b h;exact⟨this,by rw[bne,this]⟩
def zjW (s:ByteArray)(b:Bool):Prop:=∀ w,Calls prog 170 #[.string s] w fun e w'=>e=.returned (.bool b)/\w=w'
def zET (s:ByteArray)(hs:s.size<=maxLen):zjW s (zas s):=fun w=>zdg s w hs
def zot:zal 0=⟨#[48]⟩:=by decide +kernel
def zvT:zal 1=⟨#[49]⟩:=by decide +kernel
open Go.RowKit
open Go.Lib (nDigits decDigits)
def zaE (s:ByteArray)(w:World)(hs:s.size<=maxLen) :
  Calls prog 143 #[.string s] w fun e w'=>e=.returned (.bool (zas s))/\w=w':=by
 unfold maxLen at hs
 by_cases h0:(s.size:Int)<1
 ·rw[zif s (by omega)]
  go_enter func143,ntmps143;exact zQaJ
 by_cases h1:(1000:Int)<(s.size:Int)
 ·rw[zif s (by omega)]
  go_enter func143,ntmps143;exact zQaJ
 have hsz:0<s.size:=by omega
 by_cases hz:((s[0].toNat:Int)==48)=true/\(1:Int)<(s.size:Int)
 ·obtain⟨hz1,hz2⟩:=hz
  have HN:=zHd (znT s (by omega) (by have:=of_decide_eq_true hz1;omega));go_enter func143,ntmps143;exact zQaF
 have hzz:s.size=1∨s[0].toNat≠48:=by
  by_cases e:s.size=1
  exact .inl e;exact .inr fun e2=>hz ⟨by simp[e2],by omega⟩
 have HZ:=zHd hzz
 have key:Calls prog 143 #[.string s] w fun e w'=>e=.returned (.bool (zas s))/\w=w':=by
  by_cases hz1:((s[0].toNat:Int)==48)=true
  ·have hz2:¬ (1:Int)<(s.size:Int):=fun h=>hz ⟨hz1,h⟩
   clear hz hzz;go_enter func143,ntmps143;go_wp2
   go_loop [3] (fun i=>∃ k:Nat,i=.int .i64 k/\k<=s.size/\∀ j (hj:j<s.size),j<k->zdo s[j]=true) (fun i=>s.size-(intOf i).toNat)
   case atStart=>exact⟨0,rfl,by omega,fun j hj h=>by omega⟩
   case round =>
    obtain⟨k,rfl,hk,hall⟩:=hrel;have HALL:=zHd hall;clear hall
    by_cases hlt:k<s.size
    ·by_cases hd:(s[k].toNat:Int)<48
     ·have HN:=zHd (zgn s k hlt (zjh s[k] (.inl hd)))
      exact zQaF
     by_cases hd2:(57:Int)<(s[k].toNat:Int)
     ·have HN:=zHd (zgn s k hlt (zjh s[k] (.inr hd2)))
      exact zQaF
     have HN:=zHd (zqE s[k] (by omega) (by omega));go_wp2;go_round
     case rel=>exact⟨k+1,by go_num,by omega,fun j hj h=>by
      by_cases e:j=k
      subst e;exact HN.out;exact HALL.out j hj (by omega)⟩
     case measure=>simp[intOf];omega
    have HN:=zHd (znt s (by omega) (by omega) (fun j hj=>HALL.out j hj (by omega)) HZ.out);exact zQaF
  have hz3:((s[0].toNat:Int)==48)=false:=by simpa using hz1
  clear hz hzz hz1;go_enter func143,ntmps143;go_wp2
  go_loop [3] (fun i=>∃ k:Nat,i=.int .i64 k/\k<=s.size/\∀ j (hj:j<s.size),j<k->zdo s[j]=true) (fun i=>s.size-(intOf i).toNat)
  case atStart=>exact⟨0,rfl,by omega,fun j hj h=>by omega⟩
  case round =>
   obtain⟨k,rfl,hk,hall⟩:=hrel;have HALL:=zHd hall;clear hall
   by_cases hlt:k<s.size
   ·by_cases hd:(s[k].toNat:Int)<48
    ·have HN:=zHd (zgn s k hlt (zjh s[k] (.inl hd)))
     exact zQaF
    by_cases hd2:(57:Int)<(s[k].toNat:Int)
    ·have HN:=zHd (zgn s k hlt (zjh s[k] (.inr hd2)))
     exact zQaF
    have HN:=zHd (zqE s[k] (by omega) (by omega));go_wp2;go_round
    case rel=>exact⟨k+1,by go_num,by omega,fun j hj h=>by
     by_cases e:j=k
     subst e;exact HN.out;exact HALL.out j hj (by omega)⟩
    case measure=>simp[intOf];omega
   have HN:=zHd (znt s (by omega) (by omega) (fun j hj=>HALL.out j hj (by omega)) HZ.out);exact zQaF
 exact key
def zGV (p s t:List UInt8)(x y:UInt8)(h:x<y):Lib.compareBytes (p++x::s) (p++y::t) = -1/\Lib.compareBytes (p++y::t) (p++x::s)=1:=by
 induction p with
 | nil =>
  have h':¬ y<x:=fun h2=>UInt8.lt_irrefl x (UInt8.lt_trans h h2);simp[Lib.compareBytes,h,h']
 | cons a p ih =>
  rw[List.cons_append,List.cons_append];unfold Lib.compareBytes;rw[if_neg (UInt8.lt_irrefl a),if_neg (UInt8.lt_irrefl a),if_neg (UInt8.lt_irrefl a),if_neg (UInt8.lt_irrefl a)];exact ih
def zsY (l:List UInt8)(k:Nat)(h:k<l.length):l=l.take k++l[k]::l.drop (k+1):=by
 rw[<- List.drop_eq_getElem_cons h,List.take_append_drop]
def zsZ (a b:ByteArray)(na:zas a=true)(nb:zas b=true)(hs:a.size=b.size)(k:Nat)(ha:k<a.size)(hb:k<b.size)(ht:a.data.toList.take k=b.data.toList.take k)(hlt:a[k].toNat<b[k].toNat) :
  zcf (nv a) (nv b) = -1/\zcf (nv b) (nv a)=1:=by
 have la:a.data.toList.length=a.size:=by simp
 have lb:b.data.toList.length=b.size:=by simp
 have ea:=(zcE a na).1;have eb:=(zcE b nb).1;have da:a.data.toList=decDigits (nv a):=by conv=>lhs;rw[ea];simp[zal]
 have db:b.data.toList=decDigits (nv b):=by conv=>lhs;rw[eb];simp[zal]
 have hd:nDigits (nv a)=nDigits (nv b):=by
  rw[<- Lib.decDigits_length,<- Lib.decDigits_length,<- da,<- db];omega
 have h1:=zqF (nv a) (nv b) hd;have h2:=zqF (nv b) (nv a) hd.symm;rw[<- h1,<- h2,<- da,<- db,zsY a.data.toList k (by omega),zsY b.data.toList k (by omega),ht];exact zGV _ _ _ _ _ hlt
def zCm (a b:ByteArray)(hs:a.size=b.size)(ht:a.data.toList.take a.size=b.data.toList.take a.size):a=b:=by
 have la:a.data.toList.length=a.size:=by simp
 have lb:b.data.toList.length=b.size:=by simp
 rw[zqaf (by omega),zqaf (by omega)] at ht;exact ByteArray.ext (Array.toList_inj.1 ht)
def zzg (a b:ByteArray)(k:Nat)(ha:k<a.size)(hb:k<b.size)(ht:a.data.toList.take k=b.data.toList.take k)(he:a[k]=b[k]):a.data.toList.take (k+1)=b.data.toList.take (k+1):=by
 rw[List.take_succ_eq_append_getElem (by simpa using ha),List.take_succ_eq_append_getElem (by simpa using hb),ht];congr 1;congr 1
def size_digits (a:ByteArray)(na:zas a=true):a.size=nDigits (nv a):=by
 have ea:=(zcE a na).1;have:a.size=a.data.toList.length:=by simp
 rw[this,<- Lib.decDigits_length];congr 1
 conv=>lhs;rw[ea];simp[zal]
def zny (v:Int)(w:World)(e:Ending)(w':World):Prop:=e=.returned (.int .i64 v)/\w.grownBy w' none
def zhs (a b:ByteArray)(w:World)(na:zas a=true)(nb:zas b=true) :
  Calls prog 162 #[.string a,.string b] w (zny (zcf (nv a) (nv b)) w):=by
 have za:=zbz na;have zb:=zbz nb;unfold maxLen at za zb;have sa:=size_digits a na;have sb:=size_digits b nb
 by_cases h1:(a.size:Int)<(b.size:Int)
 ·have HV:=zHd (show zcf (nv a) (nv b) = -1 by unfold zcf;rw[if_pos (ziR (by omega))])
  have h2:((a.size:Int) != (b.size:Int))=true:=by simp;omega
  clear sa sb;go_enter func162,ntmps162;go_wp2;go_ret;exact zQbl
 by_cases h2:(b.size:Int)<(a.size:Int)
 ·have HV:=zHd (show zcf (nv a) (nv b)=1 by
   have:=ziR (m:=nv b) (n:=nv a) (by omega);unfold zcf;rw[if_neg (by omega),if_pos this])
  have h3:((a.size:Int) != (b.size:Int))=true:=by simp;omega
  clear sa sb;go_enter func162,ntmps162;go_wp2;go_ret;exact zQbl
 have hs:a.size=b.size:=by omega
 have h3:((a.size:Int) != (b.size:Int))=false:=by simp;omega
 have HS:=zHd hs;have NA:=zHd na;have NB:=zHd nb;clear sa sb hs na nb h1 h2;go_enter func162,ntmps162;go_wp2
 go_loopw [5] (fun i wr=>∃ k:Nat,i=.int .i64 k/\k<=a.size/\a.data.toList.take k=b.data.toList.take k/\w.grownBy wr none) (fun i _=>a.size-(intOf i).toNat)
 case atStart=>exact⟨0,rfl,by omega,rfl,zai _ _⟩
 case round =>
  obtain⟨k,rfl,hk,ht,hg⟩:=hrel;have HT:=zHd ht;have HG:=zHd hg;clear ht hg
  by_cases hlt:k<a.size
  ·have hlb:k<b.size:=by have:=HS.out;omega
   have z0:(0:Int)<=(k:Int):=by omega
   have z1:(k:Int)<(a.size:Int):=by omega
   have z2:(k:Int)<(b.size:Int):=by omega
   by_cases c1:(a[k].toNat:Int)<(b[k].toNat:Int)
   ·have HV:=zHd (zsZ a b NA.out NB.out HS.out k hlt hlb HT.out (by omega)).1
    have c2:((a[k].toNat:Int) != (b[k].toNat:Int))=true:=(by simp;omega);go_wp2
    go_quiet (fail)
    go_wp2
    go_quiet (fail)
    exact zQcd
   by_cases c3:(b[k].toNat:Int)<(a[k].toNat:Int)
   ·have HV:=zHd (zsZ b a NB.out NA.out HS.out.symm k hlb hlt HT.out.symm (by omega)).2
    have c2:((a[k].toNat:Int) != (b[k].toNat:Int))=true:=(by simp;omega);go_wp2
    go_quiet (fail)
    go_wp2
    go_quiet (fail)
    exact zQcd
   have he:a[k]=b[k]:=UInt8.toNat_inj.1 (by omega);have HM:=zHd (zzg a b k hlt hlb HT.out he);have c2:((a[k].toNat:Int) != (b[k].toNat:Int))=false:=(by simp;omega);clear he;go_wp2
   go_quiet (fail)
   go_wp2
   go_roundw
   case rel=>exact⟨k+1,by go_num,by omega,HM.out,zaa HG.out (zce _ _ _)⟩
   case measure=>simp[intOf];omega
  have HV:=zHd (show zcf (nv a) (nv b)=0 by
   have e:=zCm a b HS.out (by rw[show a.size=k by omega];exact HT.out);rw[e];unfold zcf;rw[if_neg (by omega),if_neg (by omega)])
  go_wp2;go_ret;exact⟨by rw[HV.out];rfl,HG.out⟩
def zCn (a b:ByteArray)(w:World)(ha:a.size<=maxLen)(hb:b.size<=maxLen) :
  Calls prog 138 #[.string a,.string b] w (zny (zff a b) w):=by
 have va:=zHd (fun w=>zaE a w ha);have vb:=zHd (fun w=>zaE b w hb);cases na:zas a
 ·have HV:=zHd (show zff a b=0 by unfold zff;rw[na];rfl)
  rw[na] at va;clear ha hb;go_enter func138,ntmps138;go_wp2_with fail;refine(va.out _).mono ?_;rintro e w' ⟨rfl,rfl⟩;go_wp2;go_ret;exact zQbl
 cases nb:zas b
 ·have HV:=zHd (show zff a b=0 by unfold zff;rw[na,nb];rfl)
  rw[na] at va;rw[nb] at vb;clear ha hb;go_enter func138,ntmps138;go_wp2_with fail;refine(va.out _).mono ?_;rintro e w' ⟨rfl,rfl⟩;go_wp2_with fail;refine(vb.out _).mono ?_;rintro e w' ⟨rfl,rfl⟩;go_wp2;go_ret;exact zQbl
 have HV:=zHd (show zff a b=zcf (nv a) (nv b) by unfold zff;rw[na,nb];rfl);have c:=zHd (fun w=>zhs a b w na nb);rw[na] at va;rw[nb] at vb;clear ha hb;go_enter func138,ntmps138;go_wp2_with fail;refine(va.out _).mono ?_;rintro e w' ⟨rfl,rfl⟩;go_wp2_with fail;refine(vb.out _).mono ?_;rintro e w' ⟨rfl,rfl⟩;go_wp2_with fail;refine(c.out _).mono ?_;rintro e w1 ⟨rfl,hg⟩;have G:=zHd hg;clear hg;go_wp2;go_ret;exact⟨by rw[HV.out];rfl,G.out⟩
open Go.RowKit
open Go.Lib (nDigits decDigits)
def zrI:(prog.info? 5).map (fun i=>(i.zero,i.size,i.bytes))=some (some (.int .u8 0),1,1):=by kernel_rfl
def zkX:(prog.info? 3).map (fun i=>(i.zero,i.size,i.bytes))=some (some (.int .i64 0),1,8):=by kernel_rfl
def zta {w:World}{base:Nat}{v:Value}{l:List UInt8}(h:w.ownsRow base 5 1 v l.length (Lib.byteCells l)) :
  (convert 166 9 v).run prog w=.ok (.string ⟨l.toArray⟩) w:=by
 rcases h.2 with⟨hv,hn⟩|⟨g,cap,cur,hv,_⟩
 ·have:l=[]:=List.length_eq_zero_iff.1 hn
  subst this;rw[hv];have hz:∀ w:World,(convert 166 9 (.slice none 0 0)).run prog w=.ok (.string ⟨#[]⟩) w:=fun w=>by kernel_rfl
  exact hz w
 rw[hv] at h ⊢;refine run_convert_bytes_back w 166 9 5 ⟨g,0,none⟩ cap l underlying166 underlying5 underlying9 (fun j hj=>?_);refine h.cells (g:=g) rfl j _ ?_;unfold Lib.byteCells;rw[zqaj,zqac hj];rfl
def zeM {w wr:World}(h:Below w.heap.size w wr)(o:Obj){w':World}{v:Value}(hv:∀ g,v.ownBlock=some g->w.heap.size<=g)(hg:(wr.alloc o).grownBy w' v.ownBlock):Below w.heap.size w w' :=
 (h.alloc h.size o).grown hg (by have:=h.size;simp;omega) hv
def zgp (w:World)(u:Value)(t:TypeId):∀ j x,[u][j]?=some x->(w.alloc (.cells #[u] t)).cell? ((⟨w.heap.size,0,none⟩:Addr).add j)=some x :=
 World.news_of_block (cs:=#[u]) (t:=t) (fr:=(0,0)) (zqce w _)
def zjx (w:World)(v:Value)(ds:List Nat):Prop :=
 (v=.slice none 0 0/\ds=[])∨∃ g cap,v=.slice (some ⟨g,0,none⟩) ds.length cap/\ds≠[]/\g<w.heap.size/\∀ k,k<ds.length->w.cell? ⟨g,k,none⟩=some (.int .i64 (ds.getD k 0:Nat))
def iv (ds:List Nat):List Value:=ds.map fun(d:Nat)=>Value.int .i64 (d:Int)
def addr_add (g k:Nat):(⟨g,0,none⟩:Addr).add k=⟨g,k,none⟩:=by unfold Addr.add;split <;> simp_all
def zjx.of_own {w:World}{base:Nat}{v:Value}{ds:List Nat}(h:w.ownsRow base 3 1 v ds.length (iv ds))(h0:ds≠[]):zjx w v ds:=by
 obtain⟨g,cap,hv,_,hlt⟩:=h.form (by have:=List.length_pos_iff.2 h0;omega);refine .inr ⟨g,cap,hv,h0,hlt,fun k hk=>?_⟩;have:=h.cells (g:=g) (by rw[hv];rfl) k (.int .i64 (ds.getD k 0:Nat)) (by simp[iv,zqaa,zqac hk]);rw[addr_add] at this;exact this
def zjx.below {w w':World}{v:Value}{ds:List Nat}(h:zjx w v ds)(hb:Below w.heap.size w w'):zjx w' v ds:=by
 rcases h with h|⟨g,cap,hv,h0,hg,hc⟩;exact .inl h;exact .inr ⟨g,cap,hv,h0,by have:=hb.size;omega,fun k hk=>(hb.cell (by exact hg)).trans (hc k hk)⟩
def chars (ds:List Nat):List UInt8:=ds.reverse.map fun d=>UInt8.ofNat (48+d)
def zmc:∀ (ds:List Nat),ds≠[]->(∀ d∈ds,d<10)->(ds.length=1∨ds.getD (ds.length-1) 0≠0)->chars ds=decDigits (vl 10 ds)
 | [],h,_,_=>absurd rfl h
 | [d],_,hd,_=>by
  have:=hd d (by simp);rw[zlS,Lib.decDigits_one this];simp[chars]
 | d::e::r,_,hd,ht=>by
  have ih:=zmc (e::r) (by simp) (fun x hx=>hd x (zqao _ hx)) (by
   right;rcases ht with ht|ht
   simp at ht;simpa using ht)
  have h1:=hd d (by simp);have e1:vl 10 (d::e::r)=d+10*vl 10 (e::r):=by rw[show d::e::r=[d]++(e::r) from rfl,zdJ,zlS];simp
  have hpos:vl 10 (e::r)≠0:=by
   intro e0;rw[e0,Lib.decDigits_one (by decide)] at ih;have zN:=zqbz List.length ih;simp[chars] at zN;subst zN;simp at ht;rw[zlS] at e0;exact ht e0
  have e2:chars (d::e::r)=chars (e::r)++[UInt8.ofNat (48+d)]:=by simp[chars]
  rw[e2,ih,e1]
  conv=>rhs;rw[decDigits,dif_neg (by omega)]
  rw[show(d+10*vl 10 (e::r))/10=vl 10 (e::r) by omega,show(d+10*vl 10 (e::r))%10=d by omega]
def zps (ds:List Nat)(j:Nat)(h:j<ds.length):chars (ds.drop (j+1))++[UInt8.ofNat (48+ds.getD j 0)]=chars (ds.drop j):=by
 rw[List.drop_eq_getElem_cons h,zqaa,zqac h];unfold chars;rw[List.reverse_cons,List.map_append];rfl
def zjX (d:Nat)(h:d<10):Lib.byteCells [UInt8.ofNat (48+d)]=[Value.int .u8 (48+(d:Int))]:=by
 unfold Lib.byteCells;simp;omega
def zjy (v:Value)(ds:List Nat)(w:World)(hv:zjx w v ds)(hd:∀ d∈ds,d<10)(hn:ds.length<=1000000) :
  Calls prog 161 #[v] w fun e w'=>e=.returned (.string (zal (vl 10 ds)))/\Below w.heap.size w w':=by
 rcases hv with⟨rfl,rfl⟩|⟨g,cap,rfl,h0,hg,hc⟩
 ·have hz:zal (vl 10 [])=⟨#[48]⟩:=by decide +kernel
  rw[hz];clear hz hd hn;go_enter func161,ntmps161;go_wp2
  go_loop [3] (fun n=>n=.int .i64 0) (fun _=>0)
  case atStart=>rfl
  case round =>
   subst hrel;go_wp2
   go_loop [4,5] (fun b n=>b=.slice none 0 0/\n=.int .i64 (-1)) (fun _ _=>0)
   case atStart=>exact⟨rfl,rfl⟩
   case round =>
    obtain⟨rfl,rfl⟩:=hrel;go_wp2;go_ret;exact⟨rfl,Below.refl _ _⟩
 obtain⟨i0,hi,hz0,hz1,hz2⟩:=info_parts zrI;have HC:=zHd hc;have hpos:=List.length_pos_iff.2 h0;have HD:=zHd hd;clear hc hd h0;go_enter func161,ntmps161;go_wp2
 go_loop [3] (fun n=>∃ m:Nat,n=.int .i64 m/\1<=m/\m<=ds.length/\vl 10 (ds.take m)=vl 10 ds) (fun n=>(intOf n).toNat)
 case atStart=>exact⟨ds.length,rfl,by omega,zqab _,by rw[List.take_length]⟩
 case round =>
  obtain⟨m,rfl,h1,h2,hv⟩:=hrel;have HV:=zHd hv;clear hv
  by_cases hm:(1:Int)<(m:Int)
  ·obtain⟨k,hk⟩:∃ k,m=k+1:=⟨m-1,by omega⟩
   have HK:=zHd hk
   have hw:IntKind.i64.wrap ((m:Int)-1)=(k:Int):=by
    rw[show(m:Int)-1=(k:Int) by omega];exact zQce
   have zE:=HC.out k (by omega);have hk1:(0:Int)<=(k:Int):=by omega
   have hk2:(k:Int)<(ds.length:Int):=by omega
   clear hk
   by_cases hz:ds.getD k 0=0
   ·rw[hz] at zE
    have HZ:=zHd hz;clear hz;go_wp2;go_round
    case rel =>
     have hk:=HK.out
     exact⟨k,by go_num,by omega,by omega,by
      have e:=zaU 10 ds k;rw[HZ.out,Nat.mul_zero,<- hk] at e;have:=HV.out;omega⟩
    case measure=>have hk:=HK.out;simp[intOf];omega
   have KEY:=zHd (show m=1∨ds.getD (m-1) 0≠0 from .inr (by rw[HK.out];exact hz));generalize hx:ds.getD k 0=x at *;have f1:((x:Int)==0)=false:=(by simp;omega);clear hx hz;go_wp2
   go_loopw [4,5] (fun b i wr=>∃ (j:Nat) (z:Int) (acc:List UInt8),i=.int .i64 z/\z=(j:Int)-1/\j<=m/\acc=chars ((ds.take m).drop j)/\wr.ownsRow w.heap.size 5 1 b acc.length (Lib.byteCells acc)/\Below w.heap.size w wr) (fun _ i _=>(intOf i+1).toNat)
   case atStart=>exact⟨m,_,[],rfl,by have:=HK.out;omega,zqab _,by rw[List.drop_of_length_le (by rw[zqan];omega)];rfl,World.ownsRow_nil _ _ _ _,Below.refl _ _⟩
   case round =>
    obtain⟨j,z,acc,rfl,hzj,hj,hacc,zO,hb⟩:=hrel;have hal:acc.length=m-j:=(by rw[hacc];simp[chars];omega);have HACC:=zHd hacc;clear hacc
    by_cases hj0:j=0
    ·subst hj0
     obtain rfl:z = -1:=by omega
     have HFIN:=zHd (show zal (vl 10 ds)=⟨acc.toArray⟩ by
      rw[HACC.out,List.drop_zero,zmc _ (by intro e;have h3:=zqbz List.length e;rw[zqan] at h3;simp only[List.length_nil] at h3;omega) (fun d hd=>HD.out d (zqau hd)) (by
       rw[zqan,Nat.min_eq_left (by omega)];rcases KEY.out with h|h
       exact .inl h;right;rw[zqaa,List.getElem?_take,if_pos (by omega),<- zqaa];exact h),HV.out];rfl)
     exact zQaZ
    obtain⟨q,rfl⟩:∃ q,j=q+1:=⟨j-1,by omega⟩;obtain rfl:z=(q:Int):=by omega
    have zE:=(hb.cell (p:=⟨g,q,none⟩) hg).trans (HC.out q (by omega));have hdq:=HD.out (ds.getD q 0) (by rw[zqaa,zqac (by omega)];exact List.getElem_mem _);have HST:=zHd (zps (ds.take m) q (by rw[zqan];omega));have HDQ:=zHd (show(ds.take m).getD q 0=ds.getD q 0 by rw[zqaa,List.getElem?_take,if_pos (by omega),<- zqaa]);generalize ds.getD q 0=d at *;have HCC:=zHd (zjX d hdq);have hd0:(0:Int)<=(d:Int):=(by omega);have hd1:(d:Int)<10:=(by omega);have hq1:(0:Int)<=(q:Int):=(by omega);have hq2:(q:Int)<(ds.length:Int):=(by omega);have hb1:acc.length+1<=1000000:=(by omega);clear hzj hj0 hal;go_wp2_with (at_builtin;refine wpList_append_own _ rfl _ _ 166 rfl w.heap.size 5 i0 (.int .u8 0) 1 1 underlying166 hi hz0 hz1 hz2 rfl (by decide) _ _ _ rfl (zO.alloc _) ⟨wr.heap.size,0,none⟩ 1 1 [.int .u8 (48+(d:Int))] rfl rfl ?c1 ?c2 ?c3 ?c4 ?c5 ?_)
    case c1=>exact zgp _ _ _
    case c2=>intro u hu;simp at hu;subst hu;rfl
    case c3=>unfold maxLen;omega
    case c4=>omega
    case c5=>simp;have:=hb.size;omega
    intro v' w1 zo zG _;have HB:=zHd (zeM hb _ (fun g e=>(zO.lt g e).1) zG);have HO:=zHd zo;clear zO zo zG zE;go_wp2
    go_roundw
    case rel=>exact⟨q,(q:Int)-1,acc++[UInt8.ofNat (48+d)],by go_num,rfl,by omega,by rw[HACC.out,<- HST.out,HDQ.out],by
     rw[zqag,Lib.byteCells_append,HCC.out];exact HO.out,HB.out⟩
    case measure=>simp[intOf]
  have HM:=zHd (show m=1 by omega);have KEY:=zHd (show m=1∨ds.getD (m-1) 0≠0 from .inl HM.out)
  have hw:IntKind.i64.wrap ((m:Int)-1)=0:=by
   rw[show(m:Int)-1=0 by have:=HM.out;omega];exact zQce
  go_wp2
  go_loopw [4,5] (fun b i wr=>∃ (j:Nat) (z:Int) (acc:List UInt8),i=.int .i64 z/\z=(j:Int)-1/\j<=m/\acc=chars ((ds.take m).drop j)/\wr.ownsRow w.heap.size 5 1 b acc.length (Lib.byteCells acc)/\Below w.heap.size w wr) (fun _ i _=>(intOf i+1).toNat)
  case atStart=>exact⟨m,_,[],rfl,by have:=HM.out;omega,zqab _,by rw[List.drop_of_length_le (by rw[zqan];omega)];rfl,World.ownsRow_nil _ _ _ _,Below.refl _ _⟩
  case round =>
   obtain⟨j,z,acc,rfl,hzj,hj,hacc,zO,hb⟩:=hrel;have hal:acc.length=m-j:=(by rw[hacc];simp[chars];omega);have HACC:=zHd hacc;clear hacc
   by_cases hj0:j=0
   ·subst hj0
    obtain rfl:z = -1:=by omega
    have HFIN:=zHd (show zal (vl 10 ds)=⟨acc.toArray⟩ by
     rw[HACC.out,List.drop_zero,zmc _ (by intro e;have h3:=zqbz List.length e;rw[zqan] at h3;simp only[List.length_nil] at h3;omega) (fun d hd=>HD.out d (zqau hd)) (by
      rw[zqan,Nat.min_eq_left (by omega)];rcases KEY.out with h|h
      exact .inl h;right;rw[zqaa,List.getElem?_take,if_pos (by omega),<- zqaa];exact h),HV.out];rfl)
    exact zQaZ
   obtain⟨q,rfl⟩:∃ q,j=q+1:=⟨j-1,by omega⟩;obtain rfl:z=(q:Int):=by omega
   have zE:=(hb.cell (p:=⟨g,q,none⟩) hg).trans (HC.out q (by omega));have hdq:=HD.out (ds.getD q 0) (by rw[zqaa,zqac (by omega)];exact List.getElem_mem _);have HST:=zHd (zps (ds.take m) q (by rw[zqan];omega));have HDQ:=zHd (show(ds.take m).getD q 0=ds.getD q 0 by rw[zqaa,List.getElem?_take,if_pos (by omega),<- zqaa]);generalize ds.getD q 0=d at *;have HCC:=zHd (zjX d hdq);have hd0:(0:Int)<=(d:Int):=(by omega);have hd1:(d:Int)<10:=(by omega);have hq1:(0:Int)<=(q:Int):=(by omega);have hq2:(q:Int)<(ds.length:Int):=(by omega);have hb1:acc.length+1<=1000000:=(by omega);clear hzj hj0 hal;go_wp2_with (at_builtin;refine wpList_append_own _ rfl _ _ 166 rfl w.heap.size 5 i0 (.int .u8 0) 1 1 underlying166 hi hz0 hz1 hz2 rfl (by decide) _ _ _ rfl (zO.alloc _) ⟨wr.heap.size,0,none⟩ 1 1 [.int .u8 (48+(d:Int))] rfl rfl ?c1 ?c2 ?c3 ?c4 ?c5 ?_)
   case c1=>exact zgp _ _ _
   case c2=>intro u hu;simp at hu;subst hu;rfl
   case c3=>unfold maxLen;omega
   case c4=>omega
   case c5=>simp;have:=hb.size;omega
   intro v' w1 zo zG _;have HB:=zHd (zeM hb _ (fun g e=>(zO.lt g e).1) zG);have HO:=zHd zo;clear zO zo zG zE;go_wp2
   go_roundw
   case rel=>exact⟨q,(q:Int)-1,acc++[UInt8.ofNat (48+d)],by go_num,rfl,by omega,by rw[HACC.out,<- HST.out,HDQ.out],by
    rw[zqag,Lib.byteCells_append,HCC.out];exact HO.out,HB.out⟩
   case measure=>simp[intOf]
open Go.RowKit
open Go.Lib (nDigits decDigits)
def zit (a b:List Nat):iv (a++b)=iv a++iv b:=by simp[iv]
def zmd (d:Nat):iv [d]=[Value.int .i64 (d:Int)]:=rfl
open Go.RowKit
open Go.Lib (nDigits decDigits)
def dgs (l:List UInt8):List Nat:=l.reverse.map fun c=>c.toNat-48
def zee (a:ByteArray):List Nat:=dgs a.data.toList
def zCo (c:UInt8)(l:List UInt8):dgs (c::l)=dgs l++[c.toNat-48]:=by simp[dgs]
def zvU (l:List UInt8):vl 10 (dgs l)=zdn l:=by
 induction h:l.length generalizing l with
 | zero=>rw[List.length_eq_zero_iff.1 h];rfl
 | succ n ih =>
  obtain⟨l',c,rfl⟩:∃ l' c,l=l'++[c]:=⟨l.dropLast,l.getLast (by intro e;rw[e] at h;simp at h),(List.dropLast_concat_getLast _).symm⟩;have:=ih l' (by simp at h;exact h);rw[zfp,<- this,show dgs (l'++[c])=[c.toNat-48]++dgs l' by simp[dgs],zdJ,zlS];simp;omega
def zeW (a:ByteArray):vl 10 (zee a)=nv a:=zvU _
def zeX (a:ByteArray):(zee a).length=a.size:=by simp[zee,dgs]
def zfi (a:ByteArray)(h:zas a=true):∀ d∈zee a,d<10:=by
 intro d hd;unfold zee dgs at hd;obtain⟨c,hc,rfl⟩:=zqbf.1 hd;rw[List.mem_reverse] at hc;unfold zas zlV at h;simp only[zqbb,List.all_eq_true] at h;have:=h.1.2 c hc;unfold zdo at this;simp at this;omega
def zCp (a:ByteArray)(j:Nat)(h:j<a.size):dgs (a.data.toList.drop (j+1))++[a[j].toNat-48]=dgs (a.data.toList.drop j):=by
 conv=>rhs;rw[List.drop_eq_getElem_cons (show j<a.data.toList.length by simpa using h),zCo]
 rfl
def zgK (w:World)(v:Value)(ds:List Nat):Prop:=zjx w v ds/\ds≠[]
def zgK.form {w:World}{v:Value}{ds:List Nat}(h:zgK w v ds):∃ g cap,v=.slice (some ⟨g,0,none⟩) ds.length cap:=by
 rcases h.1 with⟨_,h0⟩|⟨g,cap,hv,_⟩;exact absurd h0 h.2;exact⟨g,cap,hv⟩
def zgK.below {w w':World}{v:Value}{ds:List Nat}(h:zgK w v ds)(hb:Below w.heap.size w w'):zgK w' v ds:=⟨h.1.below hb,h.2⟩
def zdF (a:ByteArray)(w:World)(na:zas a=true) :
  Calls prog 158 #[.string a] w fun e w'=>∃ v,e=.returned v/\zgK w' v (zee a)/\Below w.heap.size w w':=by
 obtain⟨i0,hi,hz0,hz1,hz2⟩:=info_parts zkX;have hsz:=zcG a na;have HDG:=zHd (zkE a na);clear na;have hw:IntKind.i64.wrap ((a.size:Int)-1)=(a.size:Int)-1:=IntWalk.i64_in _ ⟨by omega,by omega⟩;go_enter func158,ntmps158;go_wp2
 go_loopw [3,4] (fun b i wr=>∃ (j:Nat) (z:Int) (acc:List Nat),i=.int .i64 z/\z=(j:Int)-1/\j<=a.size/\acc=dgs (a.data.toList.drop j)/\wr.ownsRow w.heap.size 3 1 b acc.length (iv acc)/\Below w.heap.size w wr) (fun _ i _=>(intOf i+1).toNat)
 case atStart=>exact⟨a.size,_,[],rfl,rfl,zqab _,by rw[List.drop_of_length_le (by simp)];rfl,World.ownsRow_nil _ _ _ _,Below.refl _ _⟩
 case round =>
  obtain⟨j,z,acc,rfl,hzj,hj,hacc,zO,hb⟩:=hrel;have hal:acc.length=a.size-j:=by rw[hacc];simp[dgs]
  have HACC:=zHd hacc;clear hacc
  by_cases hj0:j=0
  ·subst hj0
   obtain rfl:z = -1:=by omega
   have hne:acc≠[]:=by intro e;rw[e] at hal;simp at hal;omega
   have HR:=zHd (show zgK wr u3 acc from⟨zjx.of_own zO hne,hne⟩);have HB:=zHd hb;clear zO hb hal hne hzj;go_wp2;go_ret;refine⟨_,rfl,?_,HB.out⟩;have e:acc=zee a:=by rw[HACC.out,List.drop_zero];rfl
   rw[<- e];exact HR.out
  obtain⟨q,rfl⟩:∃ q,j=q+1:=⟨j-1,by omega⟩;obtain rfl:z=(q:Int):=by omega
  have hqa:q<a.size:=by omega
  have hdq:=HDG.out q hqa;have HST:=zHd (zCp a q hqa);have HE:=zHd (show(a[q].toNat:Int)-48=((a[q].toNat-48:Nat):Int) by omega);have hd0:(48:Int)<=(a[q].toNat:Int):=by omega
  have hd1:(a[q].toNat:Int)<=57:=by omega
  have hq1:(0:Int)<=(q:Int):=by omega
  have hq2:(q:Int)<(a.size:Int):=by omega
  have hb1:acc.length+1<=1000000:=by omega
  clear hzj hj0 hal;go_wp2_with (at_builtin;refine wpList_append_own _ rfl _ _ 22 rfl w.heap.size 3 i0 (.int .i64 0) 1 8 underlying22 hi hz0 hz1 hz2 rfl (by decide) _ _ _ rfl (zO.alloc _) ⟨wr.heap.size,0,none⟩ 1 1 [.int .i64 ((a[q].toNat:Int)-48)] rfl rfl ?c1 ?c2 ?c3 ?c4 ?c5 ?_)
  case c1=>exact zgp _ _ _
  case c2=>intro u hu;simp at hu;subst hu;rfl
  case c3=>unfold maxLen;omega
  case c4=>omega
  case c5=>simp;have:=hb.size;omega
  intro v' w1 zo zG _;have HB:=zHd (zeM hb _ (fun g e=>(zO.lt g e).1) zG);have HO:=zHd zo;clear zO zo zG hd0 hd1;go_wp2
  go_roundw
  case rel=>exact⟨q,(q:Int)-1,acc++[a[q].toNat-48],by go_num,rfl,by omega,by rw[HACC.out,<- HST.out],by
   rw[zqag,zit,zmd,<- HE.out];exact HO.out,HB.out⟩
  case measure=>simp[intOf]
def zme (v:Value)(ds:List Nat)(i:Nat)(w:World)(hv:zgK w v ds)(hn:ds.length<=1000000) :
  Calls prog 159 #[v,.int .i64 i] w fun e w'=>e=.returned (.int .i64 (ds.getD i 0:Nat))/\w=w':=by
 rcases hv.1 with⟨_,h0⟩|⟨g,cap,rfl,_,hg,hc⟩;exact absurd h0 hv.2
 by_cases h:(i:Int)<(ds.length:Int)
 ·have zE:=hc i (by omega)
  generalize ds.getD i 0=x at *;have hi0:(0:Int)<=(i:Int):=by omega
  clear hc hv;go_enter func159,ntmps159;exact zQaJ
 have e:ds.getD i 0=0:=by rw[zqaa,zqas (by omega)];rfl
 rw[e];clear hc hv e;go_enter func159,ntmps159;exact zQaJ
def znV (n:Nat)(w:World)(hn:nDigits n<=1000000) :
  Calls prog 160 #[.string (zal n)] w fun e w'=>e=.returned (zex n)/\w=w':=by
 have hs:(zal n).size=nDigits n:=by unfold zal;simp[ByteArray.size,Lib.decDigits_length]
 by_cases h:nDigits n<=1000
 ·have HV:=zHd (show zex n=.tuple #[.string (zal n),.int .i64 0] by unfold zex;rw[if_pos h])
  generalize zal n=S at *;have h1:¬ (1000:Int)<(S.size:Int):=by omega
  exact zQbS
 have HV:=zHd (show zex n=.tuple #[.string ⟨#[]⟩,.int .i64 2] by unfold zex;rw[if_neg h]);generalize zal n=S at *;have h1:(1000:Int)<(S.size:Int):=by omega
 exact zQbS
open Go.RowKit
open Go.Lib (nDigits decDigits)
def zrJ (l:List Nat)(h:∀ d∈l,d<10):nDigits (vl 10 l)<=l.length+1:=by
 have h1:=zbZ (Nat.le_of_lt (zcv 10 l h));have h2:=Lib.nDigits_unique l.length (10 ^ l.length) (zqab _) (Nat.pow_lt_pow_right (by decide) (by omega));omega
structure zht (xs ys:List Nat)(k c:Nat)(acc:List Nat):Prop where
 len:acc.length=k
 lt:∀ d∈acc,d<10
 carry:c<=1
 val:vl 10 acc+10 ^ k*c=vl 10 (xs.take k)+vl 10 (ys.take k)
def getD_lt (l:List Nat)(h:∀ d∈l,d<10)(k:Nat):l.getD k 0<10:=by
 rcases Nat.lt_or_ge k l.length with h1|h1;rw[zqaa,zqac h1];exact h _ (List.getElem_mem _);rw[zqaa,zqas h1];decide
def zht.step {xs ys:List Nat}{k c:Nat}{acc:List Nat}(h:zht xs ys k c acc)(hx:∀ d∈xs,d<10)(hy:∀ d∈ys,d<10) :
  zht xs ys (k+1) ((xs.getD k 0+ys.getD k 0+c)/10) (acc++[(xs.getD k 0+ys.getD k 0+c)%10]):=by
 have h1:=getD_lt xs hx k;have h2:=getD_lt ys hy k;have h3:=h.carry;refine⟨by rw[zqag,h.len];rfl,fun d hd=>?_,by omega,?_⟩
 ·rcases zqbo.1 hd with hd|hd
  ·exact h.lt d hd
  rw[zqbk.1 hd];omega
 have e:=h.val;rw[zgk,h.len,zaU,zaU,zqbp];generalize xs.getD k 0=p at *;generalize ys.getD k 0=q at *;have hd:=zqbt (p+q+c) 10;generalize (p+q+c)/10=u at *;generalize (p+q+c)%10=v at *;generalize 10 ^ k=P at *;have e1:P*10*u+P*v=P*(p+q+c):=by rw[<- hd,zqbh,zqav]
 rw[zqbh,zqbh] at e1;omega
def zht.fin {xs ys:List Nat}{k c:Nat}{acc:List Nat}(h:zht xs ys k c acc)(hx:∀ d∈xs,d<10)(hy:∀ d∈ys,d<10)(h1:xs.length<k)(h2:ys.length<k):vl 10 acc=vl 10 xs+vl 10 ys:=by
 have e:=h.val;rw[zqaf (by omega),zqaf (by omega)] at e;have a1:=zcv 10 xs hx;have a2:=zcv 10 ys hy;obtain⟨k,rfl⟩:∃ j,k=j+1:=⟨k-1,by omega⟩;have b1:=zqay (n:=10) (by decide) (show xs.length<=k by omega);have b2:=zqay (n:=10) (by decide) (show ys.length<=k by omega);rw[zqbp] at e;have hc:=h.carry
 have:c=0:=by
  rcases Nat.eq_zero_or_pos c with h0|h0;exact h0;obtain rfl:c=1:=by omega
  omega
 subst this;omega
def zht.start (xs ys:List Nat):zht xs ys 0 0 []:=⟨rfl,fun d h=>by simp at h,by omega,by simp[vl]⟩
def zrK (n:Nat):∃ S E,zex n=.tuple #[.string S,.int .i64 E]:=by
 unfold zex;split;exact⟨_,_,rfl⟩;exact⟨_,_,rfl⟩
def zCq (a b:ByteArray)(w:World)(na:zas a=true)(nb:zas b=true) :
  Calls prog 137 #[.string a,.string b] w (zab (zey a b) w):=by
 obtain⟨i0,hi,hz0,hz1,hz2⟩:=info_parts zkX;have va:=zaE a w (zbz na);have vb:=zaE b w (zbz nb);rw[na] at va;rw[nb] at vb;have VA:=zHd va;have VB:=zHd vb;have D1:=zHd (fun w=>zdF a w na);have D2:=zHd (fun w=>zdF b w nb);have HV:=zHd (show zey a b=zex (vl 10 (zee a)+vl 10 (zee b)) by unfold zey;rw[na,nb,zeW,zeW];rfl);have hx:=zfi a na;have hy:=zfi b nb;have sa:=zcG a na;have sb:=zcG b nb;have la:=zeX a;have lb:=zeX b;clear va vb na nb;generalize zee a=xs at *;generalize zee b=ys at *;have HX:=zHd hx;have HY:=zHd hy;have lx:1<=xs.length/\xs.length<=1000:=by omega
 have ly:1<=ys.length/\ys.length<=1000:=by omega
 obtain⟨lx1,lx2⟩:=lx;obtain⟨ly1,ly2⟩:=ly;clear hx hy sa sb la lb;go_enter func137,ntmps137;go_wp2_with fail;refine VA.out.mono ?_;rintro e w' ⟨rfl,rfl⟩;go_wp2_with fail;refine VB.out.mono ?_;rintro e w' ⟨rfl,rfl⟩;go_wp2_with fail;refine(D1.out _).mono ?_;rintro e w1 ⟨v1,rfl,hr1,hb1⟩;obtain⟨g1,c1,rfl⟩:=hr1.form;have R1:=zHd hr1;have B1:=zHd hb1;clear hr1 hb1;go_wp2_with fail;refine(D2.out _).mono ?_;rintro e w2 ⟨v2,rfl,hr2,hb2⟩;obtain⟨g2,c2,rfl⟩:=hr2.form;have R1':=zHd (R1.out.below hb2);have R2:=zHd hr2;have B2:=zHd (B1.out.trans (hb2.mono B1.out.size));clear hr2 hb2 R1 B1 VA VB D1 D2;go_wp2
 go_loopw [8,9,10] (fun l c i wr=>∃ (k y:Nat) (acc:List Nat),i=.int .i64 k/\c=.int .i64 y/\zht xs ys k y acc/\k<=1001/\wr.ownsRow w2.heap.size 3 1 l acc.length (iv acc)/\Below w2.heap.size w2 wr) (fun _ _ i _=>1002-(intOf i).toNat)
 case atStart=>exact⟨0,0,[],rfl,rfl,zht.start xs ys,by omega,World.ownsRow_nil _ _ _ _,Below.refl _ _⟩
 case round =>
  obtain⟨k,y,acc,rfl,rfl,zI,hk,zO,hb⟩:=hrel;have hal:acc.length=k:=zI.len;have hy1:=zI.carry;have HINV:=zHd zI;clear zI
  by_cases hgo:k<=xs.length∨k<=ys.length
  ·have a1:=zHd (zme _ xs k wr (R1'.out.below hb) (by omega))
   have a2:=zHd (zme _ ys k wr (R2.out.below hb) (by omega));have hp:=getD_lt xs HX.out k;have hq:=getD_lt ys HY.out k;have HN:=zHd (HINV.out.step HX.out HY.out);generalize xs.getD k 0=p at *;generalize ys.getD k 0=q at *;have HE:=zHd (show((p:Int)+q+y)%10=(((p+q+y)%10:Nat):Int) by omega);have HE2:=zHd (show((p:Int)+q+y)/10=(((p+q+y)/10:Nat):Int) by omega);have p0:(0:Int)<=(p:Int):=by omega
   have p1:(p:Int)<10:=by omega
   have q0:(0:Int)<=(q:Int):=by omega
   have q1:(q:Int)<10:=by omega
   have y0:(0:Int)<=(y:Int):=by omega
   have y1:(y:Int)<=1:=by omega
   have k1:k<=1000:=by omega
   have hb1:acc.length+1<=1000000:=by omega
   have HAL:=zHd hal;clear hal hp hq hy1;rcases Nat.lt_or_ge xs.length k with hxk|hxk
   ·have hyk:k<=ys.length:=by omega
    have f1:¬ k<=xs.length:=(by omega);clear hgo;go_wp2_with fail;refine a1.out.mono ?_;rintro e w' ⟨rfl,rfl⟩;go_wp2_with fail;refine a2.out.mono ?_;rintro e w' ⟨rfl,rfl⟩;go_wp2_with (at_builtin;refine wpList_append_own _ rfl _ _ 22 rfl w2.heap.size 3 i0 (.int .i64 0) 1 8 underlying22 hi hz0 hz1 hz2 rfl (by decide) _ _ _ rfl (zO.alloc _) ⟨wr.heap.size,0,none⟩ 1 1 [.int .i64 (((p:Int)+q+y)%10)] rfl rfl ?c1 ?c2 ?c3 ?c4 ?c5 ?_)
    case c1=>exact zgp _ _ _
    case c2=>intro u hu;simp at hu;subst hu;rfl
    case c3=>unfold maxLen;omega
    case c4=>omega
    case c5=>simp;have:=hb.size;omega
    intro v' w3 zo zG _;have HB:=zHd (zeM hb _ (fun g e=>(zO.lt g e).1) zG);have HO:=zHd zo;clear zO zo zG hb;go_wp2
    go_roundw
    case rel=>exact⟨k+1,(p+q+y)/10,acc++[(p+q+y)%10],by go_num,zqbz (Value.int .i64) HE2.out,HN.out,by omega,by
     rw[zqag,zit,zmd,<- HE.out];exact HO.out,HB.out⟩
    case measure=>simp[intOf];omega
   clear hgo;go_wp2_with fail;refine a1.out.mono ?_;rintro e w' ⟨rfl,rfl⟩;go_wp2_with fail;refine a2.out.mono ?_;rintro e w' ⟨rfl,rfl⟩;go_wp2_with (at_builtin;refine wpList_append_own _ rfl _ _ 22 rfl w2.heap.size 3 i0 (.int .i64 0) 1 8 underlying22 hi hz0 hz1 hz2 rfl (by decide) _ _ _ rfl (zO.alloc _) ⟨wr.heap.size,0,none⟩ 1 1 [.int .i64 (((p:Int)+q+y)%10)] rfl rfl ?c1 ?c2 ?c3 ?c4 ?c5 ?_)
   case c1=>exact zgp _ _ _
   case c2=>intro u hu;simp at hu;subst hu;rfl
   case c3=>unfold maxLen;omega
   case c4=>omega
   case c5=>simp;have:=hb.size;omega
   intro v' w3 zo zG _;have HB:=zHd (zeM hb _ (fun g e=>(zO.lt g e).1) zG);have HO:=zHd zo;clear zO zo zG hb;go_wp2
   go_roundw
   case rel=>exact⟨k+1,(p+q+y)/10,acc++[(p+q+y)%10],by go_num,zqbz (Value.int .i64) HE2.out,HN.out,by omega,by
    rw[zqag,zit,zmd,<- HE.out];exact HO.out,HB.out⟩
   case measure=>simp[intOf];omega
  have e1:¬ k<=xs.length:=by omega
  have e2:¬ k<=ys.length:=by omega
  have hne:acc≠[]:=by intro e;rw[e] at hal;simp at hal;omega
  have HFIN:=zHd (HINV.out.fin HX.out HY.out (by omega) (by omega));have HT:=zHd (zjy _ acc wr (zjx.of_own zO hne) HINV.out.lt (by omega));have HL:=zHd (fun w=>znV (vl 10 acc) w (by have:=zrJ acc HINV.out.lt;omega));have HB:=zHd hb;clear zO hb hne hal hgo;go_wp2_with fail;refine HT.out.mono ?_;rintro e w3 ⟨rfl,hb3⟩;have B3:=zHd hb3;clear hb3;go_wp2_with fail;refine(HL.out _).mono ?_;rintro e w' ⟨he,rfl⟩;have H1:=HFIN.out;have H2:=HV.out;rw[<- H1] at H2;rw[<- H2] at he;have BB:=zHd (B2.out.trans ((HB.out.trans (B3.out.mono HB.out.size)).mono B2.out.size));have HEND:Hid (zab (zey a b) w (.returned (zey a b)) w3):=zHd ⟨rfl,zdE BB.out⟩;clear H1 H2;rcases zrK (vl 10 xs+vl 10 ys) with⟨S,E,hS⟩;have hav:zey a b=.tuple #[.string S,.int .i64 E]:=by rw[HV.out,hS]
  rw[hav] at he;subst he;have HEND2:=HEND.out;rw[hav] at HEND2;have HE3:=zHd HEND2;have HAV:=zHd hav;clear HEND HEND2 hav hS;go_wp2;go_ret2;rw[HAV.out];exact HE3.out
open Go.RowKit
open Go.Lib (nDigits decDigits)
structure zgq (xs ys:List Nat)(k c:Nat)(acc:List Nat):Prop where
 len:acc.length=k
 lt:∀ d∈acc,d<10
 carry:c<=1
 val:vl 10 acc+vl 10 (ys.take k)=vl 10 (xs.take k)+10 ^ k*c
def zgq.start (xs ys:List Nat):zgq xs ys 0 0 []:=⟨rfl,fun d h=>by simp at h,by omega,by simp[vl]⟩
def zgq.step {xs ys:List Nat}{k c:Nat}{acc:List Nat}(h:zgq xs ys k c acc)(d c':Nat)(hd:d<10)(hc:c'<=1)(e:d+ys.getD k 0+c=xs.getD k 0+10*c') :
  zgq xs ys (k+1) c' (acc++[d]):=by
 refine⟨by rw[zqag,h.len];rfl,fun x hx=>?_,hc,?_⟩
 ·rcases zqbo.1 hx with hx|hx
  ·exact h.lt x hx
  rw[zqbk.1 hx];exact hd
 have v:=h.val;rw[zgk,h.len,zaU,zaU,zqbp];generalize xs.getD k 0=p at *;generalize ys.getD k 0=q at *;generalize 10 ^ k=P at *;have e1:P*(d+q+c)=P*(p+10*c'):=by rw[e]
 rw[zqbh,zqbh,zqbh,<- zqav] at e1;omega
def zgq.fin {xs ys:List Nat}{c:Nat}{acc:List Nat}(h:zgq xs ys xs.length c acc)(hx:∀ d∈xs,d<10)(hle:vl 10 ys<=vl 10 xs):vl 10 acc=vl 10 xs-vl 10 ys:=by
 have e:=h.val;rw[zqaf (zqab _)] at e;have a1:=zcv 10 xs hx;have a2:=zcv 10 acc h.lt;rw[h.len] at a2;have hc:=h.carry
 have hy:vl 10 (ys.take xs.length)=vl 10 ys:=by
  rcases Nat.lt_or_ge ys.length xs.length with h1|h1;rw[zqaf (by omega)];have s:=zgN 10 ys xs.length h1;rcases Nat.eq_zero_or_pos (vl 10 (ys.drop xs.length)) with h0|h0;rw[h0,Nat.mul_zero] at s;omega;have:=zqbd (10 ^ xs.length) h0;omega
 rw[hy] at e
 have:c=0:=by
  rcases Nat.eq_zero_or_pos c with h0|h0;exact h0;obtain rfl:c=1:=by omega
  omega
 subst this;omega
def zCr (xs ys:List Nat)(w:World)(e:Ending)(w':World):Prop :=
 ∃ v zs,e=.returned v/\zgK w' v zs/\(∀ d∈zs,d<10)/\vl 10 zs=vl 10 xs-vl 10 ys/\zs.length=xs.length/\Below w.heap.size w w'
def zou (v1 v2:Value)(xs ys:List Nat)(w:World)(hv1:zgK w v1 xs)(hv2:zgK w v2 ys)(hx:∀ d∈xs,d<10)(hy:∀ d∈ys,d<10)(lx:xs.length<=1000000)(ly:ys.length<=1000000)(hle:vl 10 ys<=vl 10 xs) :
  Calls prog 163 #[v1,v2] w (zCr xs ys w):=by
 obtain⟨i0,hi,hz0,hz1,hz2⟩:=info_parts zkX;obtain⟨g1,c1,rfl⟩:=hv1.form;obtain⟨g2,c2,rfl⟩:=hv2.form;have hpos:=List.length_pos_iff.2 hv1.2;have R1:=zHd hv1;have R2:=zHd hv2;have HX:=zHd hx;have HY:=zHd hy;have HLE:=zHd hle;clear hv1 hv2 hx hy hle;go_enter func163,ntmps163;go_wp2
 go_loopw [5,6,7] (fun l c i wr=>∃ (k y:Nat) (acc:List Nat),i=.int .i64 k/\c=.int .i64 y/\zgq xs ys k y acc/\k<=xs.length/\wr.ownsRow w.heap.size 3 1 l acc.length (iv acc)/\Below w.heap.size w wr) (fun _ _ i _=>xs.length-(intOf i).toNat)
 case atStart=>exact⟨0,0,[],rfl,rfl,zgq.start xs ys,by omega,World.ownsRow_nil _ _ _ _,Below.refl _ _⟩
 case round =>
  obtain⟨k,y,acc,rfl,rfl,zI,hk,zO,hb⟩:=hrel;have hal:acc.length=k:=zI.len;have hy1:=zI.carry;have HINV:=zHd zI;clear zI
  by_cases hgo:k<xs.length
  ·have a1:=zHd (zme _ xs k wr (R1.out.below hb) lx)
   have a2:=zHd (zme _ ys k wr (R2.out.below hb) ly);have hp:=getD_lt xs HX.out k;have hq:=getD_lt ys HY.out k;have HN:=zHd (fun d c' h1 h2 h3=>HINV.out.step d c' h1 h2 h3);generalize xs.getD k 0=p at *;generalize ys.getD k 0=q at *;have p0:(0:Int)<=(p:Int):=by omega
   have p1:(p:Int)<10:=by omega
   have q0:(0:Int)<=(q:Int):=by omega
   have q1:(q:Int)<10:=by omega
   have y0:(0:Int)<=(y:Int):=by omega
   have y1:(y:Int)<=1:=by omega
   have hb1:acc.length+1<=1000001:=by omega
   by_cases hneg:(p:Int)-q-y<0
   ·have HE:=zHd (show(p:Int)-q-y+10=((p+10-q-y:Nat):Int) by omega)
    have HM:=zHd (HN.out (p+10-q-y) 1 (by omega) (by omega) (by omega));clear hal hp hq hy1;go_wp2_with fail;refine a1.out.mono ?_;rintro e w' ⟨rfl,rfl⟩;go_wp2_with fail;refine a2.out.mono ?_;rintro e w' ⟨rfl,rfl⟩;go_wp2_with (at_builtin;refine wpList_append_own _ rfl _ _ 22 rfl w.heap.size 3 i0 (.int .i64 0) 1 8 underlying22 hi hz0 hz1 hz2 rfl (by decide) _ _ _ rfl (zO.alloc _) ⟨wr.heap.size,0,none⟩ 1 1 [.int .i64 ((p:Int)-q-y+10)] rfl rfl ?c1 ?c2 ?c3 ?c4 ?c5 ?_)
    case c1=>exact zgp _ _ _
    case c2=>intro u hu;simp at hu;subst hu;rfl
    case c3=>unfold maxLen;omega
    case c4=>omega
    case c5=>simp;have:=hb.size;omega
    intro v' w3 zo zG _;have HB:=zHd (zeM hb _ (fun g e=>(zO.lt g e).1) zG);have HO:=zHd zo;clear zO zo zG hb;go_wp2
    go_roundw
    case rel=>exact⟨k+1,1,acc++[p+10-q-y],by go_num,rfl,HM.out,by omega,by
     rw[zqag,zit,zmd,<- HE.out];exact HO.out,HB.out⟩
    case measure=>simp[intOf];omega
   have HE:=zHd (show(p:Int)-q-y=((p-q-y:Nat):Int) by omega);have HM:=zHd (HN.out (p-q-y) 0 (by omega) (by omega) (by omega));clear hal hp hq hy1;go_wp2_with fail;refine a1.out.mono ?_;rintro e w' ⟨rfl,rfl⟩;go_wp2_with fail;refine a2.out.mono ?_;rintro e w' ⟨rfl,rfl⟩;go_wp2_with (at_builtin;refine wpList_append_own _ rfl _ _ 22 rfl w.heap.size 3 i0 (.int .i64 0) 1 8 underlying22 hi hz0 hz1 hz2 rfl (by decide) _ _ _ rfl (zO.alloc _) ⟨wr.heap.size,0,none⟩ 1 1 [.int .i64 ((p:Int)-q-y)] rfl rfl ?c1 ?c2 ?c3 ?c4 ?c5 ?_)
   case c1=>exact zgp _ _ _
   case c2=>intro u hu;simp at hu;subst hu;rfl
   case c3=>unfold maxLen;omega
   case c4=>omega
   case c5=>simp;have:=hb.size;omega
   intro v' w3 zo zG _;have HB:=zHd (zeM hb _ (fun g e=>(zO.lt g e).1) zG);have HO:=zHd zo;clear zO zo zG hb;go_wp2
   go_roundw
   case rel=>exact⟨k+1,0,acc++[p-q-y],by go_num,rfl,HM.out,by omega,by
    rw[zqag,zit,zmd,<- HE.out];exact HO.out,HB.out⟩
   case measure=>simp[intOf];omega
  obtain rfl:k=xs.length:=by omega
  have hne:acc≠[]:=by intro e;rw[e] at hal;simp at hal;omega
  have HR:=zHd (show zgK wr u5 acc from⟨zjx.of_own zO hne,hne⟩);have HFIN:=zHd (HINV.out.fin HX.out HLE.out);have HAL:=zHd hal;have HB:=zHd hb;clear zO hb hne hal;go_wp2;go_ret;exact⟨_,acc,rfl,HR.out,HINV.out.lt,HFIN.out,HAL.out,HB.out⟩
open Go.RowKit
open Go.Lib (nDigits decDigits)
def zwI (a b:ByteArray)(w:World)(ha:a.size<=maxLen)(hb:b.size<=maxLen)(na:zas a=false) :
  Calls prog 137 #[.string a,.string b] w (zab (zey a b) w):=by
 have HV:=zHd (show zey a b=.tuple #[.string ⟨#[]⟩,.int .i64 1] by unfold zey;rw[na];rfl);have va:=zaE a w ha;have vb:=zaE b w hb;rw[na] at va;have VA:=zHd va;have VB:=zHd vb;clear va vb ha hb na;go_enter func137,ntmps137;exact zQaS
def zwJ (a b:ByteArray)(w:World)(ha:a.size<=maxLen)(hb:b.size<=maxLen)(na:zas a=true)(nb:zas b=false) :
  Calls prog 137 #[.string a,.string b] w (zab (zey a b) w):=by
 have HV:=zHd (show zey a b=.tuple #[.string ⟨#[]⟩,.int .i64 1] by unfold zey;rw[na,nb];rfl);have va:=zaE a w ha;have vb:=zaE b w hb;rw[na] at va;rw[nb] at vb;have VA:=zHd va;have VB:=zHd vb;clear va vb ha hb na nb;go_enter func137,ntmps137;exact zQaC
def zCs (a b:ByteArray)(w:World)(ha:a.size<=maxLen)(hb:b.size<=maxLen) :
  Calls prog 137 #[.string a,.string b] w (zab (zey a b) w):=by
 cases na:zas a;exact zwI a b w ha hb na;cases nb:zas b;exact zwJ a b w ha hb na nb;exact zCq a b w na nb
def zwK (a b:ByteArray)(w:World)(ha:a.size<=maxLen)(hb:b.size<=maxLen)(na:zas a=false) :
  Calls prog 139 #[.string a,.string b] w (zab (zed a b) w):=by
 have HV:=zHd (show zed a b=.tuple #[.string ⟨#[]⟩,.int .i64 1] by unfold zed;rw[na];rfl);have va:=zaE a w ha;have vb:=zaE b w hb;rw[na] at va;have VA:=zHd va;have VB:=zHd vb;clear va vb ha hb na;go_enter func139,ntmps139;exact zQaS
def zwL (a b:ByteArray)(w:World)(ha:a.size<=maxLen)(hb:b.size<=maxLen)(na:zas a=true)(nb:zas b=false) :
  Calls prog 139 #[.string a,.string b] w (zab (zed a b) w):=by
 have HV:=zHd (show zed a b=.tuple #[.string ⟨#[]⟩,.int .i64 1] by unfold zed;rw[na,nb];rfl);have va:=zaE a w ha;have vb:=zaE b w hb;rw[na] at va;rw[nb] at vb;have VA:=zHd va;have VB:=zHd vb;clear va vb ha hb na nb;go_enter func139,ntmps139;exact zQaC
def zCt (a b:ByteArray)(w:World)(na:zas a=true)(nb:zas b=true) :
  Calls prog 139 #[.string a,.string b] w (zab (zed a b) w):=by
 have va:=zaE a w (zbz na);have vb:=zaE b w (zbz nb);rw[na] at va;rw[nb] at vb;have VA:=zHd va;have VB:=zHd vb;have rc:=zhs a b w na nb;clear va vb
 by_cases hlt:nv a<nv b
 ·have HV:=zHd (show zed a b=.tuple #[.string ⟨#[]⟩,.int .i64 4] by rw[zFw a b na nb hlt])
  rw[show zcf (nv a) (nv b) = -1 by unfold zcf;rw[if_pos hlt]] at rc;have RC:=zHd rc;clear na nb hlt rc;go_enter func139,ntmps139;go_wp2_with fail;refine VA.out.mono ?_;rintro e w' ⟨rfl,rfl⟩;go_wp2_with fail;refine VB.out.mono ?_;rintro e w' ⟨rfl,rfl⟩;go_wp2_with fail;refine RC.out.mono ?_;rintro e w1 ⟨rfl,hg⟩;have G:=zHd hg;clear hg;go_wp2;go_ret2;rw[HV.out];exact⟨rfl,G.out⟩
 have HV:=zHd (show zed a b=.tuple #[.string (zal (nv a-nv b)),.int .i64 0] by unfold zed;rw[na,nb];simp only[Bool.and_self,if_true];rw[if_neg hlt]);obtain⟨d,hd,hd0⟩:∃ d:Int,zcf (nv a) (nv b)=d/\¬ d<0:=⟨_,rfl,by have:=zfH (nv a) (nv b);omega⟩;rw[hd] at rc;have RC:=zHd rc;have D1:=zHd (fun w=>zdF a w na);have D2:=zHd (fun w=>zdF b w nb);have hx:=zfi a na;have hy:=zfi b nb;have sa:=zcG a na;have sb:=zcG b nb;have la:=zeX a;have lb:=zeX b;have xa:=zeW a;have xb:=zeW b;have hle:vl 10 (zee b)<=vl 10 (zee a):=by omega
 rw[<- xa,<- xb] at HV;clear na nb rc hd xa xb hlt;generalize zee a=xs at *;generalize zee b=ys at *;have HX:=zHd hx;have HY:=zHd hy;have HLE:=zHd hle;have lx2:xs.length<=1000:=by omega
 have ly2:ys.length<=1000:=by omega
 clear hx hy sa sb la lb hle;go_enter func139,ntmps139;go_wp2_with fail;refine VA.out.mono ?_;rintro e w' ⟨rfl,rfl⟩;go_wp2_with fail;refine VB.out.mono ?_;rintro e w' ⟨rfl,rfl⟩;go_wp2_with fail;refine RC.out.mono ?_;rintro e w0 ⟨rfl,hg⟩;have G0:=zHd hg;clear hg VA VB RC;go_wp2_with fail;refine(D1.out _).mono ?_;rintro e w1 ⟨v1,rfl,hr1,hb1⟩;have R1:=zHd hr1;have B1:=zHd hb1;clear hr1 hb1;go_wp2_with fail;refine(D2.out _).mono ?_;rintro e w2 ⟨v2,rfl,hr2,hb2⟩;have R1':=zHd (R1.out.below hb2);have R2:=zHd hr2;have B2:=zHd (B1.out.trans (hb2.mono B1.out.size));clear hr2 hb2 R1 B1 D1 D2;go_wp2_with fail;refine(zou v1 v2 xs ys w2 R1'.out R2.out HX.out HY.out (by omega) (by omega) HLE.out).mono ?_;rintro e w3 ⟨v3,zs,rfl,hr3,hz,zV,zN,hb3⟩;have B3:=zHd (B2.out.trans (hb3.mono B2.out.size));have R3:=zHd hr3;have hT:=zjy v3 zs w3 hr3.1 hz (by omega);rw[zV] at hT;have HT:=zHd hT;clear hr3 hz zV zN hb3 hT;go_wp2_with fail;refine HT.out.mono ?_;rintro e w4 ⟨rfl,hb4⟩;have BB:=zHd (zaa G0.out (zdE (B3.out.trans (hb4.mono B3.out.size))));clear hb4;generalize zal (vl 10 xs-vl 10 ys)=S at *;go_wp2;go_ret2;rw[HV.out];exact⟨rfl,BB.out⟩
def ztb (a b:ByteArray)(w:World)(ha:a.size<=maxLen)(hb:b.size<=maxLen) :
  Calls prog 139 #[.string a,.string b] w (zab (zed a b) w):=by
 cases na:zas a;exact zwK a b w ha hb na;cases nb:zas b;exact zwL a b w ha hb na nb;exact zCt a b w na nb
open Go.RowKit
def zbH (a:Addr)(n:Nat):(a.add n).block=a.block:=by unfold Addr.add;split <;> rfl
def zpt (a:Addr)(i j:Nat):(a.add i).add j=a.add (i+j):=by
 unfold Addr.add
 by_cases hi:i=0 <;> by_cases hj:j=0 <;> simp[hi,hj,Nat.add_assoc]
def Reads (w:World)(B size:Nat)(A:Option Addr)(n:Nat)(xs:List Value):Prop :=
 xs.length=n*size/\(0<n->∃ ad,A=some ad/\ad.block<B/\∀ j u,xs[j]?=some u->w.cell? (ad.add j)=some u)
section
variable {w w':World} {B B' size n:Nat} {A:Option Addr} {xs:List Value}
def Reads.none_:Reads w B size A 0 []:=⟨by simp,fun h=>absurd h (by omega)⟩
def Reads.keep (h:Reads w B size A n xs)(hk:∀ p:Addr,p.block<B->w'.cell? p=w.cell? p):Reads w' B size A n xs :=
 ⟨h.1,fun hn=>by
  obtain⟨ad,e,hb,hc⟩:=h.2 hn;exact⟨ad,e,hb,fun j u hu=>(hk _ (by rw[zbH];exact hb)).trans (hc j u hu)⟩⟩
def Reads.more (h:Reads w B size A n xs)(hB:B<=B'):Reads w B' size A n xs :=
 ⟨h.1,fun hn=>by
  obtain⟨ad,e,hb,hc⟩:=h.2 hn;exact⟨ad,e,by omega,hc⟩⟩
def Reads.below (h:Reads w B size A n xs)(hb:Below B w w'):Reads w' B size A n xs:=h.keep fun _ hp=>hb.cell hp
end
variable {α:Type}
structure Wm (α:Type) where
 n:Nat
 E:Nat->Nat->α
 T:Nat->Nat->Nat->Nat->α
 F:Nat->α
def nx (S:Sr α)(m:Wm α)(f:List Nat->List Nat->Nat->α):List Nat->List Nat->Nat->α
 | [],[],p=>m.F p
 | a::u,[],p=>sm S m.n (fun r=>S.mul (m.T a 0 p r) (f u [] r))
 | [],b::v,p=>sm S m.n (fun r=>S.mul (m.T 0 b p r) (f [] v r))
 | a::u,b::v,p=>S.add (S.add (sm S m.n (fun r=>S.mul (m.T a 0 p r) (f u (b::v) r))) (sm S m.n (fun r=>S.mul (m.T 0 b p r) (f (a::u) v r)))) (sm S m.n (fun r=>S.mul (m.T a b p r) (f u v r)))
def bkN (S:Sr α)(m:Wm α):Nat->List Nat->List Nat->Nat->α
 | 0,u,v,q=>sm S m.n (fun p=>S.mul (stM S m.E m.n q p) (nx S m (fun _ _ _=>S.zero) u v p))
 | d+1,u,v,q=>sm S m.n (fun p=>S.mul (stM S m.E m.n q p) (nx S m (bkN S m d) u v p))
def bk (S:Sr α)(m:Wm α)(u v:List Nat)(q:Nat):α:=bkN S m (u.length+v.length) u v q
def zkY (S:Sr α)(m:Wm α){f g:List Nat->List Nat->Nat->α}(u v:List Nat)(h:∀ u' v' r,u'.length+v'.length<u.length+v.length->f u' v' r=g u' v' r)(p:Nat):nx S m f u v p=nx S m g u v p:=by
 cases u with
 | nil=>cases v with
  | nil=>rfl
  | cons b v=>exact zar S (fun r _=>by rw[h [] v r (by simp)])
 | cons a u=>cases v with
  | nil=>exact zar S (fun r _=>by rw[h u [] r (by simp)])
  | cons b v =>
   show S.add (S.add _ _) _=S.add (S.add _ _) _;rw[zar S (f:=fun r=>S.mul (m.T a 0 p r) (f u (b::v) r)) (fun r _=>by rw[h u (b::v) r (by simp)]),zar S (f:=fun r=>S.mul (m.T 0 b p r) (f (a::u) v r)) (fun r _=>by rw[h (a::u) v r (by simp)]),zar S (f:=fun r=>S.mul (m.T a b p r) (f u v r)) (fun r _=>by rw[h u v r (by simp;omega)])]
def zqI (S:Sr α)(m:Wm α):∀ (d e:Nat) (u v:List Nat) (q:Nat),u.length+v.length<=d->u.length+v.length<=e->bkN S m d u v q=bkN S m e u v q
 | 0,0,u,v,q,_,_=>rfl
 | 0,e+1,u,v,q,h,_=>zar S (fun p _=>by rw[zkY S m u v (g:=bkN S m e) (fun u' v' r h'=>by omega) p])
 | d+1,0,u,v,q,_,h=>zar S (fun p _=>by rw[zkY S m u v (g:=fun _ _ _=>S.zero) (fun u' v' r h'=>by omega) p])
 | d+1,e+1,u,v,q,h,k=>zar S (fun p _=>by rw[zkY S m u v (g:=bkN S m e) (fun u' v' r h'=>zqI S m d e u' v' r (by omega) (by omega)) p])
def zkF (S:Sr α)(m:Wm α)(u v:List Nat)(q:Nat):bk S m u v q=sm S m.n (fun p=>S.mul (stM S m.E m.n q p) (nx S m (bk S m) u v p)):=by
 unfold bk;rw[zqI S m (u.length+v.length) (u.length+v.length+1) u v q (zqab _) (by omega)];exact zar S (fun p _=>by rw[zkY S m u v (g:=fun u v q=>bkN S m (u.length+v.length) u v q) (fun u' v' r h'=>zqI S m _ _ u' v' r (by omega) (zqab _)) p])
def zgV (S:Sr α)(m:Wm α)(u v:List Nat){q:Nat}(hq:q<m.n):bk S m u v q=S.add (nx S m (bk S m) u v q) (sm S m.n (fun r=>S.mul (m.E q r) (bk S m u v r))):=by
 rw[zkF S m u v q]
 have e1:sm S m.n (fun p=>S.mul (stM S m.E m.n q p) (nx S m (bk S m) u v p))=S.add (sm S m.n (fun p=>S.mul (idm S q p) (nx S m (bk S m) u v p))) (sm S m.n (fun p=>S.mul (sm S m.n (fun r=>S.mul (m.E q r) (stM S m.E m.n r p))) (nx S m (bk S m) u v p))):=by
  rw[<- zdY];refine zar S (fun p hp=>?_);rw[zrD S m.E hp (i:=q),S.add_mul]
 rw[e1,zpj S _ hq];congr 1
 rw[zar S (g:=fun p=>sm S m.n (fun r=>S.mul (m.E q r) (S.mul (stM S m.E m.n r p) (nx S m (bk S m) u v p)))) (fun p _=>by
  rw[zir];exact zar S (fun r _=>S.mul_assoc _ _ _)),znq S (fun p r=>S.mul (m.E q r) (S.mul (stM S m.E m.n r p) (nx S m (bk S m) u v p))) m.n m.n]
 refine zar S (fun r _=>?_);rw[zkF S m u v r,zkD]
def zkZ (S:Sr α)(m:Wm α)(u v:List Nat)(X:Nat->α)(h:∀ q,q<m.n->S.le (S.add (nx S m (bk S m) u v q) (sm S m.n (fun r=>S.mul (m.E q r) (X r)))) (X q)){q:Nat}(hq:q<m.n):S.le (bk S m u v q) (X q):=by
 have hl:=zjs S m.E (nx S m (bk S m) u v) X h m.n (zqab _) q hq;rw[zar S (g:=fun p=>S.mul (el S m.E m.n q p) (nx S m (bk S m) u v p)) (fun p hp=>by rw[if_pos hp])] at hl
 have e:bk S m u v q=S.add (nx S m (bk S m) u v q) (sm S m.n (fun p=>S.mul (el S m.E m.n q p) (nx S m (bk S m) u v p))):=by
  rw[zkF]
  have e3:sm S m.n (fun p=>S.mul (stM S m.E m.n q p) (nx S m (bk S m) u v p))=S.add (sm S m.n (fun p=>S.mul (idm S q p) (nx S m (bk S m) u v p))) (sm S m.n (fun p=>S.mul (el S m.E m.n q p) (nx S m (bk S m) u v p))):=by
   rw[<- zdY];exact zar S (fun p _=>S.add_mul _ _ _)
  rw[e3,zpj S _ hq]
 rw[e];exact hl
section
variable {S:Sr α} {m:Wm α} (hm:∀ a b:α,a≠S.zero->b≠S.zero->S.mul a b≠S.zero)
include hm in
include hm in
end
variable {α:Type} (S:Sr α) (m:Wm α)
def zde (f g:Nat->α):α:=sm S m.n (fun q=>S.mul (f q) (g q))
def zaW (f:Nat->α)(p:Nat):α:=sm S m.n (fun q=>S.mul (f q) (stM S m.E m.n q p))
def stp (f:Nat->α)(a b p:Nat):α:=sm S m.n (fun q=>S.mul (f q) (m.T a b q p))
variable {S:Sr α} {m:Wm α}
def zFx (f g b:Nat->α):zde S m (fun q=>S.add (f q) (g q)) b=S.add (zde S m f b) (zde S m g b):=by
 unfold zde;rw[<- zdY];exact zar S (fun q _=>S.add_mul _ _ _)
def ztc (f b c:Nat->α):zde S m f (fun q=>S.add (b q) (c q))=S.add (zde S m f b) (zde S m f c):=by
 unfold zde;rw[<- zdY];exact zar S (fun q _=>S.mul_add _ _ _)
def zvV (f b:Nat->α)(M:Nat->Nat->α):zde S m f (fun q=>sm S m.n (fun r=>S.mul (M q r) (b r)))=zde S m (fun r=>sm S m.n (fun q=>S.mul (f q) (M q r))) b:=by
 unfold zde
 rw[zar S (g:=fun q=>sm S m.n (fun r=>S.mul (S.mul (f q) (M q r)) (b r))) (fun q _=>by
  rw[zkD];exact zar S (fun r _=>(S.mul_assoc _ _ _).symm)),znq S (fun q r=>S.mul (S.mul (f q) (M q r)) (b r)) m.n m.n]
 exact zar S (fun r _=>(zir S _ _ m.n).symm)
def ztd (f:Nat->α)(u v:List Nat):zde S m f (bk S m u v)=zde S m (zaW S m f) (nx S m (bk S m) u v):=by
 have e:zde S m f (bk S m u v)=zde S m f (fun q=>sm S m.n (fun r=>S.mul (stM S m.E m.n q r) (nx S m (bk S m) u v r))):=zar S (fun q _=>by rw[zkF]);rw[e,zvV];rfl
def zjz (f:Nat->α)(a b:Nat)(B:Nat->α):zde S m f (fun q=>sm S m.n (fun r=>S.mul (m.T a b q r) (B r)))=zde S m (stp S m f a b) B:=zvV f B (m.T a b)
def grid (S:Sr α)(X Y:Nat)(f:Nat->Nat->α):α:=sm S (X+1) (fun i=>sm S (Y+1) (fun j=>f i j))
def zef {X Y:Nat}{f g:Nat->Nat->α}(h:∀ i j,i<=X->j<=Y->f i j=g i j):grid S X Y f=grid S X Y g :=
 zar S (fun i hi=>zar S (fun j hj=>h i j (by omega) (by omega)))
def zte {X Y:Nat}(f g:Nat->Nat->α):grid S X Y (fun i j=>S.add (f i j) (g i j))=S.add (grid S X Y f) (grid S X Y g):=by
 unfold grid;rw[<- zdY];exact zar S (fun i _=>zdY S _ _ _)
def at1 (S:Sr α)(i j:Nat)(w:α)(i' j':Nat):α:=if i'=i/\j'=j then w else S.zero
def zdL {n k:Nat}(hk:k<n)(f:Nat->α)(h:∀ x,x<n->x≠k->f x=S.zero):sm S n f=f k:=by
 rw[zjr S f hk]
 have:sx S n k f=S.zero:=zdf S (fun x hx=>by
  by_cases e:x=k
  rw[if_pos e];rw[if_neg e];exact h x hx e)
 rw[this,S.add_zero]
def zla {X Y i j:Nat}(hi:i<=X)(hj:j<=Y)(w:α):grid S X Y (at1 S i j w)=w:=by
 unfold grid;rw[zdL (k:=i) (by omega) _ (fun x _ hx=>zdf S (fun y _=>by unfold at1;rw[if_neg (fun h=>hx h.1)])),zdL (k:=j) (by omega) _ (fun y _ hy=>by unfold at1;rw[if_neg (fun h=>hy h.2)])];unfold at1;rw[if_pos ⟨rfl,rfl⟩]
def zzh {X Y:Nat}:grid S X Y (fun _ _=>S.zero)=S.zero:=by
 unfold grid;exact zdf S (fun i _=>znp S _)
def zov (at':Nat->Nat->Nat->α)(i j:Nat)(w:Nat->α):Nat->Nat->Nat->α:=fun i' j' p=>if i'=i/\j'=j then w p else at' i' j' p
def zfj (S:Sr α)(at':Nat->Nat->Nat->α)(i j:Nat)(w:Nat->α):Nat->Nat->Nat->α:=fun i' j' p=>if i'=i/\j'=j then S.add (at' i j p) (w p) else at' i' j' p
def un (i j i' j':Nat):Bool:=decide (i<i'∨(i=i'/\j<=j'))
section
variable (S m) (x y:List Nat)
def zjA (i j:Nat):Nat->α:=bk S m (x.drop i) (y.drop j)
def proc1 (at':Nat->Nat->Nat->α)(i j:Nat):Nat->Nat->Nat->α:=zov at' i j (zaW S m (at' i j))
def zci (at':Nat->Nat->Nat->α)(i j:Nat):Nat->Nat->Nat->α:=if i<x.length then zfj S at' (i+1) j (stp S m (at' i j) (x.getD i 0) 0) else at'
def zdk (at':Nat->Nat->Nat->α)(i j:Nat):Nat->Nat->Nat->α:=if j<y.length then zfj S at' i (j+1) (stp S m (at' i j) 0 (y.getD j 0)) else at'
def zgL (at':Nat->Nat->Nat->α)(i j:Nat):Nat->Nat->Nat->α:=if i<x.length/\j<y.length then zfj S at' (i+1) (j+1) (stp S m (at' i j) (x.getD i 0) (y.getD j 0)) else at'
def zfQ (at':Nat->Nat->Nat->α)(i j:Nat):Nat->Nat->Nat->α:=zgL S m x y (zdk S m y (zci S m x (proc1 S m at' i j) i j) i j) i j
def pot (at':Nat->Nat->Nat->α)(i j:Nat):α:=grid S x.length y.length (fun i' j'=>if un i j i' j'=true then zde S m (at' i' j') (zjA S m x y i' j') else S.zero)
end
variable {x y:List Nat}
def drop_at {l:List Nat}{i:Nat}(h:i<l.length):l.drop i=l.getD i 0::l.drop (i+1):=by
 rw[zqaa,zqac h];exact List.drop_eq_getElem_cons h
def zhT {l:List Nat}{i:Nat}(h:l.length<=i):l.drop i=[]:=List.drop_eq_nil_of_le h
def zFy (at':Nat->Nat->Nat->α)(i:Nat):pot S m x y at' i (y.length+1)=pot S m x y at' (i+1) 0 :=
 zef (fun i' j' _ hj=>by
  have:un i (y.length+1) i' j'=un (i+1) 0 i' j':=by
   unfold un
   by_cases h:i<i'
   rw[decide_eq_true (.inl h),decide_eq_true (show i+1<i'∨(i+1=i'/\0<=j') by omega)];rw[zqcb (by omega),zqcb (by omega)]
  rw[this])
def zvW {at':Nat->Nat->Nat->α}{i j:Nat}(hi:i<=x.length)(hj:j<=y.length):pot S m x y at' i j=S.add (zde S m (at' i j) (zjA S m x y i j)) (pot S m x y at' i (j+1)):=by
 have e:=zla (S:=S) hi hj (zde S m (at' i j) (zjA S m x y i j));unfold pot;rw[<- e,<- zte];refine zef (fun i' j' _ _=>?_);unfold at1 un
 by_cases h:i'=i/\j'=j
 ·obtain⟨rfl,rfl⟩:=h
  rw[if_pos (show decide (i'<i'∨(i'=i'/\j'<=j'))=true by simp),if_pos ⟨rfl,rfl⟩,if_neg (show ¬ decide (i'<i'∨(i'=i'/\j'+1<=j'))=true by simp),S.add_zero]
 rw[if_neg h,S.zero_add]
 have:(decide (i<i'∨(i=i'/\j<=j')):Bool)=decide (i<i'∨(i=i'/\j+1<=j')):=by
  by_cases h2:i<i'∨(i=i'/\j<=j')
  rw[decide_eq_true h2,decide_eq_true (by omega)];rw[zqcb h2,zqcb (by omega)]
 rw[this]
def zFz {at':Nat->Nat->Nat->α}{i j:Nat}(w:Nat->α):pot S m x y (zov at' i j w) i (j+1)=pot S m x y at' i (j+1) :=
 zef (fun i' j' _ _=>by
  by_cases h:un i (j+1) i' j'=true
  ·rw[if_pos h,if_pos h]
   have:zov at' i j w i' j'=at' i' j':=by
    funext p;unfold zov;unfold un at h;have:=of_decide_eq_true h;rw[if_neg (by omega)]
   rw[this]
  rw[if_neg h,if_neg h])
def zkG {at':Nat->Nat->Nat->α}{i j i2 j2:Nat}(w:Nat->α)(hi:i2<=x.length)(hj:j2<=y.length)(hu:un i (j+1) i2 j2=true):pot S m x y (zfj S at' i2 j2 w) i (j+1)=S.add (zde S m w (zjA S m x y i2 j2)) (pot S m x y at' i (j+1)):=by
 have e:=zla (S:=S) hi hj (zde S m w (zjA S m x y i2 j2));unfold pot;rw[<- e,<- zte];refine zef (fun i' j' _ _=>?_);unfold at1
 by_cases h:i'=i2/\j'=j2
 ·obtain⟨rfl,rfl⟩:=h
  rw[if_pos hu,if_pos ⟨rfl,rfl⟩,if_pos hu]
  have:zfj S at' i' j' w i' j'=fun p=>S.add (at' i' j' p) (w p):=by
   funext p;unfold zfj;rw[if_pos ⟨rfl,rfl⟩]
  rw[this,zFx,S.add_comm]
 rw[if_neg h,S.zero_add]
 have:zfj S at' i2 j2 w i' j'=at' i' j':=by
  funext p;unfold zfj;rw[if_neg h]
 rw[this]
def zbS (at':Nat->Nat->Nat->α)(i j:Nat):proc1 S m at' i j i j=zaW S m (at' i j):=by funext p;unfold proc1 zov;rw[if_pos ⟨rfl,rfl⟩]
def zdU (at':Nat->Nat->Nat->α)(i j:Nat):zci S m x at' i j i j=at' i j:=by
 unfold zci;split;funext p;unfold zfj;rw[if_neg (by omega)];rfl
def zhU (at':Nat->Nat->Nat->α)(i j:Nat):zdk S m y at' i j i j=at' i j:=by
 unfold zdk;split;funext p;unfold zfj;rw[if_neg (by omega)];rfl
def ztf {at':Nat->Nat->Nat->α}{i j:Nat}(hi:i<=x.length)(hj:j<=y.length)(he:i<x.length∨j<y.length):pot S m x y (zfQ S m x y at' i j) i (j+1)=pot S m x y at' i j:=by
 rw[zvW hi hj];have u2:un i (j+1) (i+1) j=true:=by unfold un;exact decide_eq_true (by omega)
 have u3:un i (j+1) i (j+1)=true:=by unfold un;exact decide_eq_true (by omega)
 have u4:un i (j+1) (i+1) (j+1)=true:=by unfold un;exact decide_eq_true (by omega)
 have e1:pot S m x y (proc1 S m at' i j) i (j+1)=pot S m x y at' i (j+1):=zFz _;have hd:zde S m (at' i j) (zjA S m x y i j)=zde S m (zaW S m (at' i j)) (nx S m (bk S m) (x.drop i) (y.drop j)):=ztd _ _ _;rw[hd];unfold zfQ
 by_cases h1:i<x.length
 ·by_cases h2:j<y.length
  ·have e4:zgL S m x y (zdk S m y (zci S m x (proc1 S m at' i j) i j) i j) i j=zfj S (zdk S m y (zci S m x (proc1 S m at' i j) i j) i j) (i+1) (j+1) (stp S m (zaW S m (at' i j)) (x.getD i 0) (y.getD j 0)):=by
    unfold zgL;rw[if_pos ⟨h1,h2⟩,zhU,zdU,zbS]
   have e3:zdk S m y (zci S m x (proc1 S m at' i j) i j) i j=zfj S (zci S m x (proc1 S m at' i j) i j) i (j+1) (stp S m (zaW S m (at' i j)) 0 (y.getD j 0)):=by
    unfold zdk;rw[if_pos h2,zdU,zbS]
   have e2:zci S m x (proc1 S m at' i j) i j=zfj S (proc1 S m at' i j) (i+1) j (stp S m (zaW S m (at' i j)) (x.getD i 0) 0):=by
    unfold zci;rw[if_pos h1,zbS]
   rw[e4,zkG _ (by omega) (by omega) u4,e3,zkG _ (by omega) (by omega) u3,e2,zkG _ (by omega) (by omega) u2,e1];rw[drop_at h1,drop_at h2];have ex:nx S m (bk S m) (x.getD i 0::x.drop (i+1)) (y.getD j 0::y.drop (j+1))=fun p=>S.add (S.add (sm S m.n (fun r=>S.mul (m.T (x.getD i 0) 0 p r) (bk S m (x.drop (i+1)) (y.getD j 0::y.drop (j+1)) r))) (sm S m.n (fun r=>S.mul (m.T 0 (y.getD j 0) p r) (bk S m (x.getD i 0::x.drop (i+1)) (y.drop (j+1)) r)))) (sm S m.n (fun r=>S.mul (m.T (x.getD i 0) (y.getD j 0) p r) (bk S m (x.drop (i+1)) (y.drop (j+1)) r))):=rfl;rw[ex,ztc,ztc,zjz,zjz,zjz];unfold zjA;rw[drop_at h2,drop_at h1];ac_rfl
  have e4:zgL S m x y (zdk S m y (zci S m x (proc1 S m at' i j) i j) i j) i j=zci S m x (proc1 S m at' i j) i j:=by
   unfold zgL zdk;rw[if_neg (fun h=>h2 h.2),if_neg h2]
  have e2:zci S m x (proc1 S m at' i j) i j=zfj S (proc1 S m at' i j) (i+1) j (stp S m (zaW S m (at' i j)) (x.getD i 0) 0):=by
   unfold zci;rw[if_pos h1,zbS]
  rw[e4,e2,zkG _ (by omega) (by omega) u2,e1];rw[drop_at h1,zhT (show y.length<=j by omega)];have ex:nx S m (bk S m) (x.getD i 0::x.drop (i+1)) []=fun p=>sm S m.n (fun r=>S.mul (m.T (x.getD i 0) 0 p r) (bk S m (x.drop (i+1)) [] r)):=rfl;rw[ex,zjz];unfold zjA;rw[zhT (show y.length<=j by omega)]
 have h2:j<y.length:=by omega
 have e4:zgL S m x y (zdk S m y (zci S m x (proc1 S m at' i j) i j) i j) i j=zdk S m y (proc1 S m at' i j) i j:=by
  unfold zgL zci;rw[if_neg (fun h=>h1 h.1),if_neg h1]
 have e3:zdk S m y (proc1 S m at' i j) i j=zfj S (proc1 S m at' i j) i (j+1) (stp S m (zaW S m (at' i j)) 0 (y.getD j 0)):=by
  unfold zdk;rw[if_pos h2,zbS]
 rw[e4,e3,zkG _ (by omega) (by omega) u3,e1];rw[drop_at h2,zhT (show x.length<=i by omega)];have ex:nx S m (bk S m) [] (y.getD j 0::y.drop (j+1))=fun p=>sm S m.n (fun r=>S.mul (m.T 0 (y.getD j 0) p r) (bk S m [] (y.drop (j+1)) r)):=rfl;rw[ex,zjz];unfold zjA;rw[zhT (show x.length<=i by omega)]
def zCu (at':Nat->Nat->Nat->α):pot S m x y at' x.length y.length=zde S m (zaW S m (at' x.length y.length)) m.F:=by
 rw[zvW (zqab _) (zqab _)]
 have e:pot S m x y at' x.length (y.length+1)=S.zero:=by
  refine(zef (fun i' j' hi hj=>?_)).trans (zzh (S:=S) (X:=x.length) (Y:=y.length));unfold un;rw[if_neg (by simp;omega)]
 rw[e,S.add_zero];have hd:zde S m (at' x.length y.length) (zjA S m x y x.length y.length)=zde S m (zaW S m (at' x.length y.length)) (nx S m (bk S m) (x.drop x.length) (y.drop y.length)):=ztd _ _ _;rw[hd,zhT (zqab _),zhT (zqab _)];rfl
def zzi {at':Nat->Nat->Nat->α}{lead:α}{start:Nat}(hs:start<m.n)(h:∀ i j q,at' i j q=if i=0/\j=0/\q=start then lead else S.zero):pot S m x y at' 0 0=S.mul lead (bk S m x y start):=by
 have e:∀ i j,zde S m (at' i j) (zjA S m x y i j)=at1 S 0 0 (S.mul lead (bk S m x y start)) i j:=fun i j=>by
  unfold at1 zde
  by_cases h0:i=0/\j=0
  ·obtain⟨rfl,rfl⟩:=h0
   rw[if_pos ⟨rfl,rfl⟩,zdL hs _ (fun q _ hq=>by rw[h,if_neg (fun k=>hq k.2.2),S.zero_mul]),h,if_pos ⟨rfl,rfl,rfl⟩];rfl
  rw[if_neg h0,zdf S (fun q _=>by rw[h,if_neg (fun k=>h0 ⟨k.1,k.2.1⟩),S.zero_mul])]
 unfold pot;rw[<- zla (S:=S) (X:=x.length) (Y:=y.length) (zqaw _) (zqaw _) (S.mul lead (bk S m x y start))];refine zef (fun i j _ _=>?_);rw[if_pos (show un 0 0 i j=true by unfold un;exact decide_eq_true (by omega)),e]
end Go.Proofs.YtadgpgofcjpnjaaGreatDoor
