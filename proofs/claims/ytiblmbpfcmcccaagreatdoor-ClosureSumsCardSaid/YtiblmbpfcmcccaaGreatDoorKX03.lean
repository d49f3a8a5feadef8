/- Part. -/
import Derived.Test.YtiblmbpfcmcccaaGreatDoorKX02
import Derived.Shelf.Strings.OnBuilder
set_option linter.unusedVariables false
set_option linter.defProp false
set_option linter.unusedSimpArgs false
set_option maxRecDepth 100000
set_option maxHeartbeats 16000000
namespace Go.Proofs.YtiblmbpfcmcccaaGreatDoor
open Go.Proofs.Tryz
open Go.RowKit
open Go.Lib (nDigits)
def zlj (B gx cx gy cy:Nat)(xs ys:List Nat)(w:World)(hxb:zaF B w (.slice (some ⟨gx,0,none⟩) xs.length cx) xs)(hyb:zaF B w (.slice (some ⟨gy,0,none⟩) ys.length cy) ys)(hne:gx≠gy)
  (hx:∀ x∈xs,x<1000000000) (hy:∀ y∈ys,y<1000000000) (hxt:zcx xs) (hyt:zcx ys) (h0:ys≠[]) (hn:xs.length<=10000) (hBw:B<=w.heap.size) :
  Calls prog 244 #[.slice (some ⟨gx,0,none⟩) xs.length cx,.slice (some ⟨gy,0,none⟩) ys.length cy] w (zrR B gx gy xs ys w):=by
 rcases Nat.lt_or_ge xs.length ys.length with h|h;exact zvg B gx cx gy cy xs ys w hxb hne hx hxt hyt h;obtain⟨m,hm⟩:∃ m,ys.length=m+1:=⟨ys.length-1,by have:=List.length_pos_iff.2 h0;omega⟩;exact zxH B gx cx gy cy m xs ys w hxb hyb hne hx hy hyt hm h hn hBw
def zdq (a b:ByteArray):Value :=
 if zao a&&zao b then (if nv b=0 then .tuple #[.string ⟨#[]⟩,.string ⟨#[]⟩,.int .i64 4] else .tuple #[.string (zai (nv a/nv b)),.string (zai (nv a%nv b)),.int .i64 0])
 else .tuple #[.string ⟨#[]⟩,.string ⟨#[]⟩,.int .i64 1]
def zeI (a b:ByteArray):Value:=if zao a&&zao b then .tuple #[.string (zai (Nat.gcd (nv a) (nv b))),.int .i64 0] else ziD
def zvh (b:ByteArray)(h:zao b=true):(b.toList==[48])=decide (nv b=0):=by
 rw[Lib.toList_data]
 by_cases hz:nv b=0
 ·have:=(zbZ b h).1
  rw[hz] at this;rw[this,zlh,Lib.decDigits_one (by decide)];simp[hz];rw[<- this,hz]
 have:b.data.toList≠[48]:=by
  intro e;apply hz;unfold nv;rw[e];rfl
 simp[hz,this]
def zoD {xs:List Nat}(h:zcx xs):xs=[]↔vl 1000000000 xs=0:=(zzY 1000000000 (by decide) xs h).symm
structure zcC (B gx cx gy cy:Nat)(xs ys:List Nat)(w0 wr:World)(G:Nat):Prop where
 xb:zaF B wr (.slice (some ⟨gx,0,none⟩) xs.length cx) xs
 yb:zaF B wr (.slice (some ⟨gy,0,none⟩) ys.length cy) ys
 ne:gx≠gy
 xlt:∀ x∈xs,x<1000000000
 ylt:∀ y∈ys,y<1000000000
 xt:zcx xs
 yt:zcx ys
 g:Nat.gcd (vl 1000000000 xs) (vl 1000000000 ys)=G
 xn:xs.length<=10000
 yn:ys.length<=10000
 bel:Below B w0 wr
 bs:B<=wr.heap.size
def zcC.step {B gx cx gy cy:Nat}{xs ys:List Nat}{w0 wr w':World}{G:Nat}(h:zcC B gx cx gy cy xs ys w0 wr G)(h0:ys≠[]){qv:Value}{qs rs:List Nat}{gr cr:Nat}
  (hd:zqg B gx gy xs ys wr w' qv qs gr cr rs):zcC B gy cy gr cr ys rs w0 w' G/\vl 1000000000 rs<vl 1000000000 ys:=by
 have hpos:0<vl 1000000000 ys:=by
  rcases Nat.eq_zero_or_pos (vl 1000000000 ys) with e|e;exact absurd ((zoD h.yt).2 e) h0;exact e
 have hlt:vl 1000000000 rs<vl 1000000000 ys:=by rw[hd.rv];exact Nat.mod_lt _ hpos
 refine⟨⟨h.yb.grown hd.gr (by have:=h.ne;simp[Value.ownBlock];omega),hd.rb,fun e=>hd.rne e.symm,h.ylt,hd.rlt,h.yt,hd.rt,?_,h.yn,?_,?_,?_⟩,hlt⟩;rw[hd.rv,<- h.g,Nat.gcd_comm (vl 1000000000 xs),Nat.gcd_rec (vl 1000000000 ys) (vl 1000000000 xs),Nat.gcd_comm];exact zqam (zCG ys rs h.ylt hd.rt (by omega)) h.yn
 ·refine h.bel.trans (below_grown hd.gr h.bs ?_)
  intro k hk;simp at hk;subst hk;exact(h.xb.lt gx rfl).1
 exact zqam h.bs hd.gr.size
def zJS (B G:Nat)(w:World)(e:Ending)(w':World):Prop :=
 ∃ g c zs,e=.returned (.slice (some ⟨g,0,none⟩) zs.length c)/\zaF B w' (.slice (some ⟨g,0,none⟩) zs.length c) zs/\(∀ z∈zs,z<1000000000)/\vl 1000000000 zs=G/\zs.length<=10000/\Below B w w'
def zpa {xs:List Nat}{n:Nat}(hn:2<=n)(hx:∀ x∈xs,x<1000000000)(hl:xs.length<=n):vl 1000000000 xs/1000000000 ^ (n-2)=ziE xs (n:Int):=by
 have e1:zcm xs ((n:Int)-1)=xs.getD (n-1) 0:=by unfold zcm;rw[if_neg (by omega)];congr 1;omega
 have e2:zcm xs ((n:Int)-2)=xs.getD (n-2) 0:=by unfold zcm;rw[if_neg (by omega)];congr 1;omega
 unfold ziE;rw[e1,e2];have h1:=zaM 1000000000 xs (n-2);have h2:=zaM 1000000000 xs (n-1);rw[show n-2+1=n-1 by omega] at h1;rw[show n-1+1=n by omega,zqaf hl] at h2;have h3:=zbP 1000000000 (xs.take (n-2)) (fun x hm=>hx x (zqau hm));have h4:(1000000000:Nat) ^ (xs.take (n-2)).length<=1000000000 ^ (n-2):=zqay (by decide) (by rw[zqan];omega);have h5:(1000000000:Nat) ^ (n-1)=1000000000 ^ (n-2)*1000000000:=by rw[<- zqbp];congr 1;omega
 rw[h2,h1,h5];have hP:0<(1000000000:Nat) ^ (n-2):=Nat.pow_pos (by decide);generalize (1000000000:Nat) ^ (n-2)=P at *;generalize xs.getD (n-1) 0=g1 at *;generalize xs.getD (n-2) 0=b at *;obtain⟨a,ha⟩:∃ a,g1*1000000000=a:=⟨_,rfl⟩;have h6:P*1000000000*g1=P*a:=by rw[<- ha,zqav,zqbc 1000000000]
 rw[h6,ha];clear h6 ha h5 h1 h2 e1 e2;have e3:vl 1000000000 (xs.take (n-2))+P*b+P*a=vl 1000000000 (xs.take (n-2))+P*(a+b):=by rw[zqbh];omega
 rw[e3,Nat.add_mul_div_left _ _ hP,Nat.div_eq_of_lt (by omega),zqat]
def zmA (B G:Nat)(ys:List Nat)(w:World)(e:Ending)(w':World):Prop :=
 ∃ gx cx,∃ (xs':List Nat),∃ gy cy,∃ (ys':List Nat),e=.returned (.tuple #[.slice (some ⟨gx,0,none⟩) xs'.length cx,.slice (some ⟨gy,0,none⟩) ys'.length cy])/\zcC B gx cx gy cy xs' ys' w w' G/\vl 1000000000 ys'<vl 1000000000 ys
def ztl {B gx cx gy cy:Nat}{xs ys:List Nat}{w:World}{G:Nat}(h:zcC B gx cx gy cy xs ys w w G)(h0:ys≠[]){qv:Value}{qs rs:List Nat}{gr cr:Nat}{w1 w':World}(hg:w.grownBy w1 none)
  (hd:zqg B gx gy xs ys w1 w' qv qs gr cr rs):zcC B gy cy gr cr ys rs w w' G/\vl 1000000000 rs<vl 1000000000 ys:=by
 have h1:zcC B gx cx gy cy xs ys w w1 G:=⟨h.xb.grown hg (by simp),h.yb.grown hg (by simp),h.ne,h.xlt,h.ylt,h.xt,h.yt,h.g,h.xn,h.yn,below_grown hg h.bs (by simp),zqam h.bs hg.size⟩;exact h1.step h0 hd
def zcC.later {B gx cx gy cy:Nat}{xs ys:List Nat}{w:World}{G:Nat}(h:zcC B gx cx gy cy xs ys w w G){g1 g2 n A C:Nat}{zs ts:List Nat}{w':World}(hn:n<=10000)
  (hz:zaF w.heap.size w' (.slice (some ⟨g1,0,none⟩) zs.length n) zs) (ht:zaF w.heap.size w' (.slice (some ⟨g2,0,none⟩) ts.length n) ts) (hne:g1≠g2) (z1:∀ z∈zs,z<1000000000) (t1:∀ z∈ts,z<1000000000)
  (z2:vl 1000000000 zs=A) (t2:vl 1000000000 ts=C) (z3:zcx zs) (t3:zcx ts) (z4:zs.length<=n) (t4:ts.length<=n) (hG:Nat.gcd A C=Nat.gcd (vl 1000000000 xs) (vl 1000000000 ys)) (hg:w.grownBy w' none) :
  zcC B g1 n g2 n zs ts w w' G :=
 ⟨hz.base h.bs,ht.base h.bs,hne,z1,t1,z3,t3,by rw[z2,t2,hG];exact h.g,by omega,by omega,below_grown hg h.bs (by simp),zqam h.bs hg.size⟩
def zxJ (B gx cx gy cy G:Nat)(xs ys:List Nat)(w:World)(h:zcC B gx cx gy cy xs ys w w G)(h0:ys≠[])(hl:xs.length<ys.length) :
  Calls prog 256 #[.slice (some ⟨gx,0,none⟩) xs.length cx,.slice (some ⟨gy,0,none⟩) ys.length cy] w (zmA B G ys w):=by
 have hd:=fun(w1:World) (hg:w.grownBy w1 none)=>zlj B gx cx gy cy xs ys w1 (h.xb.grown hg (by simp)) (h.yb.grown hg (by simp)) h.ne h.xlt h.ylt h.xt h.yt h0 h.xn (zqam h.bs hg.size);have t1:decide (ys.length<=xs.length)=false:=by simp;omega
 have t1':decide ((ys.length:Int)<=(xs.length:Int))=false:=by simp;omega
 have H:=zHd (zAI h h0);have HD:=zHd hd;clear h hd h0 hl;go_enter func256,ntmps256;go_wp2_with fail;refine(HD.out _ (zGA _ _ none)).mono ?_;rintro e w' ⟨qv,qs,gr,cr,rs,rfl,hok⟩;obtain⟨h1,h2⟩:=ztl H.out.1 H.out.2 (zGA _ _ none) hok;exact zQbm
def zCM {w w1:World}(h:(w.alloc (.cells #[.int .u64 0,.int .u64 0,.int .u64 0,.int .u64 0,.bool false] 235)).grownBy w1 none):w1.heap[w.heap.size]?=some (.cells #[.int .u64 0,.int .u64 0,.int .u64 0,.int .u64 0,.bool false] 235 (0,0)):=by
 rw[h.block w.heap.size (by simp) (by simp)];exact zQaV
def zCN {w1:World}{g a b c d:Nat}{sw:Bool}(h:w1.heap[g]?=some (.cells #[.int .u64 0,.int .u64 0,.int .u64 0,.int .u64 0,.bool false] 235 (0,0))) :
  zbB (((((w1.setCell ⟨g,0,none⟩ (.int .u64 (a:Int))).setCell ⟨g,1,none⟩ (.int .u64 (b:Int))).setCell ⟨g,2,none⟩ (.int .u64 (c:Int))).setCell ⟨g,3,none⟩ (.int .u64 (d:Int))).setCell ⟨g,4,none⟩ (.bool sw)) g a b c d sw:=by
 have h0:zbB w1 g 0 0 0 0 false:=h;exact((((h0.set0 a).set1 b).set2 c).set3 d).set4 sw
structure zuN (w w':World)(R n g:Nat)(zs:List Nat):Prop where
 b:zaF w.heap.size w' (.slice (some ⟨g,0,none⟩) zs.length n) zs
 lt:∀ z∈zs,z<1000000000
 v:vl 1000000000 zs=R
 t:zcx zs
 n:zs.length<=n
 gr:w.grownBy w' none
structure Ask (w:World)(n:Nat)(v1:Value)(f:Int)(v2:Value)(g:Int)(R:Nat):Prop where
 use:∀ w',w.grownBy w' none->Calls prog 269 #[v1,.int .u64 f,v2,.int .u64 g] w' fun e w''=>∃ gb zs,e=.returned (.slice (some ⟨gb,0,none⟩) zs.length n)/\zuN w' w'' R n gb zs
def zqi {w:World}{f g n R:Nat}{A1 A2:Option Addr}{c1 c2:Nat}{xs ys:List Nat}(hsx:∀ w1,w.grownBy w1 none->zgx w1 (.slice A1 xs.length c1) xs)(hsy:∀ w1,w.grownBy w1 none->zgx w1 (.slice A2 ys.length c2) ys)
  (hf:f<=1000000000) (hg:g<=1000000000) (hx:∀ x∈xs,x<1000000000) (hy:∀ y∈ys,y<1000000000) (hm:max xs.length ys.length=n) (hn:n<=10000)
  (hR:R+g*vl 1000000000 ys=f*vl 1000000000 xs) (hlt:R<1000000000 ^ n):Ask w n (.slice A1 xs.length c1) f (.slice A2 ys.length c2) g R:=⟨fun w' hw=>by
 refine(zrS f g n R A1 A2 c1 c2 xs ys w' (fun w1 h=>hsx w1 (zaa hw h)) (fun w1 h=>hsy w1 (zaa hw h)) hf hg hx hy hm hn hR hlt).mono ?_;rintro e w'' ⟨gb,zs,rfl,h1,h2,h3,h4,h5,h6⟩;exact⟨gb,zs,rfl,h1,h2,h3,h4,h5,h6⟩⟩
def zoa {w w':World}{n:Nat}{v1 v2:Value}{f g:Int}{R:Nat}{Q:Ending->World->Prop}(h:Ask w n v1 f v2 g R)(hw:w.grownBy w' none)(hq:∀ gb zs w'',zuN w' w'' R n gb zs->Q (.returned (.slice (some ⟨gb,0,none⟩) zs.length n)) w'') :
  Calls prog 269 #[v1,.int .u64 f,v2,.int .u64 g] w' Q:=(h.use w' hw).mono (by rintro e w'' ⟨gb,zs,rfl,h⟩;exact hq gb zs w'' h)
def ztm {B gx cx gy cy G n A C ga gc:Nat}{xs ys zs ts:List Nat}{w w2 w3 w4:World}(h:zcC B gx cx gy cy xs ys w w G)(hn:n<=10000)(hw:w.grownBy w2 none)(hG:Nat.gcd A C=Nat.gcd (vl 1000000000 xs) (vl 1000000000 ys))
  (h1:zuN w2 w3 A n ga zs) (h2:zuN w3 w4 C n gc ts):zcC B ga n gc n zs ts w w4 G:=by
 have l1:=(h1.b.lt ga rfl).2;have l2:=(h2.b.lt gc rfl).1;exact h.later hn ((h1.b.grown h2.gr (by simp)).base hw.size) (h2.b.base (zqam hw.size h1.gr.size)) (by omega) h1.lt h2.lt h1.v h2.v h1.t h2.t h1.n h2.n hG (zaa (zaa hw h1.gr) h2.gr)
def zAf (B gx cx gy cy G:Nat)(xs ys:List Nat)(w:World)(h:zcC B gx cx gy cy xs ys w w G)(h0:ys≠[])(hl:ys.length<=xs.length)(h2:2<xs.length) :
  Calls prog 256 #[.slice (some ⟨gx,0,none⟩) xs.length cx,.slice (some ⟨gy,0,none⟩) ys.length cy] w (zmA B G ys w):=by
 have hsx:∀ w1,w.grownBy w1 none->zgx w1 (.slice (some ⟨gx,0,none⟩) xs.length cx) xs:=fun w1 hg=>(h.xb.grown hg (by simp)).sees;have hsy:∀ w1,w.grownBy w1 none->zgx w1 (.slice (some ⟨gy,0,none⟩) ys.length cy) ys:=fun w1 hg=>(h.yb.grown hg (by simp)).sees;have ht1:=fun w1 hg=>znZ w1 _ xs (xs.length:Int) (hsx w1 hg) h.xlt h.xn (by omega) (by have:=h.xn;omega);have ht2:=fun w1 hg=>znZ w1 _ ys (xs.length:Int) (hsy w1 hg) h.ylt h.yn (by omega) (by have:=h.xn;omega);have hfo:=fun w1=>zxI (ziE xs xs.length) (ziE ys xs.length) w1 (znY h.xlt _) (znY h.ylt _);have hq1:=zpa (n:=xs.length) (by omega) h.xlt (zqab _);have hq2:=zpa (n:=xs.length) (by omega) h.ylt hl;generalize ziE xs xs.length=hx at *;generalize ziE ys xs.length=hy at *;have t1:decide (ys.length<=xs.length)=true:=by simp;omega
 have t1':decide ((ys.length:Int)<=(xs.length:Int))=true:=by simp;omega
 have H:=zHd (zAI h h0);have HT1:=zHd ht1;have HT2:=zHd ht2;have HFO:=zHd hfo;have HQ:=zHd (zAI hq1 hq2);have HL:=zHd (zAI hl h2);have HSX:=zHd hsx;have HSY:=zHd hsy;have HDV:=zHd (fun(w1:World) (hg:w.grownBy w1 none)=>zlj B gx cx gy cy xs ys w1 (h.xb.grown hg (by simp)) (h.yb.grown hg (by simp)) h.ne h.xlt h.ylt h.xt h.yt h0 h.xn (zqam h.bs hg.size));clear h h0 ht1 ht2 hfo hq1 hq2 hl h2 hsx hsy;go_enter func256,ntmps256;go_wp2_with fail;refine(HT1.out _ (zGA _ _ none)).mono ?_;rintro e w' ⟨rfl,rfl⟩;go_wp2_with fail;refine(HT2.out _ (zGA _ _ none)).mono ?_;rintro e w' ⟨rfl,rfl⟩;go_wp2_with fail;refine(HFO.out _).mono ?_;rintro e w1 ⟨x,y,a,b,c,d,ee,f,sw,rfl,hf,hg⟩;have hnew:=zCM hg;have h00:zbB w1 w.heap.size 0 0 0 0 false:=hnew;obtain⟨k0,k1,k2,k3,k4,z0,z1,z2,z3,z4⟩:=h00.cells;have HG:=zHd (zaa (zGA _ _ none) hg);have HF:=zHd hf;have HW:=zHd hnew;clear hg hf h00 hnew;unfold stV
 by_cases hc:c=0
 ·have t2:decide (c=0)=true:=by simpa using hc
  have t2':((c:Int)==0)=true:=by simpa using hc
  go_wp2_with fail;refine(HDV.out _ (zeH HG.out (zae w1 none))).mono ?_;rintro e w' ⟨qv,qs,gr,cr,rs,rfl,hok⟩;obtain⟨h1,h2⟩:=ztl H.out.1 H.out.2 (zeH HG.out (zae w1 none)) hok;exact zQbm
 have t2:decide (c=0)=false:=by simpa using hc
 have t2':((c:Int)==0)=false:=by simpa using hc
 obtain⟨A,C,hlat⟩:=HF.out.out hc (P:=1000000000 ^ (xs.length-2)) (Nat.pow_pos (by decide)) HQ.out.1 HQ.out.2;have hY:=zbP 1000000000 ys H.out.1.ylt;have hYX:(1000000000:Nat) ^ ys.length<=1000000000 ^ xs.length:=zqay (by decide) HL.out.1;have hal:=HF.out.al;have hbl:=HF.out.bl;have hcl:=HF.out.cl;have hdl:=HF.out.dl;have hmax:max xs.length ys.length=xs.length:=Nat.max_eq_left HL.out.1;have hmax2:max ys.length xs.length=xs.length:=Nat.max_eq_right HL.out.1;have hst:=zCN (a:=a) (b:=b) (c:=c) (d:=d) (sw:=sw) HW.out;have hw2:=zeH (u0:=.int .u64 (a:Int)) (u1:=.int .u64 (b:Int)) (u2:=.int .u64 (c:Int)) (u3:=.int .u64 (d:Int)) (u4:=.bool sw) HG.out (zae w1 none);have hle:vl 1000000000 ys<1000000000 ^ xs.length:=by omega
 have HLT:=zHd (zAI hlat (zAI hle (zAI hmax hmax2)));have HB:=zHd (zAI hal (zAI hbl (zAI hcl hdl)));have HST:=zHd hst;have HW2:=zHd hw2;clear hlat hY hYX hal hbl hcl hdl hmax hmax2 hst hw2 hle;cases sw
 ·have hA1:Ask w xs.length (.slice (some ⟨gx,0,none⟩) xs.length cx) a (.slice (some ⟨gy,0,none⟩) ys.length cy) c A:=zqi HSX.out HSY.out (by have:=HB.out;omega) (by have:=HB.out;omega) H.out.1.xlt H.out.1.ylt HLT.out.2.2.1 H.out.1.xn (HLT.out.1.t2 rfl).1 (by have:=HLT.out.1.le;have:=HLT.out.2.1;omega)
  have hA2:Ask w xs.length (.slice (some ⟨gy,0,none⟩) ys.length cy) d (.slice (some ⟨gx,0,none⟩) xs.length cx) b C:=zqi HSY.out HSX.out (by have:=HB.out;omega) (by have:=HB.out;omega) H.out.1.ylt H.out.1.xlt HLT.out.2.2.2 H.out.1.xn (HLT.out.1.t2 rfl).2 (by have:=HLT.out.1.le;have:=HLT.out.1.lt;have:=HLT.out.2.1;omega);go_wp2;have hst:=HST.out;have hw2:=HW2.out;have HST2:=zHd hst;generalize (((((w1.setCell ⟨w.heap.size,0,none⟩ (.int .u64 (a:Int))).setCell ⟨w.heap.size,1,none⟩ (.int .u64 (b:Int))).setCell ⟨w.heap.size,2,none⟩ (.int .u64 (c:Int))).setCell ⟨w.heap.size,3,none⟩ (.int .u64 (d:Int))).setCell ⟨w.heap.size,4,none⟩ (.bool false))=w2 at *;clear hst hw2 k0 k1 k2 k3 k4;have hw2d:w.grownBy w2.drew none:=zaa HW2.out (zaf _ _);have hsd:zbB w2.drew w.heap.size a b c d false:=HST2.out;obtain⟨k0,k1,k2,k3,_⟩:=hsd.cells;have HWD:=zHd hw2d;clear hsd
  go_region_held3 (fun W'=>W'.cell? ⟨w.heap.size,0,none⟩=some (.int .u64 (a:Int))/\W'.cell? ⟨w.heap.size,1,none⟩=some (.int .u64 (b:Int))/\W'.cell? ⟨w.heap.size,2,none⟩=some (.int .u64 (c:Int))/\W'.cell? ⟨w.heap.size,3,none⟩=some (.int .u64 (d:Int))) (go_keep)
   (first
    | (go_at_call 269;refine zoa hA1 hw2d ?_;clear hA1;intro ga zs w3 hd1;have hw3:=zaa HWD.out hd1.gr;have s0:=hd1.gr.cell k0 (by simp);have s1:=hd1.gr.cell k1 (by simp);have s2:=hd1.gr.cell k2 (by simp);have s3:=hd1.gr.cell k3 (by simp))
    | (go_at_call 269;refine zoa hA2 hw3 ?_;clear hA2;intro gc ts w4 hd2;have t0:=hd2.gr.cell s0 (by simp);have t1:=hd2.gr.cell s1 (by simp);have t2:=hd2.gr.cell s2 (by simp);have t3:=hd2.gr.cell s3 (by simp)))
  all_goals
   exact zQaZ
 have hA1:Ask w xs.length (.slice (some ⟨gy,0,none⟩) ys.length cy) c (.slice (some ⟨gx,0,none⟩) xs.length cx) a A:=zqi HSY.out HSX.out (by have:=HB.out;omega) (by have:=HB.out;omega) H.out.1.ylt H.out.1.xlt HLT.out.2.2.2 H.out.1.xn (HLT.out.1.t1 rfl).1 (by have:=HLT.out.1.le;have:=HLT.out.2.1;omega);have hA2:Ask w xs.length (.slice (some ⟨gx,0,none⟩) xs.length cx) b (.slice (some ⟨gy,0,none⟩) ys.length cy) d C:=zqi HSX.out HSY.out (by have:=HB.out;omega) (by have:=HB.out;omega) H.out.1.xlt H.out.1.ylt HLT.out.2.2.1 H.out.1.xn (HLT.out.1.t1 rfl).2 (by have:=HLT.out.1.le;have:=HLT.out.1.lt;have:=HLT.out.2.1;omega);go_wp2;have hst:=HST.out;have hw2:=HW2.out;have HST2:=zHd hst;generalize (((((w1.setCell ⟨w.heap.size,0,none⟩ (.int .u64 (a:Int))).setCell ⟨w.heap.size,1,none⟩ (.int .u64 (b:Int))).setCell ⟨w.heap.size,2,none⟩ (.int .u64 (c:Int))).setCell ⟨w.heap.size,3,none⟩ (.int .u64 (d:Int))).setCell ⟨w.heap.size,4,none⟩ (.bool true))=w2 at *;clear hst hw2 k0 k1 k2 k3 k4;have hw2d:w.grownBy w2.drew none:=zaa HW2.out (zaf _ _);have hsd:zbB w2.drew w.heap.size a b c d true:=HST2.out;obtain⟨k0,k1,k2,k3,_⟩:=hsd.cells;have HWD:=zHd hw2d;clear hsd
 go_region_held3 (fun W'=>W'.cell? ⟨w.heap.size,0,none⟩=some (.int .u64 (a:Int))/\W'.cell? ⟨w.heap.size,1,none⟩=some (.int .u64 (b:Int))/\W'.cell? ⟨w.heap.size,2,none⟩=some (.int .u64 (c:Int))/\W'.cell? ⟨w.heap.size,3,none⟩=some (.int .u64 (d:Int))) (go_keep)
  (first
   | (go_at_call 269;refine zoa hA1 hw2d ?_;clear hA1;intro ga zs w3 hd1;have hw3:=zaa HWD.out hd1.gr;have s0:=hd1.gr.cell k0 (by simp);have s1:=hd1.gr.cell k1 (by simp);have s2:=hd1.gr.cell k2 (by simp);have s3:=hd1.gr.cell k3 (by simp))
   | (go_at_call 269;refine zoa hA2 hw3 ?_;clear hA2;intro gc ts w4 hd2;have t0:=hd2.gr.cell s0 (by simp);have t1:=hd2.gr.cell s1 (by simp);have t2:=hd2.gr.cell s2 (by simp);have t3:=hd2.gr.cell s3 (by simp)))
 all_goals
  exact zQaZ
def zCO (B gx cx gy cy G:Nat)(xs ys:List Nat)(w:World)(h:zcC B gx cx gy cy xs ys w w G)(h0:ys≠[])(h2:2<max xs.length ys.length) :
  Calls prog 256 #[.slice (some ⟨gx,0,none⟩) xs.length cx,.slice (some ⟨gy,0,none⟩) ys.length cy] w (zmA B G ys w):=by
 rcases Nat.lt_or_ge xs.length ys.length with hl|hl;exact zxJ B gx cx gy cy G xs ys w h h0 hl;exact zAf B gx cx gy cy G xs ys w h h0 hl (by omega)
def zlk {xs:List Nat}(hx:∀ x∈xs,x<1000000000)(hl:xs.length<=2):ziE xs 2=vl 1000000000 xs:=by
 have h:=zpa (n:=2) (zqab 2) hx hl;rw[zqbr,Nat.pow_zero,Nat.div_one] at h;exact h.symm
def zcC.self {B gx cx gy cy:Nat}{xs ys:List Nat}{w wr:World}{G:Nat}(h:zcC B gx cx gy cy xs ys w wr G):zcC B gx cx gy cy xs ys wr wr G :=
 ⟨h.xb,h.yb,h.ne,h.xlt,h.ylt,h.xt,h.yt,h.g,h.xn,h.yn,Below.refl _ _,h.bs⟩
def zLl (a:Nat):vl 1000000000 [a%1000000000,a/1000000000]=a:=by
 have:=zqbt a 1000000000;simp only[vl];omega
def zxK (B gx cx gy cy G:Nat)(xs ys:List Nat)(w:World)(h:zcC B gx cx gy cy xs ys w w G) :
  Calls prog 243 #[.slice (some ⟨gx,0,none⟩) xs.length cx,.slice (some ⟨gy,0,none⟩) ys.length cy] w (zJS B G w):=by
 have H:=zHd h;clear h;go_enter func243,ntmps243;go_wp2
 go_loopg [0,1] (vl 1000000000 ys) (fun n x y wr=>∃ gx cx xs gy cy ys,x=.slice (some ⟨gx,0,none⟩) xs.length cx/\y=.slice (some ⟨gy,0,none⟩) ys.length cy/\zcC B gx cx gy cy xs ys w wr G/\vl 1000000000 ys=n)
 case atStart=>exact⟨_,_,_,_,_,_,rfl,rfl,H.out,rfl⟩
 case round =>
  obtain⟨gx,cx,xs,gy,cy,ys,rfl,rfl,zI,hgk⟩:=hrel
  by_cases h0:ys=[]
  ·subst h0
   have HI:=zHd zI;clear zI hgk;have f1:¬ ((0:Int)<((([]:List Nat).length:Nat):Int)):=by simp
   go_wp2;go_ret;have hi:=HI.out;exact⟨gx,cx,xs,rfl,hi.xb,hi.xlt,by rw[<- hi.g];simp[vl],hi.xn,hi.bel⟩
  have hl:(0:Int)<(ys.length:Int):=by have:=List.length_pos_iff.2 h0;omega
  have hl1:decide (0<ys.length)=true:=by have:=List.length_pos_iff.2 h0;simpa using this
  by_cases h2:2<max xs.length ys.length
  ·have e2:(2:Int)<max (xs.length:Int) (ys.length:Int):=by omega
   have e2':decide ((2:Int)<max (xs.length:Int) (ys.length:Int))=true:=(by simpa using e2);have hd:=zCO B gx cx gy cy G xs ys wr zI.self h0 h2;have HI:=zHd zI;have HD:=zHd hd;have H0:=zHd h0;have HGK:=zHd hgk;have H2:=zHd h2;clear zI hd h0 hgk h2;go_wp2_with fail;refine HD.out.mono ?_;rintro e w' ⟨gx2,cx2,xs2,gy2,cy2,ys2,rfl,hok,hlt⟩;have HS:=zHd hok;have HL:=zHd hlt;clear hok hlt;go_wp2
   go_roundg (vl 1000000000 ys2)
   case measure=>rw[<- HGK.out];exact HL.out
   case rel=>exact⟨_,_,_,_,_,_,rfl,rfl,⟨HS.out.xb,HS.out.yb,HS.out.ne,HS.out.xlt,HS.out.ylt,HS.out.xt,HS.out.yt,HS.out.g,HS.out.xn,HS.out.yn,HI.out.bel.trans HS.out.bel,HS.out.bs⟩,rfl⟩
  have e2:¬ (2:Int)<max (xs.length:Int) (ys.length:Int):=by omega
  have e2':decide ((2:Int)<max (xs.length:Int) (ys.length:Int))=false:=(by simpa using e2);have hne:¬ (ys.length:Int)=0:=(by omega);have hne2:((ys.length:Int)==0)=false:=(by simpa using hne);have ht1:=znZ wr _ xs 2 zI.xb.sees zI.xlt zI.xn (by omega) (by omega);have ht2:=znZ wr _ ys 2 zI.yb.sees zI.ylt zI.yn (by omega) (by omega);rw[zlk zI.xlt (by omega)] at ht1;rw[zlk zI.ylt (by omega)] at ht2;have l1:=znY zI.xlt 2;have l2:=znY zI.ylt 2;rw[zlk zI.xlt (by omega)] at l1;rw[zlk zI.ylt (by omega)] at l2;have hg:=zI.g;generalize vl 1000000000 xs=a0 at *;generalize vl 1000000000 ys=b0 at *;have HI:=zHd zI;have HT1:=zHd ht1;have HT2:=zHd ht2;have HG:=zHd (zAI hg (zAI l1 l2));clear zI ht1 ht2 hg l1 l2 h2 h0 hgk;go_wp2_with fail;refine HT1.out.mono ?_;rintro e w' ⟨rfl,rfl⟩;go_wp2_with fail;refine HT2.out.mono ?_;rintro e w' ⟨rfl,rfl⟩;go_wp2;generalize hw1:wr=w1 at *;clear hw1
  go_loopw [5,6] (fun av bv wr=>∃ a b:Nat,av=.int .u64 (a:Int)/\bv=.int .u64 (b:Int)/\Nat.gcd a b=G/\a<1000000000000000000/\b<1000000000000000000/\w1.grownBy wr none) (fun _ bv _=>(intOf bv).toNat)
  case atStart=>exact⟨a0,b0,rfl,rfl,HG.out.1,HG.out.2.1,HG.out.2.2,zae _ _⟩
  case round =>
   obtain⟨a,b,rfl,rfl,hab,ha,hb,hgr⟩:=hrel
   by_cases hb0:b=0
   ·subst hb0
    have ea:a=G:=(by rw[<- hab];simp);subst ea;obtain⟨p,hp⟩:∃ p,a%1000000000=p:=⟨_,rfl⟩;obtain⟨q,hq⟩:∃ q,a/1000000000=q:=⟨_,rfl⟩;have m1:(a:Int)%1000000000=(p:Int):=(by omega);have m2:(a:Int)/1000000000=(q:Int):=(by omega);have m3:IntKind.u64.wrap (p:Int)=(p:Int):=(by rw[IntKind.wrap_u64];omega);have m4:IntKind.u64.wrap (q:Int)=(q:Int):=(by rw[IntKind.wrap_u64];omega);have hv:=zLl a;rw[hp,hq] at hv;have HR:=zHd (zAI hgr (zAI hv (zAI ha (zAI hp hq))));have htr:=fun(W:World) (hW:zaJ W wr.heap.size (uv [p,q]))=>zlf wr.heap.size wr.heap.size 2 [p,q] W (zaF.of_cells hW (zqab _) rfl (by unfold maxLen;omega) (by rw[zqaf (by rw[zaC];exact zqab _)]) (zqab _)) (by simp);have HT:=zHd htr;clear hab ha hb hgr hv hp hq htr;go_wp2_with fail;refine(HT.out _ ?cells).mono ?_
    case cells =>
     show(wr.heap.push _)[wr.heap.size]?=_;rw[zqaz];rfl
    rintro e w' ⟨m,hm,rfl,rfl,hv2,ht⟩;have HP:=zHd (zAI hm (zAI hv2 ht));clear hm hv2 ht;go_wp2;go_ret;obtain⟨hm,hv2,ht⟩:=HP.out;obtain⟨hgr,hv,ha,hp,hq⟩:=HR.out;have hm2:m<=2:=hm;have hl2:([p,q].take m).length=m:=(by rw[zqan];simp;omega);refine⟨wr.heap.size,2,[p,q].take m,by rw[hl2];rfl,?_,fun z hz=>?_,by rw[hv2];exact hv,by omega,?_⟩
    ·have hbs:=HI.out.bs
     refine zaF.of_cells (l:=uv [p,q]) ?_ (zqam hbs hgr.size) rfl (by unfold maxLen;omega) (by rw[znU,hl2]) (by omega);show(wr.heap.push _)[wr.heap.size]?=_;rw[zqaz];rfl
    ·have:=zqau hz
     simp at this;omega
    exact HI.out.bel.trans (below_grown (zaa hgr (zGA _ _ none)) HI.out.bs (by simp))
   have hb1:¬ (b:Int)=0:=by omega
   have hb2:decide (0<b)=true:=(by simp;omega);have hb3:decide ((0:Int)<(b:Int))=true:=(by simp;omega);have hmod:a%b<b:=Nat.mod_lt _ (by omega);have zS':Nat.gcd b (a%b)=G:=(by rw[<- hab,Nat.gcd_comm a b,Nat.gcd_rec b a,Nat.gcd_comm]);obtain⟨r,hr⟩:∃ r,a%b=r:=⟨_,rfl⟩;rw[hr] at hmod zS';have e1:(a:Int)%(b:Int)=(r:Int):=(by rw[<- Int.natCast_emod,hr]);have HR:=zHd (zAI hgr (zAI hmod (zAI zS' hb)));clear hab ha hb hb0 hmod zS' hgr hr;go_wp2
   go_quiet (fail)
   go_wp2;obtain⟨hgr,hmod,zS',hb⟩:=HR.out;exact⟨⟨b,r,rfl,by rw[e1],zS',hb,by omega,zaa hgr (zcg _ _ _)⟩,by rw[e1];simpa [intOf] using hmod⟩
open Go.RowKit
open Go.Lib (nDigits)
def zyS (a b:ByteArray)(w:World)(ha:a.size<=maxLen)(hb:b.size<=maxLen) :
  Calls prog 231 #[.string a,.string b] w (zab (zdq a b) w):=by
 have va:=fun w=>zcB a w ha;have vb:=fun w=>zcB b w hb;unfold maxLen at ha hb;cases hna:zao a
 ·have HV:=zHd (show zdq a b=.tuple #[.string ⟨#[]⟩,.string ⟨#[]⟩,.int .i64 1] by unfold zdq;rw[hna];rfl)
  simp only[hna] at va;clear vb hna;go_enter func231,ntmps231;go_wp2_with (go_at_call 225;refine(va _).mono ?_;rintro e w' ⟨rfl,rfl⟩)
  go_ret3
  exact zQaT
 cases hnb:zao b
 ·have HV:=zHd (show zdq a b=.tuple #[.string ⟨#[]⟩,.string ⟨#[]⟩,.int .i64 1] by unfold zdq;rw[hnb,Bool.and_false];rfl)
  simp only[hna] at va;simp only[hnb] at vb;clear hna hnb;go_enter func231,ntmps231;go_wp2_with fail;refine(va _).mono ?_;rintro e w' ⟨rfl,rfl⟩;go_wp2_with fail;refine(vb _).mono ?_;rintro e w' ⟨rfl,rfl⟩;go_wp2
  go_ret3
  exact zQaT
 have hzs:=zvh b hnb
 by_cases hz:nv b=0
 ·have HV:=zHd (show zdq a b=.tuple #[.string ⟨#[]⟩,.string ⟨#[]⟩,.int .i64 4] by unfold zdq;rw[hna,hnb];simp only[Bool.and_self,if_true];rw[if_pos hz])
  have f1:(b.toList==[48])=true:=by rw[hzs];simp[hz]
  simp only[hna] at va;simp only[hnb] at vb;clear hna hnb hz hzs;go_enter func231,ntmps231;go_wp2_with fail;refine(va _).mono ?_;rintro e w' ⟨rfl,rfl⟩;go_wp2_with fail;refine(vb _).mono ?_;rintro e w' ⟨rfl,rfl⟩;go_wp2
  go_ret3
  exact zQaT
 have HV:=zHd (show zdq a b=.tuple #[.string (zai (nv a/nv b)),.string (zai (nv a%nv b)),.int .i64 0] by unfold zdq;rw[hna,hnb];simp only[Bool.and_self,if_true];rw[if_neg hz]);have f1:(b.toList==[48])=false:=by rw[hzs];simp[hz]
 have HZ:=zHd hz;clear hz hzs;have ra:=fun w=>zev a w hna;have rb:=fun w=>zev b w hnb;simp only[hna] at va;simp only[hnb] at vb;clear hna hnb;go_enter func231,ntmps231;go_wp2_with fail;refine(va _).mono ?_;rintro e w' ⟨rfl,rfl⟩;go_wp2_with fail;refine(vb _).mono ?_;rintro e w' ⟨rfl,rfl⟩;go_wp2_with fail;refine(ra _).mono ?_;rintro e w1 ⟨gx,cx,xs,rfl,hbx,hgx,hxl,hxv,hxt,hxn,hg1⟩;have HBX:=zHd hbx;have HXL:=zHd hxl;have HXV:=zHd hxv;have HG1:=zHd hg1;have HXT:=zHd hxt;clear hbx hxl hxv hxt hg1 ra va vb;go_wp2_with fail;refine(rb _).mono ?_;rintro e w2 ⟨gy,cy,ys,rfl,hby,hgy,hyl,hyv,hyt,hyn,hg2⟩;have hne:gx≠gy:=by have:=(HBX.out.lt gx rfl).2;omega
 have hy0:ys≠[]:=by
  intro e;have:=(zoD hyt).1 e;rw[hyv] at this;exact HZ.out this
 have hsz:=hg2.size;have hsz1:=HG1.out.size;have hd:=zlj w.heap.size gx cx gy cy xs ys w2 (HBX.out.grown hg2 (by simp)) (hby.base (by omega)) hne HXL.out hyl HXT.out hyt hy0 (by omega) (by omega);have HD:=zHd hd;have HG2:=zHd hg2;have HYV:=zHd hyv;clear hby hyl hyv hyt hg2 hd rb hy0;go_wp2_with fail;refine HD.out.mono ?_;rintro e w3 ⟨qv,qs,gr,cr,rs,rfl,hok⟩;have hw1:=zik qv qs w3 hok.qb hok.qlt (by have:=hok.qn;omega);have hrb:=hok.rb;have hrl:=hok.rlt;have hrn:=hok.rn;have e1:=hok.qv;have e2:=hok.rv;have hg3:=hok.gr;rw[HXV.out,HYV.out] at e1 e2;rw[e1] at hw1;have hw2:=fun(w':World) (h:w3.grownBy w' none)=>zik _ rs w' ((hrb.base (zqaw _)).grown h (by simp)) hrl (by omega);rw[e2] at hw2;have HW1:=zHd hw1;have HW2:=zHd hw2;have HG3:=zHd hg3;clear hok hw1 hw2 hrb hrl e1 e2 hg3 HD;go_wp2_with fail;refine HW1.out.mono ?_;rintro e w4 ⟨rfl,hg4⟩;have HG4:=zHd hg4;clear hg4;go_wp2_with fail;refine(HW2.out _ HG4.out).mono ?_;rintro e w5 ⟨rfl,hg5⟩;have HG5:=zHd hg5;clear hg5;go_wp2
 go_ret3
 exact⟨by rw[HV.out];rfl,zak (g:=gx) (zaa HG1.out (zaB HG2.out)) (zaa HG3.out (zaB (zaa HG4.out (zaB HG5.out)))) hgx⟩
def zJT (a b:ByteArray)(w:World)(ha:a.size<=maxLen)(hb:b.size<=maxLen) :
  Calls prog 230 #[.string a,.string b] w (zab (zeI a b) w):=by
 have va:=fun w=>zcB a w ha;have vb:=fun w=>zcB b w hb;unfold maxLen at ha hb;cases hna:zao a
 ·have HV:=zHd (show zeI a b=ziD by unfold zeI;rw[hna];rfl)
  simp only[hna] at va;clear vb hna;go_enter func230,ntmps230;exact zQaI
 cases hnb:zao b
 ·have HV:=zHd (show zeI a b=ziD by unfold zeI;rw[hnb,Bool.and_false];rfl)
  simp only[hna] at va;simp only[hnb] at vb;clear hna hnb;go_enter func230,ntmps230;exact zQav
 have HV:=zHd (show zeI a b=.tuple #[.string (zai (Nat.gcd (nv a) (nv b))),.int .i64 0] by unfold zeI;rw[hna,hnb];rfl);have ra:=fun w=>zev a w hna;have rb:=fun w=>zev b w hnb;simp only[hna] at va;simp only[hnb] at vb;clear hna hnb;go_enter func230,ntmps230;go_wp2_with fail;refine(va _).mono ?_;rintro e w' ⟨rfl,rfl⟩;go_wp2_with fail;refine(vb _).mono ?_;rintro e w' ⟨rfl,rfl⟩;go_wp2_with fail;refine(ra _).mono ?_;rintro e w1 ⟨gx,cx,xs,rfl,hbx,hgx,hxl,hxv,hxt,hxn,hg1⟩;have HBX:=zHd hbx;have HXL:=zHd hxl;have HXV:=zHd hxv;have HG1:=zHd hg1;have HXT:=zHd hxt;clear hbx hxl hxv hxt hg1 ra va vb;go_wp2_with fail;refine(rb _).mono ?_;rintro e w2 ⟨gy,cy,ys,rfl,hby,hgy,hyl,hyv,hyt,hyn,hg2⟩;have hne:gx≠gy:=by have:=(HBX.out.lt gx rfl).2;omega
 have hsz:=hg2.size;have hsz1:=HG1.out.size;have hg12:=zaa HG1.out (zaB hg2 (r:=none));have hd:=zxK w.heap.size gx cx gy cy (Nat.gcd (nv a) (nv b)) xs ys w2 ⟨HBX.out.grown hg2 (by simp),hby.base (by omega),hne,HXL.out,hyl,HXT.out,hyt,by rw[HXV.out,hyv],by omega,by omega,Below.refl _ _,by omega⟩;have HD:=zHd hd;have HG12:=zHd hg12;clear hby hyl hyv hyt hg2 hd rb hg12;go_wp2_with fail;refine HD.out.mono ?_;rintro e w3 ⟨g,c,zs,rfl,hzb,hzl,hzv,hzn,hbel⟩;have hw1:=zik _ zs w3 (hzb.base (zqaw _)) hzl hzn;rw[hzv] at hw1;have HW1:=zHd hw1;have HB:=zHd hbel;clear hzb hzl hzv hbel hw1 HD;go_wp2_with fail;refine HW1.out.mono ?_;rintro e w4 ⟨rfl,hg4⟩;have HG4:=zHd hg4;clear hg4;go_wp2;go_ret2;have hb:=HB.out;have hg3:w.grownBy w3 none:=⟨hb.os.trans HG12.out.os,hb.tape.trans HG12.out.tape,hb.output.trans HG12.out.output,zqam HG12.out.size hb.size,fun i hi _=>(hb.block i hi).trans (HG12.out.block i hi (by simp))⟩;exact⟨by rw[HV.out];rfl,zaa hg3 (zaB HG4.out)⟩
open Go.RowKit
open Go.Lib (nDigits)
def zvi (a b c:ByteArray)(ha:zao a=true)(hb:zao b=true)(hc:zao c=true)(h:nv c=nv a+nv b):zef a b=.tuple #[.string c,.int .i64 0]:=by
 unfold zef zee;exact zQby
def zGz (a b c:ByteArray)(ha:zao a=true)(hb:zao b=true)(hc:zao c=true)(h:nv c=nv a*nv b):zew a b=.tuple #[.string c,.int .i64 0]:=by
 unfold zew zee;exact zQby
def zGB (a b q r:ByteArray)(ha:zao a=true)(hb:zao b=true)(hq:zao q=true)(hr:zao r=true)(h0:nv b≠0)(h1:nv q=nv a/nv b)(h2:nv r=nv a%nv b):zdq a b=.tuple #[.string q,.string r,.int .i64 0]:=by
 unfold zdq;rw[ha,hb,<- h1,<- h2];simp only[Bool.and_self,if_true];rw[if_neg h0,<- (zbZ q hq).1,<- (zbZ r hr).1]
def zJU (a b:ByteArray)(ha:zao a=true)(hb:zao b=true)(h:nv a<nv b):zdJ a b=.tuple #[.string ⟨#[]⟩,.int .i64 4]:=by
 unfold zdJ;rw[ha,hb];simp only[Bool.and_self,if_true];rw[if_pos h]
open Go.RowKit
open Go.Lib (nDigits)
def zCP {m:Nat}(a:ByteArray)(ha:zao a=true)(h:m<=nv a):zao (zai m)=true:=by
 rw[zrG];have:=(zbZ a ha).2;have:=zbA h;simp;omega
def zem (b:ByteArray)(h:zao b=true):(b.toList==[48])=decide (nv b=0)/\(b.toList != [48]) = !decide (nv b=0):=by
 have:=zvh b h;exact⟨this,by rw[bne,this]⟩
def zjO (s:ByteArray)(b:Bool):Prop:=∀ w,Calls prog 225 #[.string s] w fun e w'=>e=.returned (.bool b)/\w=w'
def zJj (s:ByteArray)(hs:s.size<=maxLen):zjO s (zao s):=fun w=>zcB s w hs
def zpb:zai 0=⟨#[48]⟩:=by decide +kernel
def zyT:zai 1=⟨#[49]⟩:=by decide +kernel
open Go.RowKit
open Go.Lib (nDigits decDigits)
def zau (s:ByteArray)(w:World)(hs:s.size<=maxLen) :
  Calls prog 179 #[.string s] w fun e w'=>e=.returned (.bool (zao s))/\w=w':=by
 unfold maxLen at hs
 by_cases h0:(s.size:Int)<1
 ·rw[zhY s (by omega)]
  go_enter func179,ntmps179;exact zQaB
 by_cases h1:(1000:Int)<(s.size:Int)
 ·rw[zhY s (by omega)]
  go_enter func179,ntmps179;exact zQaB
 have hsz:0<s.size:=by omega
 by_cases hz:((s[0].toNat:Int)==48)=true/\(1:Int)<(s.size:Int)
 ·obtain⟨hz1,hz2⟩:=hz
  have HN:=zHd (zoC s (by omega) (by have:=of_decide_eq_true hz1;omega));go_enter func179,ntmps179;exact zQaA
 have hzz:s.size=1∨s[0].toNat≠48:=by
  by_cases e:s.size=1
  exact .inl e;exact .inr fun e2=>hz ⟨by simp[e2],by omega⟩
 have HZ:=zHd hzz
 have key:Calls prog 179 #[.string s] w fun e w'=>e=.returned (.bool (zao s))/\w=w':=by
  by_cases hz1:((s[0].toNat:Int)==48)=true
  ·have hz2:¬ (1:Int)<(s.size:Int):=fun h=>hz ⟨hz1,h⟩
   clear hz hzz;go_enter func179,ntmps179;go_wp2
   go_loop [3] (fun i=>∃ k:Nat,i=.int .i64 k/\k<=s.size/\∀ j (hj:j<s.size),j<k->zck s[j]=true) (fun i=>s.size-(intOf i).toNat)
   case atStart=>exact⟨0,rfl,by omega,fun j hj h=>by omega⟩
   case round =>
    obtain⟨k,rfl,hk,hall⟩:=hrel;have HALL:=zHd hall;clear hall
    by_cases hlt:k<s.size
    ·by_cases hd:(s[k].toNat:Int)<48
     ·have HN:=zHd (zfU s k hlt (zgI s[k] (.inl hd)))
      exact zQaA
     by_cases hd2:(57:Int)<(s[k].toNat:Int)
     ·have HN:=zHd (zfU s k hlt (zgI s[k] (.inr hd2)))
      exact zQaA
     have HN:=zHd (znW s[k] (by omega) (by omega));go_wp2;go_round
     case rel=>exact⟨k+1,by go_num,by omega,fun j hj h=>by
      by_cases e:j=k
      subst e;exact HN.out;exact HALL.out j hj (by omega)⟩
     case measure=>simp[intOf];omega
    have HN:=zHd (znV s (by omega) (by omega) (fun j hj=>HALL.out j hj (by omega)) HZ.out);exact zQaA
  have hz3:((s[0].toNat:Int)==48)=false:=by simpa using hz1
  clear hz hzz hz1;go_enter func179,ntmps179;go_wp2
  go_loop [3] (fun i=>∃ k:Nat,i=.int .i64 k/\k<=s.size/\∀ j (hj:j<s.size),j<k->zck s[j]=true) (fun i=>s.size-(intOf i).toNat)
  case atStart=>exact⟨0,rfl,by omega,fun j hj h=>by omega⟩
  case round =>
   obtain⟨k,rfl,hk,hall⟩:=hrel;have HALL:=zHd hall;clear hall
   by_cases hlt:k<s.size
   ·by_cases hd:(s[k].toNat:Int)<48
    ·have HN:=zHd (zfU s k hlt (zgI s[k] (.inl hd)))
     exact zQaA
    by_cases hd2:(57:Int)<(s[k].toNat:Int)
    ·have HN:=zHd (zfU s k hlt (zgI s[k] (.inr hd2)))
     exact zQaA
    have HN:=zHd (znW s[k] (by omega) (by omega));go_wp2;go_round
    case rel=>exact⟨k+1,by go_num,by omega,fun j hj h=>by
     by_cases e:j=k
     subst e;exact HN.out;exact HALL.out j hj (by omega)⟩
    case measure=>simp[intOf];omega
   have HN:=zHd (znV s (by omega) (by omega) (fun j hj=>HALL.out j hj (by omega)) HZ.out);exact zQaA
 exact key
def zLm (p s t:List UInt8)(x y:UInt8)(h:x<y):Lib.compareBytes (p++x::s) (p++y::t) = -1/\Lib.compareBytes (p++y::t) (p++x::s)=1:=by
 induction p with
 | nil =>
  have h':¬ y<x:=fun h2=>UInt8.lt_irrefl x (UInt8.lt_trans h h2);simp[Lib.compareBytes,h,h']
 | cons a p ih =>
  rw[List.cons_append,List.cons_append];unfold Lib.compareBytes;rw[if_neg (UInt8.lt_irrefl a),if_neg (UInt8.lt_irrefl a),if_neg (UInt8.lt_irrefl a),if_neg (UInt8.lt_irrefl a)];exact ih
def zvj (l:List UInt8)(k:Nat)(h:k<l.length):l=l.take k++l[k]::l.drop (k+1):=by
 rw[<- List.drop_eq_getElem_cons h,List.take_append_drop]
def zvk (a b:ByteArray)(na:zao a=true)(nb:zao b=true)(hs:a.size=b.size)(k:Nat)(ha:k<a.size)(hb:k<b.size)(ht:a.data.toList.take k=b.data.toList.take k)(hlt:a[k].toNat<b[k].toNat) :
  zbF (nv a) (nv b) = -1/\zbF (nv b) (nv a)=1:=by
 have la:a.data.toList.length=a.size:=by simp
 have lb:b.data.toList.length=b.size:=by simp
 have ea:=(zbZ a na).1;have eb:=(zbZ b nb).1;have da:a.data.toList=decDigits (nv a):=by conv=>lhs;rw[ea];simp[zai]
 have db:b.data.toList=decDigits (nv b):=by conv=>lhs;rw[eb];simp[zai]
 have hd:nDigits (nv a)=nDigits (nv b):=by
  rw[<- Lib.decDigits_length,<- Lib.decDigits_length,<- da,<- db];omega
 have h1:=zrQ (nv a) (nv b) hd;have h2:=zrQ (nv b) (nv a) hd.symm;rw[<- h1,<- h2,<- da,<- db,zvj a.data.toList k (by omega),zvj b.data.toList k (by omega),ht];exact zLm _ _ _ _ _ hlt
def zGC (a b:ByteArray)(hs:a.size=b.size)(ht:a.data.toList.take a.size=b.data.toList.take a.size):a=b:=by
 have la:a.data.toList.length=a.size:=by simp
 have lb:b.data.toList.length=b.size:=by simp
 rw[zqaf (by omega),zqaf (by omega)] at ht;exact ByteArray.ext (Array.toList_inj.1 ht)
def zCQ (a b:ByteArray)(k:Nat)(ha:k<a.size)(hb:k<b.size)(ht:a.data.toList.take k=b.data.toList.take k)(he:a[k]=b[k]):a.data.toList.take (k+1)=b.data.toList.take (k+1):=by
 rw[List.take_succ_eq_append_getElem (by simpa using ha),List.take_succ_eq_append_getElem (by simpa using hb),ht];congr 1;congr 1
def size_digits (a:ByteArray)(na:zao a=true):a.size=nDigits (nv a):=by
 have ea:=(zbZ a na).1;have:a.size=a.data.toList.length:=by simp
 rw[this,<- Lib.decDigits_length];congr 1
 conv=>lhs;rw[ea];simp[zai]
def zob (v:Int)(w:World)(e:Ending)(w':World):Prop:=e=.returned (.int .i64 v)/\w.grownBy w' none
def zhf (a b:ByteArray)(w:World)(na:zao a=true)(nb:zao b=true) :
  Calls prog 213 #[.string a,.string b] w (zob (zbF (nv a) (nv b)) w):=by
 have za:=zbo na;have zb:=zbo nb;unfold maxLen at za zb;have sa:=size_digits a na;have sb:=size_digits b nb
 by_cases h1:(a.size:Int)<(b.size:Int)
 ·have HV:=zHd (show zbF (nv a) (nv b) = -1 by unfold zbF;rw[if_pos (ziM (by omega))])
  have h2:((a.size:Int) != (b.size:Int))=true:=by simp;omega
  clear sa sb;go_enter func213,ntmps213;go_wp2;go_ret;exact zQaT
 by_cases h2:(b.size:Int)<(a.size:Int)
 ·have HV:=zHd (show zbF (nv a) (nv b)=1 by
   have:=ziM (m:=nv b) (n:=nv a) (by omega);unfold zbF;rw[if_neg (by omega),if_pos this])
  have h3:((a.size:Int) != (b.size:Int))=true:=by simp;omega
  clear sa sb;go_enter func213,ntmps213;go_wp2;go_ret;exact zQaT
 have hs:a.size=b.size:=by omega
 have h3:((a.size:Int) != (b.size:Int))=false:=by simp;omega
 have HS:=zHd hs;have NA:=zHd na;have NB:=zHd nb;clear sa sb hs na nb h1 h2;go_enter func213,ntmps213;go_wp2
 go_loopw [5] (fun i wr=>∃ k:Nat,i=.int .i64 k/\k<=a.size/\a.data.toList.take k=b.data.toList.take k/\w.grownBy wr none) (fun i _=>a.size-(intOf i).toNat)
 case atStart=>exact⟨0,rfl,by omega,rfl,zae _ _⟩
 case round =>
  obtain⟨k,rfl,hk,ht,hg⟩:=hrel;have HT:=zHd ht;have HG:=zHd hg;clear ht hg
  by_cases hlt:k<a.size
  ·have hlb:k<b.size:=by have:=HS.out;omega
   have z0:(0:Int)<=(k:Int):=by omega
   have z1:(k:Int)<(a.size:Int):=by omega
   have z2:(k:Int)<(b.size:Int):=by omega
   by_cases c1:(a[k].toNat:Int)<(b[k].toNat:Int)
   ·have HV:=zHd (zvk a b NA.out NB.out HS.out k hlt hlb HT.out (by omega)).1
    have c2:((a[k].toNat:Int) != (b[k].toNat:Int))=true:=(by simp;omega);go_wp2
    go_quiet (fail)
    go_wp2
    go_quiet (fail)
    exact zQbG
   by_cases c3:(b[k].toNat:Int)<(a[k].toNat:Int)
   ·have HV:=zHd (zvk b a NB.out NA.out HS.out.symm k hlb hlt HT.out.symm (by omega)).2
    have c2:((a[k].toNat:Int) != (b[k].toNat:Int))=true:=(by simp;omega);go_wp2
    go_quiet (fail)
    go_wp2
    go_quiet (fail)
    exact zQbG
   have he:a[k]=b[k]:=UInt8.toNat_inj.1 (by omega);have HM:=zHd (zCQ a b k hlt hlb HT.out he);have c2:((a[k].toNat:Int) != (b[k].toNat:Int))=false:=(by simp;omega);clear he;go_wp2
   go_quiet (fail)
   go_wp2
   go_roundw
   case rel=>exact⟨k+1,by go_num,by omega,HM.out,zaa HG.out (zcg _ _ _)⟩
   case measure=>simp[intOf];omega
  have HV:=zHd (show zbF (nv a) (nv b)=0 by
   have e:=zGC a b HS.out (by rw[show a.size=k by omega];exact HT.out);rw[e];unfold zbF;rw[if_neg (by omega),if_neg (by omega)])
  go_wp2;go_ret;exact⟨by rw[HV.out];rfl,HG.out⟩
def zGD (a b:ByteArray)(w:World)(ha:a.size<=maxLen)(hb:b.size<=maxLen) :
  Calls prog 175 #[.string a,.string b] w (zob (zeG a b) w):=by
 have va:=zHd (fun w=>zau a w ha);have vb:=zHd (fun w=>zau b w hb);cases na:zao a
 ·have HV:=zHd (show zeG a b=0 by unfold zeG;rw[na];rfl)
  rw[na] at va;clear ha hb;go_enter func175,ntmps175;go_wp2_with fail;refine(va.out _).mono ?_;rintro e w' ⟨rfl,rfl⟩;go_wp2;go_ret;exact zQaT
 cases nb:zao b
 ·have HV:=zHd (show zeG a b=0 by unfold zeG;rw[na,nb];rfl)
  rw[na] at va;rw[nb] at vb;clear ha hb;go_enter func175,ntmps175;go_wp2_with fail;refine(va.out _).mono ?_;rintro e w' ⟨rfl,rfl⟩;go_wp2_with fail;refine(vb.out _).mono ?_;rintro e w' ⟨rfl,rfl⟩;go_wp2;go_ret;exact zQaT
 have HV:=zHd (show zeG a b=zbF (nv a) (nv b) by unfold zeG;rw[na,nb];rfl);have c:=zHd (fun w=>zhf a b w na nb);rw[na] at va;rw[nb] at vb;clear ha hb;go_enter func175,ntmps175;go_wp2_with fail;refine(va.out _).mono ?_;rintro e w' ⟨rfl,rfl⟩;go_wp2_with fail;refine(vb.out _).mono ?_;rintro e w' ⟨rfl,rfl⟩;go_wp2_with fail;refine(c.out _).mono ?_;rintro e w1 ⟨rfl,hg⟩;have G:=zHd hg;clear hg;go_wp2;go_ret;exact⟨by rw[HV.out];rfl,G.out⟩
open Go.RowKit
open Go.Lib (nDigits decDigits)
def ztn:(prog.info? 5).map (fun i=>(i.zero,i.size,i.bytes))=some (some (.int .u8 0),1,1):=by kernel_rfl
def zll:(prog.info? 3).map (fun i=>(i.zero,i.size,i.bytes))=some (some (.int .i64 0),1,8):=by kernel_rfl
def zvl {w:World}{base:Nat}{v:Value}{l:List UInt8}(h:w.ownsRow base 5 1 v l.length (Lib.byteCells l)) :
  (convert 145 9 v).run prog w=.ok (.string ⟨l.toArray⟩) w:=by
 rcases h.2 with⟨hv,hn⟩|⟨g,cap,cur,hv,_⟩
 ·have:l=[]:=List.length_eq_zero_iff.1 hn
  subst this;rw[hv];have hz:∀ w:World,(convert 145 9 (.slice none 0 0)).run prog w=.ok (.string ⟨#[]⟩) w:=fun w=>by kernel_rfl
  exact hz w
 rw[hv] at h ⊢;refine run_convert_bytes_back w 145 9 5 ⟨g,0,none⟩ cap l underlying145 underlying5 underlying9 (fun j hj=>?_);refine h.cells (g:=g) rfl j _ ?_;unfold Lib.byteCells;rw[zqaj,zqac hj];rfl
def zen {w wr:World}(h:Below w.heap.size w wr)(o:Obj){w':World}{v:Value}(hv:∀ g,v.ownBlock=some g->w.heap.size<=g)(hg:(wr.alloc o).grownBy w' v.ownBlock):Below w.heap.size w w' :=
 (h.alloc h.size o).grown hg (by have:=h.size;simp;omega) hv
def zfW (w:World)(u:Value)(t:TypeId):∀ j x,[u][j]?=some x->(w.alloc (.cells #[u] t)).cell? ((⟨w.heap.size,0,none⟩:Addr).add j)=some x :=
 World.news_of_block (cs:=#[u]) (t:=t) (fr:=(0,0)) (zqce w _)
def zjp (w:World)(v:Value)(ds:List Nat):Prop :=
 (v=.slice none 0 0/\ds=[])∨∃ g cap,v=.slice (some ⟨g,0,none⟩) ds.length cap/\ds≠[]/\g<w.heap.size/\∀ k,k<ds.length->w.cell? ⟨g,k,none⟩=some (.int .i64 (ds.getD k 0:Nat))
def iv (ds:List Nat):List Value:=ds.map fun(d:Nat)=>Value.int .i64 (d:Int)
def addr_add (g k:Nat):(⟨g,0,none⟩:Addr).add k=⟨g,k,none⟩:=by unfold Addr.add;split <;> simp_all
def zjp.of_own {w:World}{base:Nat}{v:Value}{ds:List Nat}(h:w.ownsRow base 3 1 v ds.length (iv ds))(h0:ds≠[]):zjp w v ds:=by
 obtain⟨g,cap,hv,_,hlt⟩:=h.form (by have:=List.length_pos_iff.2 h0;omega);refine .inr ⟨g,cap,hv,h0,hlt,fun k hk=>?_⟩;have:=h.cells (g:=g) (by rw[hv];rfl) k (.int .i64 (ds.getD k 0:Nat)) (by simp[iv,zqaa,zqac hk]);rw[addr_add] at this;exact this
def zjp.below {w w':World}{v:Value}{ds:List Nat}(h:zjp w v ds)(hb:Below w.heap.size w w'):zjp w' v ds:=by
 rcases h with h|⟨g,cap,hv,h0,hg,hc⟩;exact .inl h;exact .inr ⟨g,cap,hv,h0,by have:=hb.size;omega,fun k hk=>(hb.cell (by exact hg)).trans (hc k hk)⟩
def chars (ds:List Nat):List UInt8:=ds.reverse.map fun d=>UInt8.ofNat (48+d)
def zmB:∀ (ds:List Nat),ds≠[]->(∀ d∈ds,d<10)->(ds.length=1∨ds.getD (ds.length-1) 0≠0)->chars ds=decDigits (vl 10 ds)
 | [],h,_,_=>absurd rfl h
 | [d],_,hd,_=>by
  have:=hd d (by simp);rw[zmp,Lib.decDigits_one this];simp[chars]
 | d::e::r,_,hd,ht=>by
  have ih:=zmB (e::r) (by simp) (fun x hx=>hd x (zqao _ hx)) (by
   right;rcases ht with ht|ht
   simp at ht;simpa using ht)
  have h1:=hd d (by simp);have e1:vl 10 (d::e::r)=d+10*vl 10 (e::r):=by rw[show d::e::r=[d]++(e::r) from rfl,zdp,zmp];simp
  have hpos:vl 10 (e::r)≠0:=by
   intro e0;rw[e0,Lib.decDigits_one (by decide)] at ih;have zN:=zqbz List.length ih;simp[chars] at zN;subst zN;simp at ht;rw[zmp] at e0;exact ht e0
  have e2:chars (d::e::r)=chars (e::r)++[UInt8.ofNat (48+d)]:=by simp[chars]
  rw[e2,ih,e1]
  conv=>rhs;rw[decDigits,dif_neg (by omega)]
  rw[show(d+10*vl 10 (e::r))/10=vl 10 (e::r) by omega,show(d+10*vl 10 (e::r))%10=d by omega]
def zqj (ds:List Nat)(j:Nat)(h:j<ds.length):chars (ds.drop (j+1))++[UInt8.ofNat (48+ds.getD j 0)]=chars (ds.drop j):=by
 rw[List.drop_eq_getElem_cons h,zqaa,zqac h];unfold chars;rw[List.reverse_cons,List.map_append];rfl
def zjP (d:Nat)(h:d<10):Lib.byteCells [UInt8.ofNat (48+d)]=[Value.int .u8 (48+(d:Int))]:=by
 unfold Lib.byteCells;simp;omega
def zjq (v:Value)(ds:List Nat)(w:World)(hv:zjp w v ds)(hd:∀ d∈ds,d<10)(hn:ds.length<=1000000) :
  Calls prog 212 #[v] w fun e w'=>e=.returned (.string (zai (vl 10 ds)))/\Below w.heap.size w w':=by
 rcases hv with⟨rfl,rfl⟩|⟨g,cap,rfl,h0,hg,hc⟩
 ·have hz:zai (vl 10 [])=⟨#[48]⟩:=by decide +kernel
  rw[hz];clear hz hd hn;go_enter func212,ntmps212;go_wp2
  go_loop [3] (fun n=>n=.int .i64 0) (fun _=>0)
  case atStart=>rfl
  case round =>
   subst hrel;go_wp2
   go_loop [4,5] (fun b n=>b=.slice none 0 0/\n=.int .i64 (-1)) (fun _ _=>0)
   case atStart=>exact⟨rfl,rfl⟩
   case round =>
    obtain⟨rfl,rfl⟩:=hrel;go_wp2;go_ret;exact⟨rfl,Below.refl _ _⟩
 obtain⟨i0,hi,hz0,hz1,hz2⟩:=info_parts ztn;have HC:=zHd hc;have hpos:=List.length_pos_iff.2 h0;have HD:=zHd hd;clear hc hd h0;go_enter func212,ntmps212;go_wp2
 go_loop [3] (fun n=>∃ m:Nat,n=.int .i64 m/\1<=m/\m<=ds.length/\vl 10 (ds.take m)=vl 10 ds) (fun n=>(intOf n).toNat)
 case atStart=>exact⟨ds.length,rfl,by omega,zqab _,by rw[List.take_length]⟩
 case round =>
  obtain⟨m,rfl,h1,h2,hv⟩:=hrel;have HV:=zHd hv;clear hv
  by_cases hm:(1:Int)<(m:Int)
  ·obtain⟨k,hk⟩:∃ k,m=k+1:=⟨m-1,by omega⟩
   have HK:=zHd hk
   have hw:IntKind.i64.wrap ((m:Int)-1)=(k:Int):=by
    rw[show(m:Int)-1=(k:Int) by omega];exact zQbI
   have zE:=HC.out k (by omega);have hk1:(0:Int)<=(k:Int):=by omega
   have hk2:(k:Int)<(ds.length:Int):=by omega
   clear hk
   by_cases hz:ds.getD k 0=0
   ·rw[hz] at zE
    have HZ:=zHd hz;clear hz;go_wp2;go_round
    case rel =>
     have hk:=HK.out
     exact⟨k,by go_num,by omega,by omega,by
      have e:=zaM 10 ds k;rw[HZ.out,Nat.mul_zero,<- hk] at e;have:=HV.out;omega⟩
    case measure=>have hk:=HK.out;simp[intOf];omega
   have KEY:=zHd (show m=1∨ds.getD (m-1) 0≠0 from .inr (by rw[HK.out];exact hz));generalize hx:ds.getD k 0=x at *;have f1:((x:Int)==0)=false:=(by simp;omega);clear hx hz;go_wp2
   go_loopw [4,5] (fun b i wr=>∃ (j:Nat) (z:Int) (acc:List UInt8),i=.int .i64 z/\z=(j:Int)-1/\j<=m/\acc=chars ((ds.take m).drop j)/\wr.ownsRow w.heap.size 5 1 b acc.length (Lib.byteCells acc)/\Below w.heap.size w wr) (fun _ i _=>(intOf i+1).toNat)
   case atStart=>exact⟨m,_,[],rfl,by have:=HK.out;omega,zqab _,by rw[List.drop_of_length_le (by rw[zqan];omega)];rfl,World.ownsRow_nil _ _ _ _,Below.refl _ _⟩
   case round =>
    obtain⟨j,z,acc,rfl,hzj,hj,hacc,zO,hb⟩:=hrel;have hal:acc.length=m-j:=(by rw[hacc];simp[chars];omega);have HACC:=zHd hacc;clear hacc
    by_cases hj0:j=0
    ·subst hj0
     obtain rfl:z = -1:=by omega
     have HFIN:=zHd (show zai (vl 10 ds)=⟨acc.toArray⟩ by
      rw[HACC.out,List.drop_zero,zmB _ (by intro e;have h3:=zqbz List.length e;rw[zqan] at h3;simp only[List.length_nil] at h3;omega) (fun d hd=>HD.out d (zqau hd)) (by
       rw[zqan,Nat.min_eq_left (by omega)];rcases KEY.out with h|h
       exact .inl h;right;rw[zqaa,List.getElem?_take,if_pos (by omega),<- zqaa];exact h),HV.out];rfl)
     exact zQaR
    obtain⟨q,rfl⟩:∃ q,j=q+1:=⟨j-1,by omega⟩;obtain rfl:z=(q:Int):=by omega
    have zE:=(hb.cell (p:=⟨g,q,none⟩) hg).trans (HC.out q (by omega));have hdq:=HD.out (ds.getD q 0) (by rw[zqaa,zqac (by omega)];exact List.getElem_mem _);have HST:=zHd (zqj (ds.take m) q (by rw[zqan];omega));have HDQ:=zHd (show(ds.take m).getD q 0=ds.getD q 0 by rw[zqaa,List.getElem?_take,if_pos (by omega),<- zqaa]);generalize ds.getD q 0=d at *;have HCC:=zHd (zjP d hdq);have hd0:(0:Int)<=(d:Int):=(by omega);have hd1:(d:Int)<10:=(by omega);have hq1:(0:Int)<=(q:Int):=(by omega);have hq2:(q:Int)<(ds.length:Int):=(by omega);have hb1:acc.length+1<=1000000:=(by omega);clear hzj hj0 hal;go_wp2_with (at_builtin;refine wpList_append_own _ rfl _ _ 145 rfl w.heap.size 5 i0 (.int .u8 0) 1 1 underlying145 hi hz0 hz1 hz2 rfl (by decide) _ _ _ rfl (zO.alloc _) ⟨wr.heap.size,0,none⟩ 1 1 [.int .u8 (48+(d:Int))] rfl rfl ?c1 ?c2 ?c3 ?c4 ?c5 ?_)
    case c1=>exact zfW _ _ _
    case c2=>intro u hu;simp at hu;subst hu;rfl
    case c3=>unfold maxLen;omega
    case c4=>omega
    case c5=>simp;have:=hb.size;omega
    intro v' w1 zo zG _;have HB:=zHd (zen hb _ (fun g e=>(zO.lt g e).1) zG);have HO:=zHd zo;clear zO zo zG zE;go_wp2
    go_roundw
    case rel=>exact⟨q,(q:Int)-1,acc++[UInt8.ofNat (48+d)],by go_num,rfl,by omega,by rw[HACC.out,<- HST.out,HDQ.out],by
     rw[zqag,Lib.byteCells_append,HCC.out];exact HO.out,HB.out⟩
    case measure=>simp[intOf]
  have HM:=zHd (show m=1 by omega);have KEY:=zHd (show m=1∨ds.getD (m-1) 0≠0 from .inl HM.out)
  have hw:IntKind.i64.wrap ((m:Int)-1)=0:=by
   rw[show(m:Int)-1=0 by have:=HM.out;omega];exact zQbI
  go_wp2
  go_loopw [4,5] (fun b i wr=>∃ (j:Nat) (z:Int) (acc:List UInt8),i=.int .i64 z/\z=(j:Int)-1/\j<=m/\acc=chars ((ds.take m).drop j)/\wr.ownsRow w.heap.size 5 1 b acc.length (Lib.byteCells acc)/\Below w.heap.size w wr) (fun _ i _=>(intOf i+1).toNat)
  case atStart=>exact⟨m,_,[],rfl,by have:=HM.out;omega,zqab _,by rw[List.drop_of_length_le (by rw[zqan];omega)];rfl,World.ownsRow_nil _ _ _ _,Below.refl _ _⟩
  case round =>
   obtain⟨j,z,acc,rfl,hzj,hj,hacc,zO,hb⟩:=hrel;have hal:acc.length=m-j:=(by rw[hacc];simp[chars];omega);have HACC:=zHd hacc;clear hacc
   by_cases hj0:j=0
   ·subst hj0
    obtain rfl:z = -1:=by omega
    have HFIN:=zHd (show zai (vl 10 ds)=⟨acc.toArray⟩ by
     rw[HACC.out,List.drop_zero,zmB _ (by intro e;have h3:=zqbz List.length e;rw[zqan] at h3;simp only[List.length_nil] at h3;omega) (fun d hd=>HD.out d (zqau hd)) (by
      rw[zqan,Nat.min_eq_left (by omega)];rcases KEY.out with h|h
      exact .inl h;right;rw[zqaa,List.getElem?_take,if_pos (by omega),<- zqaa];exact h),HV.out];rfl)
    exact zQaR
   obtain⟨q,rfl⟩:∃ q,j=q+1:=⟨j-1,by omega⟩;obtain rfl:z=(q:Int):=by omega
   have zE:=(hb.cell (p:=⟨g,q,none⟩) hg).trans (HC.out q (by omega));have hdq:=HD.out (ds.getD q 0) (by rw[zqaa,zqac (by omega)];exact List.getElem_mem _);have HST:=zHd (zqj (ds.take m) q (by rw[zqan];omega));have HDQ:=zHd (show(ds.take m).getD q 0=ds.getD q 0 by rw[zqaa,List.getElem?_take,if_pos (by omega),<- zqaa]);generalize ds.getD q 0=d at *;have HCC:=zHd (zjP d hdq);have hd0:(0:Int)<=(d:Int):=(by omega);have hd1:(d:Int)<10:=(by omega);have hq1:(0:Int)<=(q:Int):=(by omega);have hq2:(q:Int)<(ds.length:Int):=(by omega);have hb1:acc.length+1<=1000000:=(by omega);clear hzj hj0 hal;go_wp2_with (at_builtin;refine wpList_append_own _ rfl _ _ 145 rfl w.heap.size 5 i0 (.int .u8 0) 1 1 underlying145 hi hz0 hz1 hz2 rfl (by decide) _ _ _ rfl (zO.alloc _) ⟨wr.heap.size,0,none⟩ 1 1 [.int .u8 (48+(d:Int))] rfl rfl ?c1 ?c2 ?c3 ?c4 ?c5 ?_)
   case c1=>exact zfW _ _ _
   case c2=>intro u hu;simp at hu;subst hu;rfl
   case c3=>unfold maxLen;omega
   case c4=>omega
   case c5=>simp;have:=hb.size;omega
   intro v' w1 zo zG _;have HB:=zHd (zen hb _ (fun g e=>(zO.lt g e).1) zG);have HO:=zHd zo;clear zO zo zG zE;go_wp2
   go_roundw
   case rel=>exact⟨q,(q:Int)-1,acc++[UInt8.ofNat (48+d)],by go_num,rfl,by omega,by rw[HACC.out,<- HST.out,HDQ.out],by
    rw[zqag,Lib.byteCells_append,HCC.out];exact HO.out,HB.out⟩
   case measure=>simp[intOf]
open Go.RowKit
open Go.Lib (nDigits decDigits)
def zil (a b:List Nat):iv (a++b)=iv a++iv b:=by simp[iv]
def zmC (d:Nat):iv [d]=[Value.int .i64 (d:Int)]:=rfl
open Go.RowKit
open Go.Lib (nDigits decDigits)
def dgs (l:List UInt8):List Nat:=l.reverse.map fun c=>c.toNat-48
def zdK (a:ByteArray):List Nat:=dgs a.data.toList
def zGE (c:UInt8)(l:List UInt8):dgs (c::l)=dgs l++[c.toNat-48]:=by simp[dgs]
def zyU (l:List UInt8):vl 10 (dgs l)=zcK l:=by
 induction h:l.length generalizing l with
 | zero=>rw[List.length_eq_zero_iff.1 h];rfl
 | succ n ih =>
  obtain⟨l',c,rfl⟩:∃ l' c,l=l'++[c]:=⟨l.dropLast,l.getLast (by intro e;rw[e] at h;simp at h),(List.dropLast_concat_getLast _).symm⟩;have:=ih l' (by simp at h;exact h);rw[zeR,<- this,show dgs (l'++[c])=[c.toNat-48]++dgs l' by simp[dgs],zdp,zmp];simp;omega
def zex (a:ByteArray):vl 10 (zdK a)=nv a:=zyU _
def zey (a:ByteArray):(zdK a).length=a.size:=by simp[zdK,dgs]
def zeJ (a:ByteArray)(h:zao a=true):∀ d∈zdK a,d<10:=by
 intro d hd;unfold zdK dgs at hd;obtain⟨c,hc,rfl⟩:=zqbf.1 hd;rw[List.mem_reverse] at hc;unfold zao zms at h;simp only[zqbb,List.all_eq_true] at h;have:=h.1.2 c hc;unfold zck at this;simp at this;omega
def zGF (a:ByteArray)(j:Nat)(h:j<a.size):dgs (a.data.toList.drop (j+1))++[a[j].toNat-48]=dgs (a.data.toList.drop j):=by
 conv=>rhs;rw[List.drop_eq_getElem_cons (show j<a.data.toList.length by simpa using h),zGE]
 rfl
def zgp (w:World)(v:Value)(ds:List Nat):Prop:=zjp w v ds/\ds≠[]
def zgp.form {w:World}{v:Value}{ds:List Nat}(h:zgp w v ds):∃ g cap,v=.slice (some ⟨g,0,none⟩) ds.length cap:=by
 rcases h.1 with⟨_,h0⟩|⟨g,cap,hv,_⟩;exact absurd h0 h.2;exact⟨g,cap,hv⟩
def zgp.below {w w':World}{v:Value}{ds:List Nat}(h:zgp w v ds)(hb:Below w.heap.size w w'):zgp w' v ds:=⟨h.1.below hb,h.2⟩
def zdm (a:ByteArray)(w:World)(na:zao a=true) :
  Calls prog 209 #[.string a] w fun e w'=>∃ v,e=.returned v/\zgp w' v (zdK a)/\Below w.heap.size w w':=by
 obtain⟨i0,hi,hz0,hz1,hz2⟩:=info_parts zll;have hsz:=zcc a na;have HDG:=zHd (zkN a na);clear na;have hw:IntKind.i64.wrap ((a.size:Int)-1)=(a.size:Int)-1:=IntWalk.i64_in _ ⟨by omega,by omega⟩;go_enter func209,ntmps209;go_wp2
 go_loopw [3,4] (fun b i wr=>∃ (j:Nat) (z:Int) (acc:List Nat),i=.int .i64 z/\z=(j:Int)-1/\j<=a.size/\acc=dgs (a.data.toList.drop j)/\wr.ownsRow w.heap.size 3 1 b acc.length (iv acc)/\Below w.heap.size w wr) (fun _ i _=>(intOf i+1).toNat)
 case atStart=>exact⟨a.size,_,[],rfl,rfl,zqab _,by rw[List.drop_of_length_le (by simp)];rfl,World.ownsRow_nil _ _ _ _,Below.refl _ _⟩
 case round =>
  obtain⟨j,z,acc,rfl,hzj,hj,hacc,zO,hb⟩:=hrel;have hal:acc.length=a.size-j:=by rw[hacc];simp[dgs]
  have HACC:=zHd hacc;clear hacc
  by_cases hj0:j=0
  ·subst hj0
   obtain rfl:z = -1:=by omega
   have hne:acc≠[]:=by intro e;rw[e] at hal;simp at hal;omega
   have HR:=zHd (show zgp wr u3 acc from⟨zjp.of_own zO hne,hne⟩);have HB:=zHd hb;clear zO hb hal hne hzj;go_wp2;go_ret;refine⟨_,rfl,?_,HB.out⟩;have e:acc=zdK a:=by rw[HACC.out,List.drop_zero];rfl
   rw[<- e];exact HR.out
  obtain⟨q,rfl⟩:∃ q,j=q+1:=⟨j-1,by omega⟩;obtain rfl:z=(q:Int):=by omega
  have hqa:q<a.size:=by omega
  have hdq:=HDG.out q hqa;have HST:=zHd (zGF a q hqa);have HE:=zHd (show(a[q].toNat:Int)-48=((a[q].toNat-48:Nat):Int) by omega);have hd0:(48:Int)<=(a[q].toNat:Int):=by omega
  have hd1:(a[q].toNat:Int)<=57:=by omega
  have hq1:(0:Int)<=(q:Int):=by omega
  have hq2:(q:Int)<(a.size:Int):=by omega
  have hb1:acc.length+1<=1000000:=by omega
  clear hzj hj0 hal;go_wp2_with (at_builtin;refine wpList_append_own _ rfl _ _ 64 rfl w.heap.size 3 i0 (.int .i64 0) 1 8 underlying64 hi hz0 hz1 hz2 rfl (by decide) _ _ _ rfl (zO.alloc _) ⟨wr.heap.size,0,none⟩ 1 1 [.int .i64 ((a[q].toNat:Int)-48)] rfl rfl ?c1 ?c2 ?c3 ?c4 ?c5 ?_)
  case c1=>exact zfW _ _ _
  case c2=>intro u hu;simp at hu;subst hu;rfl
  case c3=>unfold maxLen;omega
  case c4=>omega
  case c5=>simp;have:=hb.size;omega
  intro v' w1 zo zG _;have HB:=zHd (zen hb _ (fun g e=>(zO.lt g e).1) zG);have HO:=zHd zo;clear zO zo zG hd0 hd1;go_wp2
  go_roundw
  case rel=>exact⟨q,(q:Int)-1,acc++[a[q].toNat-48],by go_num,rfl,by omega,by rw[HACC.out,<- HST.out],by
   rw[zqag,zil,zmC,<- HE.out];exact HO.out,HB.out⟩
  case measure=>simp[intOf]
def zmD (v:Value)(ds:List Nat)(i:Nat)(w:World)(hv:zgp w v ds)(hn:ds.length<=1000000) :
  Calls prog 210 #[v,.int .i64 i] w fun e w'=>e=.returned (.int .i64 (ds.getD i 0:Nat))/\w=w':=by
 rcases hv.1 with⟨_,h0⟩|⟨g,cap,rfl,_,hg,hc⟩;exact absurd h0 hv.2
 by_cases h:(i:Int)<(ds.length:Int)
 ·have zE:=hc i (by omega)
  generalize ds.getD i 0=x at *;have hi0:(0:Int)<=(i:Int):=by omega
  clear hc hv;go_enter func210,ntmps210;exact zQaB
 have e:ds.getD i 0=0:=by rw[zqaa,zqas (by omega)];rfl
 rw[e];clear hc hv e;go_enter func210,ntmps210;exact zQaB
def zoE (n:Nat)(w:World)(hn:nDigits n<=1000000) :
  Calls prog 211 #[.string (zai n)] w fun e w'=>e=.returned (zee n)/\w=w':=by
 have hs:(zai n).size=nDigits n:=by unfold zai;simp[ByteArray.size,Lib.decDigits_length]
 by_cases h:nDigits n<=1000
 ·have HV:=zHd (show zee n=.tuple #[.string (zai n),.int .i64 0] by unfold zee;rw[if_pos h])
  generalize zai n=S at *;have h1:¬ (1000:Int)<(S.size:Int):=by omega
  exact zQbr
 have HV:=zHd (show zee n=.tuple #[.string ⟨#[]⟩,.int .i64 2] by unfold zee;rw[if_neg h]);generalize zai n=S at *;have h1:(1000:Int)<(S.size:Int):=by omega
 exact zQbr
open Go.RowKit
open Go.Lib (nDigits decDigits)
def zto (l:List Nat)(h:∀ d∈l,d<10):nDigits (vl 10 l)<=l.length+1:=by
 have h1:=zbA (Nat.le_of_lt (zbP 10 l h));have h2:=Lib.nDigits_unique l.length (10 ^ l.length) (zqab _) (Nat.pow_lt_pow_right (by decide) (by omega));omega
structure zhg (xs ys:List Nat)(k c:Nat)(acc:List Nat):Prop where
 len:acc.length=k
 lt:∀ d∈acc,d<10
 carry:c<=1
 val:vl 10 acc+10 ^ k*c=vl 10 (xs.take k)+vl 10 (ys.take k)
def getD_lt (l:List Nat)(h:∀ d∈l,d<10)(k:Nat):l.getD k 0<10:=by
 rcases Nat.lt_or_ge k l.length with h1|h1;rw[zqaa,zqac h1];exact h _ (List.getElem_mem _);rw[zqaa,zqas h1];decide
def zhg.step {xs ys:List Nat}{k c:Nat}{acc:List Nat}(h:zhg xs ys k c acc)(hx:∀ d∈xs,d<10)(hy:∀ d∈ys,d<10) :
  zhg xs ys (k+1) ((xs.getD k 0+ys.getD k 0+c)/10) (acc++[(xs.getD k 0+ys.getD k 0+c)%10]):=by
 have h1:=getD_lt xs hx k;have h2:=getD_lt ys hy k;have h3:=h.carry;refine⟨by rw[zqag,h.len];rfl,fun d hd=>?_,by omega,?_⟩
 ·rcases zqbo.1 hd with hd|hd
  ·exact h.lt d hd
  rw[zqbk.1 hd];omega
 have e:=h.val;rw[zfR,h.len,zaM,zaM,zqbp];generalize xs.getD k 0=p at *;generalize ys.getD k 0=q at *;have hd:=zqbt (p+q+c) 10;generalize (p+q+c)/10=u at *;generalize (p+q+c)%10=v at *;generalize 10 ^ k=P at *;have e1:P*10*u+P*v=P*(p+q+c):=by rw[<- hd,zqbh,zqav]
 rw[zqbh,zqbh] at e1;omega
def zhg.fin {xs ys:List Nat}{k c:Nat}{acc:List Nat}(h:zhg xs ys k c acc)(hx:∀ d∈xs,d<10)(hy:∀ d∈ys,d<10)(h1:xs.length<k)(h2:ys.length<k):vl 10 acc=vl 10 xs+vl 10 ys:=by
 have e:=h.val;rw[zqaf (by omega),zqaf (by omega)] at e;have a1:=zbP 10 xs hx;have a2:=zbP 10 ys hy;obtain⟨k,rfl⟩:∃ j,k=j+1:=⟨k-1,by omega⟩;have b1:=zqay (n:=10) (by decide) (show xs.length<=k by omega);have b2:=zqay (n:=10) (by decide) (show ys.length<=k by omega);rw[zqbp] at e;have hc:=h.carry
 have:c=0:=by
  rcases Nat.eq_zero_or_pos c with h0|h0;exact h0;obtain rfl:c=1:=by omega
  omega
 subst this;omega
def zhg.start (xs ys:List Nat):zhg xs ys 0 0 []:=⟨rfl,fun d h=>by simp at h,by omega,by simp[vl]⟩
def ztp (n:Nat):∃ S E,zee n=.tuple #[.string S,.int .i64 E]:=by
 unfold zee;split;exact⟨_,_,rfl⟩;exact⟨_,_,rfl⟩
def zGG (a b:ByteArray)(w:World)(na:zao a=true)(nb:zao b=true) :
  Calls prog 174 #[.string a,.string b] w (zab (zef a b) w):=by
 obtain⟨i0,hi,hz0,hz1,hz2⟩:=info_parts zll;have va:=zau a w (zbo na);have vb:=zau b w (zbo nb);rw[na] at va;rw[nb] at vb;have VA:=zHd va;have VB:=zHd vb;have D1:=zHd (fun w=>zdm a w na);have D2:=zHd (fun w=>zdm b w nb);have HV:=zHd (show zef a b=zee (vl 10 (zdK a)+vl 10 (zdK b)) by unfold zef;rw[na,nb,zex,zex];rfl);have hx:=zeJ a na;have hy:=zeJ b nb;have sa:=zcc a na;have sb:=zcc b nb;have la:=zey a;have lb:=zey b;clear va vb na nb;generalize zdK a=xs at *;generalize zdK b=ys at *;have HX:=zHd hx;have HY:=zHd hy;have lx:1<=xs.length/\xs.length<=1000:=by omega
 have ly:1<=ys.length/\ys.length<=1000:=by omega
 obtain⟨lx1,lx2⟩:=lx;obtain⟨ly1,ly2⟩:=ly;clear hx hy sa sb la lb;go_enter func174,ntmps174;go_wp2_with fail;refine VA.out.mono ?_;rintro e w' ⟨rfl,rfl⟩;go_wp2_with fail;refine VB.out.mono ?_;rintro e w' ⟨rfl,rfl⟩;go_wp2_with fail;refine(D1.out _).mono ?_;rintro e w1 ⟨v1,rfl,hr1,hb1⟩;obtain⟨g1,c1,rfl⟩:=hr1.form;have R1:=zHd hr1;have B1:=zHd hb1;clear hr1 hb1;go_wp2_with fail;refine(D2.out _).mono ?_;rintro e w2 ⟨v2,rfl,hr2,hb2⟩;obtain⟨g2,c2,rfl⟩:=hr2.form;have R1':=zHd (R1.out.below hb2);have R2:=zHd hr2;have B2:=zHd (B1.out.trans (hb2.mono B1.out.size));clear hr2 hb2 R1 B1 VA VB D1 D2;go_wp2
 go_loopw [8,9,10] (fun l c i wr=>∃ (k y:Nat) (acc:List Nat),i=.int .i64 k/\c=.int .i64 y/\zhg xs ys k y acc/\k<=1001/\wr.ownsRow w2.heap.size 3 1 l acc.length (iv acc)/\Below w2.heap.size w2 wr) (fun _ _ i _=>1002-(intOf i).toNat)
 case atStart=>exact⟨0,0,[],rfl,rfl,zhg.start xs ys,by omega,World.ownsRow_nil _ _ _ _,Below.refl _ _⟩
 case round =>
  obtain⟨k,y,acc,rfl,rfl,zI,hk,zO,hb⟩:=hrel;have hal:acc.length=k:=zI.len;have hy1:=zI.carry;have zi:=zHd zI;clear zI
  by_cases hgo:k<=xs.length∨k<=ys.length
  ·have a1:=zHd (zmD _ xs k wr (R1'.out.below hb) (by omega))
   have a2:=zHd (zmD _ ys k wr (R2.out.below hb) (by omega));have hp:=getD_lt xs HX.out k;have hq:=getD_lt ys HY.out k;have HN:=zHd (zi.out.step HX.out HY.out);generalize xs.getD k 0=p at *;generalize ys.getD k 0=q at *;have HE:=zHd (show((p:Int)+q+y)%10=(((p+q+y)%10:Nat):Int) by omega);have HE2:=zHd (show((p:Int)+q+y)/10=(((p+q+y)/10:Nat):Int) by omega);have p0:(0:Int)<=(p:Int):=by omega
   have p1:(p:Int)<10:=by omega
   have q0:(0:Int)<=(q:Int):=by omega
   have q1:(q:Int)<10:=by omega
   have y0:(0:Int)<=(y:Int):=by omega
   have y1:(y:Int)<=1:=by omega
   have k1:k<=1000:=by omega
   have hb1:acc.length+1<=1000000:=by omega
   have HAL:=zHd hal;clear hal hp hq hy1;rcases Nat.lt_or_ge xs.length k with hxk|hxk
   ·have hyk:k<=ys.length:=by omega
    have f1:¬ k<=xs.length:=(by omega);clear hgo;go_wp2_with fail;refine a1.out.mono ?_;rintro e w' ⟨rfl,rfl⟩;go_wp2_with fail;refine a2.out.mono ?_;rintro e w' ⟨rfl,rfl⟩;go_wp2_with (at_builtin;refine wpList_append_own _ rfl _ _ 64 rfl w2.heap.size 3 i0 (.int .i64 0) 1 8 underlying64 hi hz0 hz1 hz2 rfl (by decide) _ _ _ rfl (zO.alloc _) ⟨wr.heap.size,0,none⟩ 1 1 [.int .i64 (((p:Int)+q+y)%10)] rfl rfl ?c1 ?c2 ?c3 ?c4 ?c5 ?_)
    case c1=>exact zfW _ _ _
    case c2=>intro u hu;simp at hu;subst hu;rfl
    case c3=>unfold maxLen;omega
    case c4=>omega
    case c5=>simp;have:=hb.size;omega
    intro v' w3 zo zG _;have HB:=zHd (zen hb _ (fun g e=>(zO.lt g e).1) zG);have HO:=zHd zo;clear zO zo zG hb;go_wp2
    go_roundw
    case rel=>exact⟨k+1,(p+q+y)/10,acc++[(p+q+y)%10],by go_num,zqbz (Value.int .i64) HE2.out,HN.out,by omega,by
     rw[zqag,zil,zmC,<- HE.out];exact HO.out,HB.out⟩
    case measure=>simp[intOf];omega
   clear hgo;go_wp2_with fail;refine a1.out.mono ?_;rintro e w' ⟨rfl,rfl⟩;go_wp2_with fail;refine a2.out.mono ?_;rintro e w' ⟨rfl,rfl⟩;go_wp2_with (at_builtin;refine wpList_append_own _ rfl _ _ 64 rfl w2.heap.size 3 i0 (.int .i64 0) 1 8 underlying64 hi hz0 hz1 hz2 rfl (by decide) _ _ _ rfl (zO.alloc _) ⟨wr.heap.size,0,none⟩ 1 1 [.int .i64 (((p:Int)+q+y)%10)] rfl rfl ?c1 ?c2 ?c3 ?c4 ?c5 ?_)
   case c1=>exact zfW _ _ _
   case c2=>intro u hu;simp at hu;subst hu;rfl
   case c3=>unfold maxLen;omega
   case c4=>omega
   case c5=>simp;have:=hb.size;omega
   intro v' w3 zo zG _;have HB:=zHd (zen hb _ (fun g e=>(zO.lt g e).1) zG);have HO:=zHd zo;clear zO zo zG hb;go_wp2
   go_roundw
   case rel=>exact⟨k+1,(p+q+y)/10,acc++[(p+q+y)%10],by go_num,zqbz (Value.int .i64) HE2.out,HN.out,by omega,by
    rw[zqag,zil,zmC,<- HE.out];exact HO.out,HB.out⟩
   case measure=>simp[intOf];omega
  have e1:¬ k<=xs.length:=by omega
  have e2:¬ k<=ys.length:=by omega
  have hne:acc≠[]:=by intro e;rw[e] at hal;simp at hal;omega
  have HFIN:=zHd (zi.out.fin HX.out HY.out (by omega) (by omega));have HT:=zHd (zjq _ acc wr (zjp.of_own zO hne) zi.out.lt (by omega));have HL:=zHd (fun w=>zoE (vl 10 acc) w (by have:=zto acc zi.out.lt;omega));have HB:=zHd hb;clear zO hb hne hal hgo;go_wp2_with fail;refine HT.out.mono ?_;rintro e w3 ⟨rfl,hb3⟩;have B3:=zHd hb3;clear hb3;go_wp2_with fail;refine(HL.out _).mono ?_;rintro e w' ⟨he,rfl⟩;have H1:=HFIN.out;have H2:=HV.out;rw[<- H1] at H2;rw[<- H2] at he;have BB:=zHd (B2.out.trans ((HB.out.trans (B3.out.mono HB.out.size)).mono B2.out.size));have HEND:Hid (zab (zef a b) w (.returned (zef a b)) w3):=zHd ⟨rfl,zbe BB.out⟩;clear H1 H2;rcases ztp (vl 10 xs+vl 10 ys) with⟨S,E,hS⟩;have hav:zef a b=.tuple #[.string S,.int .i64 E]:=by rw[HV.out,hS]
  rw[hav] at he;subst he;have HEND2:=HEND.out;rw[hav] at HEND2;have HE3:=zHd HEND2;have HAV:=zHd hav;clear HEND HEND2 hav hS;go_wp2;go_ret2;rw[HAV.out];exact HE3.out
open Go.RowKit
open Go.Lib (nDigits decDigits)
structure zfX (xs ys:List Nat)(k c:Nat)(acc:List Nat):Prop where
 len:acc.length=k
 lt:∀ d∈acc,d<10
 carry:c<=1
 val:vl 10 acc+vl 10 (ys.take k)=vl 10 (xs.take k)+10 ^ k*c
def zfX.start (xs ys:List Nat):zfX xs ys 0 0 []:=⟨rfl,fun d h=>by simp at h,by omega,by simp[vl]⟩
def zfX.step {xs ys:List Nat}{k c:Nat}{acc:List Nat}(h:zfX xs ys k c acc)(d c':Nat)(hd:d<10)(hc:c'<=1)(e:d+ys.getD k 0+c=xs.getD k 0+10*c') :
  zfX xs ys (k+1) c' (acc++[d]):=by
 refine⟨by rw[zqag,h.len];rfl,fun x hx=>?_,hc,?_⟩
 ·rcases zqbo.1 hx with hx|hx
  ·exact h.lt x hx
  rw[zqbk.1 hx];exact hd
 have v:=h.val;rw[zfR,h.len,zaM,zaM,zqbp];generalize xs.getD k 0=p at *;generalize ys.getD k 0=q at *;generalize 10 ^ k=P at *;have e1:P*(d+q+c)=P*(p+10*c'):=by rw[e]
 rw[zqbh,zqbh,zqbh,<- zqav] at e1;omega
def zfX.fin {xs ys:List Nat}{c:Nat}{acc:List Nat}(h:zfX xs ys xs.length c acc)(hx:∀ d∈xs,d<10)(hle:vl 10 ys<=vl 10 xs):vl 10 acc=vl 10 xs-vl 10 ys:=by
 have e:=h.val;rw[zqaf (zqab _)] at e;have a1:=zbP 10 xs hx;have a2:=zbP 10 acc h.lt;rw[h.len] at a2;have hc:=h.carry
 have hy:vl 10 (ys.take xs.length)=vl 10 ys:=by
  rcases Nat.lt_or_ge ys.length xs.length with h1|h1;rw[zqaf (by omega)];have s:=zgu 10 ys xs.length h1;rcases Nat.eq_zero_or_pos (vl 10 (ys.drop xs.length)) with h0|h0;rw[h0,Nat.mul_zero] at s;omega;have:=zqbd (10 ^ xs.length) h0;omega
 rw[hy] at e
 have:c=0:=by
  rcases Nat.eq_zero_or_pos c with h0|h0;exact h0;obtain rfl:c=1:=by omega
  omega
 subst this;omega
def zGH (xs ys:List Nat)(w:World)(e:Ending)(w':World):Prop :=
 ∃ v zs,e=.returned v/\zgp w' v zs/\(∀ d∈zs,d<10)/\vl 10 zs=vl 10 xs-vl 10 ys/\zs.length=xs.length/\Below w.heap.size w w'
def zpc (v1 v2:Value)(xs ys:List Nat)(w:World)(hv1:zgp w v1 xs)(hv2:zgp w v2 ys)(hx:∀ d∈xs,d<10)(hy:∀ d∈ys,d<10)(lx:xs.length<=1000000)(ly:ys.length<=1000000)(hle:vl 10 ys<=vl 10 xs) :
  Calls prog 214 #[v1,v2] w (zGH xs ys w):=by
 obtain⟨i0,hi,hz0,hz1,hz2⟩:=info_parts zll;obtain⟨g1,c1,rfl⟩:=hv1.form;obtain⟨g2,c2,rfl⟩:=hv2.form;have hpos:=List.length_pos_iff.2 hv1.2;have R1:=zHd hv1;have R2:=zHd hv2;have HX:=zHd hx;have HY:=zHd hy;have HLE:=zHd hle;clear hv1 hv2 hx hy hle;go_enter func214,ntmps214;go_wp2
 go_loopw [5,6,7] (fun l c i wr=>∃ (k y:Nat) (acc:List Nat),i=.int .i64 k/\c=.int .i64 y/\zfX xs ys k y acc/\k<=xs.length/\wr.ownsRow w.heap.size 3 1 l acc.length (iv acc)/\Below w.heap.size w wr) (fun _ _ i _=>xs.length-(intOf i).toNat)
 case atStart=>exact⟨0,0,[],rfl,rfl,zfX.start xs ys,by omega,World.ownsRow_nil _ _ _ _,Below.refl _ _⟩
 case round =>
  obtain⟨k,y,acc,rfl,rfl,zI,hk,zO,hb⟩:=hrel;have hal:acc.length=k:=zI.len;have hy1:=zI.carry;have zi:=zHd zI;clear zI
  by_cases hgo:k<xs.length
  ·have a1:=zHd (zmD _ xs k wr (R1.out.below hb) lx)
   have a2:=zHd (zmD _ ys k wr (R2.out.below hb) ly);have hp:=getD_lt xs HX.out k;have hq:=getD_lt ys HY.out k;have HN:=zHd (fun d c' h1 h2 h3=>zi.out.step d c' h1 h2 h3);generalize xs.getD k 0=p at *;generalize ys.getD k 0=q at *;have p0:(0:Int)<=(p:Int):=by omega
   have p1:(p:Int)<10:=by omega
   have q0:(0:Int)<=(q:Int):=by omega
   have q1:(q:Int)<10:=by omega
   have y0:(0:Int)<=(y:Int):=by omega
   have y1:(y:Int)<=1:=by omega
   have hb1:acc.length+1<=1000001:=by omega
   by_cases hneg:(p:Int)-q-y<0
   ·have HE:=zHd (show(p:Int)-q-y+10=((p+10-q-y:Nat):Int) by omega)
    have HM:=zHd (HN.out (p+10-q-y) 1 (by omega) (by omega) (by omega));clear hal hp hq hy1;go_wp2_with fail;refine a1.out.mono ?_;rintro e w' ⟨rfl,rfl⟩;go_wp2_with fail;refine a2.out.mono ?_;rintro e w' ⟨rfl,rfl⟩;go_wp2_with (at_builtin;refine wpList_append_own _ rfl _ _ 64 rfl w.heap.size 3 i0 (.int .i64 0) 1 8 underlying64 hi hz0 hz1 hz2 rfl (by decide) _ _ _ rfl (zO.alloc _) ⟨wr.heap.size,0,none⟩ 1 1 [.int .i64 ((p:Int)-q-y+10)] rfl rfl ?c1 ?c2 ?c3 ?c4 ?c5 ?_)
    case c1=>exact zfW _ _ _
    case c2=>intro u hu;simp at hu;subst hu;rfl
    case c3=>unfold maxLen;omega
    case c4=>omega
    case c5=>simp;have:=hb.size;omega
    intro v' w3 zo zG _;have HB:=zHd (zen hb _ (fun g e=>(zO.lt g e).1) zG);have HO:=zHd zo;clear zO zo zG hb;go_wp2
    go_roundw
    case rel=>exact⟨k+1,1,acc++[p+10-q-y],by go_num,rfl,HM.out,by omega,by
     rw[zqag,zil,zmC,<- HE.out];exact HO.out,HB.out⟩
    case measure=>simp[intOf];omega
   have HE:=zHd (show(p:Int)-q-y=((p-q-y:Nat):Int) by omega);have HM:=zHd (HN.out (p-q-y) 0 (by omega) (by omega) (by omega));clear hal hp hq hy1;go_wp2_with fail;refine a1.out.mono ?_;rintro e w' ⟨rfl,rfl⟩;go_wp2_with fail;refine a2.out.mono ?_;rintro e w' ⟨rfl,rfl⟩;go_wp2_with (at_builtin;refine wpList_append_own _ rfl _ _ 64 rfl w.heap.size 3 i0 (.int .i64 0) 1 8 underlying64 hi hz0 hz1 hz2 rfl (by decide) _ _ _ rfl (zO.alloc _) ⟨wr.heap.size,0,none⟩ 1 1 [.int .i64 ((p:Int)-q-y)] rfl rfl ?c1 ?c2 ?c3 ?c4 ?c5 ?_)
   case c1=>exact zfW _ _ _
   case c2=>intro u hu;simp at hu;subst hu;rfl
   case c3=>unfold maxLen;omega
   case c4=>omega
   case c5=>simp;have:=hb.size;omega
   intro v' w3 zo zG _;have HB:=zHd (zen hb _ (fun g e=>(zO.lt g e).1) zG);have HO:=zHd zo;clear zO zo zG hb;go_wp2
   go_roundw
   case rel=>exact⟨k+1,0,acc++[p-q-y],by go_num,rfl,HM.out,by omega,by
    rw[zqag,zil,zmC,<- HE.out];exact HO.out,HB.out⟩
   case measure=>simp[intOf];omega
  obtain rfl:k=xs.length:=by omega
  have hne:acc≠[]:=by intro e;rw[e] at hal;simp at hal;omega
  have HR:=zHd (show zgp wr u5 acc from⟨zjp.of_own zO hne,hne⟩);have HFIN:=zHd (zi.out.fin HX.out HLE.out);have HAL:=zHd hal;have HB:=zHd hb;clear zO hb hne hal;go_wp2;go_ret;exact⟨_,acc,rfl,HR.out,zi.out.lt,HFIN.out,HAL.out,HB.out⟩
open Go.RowKit
open Go.Lib (nDigits decDigits)
def zAg (a b:ByteArray)(w:World)(ha:a.size<=maxLen)(hb:b.size<=maxLen)(na:zao a=false) :
  Calls prog 174 #[.string a,.string b] w (zab (zef a b) w):=by
 have HV:=zHd (show zef a b=.tuple #[.string ⟨#[]⟩,.int .i64 1] by unfold zef;rw[na];rfl);have va:=zau a w ha;have vb:=zau b w hb;rw[na] at va;have VA:=zHd va;have VB:=zHd vb;clear va vb ha hb na;go_enter func174,ntmps174;exact zQaJ
def zAh (a b:ByteArray)(w:World)(ha:a.size<=maxLen)(hb:b.size<=maxLen)(na:zao a=true)(nb:zao b=false) :
  Calls prog 174 #[.string a,.string b] w (zab (zef a b) w):=by
 have HV:=zHd (show zef a b=.tuple #[.string ⟨#[]⟩,.int .i64 1] by unfold zef;rw[na,nb];rfl);have va:=zau a w ha;have vb:=zau b w hb;rw[na] at va;rw[nb] at vb;have VA:=zHd va;have VB:=zHd vb;clear va vb ha hb na nb;go_enter func174,ntmps174;exact zQaw
def zGI (a b:ByteArray)(w:World)(ha:a.size<=maxLen)(hb:b.size<=maxLen) :
  Calls prog 174 #[.string a,.string b] w (zab (zef a b) w):=by
 cases na:zao a;exact zAg a b w ha hb na;cases nb:zao b;exact zAh a b w ha hb na nb;exact zGG a b w na nb
def zAi (a b:ByteArray)(w:World)(ha:a.size<=maxLen)(hb:b.size<=maxLen)(na:zao a=false) :
  Calls prog 176 #[.string a,.string b] w (zab (zdJ a b) w):=by
 have HV:=zHd (show zdJ a b=.tuple #[.string ⟨#[]⟩,.int .i64 1] by unfold zdJ;rw[na];rfl);have va:=zau a w ha;have vb:=zau b w hb;rw[na] at va;have VA:=zHd va;have VB:=zHd vb;clear va vb ha hb na;go_enter func176,ntmps176;exact zQaJ
def zAj (a b:ByteArray)(w:World)(ha:a.size<=maxLen)(hb:b.size<=maxLen)(na:zao a=true)(nb:zao b=false) :
  Calls prog 176 #[.string a,.string b] w (zab (zdJ a b) w):=by
 have HV:=zHd (show zdJ a b=.tuple #[.string ⟨#[]⟩,.int .i64 1] by unfold zdJ;rw[na,nb];rfl);have va:=zau a w ha;have vb:=zau b w hb;rw[na] at va;rw[nb] at vb;have VA:=zHd va;have VB:=zHd vb;clear va vb ha hb na nb;go_enter func176,ntmps176;exact zQaw
def zGJ (a b:ByteArray)(w:World)(na:zao a=true)(nb:zao b=true) :
  Calls prog 176 #[.string a,.string b] w (zab (zdJ a b) w):=by
 have va:=zau a w (zbo na);have vb:=zau b w (zbo nb);rw[na] at va;rw[nb] at vb;have VA:=zHd va;have VB:=zHd vb;have rc:=zhf a b w na nb;clear va vb
 by_cases hlt:nv a<nv b
 ·have HV:=zHd (show zdJ a b=.tuple #[.string ⟨#[]⟩,.int .i64 4] by rw[zJU a b na nb hlt])
  rw[show zbF (nv a) (nv b) = -1 by unfold zbF;rw[if_pos hlt]] at rc;have RC:=zHd rc;clear na nb hlt rc;go_enter func176,ntmps176;go_wp2_with fail;refine VA.out.mono ?_;rintro e w' ⟨rfl,rfl⟩;go_wp2_with fail;refine VB.out.mono ?_;rintro e w' ⟨rfl,rfl⟩;go_wp2_with fail;refine RC.out.mono ?_;rintro e w1 ⟨rfl,hg⟩;have G:=zHd hg;clear hg;go_wp2;go_ret2;rw[HV.out];exact⟨rfl,G.out⟩
 have HV:=zHd (show zdJ a b=.tuple #[.string (zai (nv a-nv b)),.int .i64 0] by unfold zdJ;rw[na,nb];simp only[Bool.and_self,if_true];rw[if_neg hlt]);obtain⟨d,hd,hd0⟩:∃ d:Int,zbF (nv a) (nv b)=d/\¬ d<0:=⟨_,rfl,by have:=zfn (nv a) (nv b);omega⟩;rw[hd] at rc;have RC:=zHd rc;have D1:=zHd (fun w=>zdm a w na);have D2:=zHd (fun w=>zdm b w nb);have hx:=zeJ a na;have hy:=zeJ b nb;have sa:=zcc a na;have sb:=zcc b nb;have la:=zey a;have lb:=zey b;have xa:=zex a;have xb:=zex b;have hle:vl 10 (zdK b)<=vl 10 (zdK a):=by omega
 rw[<- xa,<- xb] at HV;clear na nb rc hd xa xb hlt;generalize zdK a=xs at *;generalize zdK b=ys at *;have HX:=zHd hx;have HY:=zHd hy;have HLE:=zHd hle;have lx2:xs.length<=1000:=by omega
 have ly2:ys.length<=1000:=by omega
 clear hx hy sa sb la lb hle;go_enter func176,ntmps176;go_wp2_with fail;refine VA.out.mono ?_;rintro e w' ⟨rfl,rfl⟩;go_wp2_with fail;refine VB.out.mono ?_;rintro e w' ⟨rfl,rfl⟩;go_wp2_with fail;refine RC.out.mono ?_;rintro e w0 ⟨rfl,hg⟩;have G0:=zHd hg;clear hg VA VB RC;go_wp2_with fail;refine(D1.out _).mono ?_;rintro e w1 ⟨v1,rfl,hr1,hb1⟩;have R1:=zHd hr1;have B1:=zHd hb1;clear hr1 hb1;go_wp2_with fail;refine(D2.out _).mono ?_;rintro e w2 ⟨v2,rfl,hr2,hb2⟩;have R1':=zHd (R1.out.below hb2);have R2:=zHd hr2;have B2:=zHd (B1.out.trans (hb2.mono B1.out.size));clear hr2 hb2 R1 B1 D1 D2;go_wp2_with fail;refine(zpc v1 v2 xs ys w2 R1'.out R2.out HX.out HY.out (by omega) (by omega) HLE.out).mono ?_;rintro e w3 ⟨v3,zs,rfl,hr3,hz,zV,zN,hb3⟩;have B3:=zHd (B2.out.trans (hb3.mono B2.out.size));have R3:=zHd hr3;have hT:=zjq v3 zs w3 hr3.1 hz (by omega);rw[zV] at hT;have HT:=zHd hT;clear hr3 hz zV zN hb3 hT;go_wp2_with fail;refine HT.out.mono ?_;rintro e w4 ⟨rfl,hb4⟩;have BB:=zHd (zaa G0.out (zbe (B3.out.trans (hb4.mono B3.out.size))));clear hb4;generalize zai (vl 10 xs-vl 10 ys)=S at *;go_wp2;go_ret2;rw[HV.out];exact⟨rfl,BB.out⟩
def zvm (a b:ByteArray)(w:World)(ha:a.size<=maxLen)(hb:b.size<=maxLen) :
  Calls prog 176 #[.string a,.string b] w (zab (zdJ a b) w):=by
 cases na:zao a;exact zAi a b w ha hb na;cases nb:zao b;exact zAj a b w ha hb na nb;exact zGJ a b w na nb
open Go.RowKit
def zcN (a:Addr)(n:Nat):(a.add n).block=a.block:=by unfold Addr.add;split <;> rfl
def zqk (a:Addr)(i j:Nat):(a.add i).add j=a.add (i+j):=by
 unfold Addr.add
 by_cases hi:i=0 <;> by_cases hj:j=0 <;> simp[hi,hj,Nat.add_assoc]
def Reads (w:World)(B size:Nat)(A:Option Addr)(n:Nat)(xs:List Value):Prop :=
 xs.length=n*size/\(0<n->∃ ad,A=some ad/\ad.block<B/\∀ j u,xs[j]?=some u->w.cell? (ad.add j)=some u)
section
variable {w w':World} {B B' size n:Nat} {A:Option Addr} {xs:List Value}
def Reads.none_:Reads w B size A 0 []:=⟨by simp,fun h=>absurd h (by omega)⟩
def Reads.keep (h:Reads w B size A n xs)(hk:∀ p:Addr,p.block<B->w'.cell? p=w.cell? p):Reads w' B size A n xs :=
 ⟨h.1,fun hn=>by
  obtain⟨ad,e,hb,hc⟩:=h.2 hn;exact⟨ad,e,hb,fun j u hu=>(hk _ (by rw[zcN];exact hb)).trans (hc j u hu)⟩⟩
def Reads.more (h:Reads w B size A n xs)(hB:B<=B'):Reads w B' size A n xs :=
 ⟨h.1,fun hn=>by
  obtain⟨ad,e,hb,hc⟩:=h.2 hn;exact⟨ad,e,by omega,hc⟩⟩
def Reads.below (h:Reads w B size A n xs)(hb:Below B w w'):Reads w' B size A n xs:=h.keep fun _ hp=>hb.cell hp
end
end Go.Proofs.YtiblmbpfcmcccaaGreatDoor
namespace Go.Proofs
open Go.Shelf Go.RowKit
def Tryz.lays156_ren:Go.Shelf.Ren:=⟨fun|156=>99|165=>143|166=>144|169=>145|240=>181|241=>182|276=>215|277=>216|n=>n,fun|0=>0|3=>3|4=>4|5=>5|9=>9|20=>20|31=>27|37=>145|70=>144|72=>147|75=>150|76=>151|80=>60|127=>175|164=>197|n=>n,fun|n=>n⟩
def Tryz.lays156:Go.Proofs.Lays.n156 prog Tryz.lays156_ren := {
 mixed:=by kernel_rfl
 f156:=func99.trans (zqbz some (by kernel_rfl))
 f165:=func143.trans (zqbz some (by kernel_rfl))
 f166:=func144.trans (zqbz some (by kernel_rfl))
 f169:=func145.trans (zqbz some (by kernel_rfl))
 f240:=func181.trans (zqbz some (by kernel_rfl))
 f241:=func182.trans (zqbz some (by kernel_rfl))
 f276:=func215.trans (zqbz some (by kernel_rfl))
 f277:=func216.trans (zqbz some (by kernel_rfl))
 t0:=underlying0
 a0:=isAgg0
 z0:=sizeOf0
 v0:=zeroValue0
 t3:=underlying3
 a3:=isAgg3
 z3:=sizeOf3
 v3:=zeroValue3
 t4:=underlying4
 a4:=isAgg4
 z4:=sizeOf4
 v4:=zeroValue4
 t9:=underlying9
 a9:=isAgg9
 z9:=sizeOf9
 v9:=zeroValue9
 t20:=underlying20
 a20:=isAgg20
 z20:=sizeOf20
 v20:=zeroValue20
 t31:=underlying27
 a31:=isAgg27
 z31:=sizeOf27
 v31:=zeroValue27
 t37:=underlying145
 a37:=isAgg145
 z37:=sizeOf145
 v37:=zeroValue145
 t70:=underlying144
 a70:=isAgg144
 z70:=sizeOf144
 v70:=zeroValue144
 t72:=underlying147
 a72:=isAgg147
 z72:=sizeOf147
 v72:=zeroValue147
 t75:=underlying150
 a75:=isAgg150
 z75:=sizeOf150
 v75:=zeroValue150
 t76:=underlying151
 a76:=isAgg151
 z76:=sizeOf151
 v76:=zeroValue151
 t127:=underlying175
 a127:=isAgg175
 z127:=sizeOf175
 v127:=zeroValue175
 t164:=underlying197
 a164:=isAgg197
 z164:=sizeOf197
 v164:=zeroValue197 }
def Tryz.Builder_Extra_156:Builder.Extra prog Tryz.lays156_ren := {
 sizeBuilder:=by kernel_rfl
 liesBuilder:=by kernel_rfl
 t5:=underlying5
 a5:=isAgg5
 z5:=sizeOf5
 v5:=zeroValue5
 infoByte:=by kernel_rfl
 cellsByte:=by kernel_rfl
 sizeByte:=by kernel_rfl
 neB5:=by decide }
def Tryz.sh_Join (bk o c:Nat)(xs:List ByteArray)(sep:ByteArray)(w:World)(ze:∀ (j:Nat) x,xs[j]?=some x->w.cell? ⟨bk,o+j,none⟩=some (.string x))
  (hbk:bk<w.heap.size) (hN:xs.length<=140737488355328) (hcap:xs.length<=c) (zN:(Lib.join (xs.map (·.data.toList)) sep.data.toList).length<=140737488355328) :
  Calls prog 99 #[.slice (some ⟨bk,o,none⟩) xs.length c,.string sep] w fun e w'=>e=.returned (.string ⟨(Lib.join (xs.map (·.data.toList)) sep.data.toList).toArray⟩)/\Below w.heap.size w w':=Any.strings_Join Tryz.lays156 Tryz.Builder_Extra_156 bk o c xs sep w ze hbk hN hcap zN
end Go.Proofs
namespace Go.Proofs.YtiblmbpfcmcccaaGreatDoor
open Go.Proofs.Tryz
variable {P:Program} {ops:Array Oper} {Q:Exit->Act->World->Prop} {md:Region.Mode}
def ziN (P:Program)(ops:Array Oper)(Q:Exit->Act->World->Prop)(e:Nat):Exit->Act->World->Prop
 | .normal,a,w=>wpOp P ops Q e (fun a' w'=>Q .normal a' w') a w
 | x,a,w=>Q x a w
def zCR {e:Nat}{o:Oper}{a:Act}{K:Act->World->Prop}{r:Result Next}(h:o.upon P a K (ziN P ops Q e) r):o.upon P a K Q r:=by
 cases r with
 | ok n w' =>
  cases n <;> simp only[Oper.upon] at h ⊢
  case enter f args =>
   refine Calls.mono h fun x w'' he=>?_;cases x with
   | returned u=>exact he
   | panicked c=>exact he
   | outgrown=>exact he
  all_goals exact h
 | halt x w' =>
  cases x <;> simp only[Oper.upon] at h ⊢
  case panic u=>exact h
def ztq {e i:Nat}{a:Act}{w:World}{K:Act->World->Prop}(h:wpOp P ops (ziN P ops Q e) i K a w):wpOp P ops Q i K a w:=by
 unfold wpOp at *;split
 ·rename_i ho;simpa [ho] using h
 rename_i o ho
 simp only[ho] at h;split
 ·rename_i hw
  simp only[hw,if_true] at h;rcases h with h|⟨h1,h2⟩
  exact .inl (zCR h);exact .inr ⟨h1,h2⟩
 rename_i hw
 simp only[hw] at h;exact h
def zvn (md:Region.Mode)(ops:Array Oper)(e:Nat):Bool :=
 (List.range ops.size).all (fun i=>((ops[i]?).map (fun o=>o.after.all fun x => !Region.binds md x || decide (x.on<i))).getD false&&(i==e || ((ops[e]?).map (fun o=>o.after.any fun x=>Region.binds md x&&x.on==i)).getD false))&&decide (e<ops.size)
structure zmE (md:Region.Mode)(ops:Array Oper)(e:Nat):Prop where
 he:e<ops.size
 fwd:∀ (i:Nat) (o:Oper),ops[i]?=some o->∀ x∈o.after,Region.binds md x=true->x.on<i
 all:∀ (i:Nat),i<ops.size->i≠e->∃ o,ops[e]?=some o/\∃ x∈o.after,Region.binds md x=true/\x.on=i
def zxL {e:Nat}(h:zvn md ops e=true):zmE md ops e:=by
 unfold zvn at h;simp only[zqbb,List.all_eq_true,List.mem_range,zqca] at h;obtain⟨h1,h2⟩:=h;refine⟨h2,fun i o ho x hx hb=>?_,fun i hi hne=>?_⟩
 ·have h3:=(h1 i (zqad.1 ho).1).1
  exact zQbj
 have h3:=(h1 i hi).2;cases ho:ops[e]? with
 | none=>simp[ho,hne] at h3
 | some o =>
  simp only[ho,Option.map_some,Option.getD_some,Bool.or_eq_true,beq_iff_eq,hne,false_or] at h3;obtain⟨k,hk,hb⟩:=Array.any_eq_true.1 h3;simp only[zqbb,beq_iff_eq] at hb;exact⟨o,rfl,_,Array.getElem_mem hk,hb.1,hb.2⟩
def zmh {listed:Array Bool}{e:Nat}(hok:zmE md ops e)(hl:listed.size=ops.size)(h:∀ i,i≠e->i ∉ Region.ready md ops listed):∀ i,i<ops.size->i≠e->listed.getD i false=true:=by
 intro i
 induction i using Nat.strongRecOn with
 | ind i ih =>
  intro hi hne;apply Classical.byContradiction;intro hn
  have hn:listed.getD i true=false:=by
   have hi2:i<listed.size:=by omega
   simp[hi2] at hn ⊢;exact hn
  refine h i hne ?_;rw[mem_ready];refine⟨hn,ops[i],zqbv hi,fun x hx hb=>?_⟩;have hlt:=hok.fwd i _ (zqbv hi) x hx hb
  by_cases hxe:x.on=e
  ·obtain⟨oe,hoe,y,hy,hyb,hyi⟩:=hok.all i hi hne
   have:=hok.fwd e oe hoe y hy hyb;omega
  exact ih x.on hlt (by omega) hxe
def zql {listed:Array Bool}{e:Nat}(hok:zmE md ops e)(hl:listed.size=ops.size)(he:listed.getD e true=false)(h:∀ i,i<ops.size->i≠e->listed.getD i false=true):e∈Region.ready md ops listed:=by
 rw[mem_ready];refine⟨he,ops[e]'hok.he,zqbv hok.he,fun x hx hb=>?_⟩;have hlt:=hok.fwd e _ (zqbv hok.he) x hx hb;exact h x.on (by have:=hok.he;omega) (by omega)
def zAk {listed:Array Bool}{e:Nat}(hok:zmE md ops e)(hl:listed.size=ops.size)(he:e∈Region.ready md ops listed):Region.ready md ops (listed.setIfInBounds e true)=[]:=by
 rw[List.eq_nil_iff_forall_not_mem];intro i hi;rw[mem_ready] at hi he;obtain⟨h1,o,ho,_⟩:=hi;obtain⟨h2,oe,hoe,h3⟩:=he;have hil:i<ops.size:=(zqad.1 ho).1
 by_cases hie:i=e
 ·subst hie
  have:i<listed.size:=by omega
  simp[this] at h1
 rw[getD_set_ne true (Ne.symm hie)] at h1;obtain⟨o2,ho2,x,hx,hb,hxi⟩:=hok.all i hil hie;rw[hoe] at ho2;cases ho2;have h4:=h3 x hx hb;rw[hxi] at h4;have:i<listed.size:=by omega
 simp[this] at h1 h4;rw[h1] at h4;cases h4
def zAl {e:Nat}(hok:zmE md ops e):∀ (fuel:Nat) (listed:Array Bool) (a:Act) (w:World),listed.size=ops.size->listed.getD e true=false ->
  wpAny P md ops (ziN P ops Q e) fuel (listed.setIfInBounds e true) a w->wpAny P md ops Q (fuel+1) listed a w:=by
 intro fuel
 have fin:∀ (n:Nat) (listed:Array Bool) (a:Act) (w:World),Region.ready md ops (listed.setIfInBounds e true)=[]->ziN P ops Q e .normal a w->wpOp P ops Q e (wpAny P md ops Q n (listed.setIfInBounds e true)) a w:=by
  intro n listed a w hr h;refine wpOp_mono (fun a' w' h'=>?_) h;cases n with
  | zero=>exact⟨hr,h'⟩
  | succ n=>exact⟨fun _=>h',by rw[hr];simp⟩
 induction fuel with
 | zero =>
  intro listed a w hl he h;have hall:=zmh hok hl (fun i hi hr=>by have:=ready_mono hr hi;rw[h.1] at this;cases this);have hre:=zql hok hl he hall;refine⟨fun h0=>(by rw[h0] at hre;cases hre),fun i hi=>?_⟩
  by_cases hie:i=e
  subst hie;exact fin 0 listed a w h.1 h.2;have:=ready_mono hi hie;rw[h.1] at this;cases this
 | succ fuel ih =>
  intro listed a w hl he h;refine⟨fun h0=>?_,fun i hi=>?_⟩
  ·have hre:=zql hok hl he (zmh hok hl (fun i _ hr=>by rw[h0] at hr;cases hr))
   rw[h0] at hre;cases hre
  by_cases hie:i=e
  ·subst hie
   have hr:=zAk hok hl hi;exact fin (fuel+1) listed a w hr (h.1 hr)
  have h1:=ztq (h.2 i (ready_mono hi hie));refine wpOp_mono (fun a' w' h'=>?_) h1;refine ih (listed.setIfInBounds i true) a' w' (by simpa using hl) (by rw[getD_set_ne true hie];exact he) ?_;rw[Array.setIfInBounds_comm _ _ hie];exact h'
def zeZ {e:Nat}{o:Oper}{a:Act}{w:World}(ho:ops[e]?=some o)
  (h:∀ K':Act->World->Prop,(∀ a w,Q .normal a w->K' a w)->if Region.wanted o (yielded ops a.tmps)=true then Oper.wp P o a w K' Q else K' (a.put o.dst undef) w):ziN P ops Q e .normal a w:=wpOp_step ho h
def zdU {id e n:Nat}{a:Act}{w:World}(S:World->Prop)(hm:P.follows .mixedOrders=true)(hok:zvn .any ops e=true)(hn:ops.size=n+1)
  (h:wpAnyH P .any ops (ziN P ops Q e) S n ((Array.replicate ops.size false).setIfInBounds e true) a w.drew):(Code.region id ops true).wp P Q a w:=by
 refine wp_region_any hm ?_;rw[hn];have hs:=zxL hok;have h1:=zAl hs n (Array.replicate ops.size false) a w.drew (by simp) (by have:=hs.he;simp[this]) (wpAny_of_held _ _ _ _ h);rw[hn] at h1;exact h1
variable {P:Program} {ops:Array Oper} {Q:Exit->Act->World->Prop} {md:Region.Mode}
def zrT (md:Region.Mode)(ops:Array Oper)(e:Nat):Bool :=
 (List.range ops.size).all (fun i=>((ops[i]?).map (fun o=>o.after.all fun x => !Region.binds md x || decide (x.on<i))).getD false&&(i==e || (List.range ops.size).any (fun j=>((ops[j]?).map (fun o=>o.after.any fun x=>Region.binds md x&&x.on==i)).getD false)))&&decide (e+1=ops.size)
structure ziZ (md:Region.Mode)(ops:Array Oper)(e:Nat):Prop where
 he:e+1=ops.size
 fwd:∀ (i:Nat) (o:Oper),ops[i]?=some o->∀ x∈o.after,Region.binds md x=true->x.on<i
 all:∀ (i:Nat),i<ops.size->i≠e->∃ (j:Nat) (o:Oper),ops[j]?=some o/\∃ x∈o.after,Region.binds md x=true/\x.on=i
def zvo {e:Nat}(h:zrT md ops e=true):ziZ md ops e:=by
 unfold zrT at h;simp only[zqbb,List.all_eq_true,List.mem_range,zqca] at h;obtain⟨h1,h2⟩:=h;refine⟨h2,fun i o ho x hx hb=>?_,fun i hi hne=>?_⟩
 ·have h3:=(h1 i (zqad.1 ho).1).1
  exact zQbj
 have h3:=(h1 i hi).2;simp only[Bool.or_eq_true,beq_iff_eq,hne,false_or,List.any_eq_true,List.mem_range] at h3;obtain⟨j,hj,h3⟩:=h3;cases ho:ops[j]? with
 | none=>simp[ho] at h3
 | some o =>
  simp only[ho,Option.map_some,Option.getD_some] at h3;obtain⟨k,hk,hb⟩:=Array.any_eq_true.1 h3;simp only[zqbb,beq_iff_eq] at hb;exact⟨j,o,ho,_,Array.getElem_mem hk,hb.1,hb.2⟩
def Closed (md:Region.Mode)(ops:Array Oper)(listed:Array Bool):Prop:=∀ (i:Nat) (o:Oper),ops[i]?=some o->listed.getD i false=true->∀ x∈o.after,Region.binds md x=true->listed.getD x.on false=true
def zvp (n:Nat):Closed md ops (Array.replicate n false):=by
 intro i o _ h;rw[Array.getD_eq_getD_getElem?,Array.getElem?_replicate] at h;split at h <;> simp at h
def zmi {l:Array Bool}{i j:Nat}(h:l.getD j false=true):(l.setIfInBounds i true).getD j false=true:=by
 by_cases e:i=j
 ·subst e
  simp at h ⊢;obtain⟨h1,_⟩:=zqad.1 (show l[i]?=some true by cases hx:l[i]? with|none=>simp[hx] at h|some b=>simp[hx] at h;rw[h]);simp[h1]
 rw[getD_set_ne false e];exact h
def zxM {listed:Array Bool}{i:Nat}(hc:Closed md ops listed)(hi:i∈Region.ready md ops listed):Closed md ops (listed.setIfInBounds i true):=by
 intro k o ho hk x hx hb
 by_cases e:i=k
 ·subst e
  rw[mem_ready] at hi;obtain⟨_,o2,ho2,h3⟩:=hi;rw[ho] at ho2;cases ho2;exact zmi (h3 x hx hb)
 rw[getD_set_ne false e] at hk;exact zmi (hc k o ho hk x hx hb)
def zCS {listed:Array Bool}{e:Nat}(hok:ziZ md ops e)(hc:Closed md ops listed)(he:e∈Region.ready md ops listed):∀ d i,i+d=e->i<e->listed.getD i false=true:=by
 intro d
 induction d using Nat.strongRecOn with
 | ind d ih =>
  intro i hd hi;obtain⟨j,o,ho,x,hx,hb,hxi⟩:=hok.all i (by have:=hok.he;omega) (by omega);have hlt:=hok.fwd j o ho x hx hb;have hjl:j<ops.size:=(zqad.1 ho).1;have hje:j<=e:=by have:=hok.he;omega
  by_cases e2:j=e
  ·subst e2
   rw[mem_ready] at he;obtain⟨_,o2,ho2,h3⟩:=he;rw[ho] at ho2;cases ho2;rw[<- hxi];exact h3 x hx hb
  have:=ih (e-j) (by omega) j (by omega) (by omega);rw[<- hxi];exact hc j o ho this x hx hb
def zAm {listed:Array Bool}{e:Nat}(hok:ziZ md ops e)(hc:Closed md ops listed)(hl:listed.size=ops.size)(he:e∈Region.ready md ops listed):Region.ready md ops (listed.setIfInBounds e true)=[]:=by
 have hall:=zCS hok hc he;rw[List.eq_nil_iff_forall_not_mem];intro i hi;rw[mem_ready] at hi;obtain⟨h1,o,ho,_⟩:=hi;have hil:i<ops.size:=(zqad.1 ho).1
 by_cases hie:i=e
 ·subst hie
  have:i<listed.size:=by omega
  simp[this] at h1
 rw[getD_set_ne true (Ne.symm hie)] at h1;have h4:=hall (e-i) i (by have:=hok.he;omega) (by have:=hok.he;omega);have:i<listed.size:=by omega
 simp[this] at h1 h4;rw[h1] at h4;cases h4
def zjQ {listed:Array Bool}{e:Nat}(hok:ziZ md ops e)(hl:listed.size=ops.size)(h:∀ i,i≠e->i ∉ Region.ready md ops listed):∀ i,i<ops.size->i≠e->listed.getD i false=true:=by
 intro i
 induction i using Nat.strongRecOn with
 | ind i ih =>
  intro hi hne;apply Classical.byContradiction;intro hn
  have hn:listed.getD i true=false:=by
   have hi2:i<listed.size:=by omega
   simp[hi2] at hn ⊢;exact hn
  refine h i hne ?_;rw[mem_ready];refine⟨hn,ops[i],zqbv hi,fun x hx hb=>?_⟩;have hlt:=hok.fwd i _ (zqbv hi) x hx hb;exact ih x.on hlt (by omega) (by have:=hok.he;omega)
def zoF {listed:Array Bool}{e:Nat}(hok:ziZ md ops e)(he:listed.getD e true=false)(h:∀ i,i<ops.size->i≠e->listed.getD i false=true):e∈Region.ready md ops listed:=by
 rw[mem_ready];have hel:e<ops.size:=by have:=hok.he;omega
 refine⟨he,ops[e]'hel,zqbv hel,fun x hx hb=>?_⟩;have hlt:=hok.fwd e _ (zqbv hel) x hx hb;exact h x.on (by omega) (by omega)
def zxN {e:Nat}(hok:ziZ md ops e):∀ (fuel:Nat) (listed:Array Bool) (a:Act) (w:World),listed.size=ops.size->listed.getD e true=false->Closed md ops listed ->
  wpAny P md ops (ziN P ops Q e) fuel (listed.setIfInBounds e true) a w->wpAny P md ops Q (fuel+1) listed a w:=by
 intro fuel
 have fin:∀ (n:Nat) (listed:Array Bool) (a:Act) (w:World),Region.ready md ops (listed.setIfInBounds e true)=[]->ziN P ops Q e .normal a w->wpOp P ops Q e (wpAny P md ops Q n (listed.setIfInBounds e true)) a w:=by
  intro n listed a w hr h;refine wpOp_mono (fun a' w' h'=>?_) h;cases n with
  | zero=>exact⟨hr,h'⟩
  | succ n=>exact⟨fun _=>h',by rw[hr];simp⟩
 induction fuel with
 | zero =>
  intro listed a w hl he hc h;have hall:=zjQ hok hl (fun i hi hr=>by have:=ready_mono hr hi;rw[h.1] at this;cases this);have hre:=zoF hok he hall;refine⟨fun h0=>(by rw[h0] at hre;cases hre),fun i hi=>?_⟩
  by_cases hie:i=e
  subst hie;exact fin 0 listed a w h.1 h.2;have:=ready_mono hi hie;rw[h.1] at this;cases this
 | succ fuel ih =>
  intro listed a w hl he hc h;refine⟨fun h0=>?_,fun i hi=>?_⟩
  ·have hre:=zoF hok he (zjQ hok hl (fun i _ hr=>by rw[h0] at hr;cases hr))
   rw[h0] at hre;cases hre
  by_cases hie:i=e
  ·subst hie
   have hr:=zAm hok hc hl hi;exact fin (fuel+1) listed a w hr (h.1 hr)
  have h1:=ztq (h.2 i (ready_mono hi hie));refine wpOp_mono (fun a' w' h'=>?_) h1;refine ih (listed.setIfInBounds i true) a' w' (by simpa using hl) (by rw[getD_set_ne true hie];exact he) (zxM hc hi) ?_;rw[Array.setIfInBounds_comm _ _ hie];exact h'
def zqm {id e n:Nat}{a:Act}{w:World}(S:World->Prop)(hm:P.follows .mixedOrders=true)(hok:zrT .any ops e=true)(hn:ops.size=n+1)
  (h:wpAnyH P .any ops (ziN P ops Q e) S n ((Array.replicate ops.size false).setIfInBounds e true) a w.drew):(Code.region id ops true).wp P Q a w:=by
 refine wp_region_any hm ?_;rw[hn];have hs:=zvo hok;have h1:=zxN hs n (Array.replicate ops.size false) a w.drew (by simp) (by have:=hs.he;simp[this,show e<ops.size by omega]) (zvp _) (wpAny_of_held _ _ _ _ h);rw[hn] at h1;exact h1
end Go.Proofs.YtiblmbpfcmcccaaGreatDoor
