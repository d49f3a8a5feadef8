/- WE87 WE08 WE18 WE60 WE28 -/
import Derived.Test.YtaogepcaoogpgaaGreatDoorKE05
import Derived.Shelf.Strings.OnBuilder
set_option linter.unusedVariables false
set_option linter.unusedSimpArgs false
set_option maxRecDepth 100000
set_option maxHeartbeats 16000000
namespace Go.Proofs.YtaogepcaoogpgaaGreatDoor
open Go.RowKit
open Go.Lib (nDigits)
theorem ziG (B gx cx gy cy:Nat)(xs ys:List Nat)(w:World)(hxb:Blks B w (.slice (some ⟨gx,0,none⟩) xs.length cx) xs)(hyb:Blks B w (.slice (some ⟨gy,0,none⟩) ys.length cy) ys)(hne:gx≠gy)
  (hx:∀ x∈xs,x<1000000000) (hy:∀ y∈ys,y<1000000000) (hxt:zbK xs) (hyt:zbK ys) (h0:ys≠[]) (hn:xs.length≤10000) (hBw:B≤w.heap.size) :
  Calls Tryz.prog 257 #[.slice (some ⟨gx,0,none⟩) xs.length cx,.slice (some ⟨gy,0,none⟩) ys.length cy] w (zor B gx gy xs ys w):=by
 rcases Nat.lt_or_ge xs.length ys.length with h|h
 ·exact zrG B gx cx gy cy xs ys w hxb hne hx hxt hyt h
 ·obtain⟨m,hm⟩:∃ m,ys.length=m+1:=⟨ys.length - 1,by have:=List.length_pos_iff.2 h0;omega⟩
  exact ztY B gx cx gy cy m xs ys w hxb hyb hne hx hy hyt hm h hn hBw
def divV (a b:ByteArray):Value :=
 if numB a&&numB b then (if nv b=0 then .tuple #[.string ⟨#[]⟩,.string ⟨#[]⟩,.int .i64 4] else .tuple #[.string (decS (nv a / nv b)),.string (decS (nv a % nv b)),.int .i64 0])
 else .tuple #[.string ⟨#[]⟩,.string ⟨#[]⟩,.int .i64 1]
def gcdV (a b:ByteArray):Value:=if numB a&&numB b then .tuple #[.string (decS (Nat.gcd (nv a) (nv b))),.int .i64 0] else badV
theorem zrH (b:ByteArray)(h:numB b=true):(b.toList == [48])=decide (nv b=0):=by
 rw[Lib.toList_data]
 by_cases hz:nv b=0
 ·have:=(zbG b h).1
  rw[hz] at this;rw[this,ziE,Lib.decDigits_one (by decide)];simp[hz];rw[← this,hz]
 ·have:b.data.toList≠[48]:=by
   intro e
   apply hz
   unfold nv;rw[e];rfl
  simp[hz,this]
theorem zlC {xs:List Nat}(h:zbK xs):xs=[]↔vl 1000000000 xs=0:=(zwl 1000000000 (by decide) xs h).symm
structure zbM (B gx cx gy cy:Nat)(xs ys:List Nat)(w0 wr:World)(G:Nat):Prop where
 xb:Blks B wr (.slice (some ⟨gx,0,none⟩) xs.length cx) xs
 yb:Blks B wr (.slice (some ⟨gy,0,none⟩) ys.length cy) ys
 ne:gx≠gy
 xlt:∀ x∈xs,x<1000000000
 ylt:∀ y∈ys,y<1000000000
 xt:zbK xs
 yt:zbK ys
 g:Nat.gcd (vl 1000000000 xs) (vl 1000000000 ys)=G
 xn:xs.length≤10000
 yn:ys.length≤10000
 bel:Below B w0 wr
 bs:B≤wr.heap.size
theorem zbM.step {B gx cx gy cy:Nat}{xs ys:List Nat}{w0 wr w':World}{G:Nat}(h:zbM B gx cx gy cy xs ys w0 wr G)(h0:ys≠[]){qv:Value}{qs rs:List Nat}{gr cr:Nat}
  (hd:zmP B gx gy xs ys wr w' qv qs gr cr rs):zbM B gy cy gr cr ys rs w0 w' G∧vl 1000000000 rs<vl 1000000000 ys:=by
 have hpos:0<vl 1000000000 ys:=by
  rcases Nat.eq_zero_or_pos (vl 1000000000 ys) with e|e
  ·exact absurd ((zlC h.yt).2 e) h0
  ·exact e
 have hlt:vl 1000000000 rs<vl 1000000000 ys:=by rw[hd.rv];exact Nat.mod_lt _ hpos
 refine⟨⟨h.yb.grown hd.gr (by have:=h.ne;simp[Value.ownBlock];omega),hd.rb,fun e=>hd.rne e.symm,h.ylt,hd.rlt,h.yt,hd.rt,?_,h.yn,?_,?_,?_⟩,hlt⟩
 ·rw[hd.rv,← h.g,Nat.gcd_comm (vl 1000000000 xs),Nat.gcd_rec (vl 1000000000 ys) (vl 1000000000 xs),Nat.gcd_comm]
 ·exact Nat.le_trans (zyD ys rs h.ylt hd.rt (by omega)) h.yn
 ·refine h.bel.trans (below_grown hd.gr h.bs ?_)
  intro k hk;simp at hk;subst hk;exact(h.xb.lt gx rfl).1
 ·exact Nat.le_trans h.bs hd.gr.size
def zEX (B G:Nat)(w:World)(e:Ending)(w':World):Prop :=
 ∃ g c zs,e = .returned (.slice (some ⟨g,0,none⟩) zs.length c)∧Blks B w' (.slice (some ⟨g,0,none⟩) zs.length c) zs∧(∀ z∈zs,z<1000000000)∧vl 1000000000 zs=G∧zs.length≤10000∧Below B w w'
theorem zlX {xs:List Nat}{n:Nat}(hn:2≤n)(hx:∀ x∈xs,x<1000000000)(hl:xs.length≤n):vl 1000000000 xs / 1000000000 ^ (n - 2)=topN xs (n:Int):=by
 have e1:zby xs ((n:Int) - 1)=xs.getD (n - 1) 0:=by unfold zby;rw[if_neg (by omega)];congr 1;omega
 have e2:zby xs ((n:Int) - 2)=xs.getD (n - 2) 0:=by unfold zby;rw[if_neg (by omega)];congr 1;omega
 unfold topN;rw[e1,e2];have h1:=zaw 1000000000 xs (n - 2);have h2:=zaw 1000000000 xs (n - 1);rw[show n - 2+1=n - 1 by omega] at h1;rw[show n - 1+1=n by omega,List.take_of_length_le hl] at h2;have h3:=zbm 1000000000 (xs.take (n - 2)) (fun x hm=>hx x (List.mem_of_mem_take hm));have h4:(1000000000:Nat) ^ (xs.take (n - 2)).length≤1000000000 ^ (n - 2):=Nat.pow_le_pow_right (by decide) (by rw[List.length_take];omega);have h5:(1000000000:Nat) ^ (n - 1)=1000000000 ^ (n - 2) * 1000000000:=by rw[← Nat.pow_succ];congr 1;omega
 rw[h2,h1,h5];have hP:0<(1000000000:Nat) ^ (n - 2):=Nat.pow_pos (by decide);generalize (1000000000:Nat) ^ (n - 2)=P at *;generalize xs.getD (n - 1) 0=g1 at *;generalize xs.getD (n - 2) 0=b at *;obtain⟨a,ha⟩:∃ a,g1 * 1000000000=a:=⟨_,rfl⟩;have h6:P * 1000000000 * g1=P * a:=by rw[← ha,Nat.mul_assoc,Nat.mul_comm 1000000000]
 rw[h6,ha];clear h6 ha h5 h1 h2 e1 e2;have e3:vl 1000000000 (xs.take (n - 2))+P * b+P * a=vl 1000000000 (xs.take (n - 2))+P * (a+b):=by rw[Nat.mul_add];omega
 rw[e3,Nat.add_mul_div_left _ _ hP,Nat.div_eq_of_lt (by omega),Nat.zero_add]
def zjO (B G:Nat)(ys:List Nat)(w:World)(e:Ending)(w':World):Prop :=
 ∃ gx cx,∃ (xs':List Nat),∃ gy cy,∃ (ys':List Nat),e = .returned (.tuple #[.slice (some ⟨gx,0,none⟩) xs'.length cx,.slice (some ⟨gy,0,none⟩) ys'.length cy])∧zbM B gx cx gy cy xs' ys' w w' G∧vl 1000000000 ys'<vl 1000000000 ys
theorem zpJ {B gx cx gy cy:Nat}{xs ys:List Nat}{w:World}{G:Nat}(h:zbM B gx cx gy cy xs ys w w G)(h0:ys≠[]){qv:Value}{qs rs:List Nat}{gr cr:Nat}{w1 w':World}(hg:w.grownBy w1 none)
  (hd:zmP B gx gy xs ys w1 w' qv qs gr cr rs):zbM B gy cy gr cr ys rs w w' G∧vl 1000000000 rs<vl 1000000000 ys:=by
 have h1:zbM B gx cx gy cy xs ys w w1 G:=⟨h.xb.grown hg (by simp),h.yb.grown hg (by simp),h.ne,h.xlt,h.ylt,h.xt,h.yt,h.g,h.xn,h.yn,below_grown hg h.bs (by simp),Nat.le_trans h.bs hg.size⟩;exact h1.step h0 hd
theorem zbM.later {B gx cx gy cy:Nat}{xs ys:List Nat}{w:World}{G:Nat}(h:zbM B gx cx gy cy xs ys w w G){g1 g2 n A C:Nat}{zs ts:List Nat}{w':World}(hn:n≤10000)
  (hz:Blks w.heap.size w' (.slice (some ⟨g1,0,none⟩) zs.length n) zs) (ht:Blks w.heap.size w' (.slice (some ⟨g2,0,none⟩) ts.length n) ts) (hne:g1≠g2) (z1:∀ z∈zs,z<1000000000) (t1:∀ z∈ts,z<1000000000)
  (z2:vl 1000000000 zs=A) (t2:vl 1000000000 ts=C) (z3:zbK zs) (t3:zbK ts) (z4:zs.length≤n) (t4:ts.length≤n) (hG:Nat.gcd A C=Nat.gcd (vl 1000000000 xs) (vl 1000000000 ys)) (hg:w.grownBy w' none) :
  zbM B g1 n g2 n zs ts w w' G :=
 ⟨hz.base h.bs,ht.base h.bs,hne,z1,t1,z3,t3,by rw[z2,t2,hG];exact h.g,by omega,by omega,below_grown hg h.bs (by simp),Nat.le_trans h.bs hg.size⟩
theorem zua (B gx cx gy cy G:Nat)(xs ys:List Nat)(w:World)(h:zbM B gx cx gy cy xs ys w w G)(h0:ys≠[])(hl:xs.length<ys.length) :
  Calls Tryz.prog 274 #[.slice (some ⟨gx,0,none⟩) xs.length cx,.slice (some ⟨gy,0,none⟩) ys.length cy] w (zjO B G ys w):=by
 have hd:=fun(w1:World) (hg:w.grownBy w1 none)=>ziG B gx cx gy cy xs ys w1 (h.xb.grown hg (by simp)) (h.yb.grown hg (by simp)) h.ne h.xlt h.ylt h.xt h.yt h0 h.xn (Nat.le_trans h.bs hg.size);have t1:decide (ys.length≤xs.length)=false:=by simp;omega
 have t1':decide ((ys.length:Int)≤(xs.length:Int))=false:=by simp;omega
 have H:=zHd (zAI h h0);have HD:=zHd hd;clear h hd h0 hl;go_enter Tryz.func274,Tryz.ntmps274;go_wp2_with fail;refine(HD.out _ (zGA _ _ none)).mono ?_;rintro e w' ⟨qv,qs,gr,cr,rs,rfl,hok⟩;obtain⟨h1,h2⟩:=zpJ H.out.1 H.out.2 (zGA _ _ none) hok;have HP:=zHd (zAI h1 h2);clear hok h1 h2;go_wp2
 go_ret2
 exact⟨gy,cy,ys,gr,cr,rs,rfl,HP.out.1,HP.out.2⟩
theorem zyJ {w w1:World}(h:(w.alloc (.cells #[.int .u64 0,.int .u64 0,.int .u64 0,.int .u64 0,.bool false] 241)).grownBy w1 none):w1.heap[w.heap.size]? = some (.cells #[.int .u64 0,.int .u64 0,.int .u64 0,.int .u64 0,.bool false] 241 (0,0)):=by
 rw[h.block w.heap.size (by simp) (by simp)];show(w.heap.push _)[w.heap.size]? = _;rw[Array.getElem?_push_size]
theorem zyK {w1:World}{g a b c d:Nat}{sw:Bool}(h:w1.heap[g]? = some (.cells #[.int .u64 0,.int .u64 0,.int .u64 0,.int .u64 0,.bool false] 241 (0,0))) :
  zbe (((((w1.setCell ⟨g,0,none⟩ (.int .u64 (a:Int))).setCell ⟨g,1,none⟩ (.int .u64 (b:Int))).setCell ⟨g,2,none⟩ (.int .u64 (c:Int))).setCell ⟨g,3,none⟩ (.int .u64 (d:Int))).setCell ⟨g,4,none⟩ (.bool sw)) g a b c d sw:=by
 have h0:zbe w1 g 0 0 0 0 false:=h;exact((((h0.set0 a).set1 b).set2 c).set3 d).set4 sw
structure zrl (w w':World)(R n g:Nat)(zs:List Nat):Prop where
 b:Blks w.heap.size w' (.slice (some ⟨g,0,none⟩) zs.length n) zs
 lt:∀ z∈zs,z<1000000000
 v:vl 1000000000 zs=R
 t:zbK zs
 n:zs.length≤n
 gr:w.grownBy w' none
structure Ask (w:World)(n:Nat)(v1:Value)(f:Int)(v2:Value)(g:Int)(R:Nat):Prop where
 use:∀ w',w.grownBy w' none→Calls Tryz.prog 288 #[v1,.int .u64 f,v2,.int .u64 g] w' fun e w''=>∃ gb zs,e = .returned (.slice (some ⟨gb,0,none⟩) zs.length n)∧zrl w' w'' R n gb zs
theorem zmR {w:World}{f g n R:Nat}{A1 A2:Option Addr}{c1 c2:Nat}{xs ys:List Nat}(hsx:∀ w1,w.grownBy w1 none→Sees w1 (.slice A1 xs.length c1) xs)(hsy:∀ w1,w.grownBy w1 none→Sees w1 (.slice A2 ys.length c2) ys)
  (hf:f≤1000000000) (hg:g≤1000000000) (hx:∀ x∈xs,x<1000000000) (hy:∀ y∈ys,y<1000000000) (hm:max xs.length ys.length=n) (hn:n≤10000)
  (hR:R+g * vl 1000000000 ys=f * vl 1000000000 xs) (hlt:R<1000000000 ^ n):Ask w n (.slice A1 xs.length c1) f (.slice A2 ys.length c2) g R:=⟨fun w' hw=>by
 refine(zos f g n R A1 A2 c1 c2 xs ys w' (fun w1 h=>hsx w1 (zaa hw h)) (fun w1 h=>hsy w1 (zaa hw h)) hf hg hx hy hm hn hR hlt).mono ?_;rintro e w'' ⟨gb,zs,rfl,h1,h2,h3,h4,h5,h6⟩;exact⟨gb,zs,rfl,h1,h2,h3,h4,h5,h6⟩⟩
theorem zlc {w w':World}{n:Nat}{v1 v2:Value}{f g:Int}{R:Nat}{Q:Ending→World→Prop}(h:Ask w n v1 f v2 g R)(hw:w.grownBy w' none)(hq:∀ gb zs w'',zrl w' w'' R n gb zs→Q (.returned (.slice (some ⟨gb,0,none⟩) zs.length n)) w'') :
  Calls Tryz.prog 288 #[v1,.int .u64 f,v2,.int .u64 g] w' Q:=(h.use w' hw).mono (by rintro e w'' ⟨gb,zs,rfl,h⟩;exact hq gb zs w'' h)
theorem zpK {B gx cx gy cy G n A C ga gc:Nat}{xs ys zs ts:List Nat}{w w2 w3 w4:World}(h:zbM B gx cx gy cy xs ys w w G)(hn:n≤10000)(hw:w.grownBy w2 none)(hG:Nat.gcd A C=Nat.gcd (vl 1000000000 xs) (vl 1000000000 ys))
  (h1:zrl w2 w3 A n ga zs) (h2:zrl w3 w4 C n gc ts):zbM B ga n gc n zs ts w w4 G:=by
 have l1:=(h1.b.lt ga rfl).2;have l2:=(h2.b.lt gc rfl).1;exact h.later hn ((h1.b.grown h2.gr (by simp)).base hw.size) (h2.b.base (Nat.le_trans hw.size h1.gr.size)) (by omega) h1.lt h2.lt h1.v h2.v h1.t h2.t h1.n h2.n hG (zaa (zaa hw h1.gr) h2.gr)
theorem zws (B gx cx gy cy G:Nat)(xs ys:List Nat)(w:World)(h:zbM B gx cx gy cy xs ys w w G)(h0:ys≠[])(hl:ys.length≤xs.length)(h2:2<xs.length) :
  Calls Tryz.prog 274 #[.slice (some ⟨gx,0,none⟩) xs.length cx,.slice (some ⟨gy,0,none⟩) ys.length cy] w (zjO B G ys w):=by
 have hsx:∀ w1,w.grownBy w1 none→Sees w1 (.slice (some ⟨gx,0,none⟩) xs.length cx) xs:=fun w1 hg=>(h.xb.grown hg (by simp)).sees;have hsy:∀ w1,w.grownBy w1 none→Sees w1 (.slice (some ⟨gy,0,none⟩) ys.length cy) ys:=fun w1 hg=>(h.yb.grown hg (by simp)).sees;have ht1:=fun w1 hg=>zlb w1 _ xs (xs.length:Int) (hsx w1 hg) h.xlt h.xn (by omega) (by have:=h.xn;omega);have ht2:=fun w1 hg=>zlb w1 _ ys (xs.length:Int) (hsy w1 hg) h.ylt h.yn (by omega) (by have:=h.xn;omega);have hfo:=fun w1=>ztZ (topN xs xs.length) (topN ys xs.length) w1 (zla h.xlt _) (zla h.ylt _);have hq1:=zlX (n:=xs.length) (by omega) h.xlt (Nat.le_refl _);have hq2:=zlX (n:=xs.length) (by omega) h.ylt hl;generalize topN xs xs.length=hx at *;generalize topN ys xs.length=hy at *;have t1:decide (ys.length≤xs.length)=true:=by simp;omega
 have t1':decide ((ys.length:Int)≤(xs.length:Int))=true:=by simp;omega
 have H:=zHd (zAI h h0);have HT1:=zHd ht1;have HT2:=zHd ht2;have HFO:=zHd hfo;have HQ:=zHd (zAI hq1 hq2);have HL:=zHd (zAI hl h2);have HSX:=zHd hsx;have HSY:=zHd hsy;have HDV:=zHd (fun(w1:World) (hg:w.grownBy w1 none)=>ziG B gx cx gy cy xs ys w1 (h.xb.grown hg (by simp)) (h.yb.grown hg (by simp)) h.ne h.xlt h.ylt h.xt h.yt h0 h.xn (Nat.le_trans h.bs hg.size));clear h h0 ht1 ht2 hfo hq1 hq2 hl h2 hsx hsy;go_enter Tryz.func274,Tryz.ntmps274;go_wp2_with fail;refine(HT1.out _ (zGA _ _ none)).mono ?_;rintro e w' ⟨rfl,rfl⟩;go_wp2_with fail;refine(HT2.out _ (zGA _ _ none)).mono ?_;rintro e w' ⟨rfl,rfl⟩;go_wp2_with fail;refine(HFO.out _).mono ?_;rintro e w1 ⟨x,y,a,b,c,d,ee,f,sw,rfl,hf,hg⟩;have hnew:=zyJ hg;have h00:zbe w1 w.heap.size 0 0 0 0 false:=hnew;obtain⟨k0,k1,k2,k3,k4,z0,z1,z2,z3,z4⟩:=h00.cells;have HG:=zHd (zaa (zGA _ _ none) hg);have HF:=zHd hf;have HW:=zHd hnew;clear hg hf h00 hnew;unfold stV
 by_cases hc:c=0
 ·have t2:decide (c=0)=true:=by simpa using hc
  have t2':((c:Int) == 0)=true:=by simpa using hc
  go_wp2_with fail;refine(HDV.out _ (zdd HG.out (zag w1 none))).mono ?_;rintro e w' ⟨qv,qs,gr,cr,rs,rfl,hok⟩;obtain⟨h1,h2⟩:=zpJ H.out.1 H.out.2 (zdd HG.out (zag w1 none)) hok;have HP:=zHd (zAI h1 h2);clear hok h1 h2;go_wp2
  go_ret2
  exact⟨gy,cy,ys,gr,cr,rs,rfl,HP.out.1,HP.out.2⟩
 ·have t2:decide (c=0)=false:=by simpa using hc
  have t2':((c:Int) == 0)=false:=by simpa using hc
  obtain⟨A,C,hlat⟩:=HF.out.out hc (P:=1000000000 ^ (xs.length - 2)) (Nat.pow_pos (by decide)) HQ.out.1 HQ.out.2;have hY:=zbm 1000000000 ys H.out.1.ylt;have hYX:(1000000000:Nat) ^ ys.length≤1000000000 ^ xs.length:=Nat.pow_le_pow_right (by decide) HL.out.1;have hal:=HF.out.al;have hbl:=HF.out.bl;have hcl:=HF.out.cl;have hdl:=HF.out.dl;have hmax:max xs.length ys.length=xs.length:=Nat.max_eq_left HL.out.1;have hmax2:max ys.length xs.length=xs.length:=Nat.max_eq_right HL.out.1;have hst:=zyK (a:=a) (b:=b) (c:=c) (d:=d) (sw:=sw) HW.out;have hw2:=zdd (u0 := .int .u64 (a:Int)) (u1 := .int .u64 (b:Int)) (u2 := .int .u64 (c:Int)) (u3 := .int .u64 (d:Int)) (u4 := .bool sw) HG.out (zag w1 none);have hle:vl 1000000000 ys<1000000000 ^ xs.length:=by omega
  have HLT:=zHd (zAI hlat (zAI hle (zAI hmax hmax2)));have HB:=zHd (zAI hal (zAI hbl (zAI hcl hdl)));have HST:=zHd hst;have HW2:=zHd hw2;clear hlat hY hYX hal hbl hcl hdl hmax hmax2 hst hw2 hle;cases sw
  ·have hA1:Ask w xs.length (.slice (some ⟨gx,0,none⟩) xs.length cx) a (.slice (some ⟨gy,0,none⟩) ys.length cy) c A:=zmR HSX.out HSY.out (by have:=HB.out;omega) (by have:=HB.out;omega) H.out.1.xlt H.out.1.ylt HLT.out.2.2.1 H.out.1.xn (HLT.out.1.t2 rfl).1 (by have:=HLT.out.1.le;have:=HLT.out.2.1;omega)
   have hA2:Ask w xs.length (.slice (some ⟨gy,0,none⟩) ys.length cy) d (.slice (some ⟨gx,0,none⟩) xs.length cx) b C:=zmR HSY.out HSX.out (by have:=HB.out;omega) (by have:=HB.out;omega) H.out.1.ylt H.out.1.xlt HLT.out.2.2.2 H.out.1.xn (HLT.out.1.t2 rfl).2 (by have:=HLT.out.1.le;have:=HLT.out.1.lt;have:=HLT.out.2.1;omega);go_wp2;have hst:=HST.out;have hw2:=HW2.out;have HST2:=zHd hst;generalize (((((w1.setCell ⟨w.heap.size,0,none⟩ (.int .u64 (a:Int))).setCell ⟨w.heap.size,1,none⟩ (.int .u64 (b:Int))).setCell ⟨w.heap.size,2,none⟩ (.int .u64 (c:Int))).setCell ⟨w.heap.size,3,none⟩ (.int .u64 (d:Int))).setCell ⟨w.heap.size,4,none⟩ (.bool false))=w2 at *;clear hst hw2 k0 k1 k2 k3 k4;have hw2d:w.grownBy w2.drew none:=zaa HW2.out (zae _ _);have hsd:zbe w2.drew w.heap.size a b c d false:=HST2.out;obtain⟨k0,k1,k2,k3,_⟩:=hsd.cells;have HWD:=zHd hw2d;clear hsd
   go_region_held3 (fun W'=>W'.cell? ⟨w.heap.size,0,none⟩=some (.int .u64 (a:Int))∧W'.cell? ⟨w.heap.size,1,none⟩=some (.int .u64 (b:Int))∧W'.cell? ⟨w.heap.size,2,none⟩=some (.int .u64 (c:Int))∧W'.cell? ⟨w.heap.size,3,none⟩=some (.int .u64 (d:Int))) (go_keep)
    (first
     | (go_at_call 288;refine zlc hA1 hw2d ?_;clear hA1;intro ga zs w3 hd1;have hw3:=zaa HWD.out hd1.gr;have s0:=hd1.gr.cell k0 (by simp);have s1:=hd1.gr.cell k1 (by simp);have s2:=hd1.gr.cell k2 (by simp);have s3:=hd1.gr.cell k3 (by simp))
     | (go_at_call 288;refine zlc hA2 hw3 ?_;clear hA2;intro gc ts w4 hd2;have t0:=hd2.gr.cell s0 (by simp);have t1:=hd2.gr.cell s1 (by simp);have t2:=hd2.gr.cell s2 (by simp);have t3:=hd2.gr.cell s3 (by simp)))
   all_goals
    go_wp2
    go_ret2
    refine⟨ga,xs.length,zs,gc,xs.length,ts,rfl,zpK H.out.1 H.out.1.xn HWD.out HLT.out.1.g hd1 hd2,?_⟩;have:=HLT.out.1.lt;have:=HLT.out.1.le;rw[hd2.v]
    omega
  ·have hA1:Ask w xs.length (.slice (some ⟨gy,0,none⟩) ys.length cy) c (.slice (some ⟨gx,0,none⟩) xs.length cx) a A:=zmR HSY.out HSX.out (by have:=HB.out;omega) (by have:=HB.out;omega) H.out.1.ylt H.out.1.xlt HLT.out.2.2.2 H.out.1.xn (HLT.out.1.t1 rfl).1 (by have:=HLT.out.1.le;have:=HLT.out.2.1;omega)
   have hA2:Ask w xs.length (.slice (some ⟨gx,0,none⟩) xs.length cx) b (.slice (some ⟨gy,0,none⟩) ys.length cy) d C:=zmR HSX.out HSY.out (by have:=HB.out;omega) (by have:=HB.out;omega) H.out.1.xlt H.out.1.ylt HLT.out.2.2.1 H.out.1.xn (HLT.out.1.t1 rfl).2 (by have:=HLT.out.1.le;have:=HLT.out.1.lt;have:=HLT.out.2.1;omega);go_wp2;have hst:=HST.out;have hw2:=HW2.out;have HST2:=zHd hst;generalize (((((w1.setCell ⟨w.heap.size,0,none⟩ (.int .u64 (a:Int))).setCell ⟨w.heap.size,1,none⟩ (.int .u64 (b:Int))).setCell ⟨w.heap.size,2,none⟩ (.int .u64 (c:Int))).setCell ⟨w.heap.size,3,none⟩ (.int .u64 (d:Int))).setCell ⟨w.heap.size,4,none⟩ (.bool true))=w2 at *;clear hst hw2 k0 k1 k2 k3 k4;have hw2d:w.grownBy w2.drew none:=zaa HW2.out (zae _ _);have hsd:zbe w2.drew w.heap.size a b c d true:=HST2.out;obtain⟨k0,k1,k2,k3,_⟩:=hsd.cells;have HWD:=zHd hw2d;clear hsd
   go_region_held3 (fun W'=>W'.cell? ⟨w.heap.size,0,none⟩=some (.int .u64 (a:Int))∧W'.cell? ⟨w.heap.size,1,none⟩=some (.int .u64 (b:Int))∧W'.cell? ⟨w.heap.size,2,none⟩=some (.int .u64 (c:Int))∧W'.cell? ⟨w.heap.size,3,none⟩=some (.int .u64 (d:Int))) (go_keep)
    (first
     | (go_at_call 288;refine zlc hA1 hw2d ?_;clear hA1;intro ga zs w3 hd1;have hw3:=zaa HWD.out hd1.gr;have s0:=hd1.gr.cell k0 (by simp);have s1:=hd1.gr.cell k1 (by simp);have s2:=hd1.gr.cell k2 (by simp);have s3:=hd1.gr.cell k3 (by simp))
     | (go_at_call 288;refine zlc hA2 hw3 ?_;clear hA2;intro gc ts w4 hd2;have t0:=hd2.gr.cell s0 (by simp);have t1:=hd2.gr.cell s1 (by simp);have t2:=hd2.gr.cell s2 (by simp);have t3:=hd2.gr.cell s3 (by simp)))
   all_goals
    go_wp2
    go_ret2
    refine⟨ga,xs.length,zs,gc,xs.length,ts,rfl,zpK H.out.1 H.out.1.xn HWD.out HLT.out.1.g hd1 hd2,?_⟩;have:=HLT.out.1.lt;have:=HLT.out.1.le;rw[hd2.v]
    omega
theorem zyL (B gx cx gy cy G:Nat)(xs ys:List Nat)(w:World)(h:zbM B gx cx gy cy xs ys w w G)(h0:ys≠[])(h2:2<max xs.length ys.length) :
  Calls Tryz.prog 274 #[.slice (some ⟨gx,0,none⟩) xs.length cx,.slice (some ⟨gy,0,none⟩) ys.length cy] w (zjO B G ys w):=by
 rcases Nat.lt_or_ge xs.length ys.length with hl|hl
 ·exact zua B gx cx gy cy G xs ys w h h0 hl
 ·exact zws B gx cx gy cy G xs ys w h h0 hl (by omega)
theorem ziH {xs:List Nat}(hx:∀ x∈xs,x<1000000000)(hl:xs.length≤2):topN xs 2=vl 1000000000 xs:=by
 have h:=zlX (n:=2) (Nat.le_refl 2) hx hl;rw[Nat.sub_self,Nat.pow_zero,Nat.div_one] at h;exact h.symm
theorem zbM.self {B gx cx gy cy:Nat}{xs ys:List Nat}{w wr:World}{G:Nat}(h:zbM B gx cx gy cy xs ys w wr G):zbM B gx cx gy cy xs ys wr wr G :=
 ⟨h.xb,h.yb,h.ne,h.xlt,h.ylt,h.xt,h.yt,h.g,h.xn,h.yn,Below.refl _ _,h.bs⟩
theorem zGi (a:Nat):vl 1000000000 [a % 1000000000,a / 1000000000]=a:=by
 have:=Nat.div_add_mod a 1000000000;simp only[vl]
 omega
theorem zub (B gx cx gy cy G:Nat)(xs ys:List Nat)(w:World)(h:zbM B gx cx gy cy xs ys w w G) :
  Calls Tryz.prog 256 #[.slice (some ⟨gx,0,none⟩) xs.length cx,.slice (some ⟨gy,0,none⟩) ys.length cy] w (zEX B G w):=by
 have H:=zHd h;clear h;go_enter Tryz.func256,Tryz.ntmps256;go_wp2
 go_loopg [0,1] (vl 1000000000 ys) (fun n x y wr=>∃ gx cx xs gy cy ys,x = .slice (some ⟨gx,0,none⟩) xs.length cx∧y = .slice (some ⟨gy,0,none⟩) ys.length cy∧zbM B gx cx gy cy xs ys w wr G∧vl 1000000000 ys=n)
 case atStart=>exact⟨_,_,_,_,_,_,rfl,rfl,H.out,rfl⟩
 case round =>
  obtain⟨gx,cx,xs,gy,cy,ys,rfl,rfl,hinv,hgk⟩:=hrel
  by_cases h0:ys=[]
  ·subst h0
   have HI:=zHd hinv;clear hinv hgk;have f1:¬ ((0:Int)<((([]:List Nat).length:Nat):Int)):=by simp
   go_wp2;go_ret;have hi:=HI.out;exact⟨gx,cx,xs,rfl,hi.xb,hi.xlt,by rw[← hi.g];simp[vl],hi.xn,hi.bel⟩
  ·have hl:(0:Int)<(ys.length:Int):=by have:=List.length_pos_iff.2 h0;omega
   have hl1:decide (0<ys.length)=true:=by have:=List.length_pos_iff.2 h0;simpa using this
   by_cases h2:2<max xs.length ys.length
   ·have e2:(2:Int)<max (xs.length:Int) (ys.length:Int):=by omega
    have e2':decide ((2:Int)<max (xs.length:Int) (ys.length:Int))=true:=by simpa using e2
    have hd:=zyL B gx cx gy cy G xs ys wr hinv.self h0 h2;have HI:=zHd hinv;have HD:=zHd hd;have H0:=zHd h0;have HGK:=zHd hgk;have H2:=zHd h2;clear hinv hd h0 hgk h2;go_wp2_with fail;refine HD.out.mono ?_;rintro e w' ⟨gx2,cx2,xs2,gy2,cy2,ys2,rfl,hok,hlt⟩;have HS:=zHd hok;have HL:=zHd hlt;clear hok hlt;go_wp2
    go_roundg (vl 1000000000 ys2)
    case measure=>rw[← HGK.out];exact HL.out
    case rel=>exact⟨_,_,_,_,_,_,rfl,rfl,⟨HS.out.xb,HS.out.yb,HS.out.ne,HS.out.xlt,HS.out.ylt,HS.out.xt,HS.out.yt,HS.out.g,HS.out.xn,HS.out.yn,HI.out.bel.trans HS.out.bel,HS.out.bs⟩,rfl⟩
   ·have e2:¬ (2:Int)<max (xs.length:Int) (ys.length:Int):=by omega
    have e2':decide ((2:Int)<max (xs.length:Int) (ys.length:Int))=false:=by simpa using e2
    have hne:¬ (ys.length:Int)=0:=by omega
    have hne2:((ys.length:Int) == 0)=false:=by simpa using hne
    have ht1:=zlb wr _ xs 2 hinv.xb.sees hinv.xlt hinv.xn (by omega) (by omega);have ht2:=zlb wr _ ys 2 hinv.yb.sees hinv.ylt hinv.yn (by omega) (by omega);rw[ziH hinv.xlt (by omega)] at ht1;rw[ziH hinv.ylt (by omega)] at ht2;have l1:=zla hinv.xlt 2;have l2:=zla hinv.ylt 2;rw[ziH hinv.xlt (by omega)] at l1;rw[ziH hinv.ylt (by omega)] at l2;have hg:=hinv.g;generalize vl 1000000000 xs=a0 at *;generalize vl 1000000000 ys=b0 at *;have HI:=zHd hinv;have HT1:=zHd ht1;have HT2:=zHd ht2;have HG:=zHd (zAI hg (zAI l1 l2));clear hinv ht1 ht2 hg l1 l2 h2 h0 hgk;go_wp2_with fail;refine HT1.out.mono ?_;rintro e w' ⟨rfl,rfl⟩;go_wp2_with fail;refine HT2.out.mono ?_;rintro e w' ⟨rfl,rfl⟩;go_wp2;generalize hw1:wr=w1 at *;clear hw1
    go_loopw [5,6] (fun av bv wr=>∃ a b:Nat,av = .int .u64 (a:Int)∧bv = .int .u64 (b:Int)∧Nat.gcd a b=G∧a<1000000000000000000∧b<1000000000000000000∧w1.grownBy wr none) (fun _ bv _=>(intOf bv).toNat)
    case atStart=>exact⟨a0,b0,rfl,rfl,HG.out.1,HG.out.2.1,HG.out.2.2,zag _ _⟩
    case round =>
     obtain⟨a,b,rfl,rfl,hab,ha,hb,hgr⟩:=hrel
     by_cases hb0:b=0
     ·subst hb0
      have ea:a=G:=by rw[← hab];simp
      subst ea;obtain⟨p,hp⟩:∃ p,a % 1000000000=p:=⟨_,rfl⟩;obtain⟨q,hq⟩:∃ q,a / 1000000000=q:=⟨_,rfl⟩;have m1:(a:Int) % 1000000000=(p:Int):=by omega
      have m2:(a:Int) / 1000000000=(q:Int):=by omega
      have m3:IntKind.u64.wrap (p:Int)=(p:Int):=by rw[IntKind.wrap_u64];omega
      have m4:IntKind.u64.wrap (q:Int)=(q:Int):=by rw[IntKind.wrap_u64];omega
      have hv:=zGi a;rw[hp,hq] at hv;have HR:=zHd (zAI hgr (zAI hv (zAI ha (zAI hp hq))));have htr:=fun(W:World) (hW:zav W wr.heap.size (uv [p,q]))=>ziC wr.heap.size wr.heap.size 2 [p,q] W (Blks.of_cells hW (Nat.le_refl _) rfl (by unfold maxLen;omega) (by rw[List.take_of_length_le (by rw[zas];exact Nat.le_refl _)]) (Nat.le_refl _)) (by simp);have HT:=zHd htr;clear hab ha hb hgr hv hp hq htr;go_wp2_with fail;refine(HT.out _ ?cells).mono ?_
      case cells =>
       show(wr.heap.push _)[wr.heap.size]? = _;rw[Array.getElem?_push_size]
       rfl
      rintro e w' ⟨m,hm,rfl,rfl,hv2,ht⟩;have HP:=zHd (zAI hm (zAI hv2 ht));clear hm hv2 ht;go_wp2;go_ret;obtain⟨hm,hv2,ht⟩:=HP.out;obtain⟨hgr,hv,ha,hp,hq⟩:=HR.out;have hm2:m≤2:=hm;have hl2:([p,q].take m).length=m:=by rw[List.length_take];simp;omega
      refine⟨wr.heap.size,2,[p,q].take m,by rw[hl2];rfl,?_,fun z hz => ?_,by rw[hv2];exact hv,by omega,?_⟩
      ·have hbs:=HI.out.bs
       refine Blks.of_cells (l:=uv [p,q]) ?_ (Nat.le_trans hbs hgr.size) rfl (by unfold maxLen;omega) (by rw[zkX,hl2]) (by omega);show(wr.heap.push _)[wr.heap.size]? = _;rw[Array.getElem?_push_size]
       rfl
      ·have:=List.mem_of_mem_take hz
       simp at this
       omega
      ·exact HI.out.bel.trans (below_grown (zaa hgr (zGA _ _ none)) HI.out.bs (by simp))
     ·have hb1:¬ (b:Int)=0:=by omega
      have hb2:decide (0<b)=true:=by simp;omega
      have hb3:decide ((0:Int)<(b:Int))=true:=by simp;omega
      have hmod:a % b<b:=Nat.mod_lt _ (by omega);have hstep:Nat.gcd b (a % b)=G:=by rw[← hab,Nat.gcd_comm a b,Nat.gcd_rec b a,Nat.gcd_comm]
      obtain⟨r,hr⟩:∃ r,a % b=r:=⟨_,rfl⟩;rw[hr] at hmod hstep;have e1:(a:Int) % (b:Int)=(r:Int):=by rw[← Int.natCast_emod,hr]
      have HR:=zHd (zAI hgr (zAI hmod (zAI hstep hb)));clear hab ha hb hb0 hmod hstep hgr hr;go_wp2
      go_quiet (fail)
      go_wp2;obtain⟨hgr,hmod,hstep,hb⟩:=HR.out;exact⟨⟨b,r,rfl,by rw[e1],hstep,hb,by omega,zaa hgr (zbv _ _ _)⟩,by rw[e1];simpa [intOf] using hmod⟩
open Go.RowKit
open Go.Lib (nDigits)
theorem zvh (a b:ByteArray)(w:World)(ha:a.size≤maxLen)(hb:b.size≤maxLen) :
  Calls Tryz.prog 231 #[.string a,.string b] w (zab (divV a b) w):=by
 have va:=fun w=>zbL a w ha;have vb:=fun w=>zbL b w hb;unfold maxLen at ha hb;cases hna:numB a
 ·have HV:=zHd (show divV a b = .tuple #[.string ⟨#[]⟩,.string ⟨#[]⟩,.int .i64 1] by unfold divV;rw[hna];rfl)
  simp only[hna] at va;clear vb hna;go_enter Tryz.func231,Tryz.ntmps231;go_wp2_with (go_at_call 225;refine(va _).mono ?_;rintro e w' ⟨rfl,rfl⟩)
  go_ret3
  exact⟨by rw[HV.out];rfl,zag _ _⟩
 cases hnb:numB b
 ·have HV:=zHd (show divV a b = .tuple #[.string ⟨#[]⟩,.string ⟨#[]⟩,.int .i64 1] by unfold divV;rw[hnb,Bool.and_false];rfl)
  simp only[hna] at va;simp only[hnb] at vb;clear hna hnb;go_enter Tryz.func231,Tryz.ntmps231;go_wp2_with fail;refine(va _).mono ?_;rintro e w' ⟨rfl,rfl⟩;go_wp2_with fail;refine(vb _).mono ?_;rintro e w' ⟨rfl,rfl⟩;go_wp2
  go_ret3
  exact⟨by rw[HV.out];rfl,zag _ _⟩
 have hzs:=zrH b hnb
 by_cases hz:nv b=0
 ·have HV:=zHd (show divV a b = .tuple #[.string ⟨#[]⟩,.string ⟨#[]⟩,.int .i64 4] by unfold divV;rw[hna,hnb];simp only[Bool.and_self,if_true];rw[if_pos hz])
  have f1:(b.toList == [48])=true:=by rw[hzs];simp[hz]
  simp only[hna] at va;simp only[hnb] at vb;clear hna hnb hz hzs;go_enter Tryz.func231,Tryz.ntmps231;go_wp2_with fail;refine(va _).mono ?_;rintro e w' ⟨rfl,rfl⟩;go_wp2_with fail;refine(vb _).mono ?_;rintro e w' ⟨rfl,rfl⟩;go_wp2
  go_ret3
  exact⟨by rw[HV.out];rfl,zag _ _⟩
 have HV:=zHd (show divV a b = .tuple #[.string (decS (nv a / nv b)),.string (decS (nv a % nv b)),.int .i64 0] by unfold divV;rw[hna,hnb];simp only[Bool.and_self,if_true];rw[if_neg hz]);have f1:(b.toList == [48])=false:=by rw[hzs];simp[hz]
 have HZ:=zHd hz;clear hz hzs;have ra:=fun w=>zcV a w hna;have rb:=fun w=>zcV b w hnb;simp only[hna] at va;simp only[hnb] at vb;clear hna hnb;go_enter Tryz.func231,Tryz.ntmps231;go_wp2_with fail;refine(va _).mono ?_;rintro e w' ⟨rfl,rfl⟩;go_wp2_with fail;refine(vb _).mono ?_;rintro e w' ⟨rfl,rfl⟩;go_wp2_with fail;refine(ra _).mono ?_;rintro e w1 ⟨gx,cx,xs,rfl,hbx,hgx,hxl,hxv,hxt,hxn,hg1⟩;have HBX:=zHd hbx;have HXL:=zHd hxl;have HXV:=zHd hxv;have HG1:=zHd hg1;have HXT:=zHd hxt;clear hbx hxl hxv hxt hg1 ra va vb;go_wp2_with fail;refine(rb _).mono ?_;rintro e w2 ⟨gy,cy,ys,rfl,hby,hgy,hyl,hyv,hyt,hyn,hg2⟩;have hne:gx≠gy:=by have:=(HBX.out.lt gx rfl).2;omega
 have hy0:ys≠[]:=by
  intro e;have:=(zlC hyt).1 e;rw[hyv] at this;exact HZ.out this
 have hsz:=hg2.size;have hsz1:=HG1.out.size;have hd:=ziG w.heap.size gx cx gy cy xs ys w2 (HBX.out.grown hg2 (by simp)) (hby.base (by omega)) hne HXL.out hyl HXT.out hyt hy0 (by omega) (by omega);have HD:=zHd hd;have HG2:=zHd hg2;have HYV:=zHd hyv;clear hby hyl hyv hyt hg2 hd rb hy0;go_wp2_with fail;refine HD.out.mono ?_;rintro e w3 ⟨qv,qs,gr,cr,rs,rfl,hok⟩;have hw1:=zfZ qv qs w3 hok.qb hok.qlt (by have:=hok.qn;omega);have hrb:=hok.rb;have hrl:=hok.rlt;have hrn:=hok.rn;have e1:=hok.qv;have e2:=hok.rv;have hg3:=hok.gr;rw[HXV.out,HYV.out] at e1 e2;rw[e1] at hw1;have hw2:=fun(w':World) (h:w3.grownBy w' none)=>zfZ _ rs w' ((hrb.base (Nat.zero_le _)).grown h (by simp)) hrl (by omega);rw[e2] at hw2;have HW1:=zHd hw1;have HW2:=zHd hw2;have HG3:=zHd hg3;clear hok hw1 hw2 hrb hrl e1 e2 hg3 HD;go_wp2_with fail;refine HW1.out.mono ?_;rintro e w4 ⟨rfl,hg4⟩;have HG4:=zHd hg4;clear hg4;go_wp2_with fail;refine(HW2.out _ HG4.out).mono ?_;rintro e w5 ⟨rfl,hg5⟩;have HG5:=zHd hg5;clear hg5;go_wp2
 go_ret3
 exact⟨by rw[HV.out];rfl,zai (g:=gx) (zaa HG1.out (zaC HG2.out)) (zaa HG3.out (zaC (zaa HG4.out (zaC HG5.out)))) hgx⟩
theorem zEY (a b:ByteArray)(w:World)(ha:a.size≤maxLen)(hb:b.size≤maxLen) :
  Calls Tryz.prog 230 #[.string a,.string b] w (zab (gcdV a b) w):=by
 have va:=fun w=>zbL a w ha;have vb:=fun w=>zbL b w hb;unfold maxLen at ha hb;cases hna:numB a
 ·have HV:=zHd (show gcdV a b=badV by unfold gcdV;rw[hna];rfl)
  simp only[hna] at va;clear vb hna;go_enter Tryz.func230,Tryz.ntmps230;go_wp2_with (go_at_call 225;refine(va _).mono ?_;rintro e w' ⟨rfl,rfl⟩)
  go_ret2
  exact⟨by rw[HV.out];rfl,zag _ _⟩
 cases hnb:numB b
 ·have HV:=zHd (show gcdV a b=badV by unfold gcdV;rw[hnb,Bool.and_false];rfl)
  simp only[hna] at va;simp only[hnb] at vb;clear hna hnb;go_enter Tryz.func230,Tryz.ntmps230;go_wp2_with fail;refine(va _).mono ?_;rintro e w' ⟨rfl,rfl⟩;go_wp2_with fail;refine(vb _).mono ?_;rintro e w' ⟨rfl,rfl⟩;go_wp2
  go_ret2
  exact⟨by rw[HV.out];rfl,zag _ _⟩
 have HV:=zHd (show gcdV a b = .tuple #[.string (decS (Nat.gcd (nv a) (nv b))),.int .i64 0] by unfold gcdV;rw[hna,hnb];rfl);have ra:=fun w=>zcV a w hna;have rb:=fun w=>zcV b w hnb;simp only[hna] at va;simp only[hnb] at vb;clear hna hnb;go_enter Tryz.func230,Tryz.ntmps230;go_wp2_with fail;refine(va _).mono ?_;rintro e w' ⟨rfl,rfl⟩;go_wp2_with fail;refine(vb _).mono ?_;rintro e w' ⟨rfl,rfl⟩;go_wp2_with fail;refine(ra _).mono ?_;rintro e w1 ⟨gx,cx,xs,rfl,hbx,hgx,hxl,hxv,hxt,hxn,hg1⟩;have HBX:=zHd hbx;have HXL:=zHd hxl;have HXV:=zHd hxv;have HG1:=zHd hg1;have HXT:=zHd hxt;clear hbx hxl hxv hxt hg1 ra va vb;go_wp2_with fail;refine(rb _).mono ?_;rintro e w2 ⟨gy,cy,ys,rfl,hby,hgy,hyl,hyv,hyt,hyn,hg2⟩;have hne:gx≠gy:=by have:=(HBX.out.lt gx rfl).2;omega
 have hsz:=hg2.size;have hsz1:=HG1.out.size;have hg12:=zaa HG1.out (zaC hg2 (r:=none));have hd:=zub w.heap.size gx cx gy cy (Nat.gcd (nv a) (nv b)) xs ys w2 ⟨HBX.out.grown hg2 (by simp),hby.base (by omega),hne,HXL.out,hyl,HXT.out,hyt,by rw[HXV.out,hyv],by omega,by omega,Below.refl _ _,by omega⟩;have HD:=zHd hd;have HG12:=zHd hg12;clear hby hyl hyv hyt hg2 hd rb hg12;go_wp2_with fail;refine HD.out.mono ?_;rintro e w3 ⟨g,c,zs,rfl,hzb,hzl,hzv,hzn,hbel⟩;have hw1:=zfZ _ zs w3 (hzb.base (Nat.zero_le _)) hzl hzn;rw[hzv] at hw1;have HW1:=zHd hw1;have HB:=zHd hbel;clear hzb hzl hzv hbel hw1 HD;go_wp2_with fail;refine HW1.out.mono ?_;rintro e w4 ⟨rfl,hg4⟩;have HG4:=zHd hg4;clear hg4;go_wp2
 go_ret2
 have hb:=HB.out;have hg3:w.grownBy w3 none:=⟨hb.os.trans HG12.out.os,hb.tape.trans HG12.out.tape,hb.output.trans HG12.out.output,Nat.le_trans HG12.out.size hb.size,fun i hi _=>(hb.block i hi).trans (HG12.out.block i hi (by simp))⟩;exact⟨by rw[HV.out];rfl,zaa hg3 (zaC HG4.out)⟩
open Go.RowKit
open Go.Lib (nDigits)
theorem zrI (a b c:ByteArray)(ha:numB a=true)(hb:numB b=true)(hc:numB c=true)(h:nv c=nv a+nv b):addV a b = .tuple #[.string c,.int .i64 0]:=by
 unfold addV limV;rw[ha,hb,← h];simp only[Bool.and_self,if_true];rw[if_pos (zbG c hc).2,← (zbG c hc).1]
theorem zCd (a b c:ByteArray)(ha:numB a=true)(hb:numB b=true)(hc:numB c=true)(h:nv c=nv a * nv b):mulV a b = .tuple #[.string c,.int .i64 0]:=by
 unfold mulV limV;rw[ha,hb,← h];simp only[Bool.and_self,if_true];rw[if_pos (zbG c hc).2,← (zbG c hc).1]
theorem zCe (a b q r:ByteArray)(ha:numB a=true)(hb:numB b=true)(hq:numB q=true)(hr:numB r=true)(h0:nv b≠0)(h1:nv q=nv a / nv b)(h2:nv r=nv a % nv b):divV a b = .tuple #[.string q,.string r,.int .i64 0]:=by
 unfold divV;rw[ha,hb,← h1,← h2];simp only[Bool.and_self,if_true];rw[if_neg h0,← (zbG q hq).1,← (zbG r hr).1]
theorem zEZ (a b:ByteArray)(ha:numB a=true)(hb:numB b=true)(h:nv a<nv b):subV a b = .tuple #[.string ⟨#[]⟩,.int .i64 4]:=by
 unfold subV;rw[ha,hb];simp only[Bool.and_self,if_true];rw[if_pos h]
open Go.RowKit
open Go.Lib (nDigits)
theorem zyM {m:Nat}(a:ByteArray)(ha:numB a=true)(h:m≤nv a):numB (decS m)=true:=by
 rw[zog];have:=(zbG a ha).2;have:=zbH h;simp
 omega
theorem zdp (b:ByteArray)(h:numB b=true):(b.toList == [48])=decide (nv b=0)∧(b.toList != [48]) = !decide (nv b=0):=by
 have:=zrH b h;exact⟨this,by rw[bne,this]⟩
def zhu (s:ByteArray)(b:Bool):Prop:=∀ w,Calls Tryz.prog 225 #[.string s] w fun e w'=>e = .returned (.bool b)∧w=w'
theorem zEn (s:ByteArray)(hs:s.size≤maxLen):zhu s (numB s):=fun w=>zbL s w hs
theorem zlY:decS 0=⟨#[48]⟩:=by decide +kernel
theorem zvi:decS 1=⟨#[49]⟩:=by decide +kernel
open Go.RowKit
theorem zff (a:Addr)(n:Nat):(a.add n).block=a.block:=by unfold Addr.add;split <;> rfl
def Reads (w:World)(B size:Nat)(A:Option Addr)(n:Nat)(xs:List Value):Prop :=
 xs.length=n * size∧(0<n→∃ ad,A=some ad∧ad.block<B∧∀ j u,xs[j]? = some u→w.cell? (ad.add j)=some u)
section
variable {w w':World} {B B' size n:Nat} {A:Option Addr} {xs:List Value}
theorem Reads.none_:Reads w B size A 0 []:=⟨by simp,fun h=>absurd h (by omega)⟩
theorem Reads.keep (h:Reads w B size A n xs)(hk:∀ p:Addr,p.block<B→w'.cell? p=w.cell? p):Reads w' B size A n xs :=
 ⟨h.1,fun hn=>by
  obtain⟨ad,e,hb,hc⟩:=h.2 hn;exact⟨ad,e,hb,fun j u hu=>(hk _ (by rw[zff];exact hb)).trans (hc j u hu)⟩⟩
theorem Reads.more (h:Reads w B size A n xs)(hB:B≤B'):Reads w B' size A n xs :=
 ⟨h.1,fun hn=>by
  obtain⟨ad,e,hb,hc⟩:=h.2 hn;exact⟨ad,e,by omega,hc⟩⟩
theorem Reads.below (h:Reads w B size A n xs)(hb:Below B w w'):Reads w' B size A n xs:=h.keep fun _ hp=>hb.cell hp
end
end Go.Proofs.YtaogepcaoogpgaaGreatDoor
namespace Go.Proofs
open Go.Shelf Go.RowKit
def Tryz.lays156_ren:Go.Shelf.Ren:=⟨fun|156=>130|165=>162|166=>163|169=>164|240=>202|241=>203|276=>233|277=>234|n=>n,fun|0=>0|3=>3|4=>4|5=>5|9=>9|20=>20|31=>33|37=>149|70=>148|72=>151|75=>154|76=>155|80=>81|127=>177|164=>193|n=>n,fun|n=>n⟩
theorem Tryz.lays156:Go.Proofs.Lays.n156 Tryz.prog Tryz.lays156_ren := {
 mixed:=by kernel_rfl
 f156:=Tryz.func130.trans (congrArg some (by kernel_rfl))
 f165:=Tryz.func162.trans (congrArg some (by kernel_rfl))
 f166:=Tryz.func163.trans (congrArg some (by kernel_rfl))
 f169:=Tryz.func164.trans (congrArg some (by kernel_rfl))
 f240:=Tryz.func202.trans (congrArg some (by kernel_rfl))
 f241:=Tryz.func203.trans (congrArg some (by kernel_rfl))
 f276:=Tryz.func233.trans (congrArg some (by kernel_rfl))
 f277:=Tryz.func234.trans (congrArg some (by kernel_rfl))
 t0:=Tryz.underlying0
 a0:=Tryz.isAgg0
 z0:=Tryz.sizeOf0
 v0:=Tryz.zeroValue0
 t3:=Tryz.underlying3
 a3:=Tryz.isAgg3
 z3:=Tryz.sizeOf3
 v3:=Tryz.zeroValue3
 t4:=Tryz.underlying4
 a4:=Tryz.isAgg4
 z4:=Tryz.sizeOf4
 v4:=Tryz.zeroValue4
 t9:=Tryz.underlying9
 a9:=Tryz.isAgg9
 z9:=Tryz.sizeOf9
 v9:=Tryz.zeroValue9
 t20:=Tryz.underlying20
 a20:=Tryz.isAgg20
 z20:=Tryz.sizeOf20
 v20:=Tryz.zeroValue20
 t31:=Tryz.underlying33
 a31:=Tryz.isAgg33
 z31:=Tryz.sizeOf33
 v31:=Tryz.zeroValue33
 t37:=Tryz.underlying149
 a37:=Tryz.isAgg149
 z37:=Tryz.sizeOf149
 v37:=Tryz.zeroValue149
 t70:=Tryz.underlying148
 a70:=Tryz.isAgg148
 z70:=Tryz.sizeOf148
 v70:=Tryz.zeroValue148
 t72:=Tryz.underlying151
 a72:=Tryz.isAgg151
 z72:=Tryz.sizeOf151
 v72:=Tryz.zeroValue151
 t75:=Tryz.underlying154
 a75:=Tryz.isAgg154
 z75:=Tryz.sizeOf154
 v75:=Tryz.zeroValue154
 t76:=Tryz.underlying155
 a76:=Tryz.isAgg155
 z76:=Tryz.sizeOf155
 v76:=Tryz.zeroValue155
 t127:=Tryz.underlying177
 a127:=Tryz.isAgg177
 z127:=Tryz.sizeOf177
 v127:=Tryz.zeroValue177
 t164:=Tryz.underlying193
 a164:=Tryz.isAgg193
 z164:=Tryz.sizeOf193
 v164:=Tryz.zeroValue193 }
theorem Tryz.Builder_Extra_156:Builder.Extra Tryz.prog Tryz.lays156_ren := {
 sizeBuilder:=by kernel_rfl
 liesBuilder:=by kernel_rfl
 t5:=Tryz.underlying5
 a5:=Tryz.isAgg5
 z5:=Tryz.sizeOf5
 v5:=Tryz.zeroValue5
 infoByte:=by kernel_rfl
 cellsByte:=by kernel_rfl
 sizeByte:=by kernel_rfl
 neB5:=by decide }
theorem Tryz.sh_Join (bk o c:Nat)(xs:List ByteArray)(sep:ByteArray)(w:World)(hcells:∀ (j:Nat) x,xs[j]? = some x→w.cell? ⟨bk,o+j,none⟩=some (.string x))
  (hbk:bk<w.heap.size) (hN:xs.length≤140737488355328) (hcap:xs.length≤c) (hlen:(Lib.join (xs.map (·.data.toList)) sep.data.toList).length≤140737488355328) :
  Calls Tryz.prog 130 #[.slice (some ⟨bk,o,none⟩) xs.length c,.string sep] w fun e w'=>e = .returned (.string ⟨(Lib.join (xs.map (·.data.toList)) sep.data.toList).toArray⟩)∧Below w.heap.size w w':=Any.strings_Join Tryz.lays156 Tryz.Builder_Extra_156 bk o c xs sep w hcells hbk hN hcap hlen
end Go.Proofs
namespace Go.Proofs.YtaogepcaoogpgaaGreatDoor
variable {P:Program} {ops:Array Oper} {Q:Exit→Act→World→Prop} {md:Region.Mode}
def zgt (P:Program)(ops:Array Oper)(Q:Exit→Act→World→Prop)(e:Nat):Exit→Act→World→Prop
 | .normal,a,w=>wpOp P ops Q e (fun a' w'=>Q .normal a' w') a w
 | x,a,w=>Q x a w
theorem zyN {e:Nat}{o:Oper}{a:Act}{K:Act→World→Prop}{r:Result Next}(h:o.upon P a K (zgt P ops Q e) r):o.upon P a K Q r:=by
 cases r with
 | ok n w' =>
  cases n <;> simp only[Oper.upon] at h ⊢
  case enter f args =>
   refine Calls.mono h fun x w'' he => ?_;cases x with
   | returned u=>exact he
   | panicked c=>exact he
   | outgrown=>exact he
  all_goals exact h
 | halt x w' =>
  cases x <;> simp only[Oper.upon] at h ⊢
  case panic u=>exact h
theorem zpL {e i:Nat}{a:Act}{w:World}{K:Act→World→Prop}(h:wpOp P ops (zgt P ops Q e) i K a w):wpOp P ops Q i K a w:=by
 unfold wpOp at *
 split
 ·rename_i ho;simpa [ho] using h
 ·rename_i o ho
  simp only[ho] at h
  split
  ·rename_i hw
   simp only[hw,if_true] at h;rcases h with h|⟨h1,h2⟩
   ·exact .inl (zyN h)
   ·exact .inr ⟨h1,h2⟩
  ·rename_i hw
   simp only[hw] at h;exact h
def zrJ (md:Region.Mode)(ops:Array Oper)(e:Nat):Bool :=
 (List.range ops.size).all (fun i=>((ops[i]?).map (fun o=>o.after.all fun x => !Region.binds md x || decide (x.on<i))).getD false&&(i == e || ((ops[e]?).map (fun o=>o.after.any fun x=>Region.binds md x&&x.on == i)).getD false))&&decide (e<ops.size)
structure zjP (md:Region.Mode)(ops:Array Oper)(e:Nat):Prop where
 he:e<ops.size
 fwd:∀ (i:Nat) (o:Oper),ops[i]? = some o→∀ x∈o.after,Region.binds md x=true→x.on<i
 all:∀ (i:Nat),i<ops.size→i≠e→∃ o,ops[e]? = some o∧∃ x∈o.after,Region.binds md x=true∧x.on=i
theorem zuc {e:Nat}(h:zrJ md ops e=true):zjP md ops e:=by
 unfold zrJ at h;simp only[Bool.and_eq_true,List.all_eq_true,List.mem_range,decide_eq_true_eq] at h;obtain⟨h1,h2⟩:=h;refine⟨h2,fun i o ho x hx hb => ?_,fun i hi hne => ?_⟩
 ·have h3:=(h1 i (Array.getElem?_eq_some_iff.1 ho).1).1
  simp only[ho,Option.map_some,Option.getD_some,Array.all_eq_true_iff_forall_mem] at h3;have h4:=h3 x hx
  simpa [hb] using h4
 ·have h3:=(h1 i hi).2
  cases ho:ops[e]? with
  | none=>simp[ho,hne] at h3
  | some o =>
   simp only[ho,Option.map_some,Option.getD_some,Bool.or_eq_true,beq_iff_eq,hne,false_or] at h3;obtain⟨k,hk,hb⟩:=Array.any_eq_true.1 h3;simp only[Bool.and_eq_true,beq_iff_eq] at hb;exact⟨o,rfl,_,Array.getElem_mem hk,hb.1,hb.2⟩
theorem zjw {listed:Array Bool}{e:Nat}(hok:zjP md ops e)(hl:listed.size=ops.size)(h:∀ i,i≠e→i ∉ Region.ready md ops listed):∀ i,i<ops.size→i≠e→listed.getD i false=true:=by
 intro i
 induction i using Nat.strongRecOn with
 | ind i ih =>
  intro hi hne
  apply Classical.byContradiction
  intro hn
  have hn:listed.getD i true=false:=by
   have hi2:i<listed.size:=by omega
   simp[hi2] at hn ⊢;exact hn
  refine h i hne ?_;rw[mem_ready];refine⟨hn,ops[i],Array.getElem?_eq_getElem hi,fun x hx hb => ?_⟩;have hlt:=hok.fwd i _ (Array.getElem?_eq_getElem hi) x hx hb
  by_cases hxe:x.on=e
  ·obtain⟨oe,hoe,y,hy,hyb,hyi⟩:=hok.all i hi hne
   have:=hok.fwd e oe hoe y hy hyb
   omega
  ·exact ih x.on hlt (by omega) hxe
theorem zmS {listed:Array Bool}{e:Nat}(hok:zjP md ops e)(hl:listed.size=ops.size)(he:listed.getD e true=false)(h:∀ i,i<ops.size→i≠e→listed.getD i false=true):e∈Region.ready md ops listed:=by
 rw[mem_ready];refine⟨he,ops[e]'hok.he,Array.getElem?_eq_getElem hok.he,fun x hx hb => ?_⟩;have hlt:=hok.fwd e _ (Array.getElem?_eq_getElem hok.he) x hx hb;exact h x.on (by have:=hok.he;omega) (by omega)
theorem zwt {listed:Array Bool}{e:Nat}(hok:zjP md ops e)(hl:listed.size=ops.size)(he:e∈Region.ready md ops listed):Region.ready md ops (listed.setIfInBounds e true)=[]:=by
 rw[List.eq_nil_iff_forall_not_mem];intro i hi;rw[mem_ready] at hi he;obtain⟨h1,o,ho,_⟩:=hi;obtain⟨h2,oe,hoe,h3⟩:=he;have hil:i<ops.size:=(Array.getElem?_eq_some_iff.1 ho).1
 by_cases hie:i=e
 ·subst hie
  have:i<listed.size:=by omega
  simp[this] at h1
 ·rw[getD_set_ne true (Ne.symm hie)] at h1
  obtain⟨o2,ho2,x,hx,hb,hxi⟩:=hok.all i hil hie;rw[hoe] at ho2;cases ho2;have h4:=h3 x hx hb;rw[hxi] at h4;have:i<listed.size:=by omega
  simp[this] at h1 h4;rw[h1] at h4;cases h4
theorem zwu {e:Nat}(hok:zjP md ops e):∀ (fuel:Nat) (listed:Array Bool) (a:Act) (w:World),listed.size=ops.size→listed.getD e true=false →
  wpAny P md ops (zgt P ops Q e) fuel (listed.setIfInBounds e true) a w→wpAny P md ops Q (fuel+1) listed a w:=by
 intro fuel
 have fin:∀ (n:Nat) (listed:Array Bool) (a:Act) (w:World),Region.ready md ops (listed.setIfInBounds e true)=[]→zgt P ops Q e .normal a w→wpOp P ops Q e (wpAny P md ops Q n (listed.setIfInBounds e true)) a w:=by
  intro n listed a w hr h;refine wpOp_mono (fun a' w' h' => ?_) h;cases n with
  | zero=>exact⟨hr,h'⟩
  | succ n=>exact⟨fun _=>h',by rw[hr];simp⟩
 induction fuel with
 | zero =>
  intro listed a w hl he h;have hall:=zjw hok hl (fun i hi hr=>by have:=ready_mono hr hi;rw[h.1] at this;cases this);have hre:=zmS hok hl he hall;refine⟨fun h0=>(by rw[h0] at hre;cases hre),fun i hi => ?_⟩
  by_cases hie:i=e
  ·subst hie;exact fin 0 listed a w h.1 h.2
  ·have:=ready_mono hi hie
   rw[h.1] at this;cases this
 | succ fuel ih =>
  intro listed a w hl he h;refine⟨fun h0 => ?_,fun i hi => ?_⟩
  ·have hre:=zmS hok hl he (zjw hok hl (fun i _ hr=>by rw[h0] at hr;cases hr))
   rw[h0] at hre;cases hre
  ·by_cases hie:i=e
   ·subst hie
    have hr:=zwt hok hl hi;exact fin (fuel+1) listed a w hr (h.1 hr)
   ·have h1:=zpL (h.2 i (ready_mono hi hie))
    refine wpOp_mono (fun a' w' h' => ?_) h1;refine ih (listed.setIfInBounds i true) a' w' (by simpa using hl) (by rw[getD_set_ne true hie];exact he) ?_;rw[Array.setIfInBounds_comm _ _ hie];exact h'
theorem zeg {e:Nat}{o:Oper}{a:Act}{w:World}(ho:ops[e]? = some o)
  (h:∀ K':Act→World→Prop,(∀ a w,Q .normal a w→K' a w)→if Region.wanted o (yielded ops a.tmps)=true then Oper.wp P o a w K' Q else K' (a.put o.dst undef) w):zgt P ops Q e .normal a w:=wpOp_step ho h
theorem zde {id e n:Nat}{a:Act}{w:World}(S:World→Prop)(hm:P.follows .mixedOrders=true)(hok:zrJ .any ops e=true)(hn:ops.size=n+1)
  (h:wpAnyH P .any ops (zgt P ops Q e) S n ((Array.replicate ops.size false).setIfInBounds e true) a w.drew):(Code.region id ops true).wp P Q a w:=by
 refine wp_region_any hm ?_;rw[hn];have hs:=zuc hok;have h1:=zwu hs n (Array.replicate ops.size false) a w.drew (by simp) (by have:=hs.he;simp[this]) (wpAny_of_held _ _ _ _ h);rw[hn] at h1;exact h1
variable {P:Program} {ops:Array Oper} {Q:Exit→Act→World→Prop} {md:Region.Mode}
def zot (md:Region.Mode)(ops:Array Oper)(e:Nat):Bool :=
 (List.range ops.size).all (fun i=>((ops[i]?).map (fun o=>o.after.all fun x => !Region.binds md x || decide (x.on<i))).getD false&&(i == e || (List.range ops.size).any (fun j=>((ops[j]?).map (fun o=>o.after.any fun x=>Region.binds md x&&x.on == i)).getD false)))&&decide (e+1=ops.size)
structure zgH (md:Region.Mode)(ops:Array Oper)(e:Nat):Prop where
 he:e+1=ops.size
 fwd:∀ (i:Nat) (o:Oper),ops[i]? = some o→∀ x∈o.after,Region.binds md x=true→x.on<i
 all:∀ (i:Nat),i<ops.size→i≠e→∃ (j:Nat) (o:Oper),ops[j]? = some o∧∃ x∈o.after,Region.binds md x=true∧x.on=i
theorem zrK {e:Nat}(h:zot md ops e=true):zgH md ops e:=by
 unfold zot at h;simp only[Bool.and_eq_true,List.all_eq_true,List.mem_range,decide_eq_true_eq] at h;obtain⟨h1,h2⟩:=h;refine⟨h2,fun i o ho x hx hb => ?_,fun i hi hne => ?_⟩
 ·have h3:=(h1 i (Array.getElem?_eq_some_iff.1 ho).1).1
  simp only[ho,Option.map_some,Option.getD_some,Array.all_eq_true_iff_forall_mem] at h3;have h4:=h3 x hx
  simpa [hb] using h4
 ·have h3:=(h1 i hi).2
  simp only[Bool.or_eq_true,beq_iff_eq,hne,false_or,List.any_eq_true,List.mem_range] at h3;obtain⟨j,hj,h3⟩:=h3;cases ho:ops[j]? with
  | none=>simp[ho] at h3
  | some o =>
   simp only[ho,Option.map_some,Option.getD_some] at h3;obtain⟨k,hk,hb⟩:=Array.any_eq_true.1 h3;simp only[Bool.and_eq_true,beq_iff_eq] at hb;exact⟨j,o,ho,_,Array.getElem_mem hk,hb.1,hb.2⟩
def Closed (md:Region.Mode)(ops:Array Oper)(listed:Array Bool):Prop:=∀ (i:Nat) (o:Oper),ops[i]? = some o→listed.getD i false=true→∀ x∈o.after,Region.binds md x=true→listed.getD x.on false=true
theorem zrL (n:Nat):Closed md ops (Array.replicate n false):=by
 intro i o _ h;rw[Array.getD_eq_getD_getElem?,Array.getElem?_replicate] at h
 split at h <;> simp at h
theorem zjx {l:Array Bool}{i j:Nat}(h:l.getD j false=true):(l.setIfInBounds i true).getD j false=true:=by
 by_cases e:i=j
 ·subst e
  simp at h ⊢;obtain⟨h1,_⟩:=Array.getElem?_eq_some_iff.1 (show l[i]? = some true by cases hx:l[i]? with|none=>simp[hx] at h|some b=>simp[hx] at h;rw[h]);simp[h1]
 ·rw[getD_set_ne false e];exact h
theorem zud {listed:Array Bool}{i:Nat}(hc:Closed md ops listed)(hi:i∈Region.ready md ops listed):Closed md ops (listed.setIfInBounds i true):=by
 intro k o ho hk x hx hb
 by_cases e:i=k
 ·subst e
  rw[mem_ready] at hi;obtain⟨_,o2,ho2,h3⟩:=hi;rw[ho] at ho2;cases ho2;exact zjx (h3 x hx hb)
 ·rw[getD_set_ne false e] at hk
  exact zjx (hc k o ho hk x hx hb)
theorem zyO {listed:Array Bool}{e:Nat}(hok:zgH md ops e)(hc:Closed md ops listed)(he:e∈Region.ready md ops listed):∀ d i,i+d=e→i<e→listed.getD i false=true:=by
 intro d
 induction d using Nat.strongRecOn with
 | ind d ih =>
  intro i hd hi;obtain⟨j,o,ho,x,hx,hb,hxi⟩:=hok.all i (by have:=hok.he;omega) (by omega);have hlt:=hok.fwd j o ho x hx hb;have hjl:j<ops.size:=(Array.getElem?_eq_some_iff.1 ho).1;have hje:j≤e:=by have:=hok.he;omega
  by_cases e2:j=e
  ·subst e2
   rw[mem_ready] at he;obtain⟨_,o2,ho2,h3⟩:=he;rw[ho] at ho2;cases ho2;rw[← hxi];exact h3 x hx hb
  ·have:=ih (e - j) (by omega) j (by omega) (by omega)
   rw[← hxi];exact hc j o ho this x hx hb
theorem zwv {listed:Array Bool}{e:Nat}(hok:zgH md ops e)(hc:Closed md ops listed)(hl:listed.size=ops.size)(he:e∈Region.ready md ops listed):Region.ready md ops (listed.setIfInBounds e true)=[]:=by
 have hall:=zyO hok hc he;rw[List.eq_nil_iff_forall_not_mem];intro i hi;rw[mem_ready] at hi;obtain⟨h1,o,ho,_⟩:=hi;have hil:i<ops.size:=(Array.getElem?_eq_some_iff.1 ho).1
 by_cases hie:i=e
 ·subst hie
  have:i<listed.size:=by omega
  simp[this] at h1
 ·rw[getD_set_ne true (Ne.symm hie)] at h1
  have h4:=hall (e - i) i (by have:=hok.he;omega) (by have:=hok.he;omega);have:i<listed.size:=by omega
  simp[this] at h1 h4;rw[h1] at h4;cases h4
theorem zhv {listed:Array Bool}{e:Nat}(hok:zgH md ops e)(hl:listed.size=ops.size)(h:∀ i,i≠e→i ∉ Region.ready md ops listed):∀ i,i<ops.size→i≠e→listed.getD i false=true:=by
 intro i
 induction i using Nat.strongRecOn with
 | ind i ih =>
  intro hi hne
  apply Classical.byContradiction
  intro hn
  have hn:listed.getD i true=false:=by
   have hi2:i<listed.size:=by omega
   simp[hi2] at hn ⊢;exact hn
  refine h i hne ?_;rw[mem_ready];refine⟨hn,ops[i],Array.getElem?_eq_getElem hi,fun x hx hb => ?_⟩;have hlt:=hok.fwd i _ (Array.getElem?_eq_getElem hi) x hx hb;exact ih x.on hlt (by omega) (by have:=hok.he;omega)
theorem zlD {listed:Array Bool}{e:Nat}(hok:zgH md ops e)(he:listed.getD e true=false)(h:∀ i,i<ops.size→i≠e→listed.getD i false=true):e∈Region.ready md ops listed:=by
 rw[mem_ready];have hel:e<ops.size:=by have:=hok.he;omega
 refine⟨he,ops[e]'hel,Array.getElem?_eq_getElem hel,fun x hx hb => ?_⟩;have hlt:=hok.fwd e _ (Array.getElem?_eq_getElem hel) x hx hb;exact h x.on (by omega) (by omega)
theorem zue {e:Nat}(hok:zgH md ops e):∀ (fuel:Nat) (listed:Array Bool) (a:Act) (w:World),listed.size=ops.size→listed.getD e true=false→Closed md ops listed →
  wpAny P md ops (zgt P ops Q e) fuel (listed.setIfInBounds e true) a w→wpAny P md ops Q (fuel+1) listed a w:=by
 intro fuel
 have fin:∀ (n:Nat) (listed:Array Bool) (a:Act) (w:World),Region.ready md ops (listed.setIfInBounds e true)=[]→zgt P ops Q e .normal a w→wpOp P ops Q e (wpAny P md ops Q n (listed.setIfInBounds e true)) a w:=by
  intro n listed a w hr h;refine wpOp_mono (fun a' w' h' => ?_) h;cases n with
  | zero=>exact⟨hr,h'⟩
  | succ n=>exact⟨fun _=>h',by rw[hr];simp⟩
 induction fuel with
 | zero =>
  intro listed a w hl he hc h;have hall:=zhv hok hl (fun i hi hr=>by have:=ready_mono hr hi;rw[h.1] at this;cases this);have hre:=zlD hok he hall;refine⟨fun h0=>(by rw[h0] at hre;cases hre),fun i hi => ?_⟩
  by_cases hie:i=e
  ·subst hie;exact fin 0 listed a w h.1 h.2
  ·have:=ready_mono hi hie
   rw[h.1] at this;cases this
 | succ fuel ih =>
  intro listed a w hl he hc h;refine⟨fun h0 => ?_,fun i hi => ?_⟩
  ·have hre:=zlD hok he (zhv hok hl (fun i _ hr=>by rw[h0] at hr;cases hr))
   rw[h0] at hre;cases hre
  ·by_cases hie:i=e
   ·subst hie
    have hr:=zwv hok hc hl hi;exact fin (fuel+1) listed a w hr (h.1 hr)
   ·have h1:=zpL (h.2 i (ready_mono hi hie))
    refine wpOp_mono (fun a' w' h' => ?_) h1;refine ih (listed.setIfInBounds i true) a' w' (by simpa using hl) (by rw[getD_set_ne true hie];exact he) (zud hc hi) ?_;rw[Array.setIfInBounds_comm _ _ hie];exact h'
theorem zmT {id e n:Nat}{a:Act}{w:World}(S:World→Prop)(hm:P.follows .mixedOrders=true)(hok:zot .any ops e=true)(hn:ops.size=n+1)
  (h:wpAnyH P .any ops (zgt P ops Q e) S n ((Array.replicate ops.size false).setIfInBounds e true) a w.drew):(Code.region id ops true).wp P Q a w:=by
 refine wp_region_any hm ?_;rw[hn];have hs:=zrK hok;have h1:=zue hs n (Array.replicate ops.size false) a w.drew (by simp) (by have:=hs.he;simp[this,show e<ops.size by omega]) (zrL _) (wpAny_of_held _ _ _ _ h);rw[hn] at h1;exact h1
end Go.Proofs.YtaogepcaoogpgaaGreatDoor
