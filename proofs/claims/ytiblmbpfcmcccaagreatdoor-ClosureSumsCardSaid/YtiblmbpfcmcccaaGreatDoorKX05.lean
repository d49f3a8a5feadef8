/- Part. -/
import Derived.Test.YtiblmbpfcmcccaaGreatDoorKX04
set_option linter.unusedVariables false
set_option linter.defProp false
set_option linter.unusedSimpArgs false
set_option maxRecDepth 100000
set_option maxHeartbeats 16000000
namespace Go.Proofs.YtiblmbpfcmcccaaGreatDoor
open Go.Proofs.Tryz
open Go.RowKit
open Go.Lib (nDigits decDigits)
def zdc (w:World)(g:Nat)(l:List Value):Prop:=w.heap[g]?=some (.cells l.toArray 3 (0,0))
def zdc.cell {w:World}{g:Nat}{l:List Value}(h:zdc w g l)(k:Nat):w.cell? ⟨g,k,none⟩=l[k]?:=by
 rw[zhF h];simp
def zdc.free {w:World}{g:Nat}{l:List Value}(h:zdc w g l)(k:Nat):w.frozen? ⟨g,k,none⟩=false:=zqbx w g k _ _ h
def zdc.set {w:World}{g:Nat}{l:List Value}(h:zdc w g l)(k:Nat)(u:Value):zdc (w.setCell ⟨g,k,none⟩ u) g (l.set k u):=by
 unfold zdc;exact zQbW
def zdc.lt {w:World}{g:Nat}{l:List Value}(h:zdc w g l):g<w.heap.size:=lt_of_block h
def zdc.of_full {w:World}{B g n:Nat}{l:List Value}(h:w.ownsRow B 3 1 (.slice (some ⟨g,0,none⟩) n n) n l):zdc w g l:=by
 rcases h.2 with⟨h',_⟩|⟨g',cap',cur,h',hb,hg,_,_,hs,ht⟩;simp at h';simp only[Value.slice.injEq,Option.some.injEq,Addr.mk.injEq,and_true,true_and] at h';obtain⟨rfl,rfl⟩:=h';rw[zqaf (by rw[zqbs,hs];exact zqab _)] at ht;subst ht;unfold zdc;rw[hg]
def zvB (n:Nat):(madeCells #[Value.int .i64 0] n).toList=iv (List.replicate n 0):=by
 rw[toList_madeCells_one];simp[iv]
def zDo (zs:List Nat)(k:Nat)(h:k<zs.length):(iv zs)[k]?=some (.int .i64 (zs.getD k 0:Nat)):=by
 simp[iv,zqaa,zqac h]
def zLq (zs:List Nat)(i n:Nat):(iv zs).set i (.int .i64 (n:Int))=iv (zs.set i n):=by simp[iv,List.map_set]
def zdc.digs {w:World}{g:Nat}{zs:List Nat}(h:zdc w g (iv zs))(h0:zs≠[]):zjp w (.slice (some ⟨g,0,none⟩) zs.length zs.length) zs :=
 .inr ⟨g,_,rfl,h0,h.lt,fun k hk=>by rw[h.cell,zDo zs k hk]⟩
def zDp:∀ (zs:List Nat) (k v:Nat),k<zs.length->vl 10 (zs.set k v)+10 ^ k*zs.getD k 0=vl 10 zs+10 ^ k*v
 | [],k,v,h=>by simp at h
 | z::zs,0,v,h=>by simp[vl];omega
 | z::zs,k+1,v,h=>by
  have ih:=zDp zs k v (by simpa using h);simp only[List.set_cons_succ,vl,List.getD_cons_succ,zqbp];rw[zqbc (10 ^ k) 10,zqav,zqav];omega
structure zjr (xs ys:List Nat)(i:Nat)(zs:List Nat):Prop where
 len:zs.length=xs.length+ys.length+1
 lt:∀ d∈zs,d<10
 val:vl 10 zs=vl 10 (xs.take i)*vl 10 ys
structure zib (z0:Nat)(N x:Nat)(ys:List Nat)(i j c:Nat)(zs:List Nat):Prop where
 len:zs.length=N
 lt:∀ d∈zs,d<10
 carry:c<=9
 val:vl 10 zs+10 ^ (i+j)*c=z0+10 ^ i*(x*vl 10 (ys.take j))
def zjr.start (xs ys:List Nat):zjr xs ys 0 (List.replicate (xs.length+ys.length+1) 0) :=
 ⟨by simp,fun d h=>by rw[(List.mem_replicate.1 h).2];decide,by rw[zhz];simp[vl]⟩
def zib.start {xs ys zs:List Nat}{i x:Nat}(h:zjr xs ys i zs):zib (vl 10 zs) (xs.length+ys.length+1) x ys i 0 0 zs :=
 ⟨h.len,h.lt,by omega,by simp[vl]⟩
def zib.step {z0 N x i j c:Nat}{ys zs:List Nat}(h:zib z0 N x ys i j c zs)(hij:i+j<N)(hx:x<10)(hy:∀ d∈ys,d<10) :
  zib z0 N x ys i (j+1) ((zs.getD (i+j) 0+x*ys.getD j 0+c)/10) (zs.set (i+j) ((zs.getD (i+j) 0+x*ys.getD j 0+c)%10)):=by
 have h1:=getD_lt zs h.lt (i+j);have h2:=getD_lt ys hy j;have h3:=h.carry;have hm:x*ys.getD j 0<=9*9:=Nat.mul_le_mul (by omega) (by omega);refine⟨by rw[List.length_set,h.len],fun d hd=>?_,by omega,?_⟩
 ·rcases List.mem_or_eq_of_mem_set hd with hd|hd
  ·exact h.lt d hd
  rw[hd];omega
 have e:=h.val;have s:=zDp zs (i+j) ((zs.getD (i+j) 0+x*ys.getD j 0+c)%10) (by rw[h.len];exact hij);rw[zaM];have hd:=zqbt (zs.getD (i+j) 0+x*ys.getD j 0+c) 10
 have e2:10 ^ i*(x*(vl 10 (ys.take j)+10 ^ j*ys.getD j 0))=10 ^ i*(x*vl 10 (ys.take j))+10 ^ (i+j)*(x*ys.getD j 0):=by
  rw[zqbh,zqbh,Nat.pow_add,zqav (10 ^ i),Nat.mul_left_comm x]
 rw[e2,show i+(j+1)=i+j+1 from rfl,zqbp];generalize vl 10 (zs.set (i+j) ((zs.getD (i+j) 0+x*ys.getD j 0+c)%10))=V at *;generalize zs.getD (i+j) 0=p at *;generalize x*ys.getD j 0=q at *;generalize 10 ^ i*(x*vl 10 (ys.take j))=W at *;generalize 10 ^ (i+j)=P at *;generalize (p+q+c)/10=u at *;generalize (p+q+c)%10=v at *;have e1:P*10*u+P*v=P*(p+q+c):=by rw[<- hd,zqbh,zqav]
 rw[zqbh,zqbh] at e1;omega
def zib.fin {xs ys zs ws:List Nat}{i c:Nat}(h0:zjr xs ys i zs)(hi:i<xs.length)(h:zib (vl 10 zs) (xs.length+ys.length+1) (xs.getD i 0) ys i (ys.length+1) c ws)(hx:∀ d∈xs,d<10)(hy:∀ d∈ys,d<10):zjr xs ys (i+1) ws:=by
 refine⟨h.len,h.lt,?_⟩;have e:=h.val;rw[h0.val,zqaf (l:=ys) (by omega)] at e
 have e2:vl 10 (xs.take (i+1))*vl 10 ys=vl 10 (xs.take i)*vl 10 ys+10 ^ i*(xs.getD i 0*vl 10 ys):=by
  rw[zaM,Nat.add_mul,zqav]
 rw[<- e2] at e;have a1:=zbP 10 (xs.take (i+1)) (fun d hd=>hx d (zqau hd));have a2:=zbP 10 ys hy;rw[zqan,Nat.min_eq_left (by omega)] at a1
 have a3:vl 10 (xs.take (i+1))*vl 10 ys<10 ^ (i+(ys.length+1)):=by
  have h1:vl 10 (xs.take (i+1))*vl 10 ys<=10 ^ (i+1)*vl 10 ys:=Nat.mul_le_mul_right _ (Nat.le_of_lt a1);have h2:10 ^ (i+1)*vl 10 ys<10 ^ (i+1)*10 ^ ys.length:=Nat.mul_lt_mul_of_pos_left a2 (Nat.pow_pos (by decide));rw[<- Nat.pow_add,show i+1+ys.length=i+(ys.length+1) by omega] at h2;omega
 have:c=0:=by
  rcases Nat.eq_zero_or_pos c with h0|h0;exact h0;have:=zqbd (10 ^ (i+(ys.length+1))) h0;omega
 subst this;omega
def zHc (a b:ByteArray)(w:World)(na:zao a=true)(nb:zao b=true) :
  Calls prog 177 #[.string a,.string b] w (zab (zew a b) w):=by
 obtain⟨i0,hi,hz0,hz1,hz2⟩:=info_parts zll;have va:=zau a w (zbo na);have vb:=zau b w (zbo nb);rw[na] at va;rw[nb] at vb;have VA:=zHd va;have VB:=zHd vb;have D1:=zHd (fun w=>zdm a w na);have D2:=zHd (fun w=>zdm b w nb);have HV:=zHd (show zew a b=zee (vl 10 (zdK a)*vl 10 (zdK b)) by unfold zew;rw[na,nb,zex,zex];rfl);have hx:=zeJ a na;have hy:=zeJ b nb;have sa:=zcc a na;have sb:=zcc b nb;have la:=zey a;have lb:=zey b;clear va vb na nb;generalize zdK a=xs at *;generalize zdK b=ys at *;have HX:=zHd hx;have HY:=zHd hy;have lx1:1<=xs.length:=by omega
 have lx2:xs.length<=1000:=by omega
 have ly1:1<=ys.length:=by omega
 have ly2:ys.length<=1000:=by omega
 clear hx hy sa sb la lb;go_enter func177,ntmps177;go_wp2_with fail;refine VA.out.mono ?_;rintro e w' ⟨rfl,rfl⟩;go_wp2_with fail;refine VB.out.mono ?_;rintro e w' ⟨rfl,rfl⟩;go_wp2_with fail;refine(D1.out _).mono ?_;rintro e w1 ⟨v1,rfl,hr1,hb1⟩;obtain⟨g1,c1,rfl⟩:=hr1.form;have R1:=zHd hr1;have B1:=zHd hb1;clear hr1 hb1;go_wp2_with fail;refine(D2.out _).mono ?_;rintro e w2 ⟨v2,rfl,hr2,hb2⟩;obtain⟨g2,c2,rfl⟩:=hr2.form;have R1':=zHd (R1.out.below hb2);have R2:=zHd hr2;have B2:=zHd (B1.out.trans (hb2.mono B1.out.size));clear hr2 hb2 R1 B1 VA VB D1 D2;go_wp2_with (at_make;refine wpList_make_full _ rfl _ _ 64 rfl w2.heap.size 3 i0 (.int .i64 0) 1 underlying64 hi hz0 hz1 _ _ _ _ (xs.length+ys.length+1) rfl rfl ?c0 ?c1 ?c2 (by unfold maxLen;omega) (zqab _) ?_)
 case c0=>omega
 case c1=>omega
 case c2=>first|omega|(rw[hz2];omega)
 intro w3 zO hgr;rw[zvB] at zO;have HC0:=zHd (zdc.of_full zO);have HG:=zHd hgr;clear zO hgr;go_wp2
 go_loopw [9] (fun i wr=>∃ (k:Nat) (zs:List Nat),i=.int .i64 k/\k<=xs.length/\zjr xs ys k zs/\zdc wr w2.heap.size (iv zs)/\w2.grownBy wr none) (fun i _=>xs.length-(intOf i).toNat)
 case atStart=>exact⟨0,_,rfl,by omega,zjr.start xs ys,HC0.out,HG.out⟩
 case round =>
  obtain⟨k,zs,rfl,hk,zI,hcr,hgr⟩:=hrel;have zi:=zHd zI;have HCR:=zHd hcr;have HGR:=zHd hgr;clear zI hcr hgr
  by_cases hlt:k<xs.length
  ·generalize wr=w4 at *
   go_wp2
   go_loopw [10,11] (fun cc jj wr=>∃ (j c:Nat) (ws:List Nat),jj=.int .i64 j/\cc=.int .i64 c/\j<=ys.length+1/\zib (vl 10 zs) (xs.length+ys.length+1) (xs.getD k 0) ys k j c ws/\zdc wr w2.heap.size (iv ws)/\w2.grownBy wr none) (fun _ jj _=>ys.length+1-(intOf jj).toNat)
   case atStart=>exact⟨0,0,zs,rfl,rfl,by omega,zib.start zi.out,HCR.out,HGR.out⟩
   case round =>
    obtain⟨j,c,ws,rfl,rfl,hj,hin,hcr,hgr⟩:=hrel
    by_cases hlj:j<=ys.length
    ·have hwl:=hin.len
     have zE:wr.cell? ⟨w2.heap.size,k+j,none⟩=some (.int .i64 (ws.getD (k+j) 0:Nat)):=(by rw[hcr.cell,zDo _ _ (by omega)]);have hfree:=hcr.free (k+j)
     have hdx:wr.cell? ⟨g1,k,none⟩=some (.int .i64 (xs.getD k 0:Nat)):=by
      rcases R1'.out.1 with⟨_,h0⟩|⟨g,cap,hv,_,hg,hc⟩;exact absurd h0 R1'.out.2;simp only[Value.slice.injEq,Option.some.injEq,Addr.mk.injEq,and_true,true_and] at hv;obtain⟨rfl,_⟩:=hv;have:=hc k hlt;rw[<- this];exact World.cell?_of_block (hgr.block g1 hg (by simp))
     have hat:=fun n=>zmD (.slice (some ⟨g2,0,none⟩) ys.length c2) ys j (wr.drewN n) (by
      refine⟨?_,R2.out.2⟩;rcases R2.out.1 with⟨_,h0⟩|⟨g,cap,hv,h0,hg,hc⟩
      exact absurd h0 R2.out.2;exact .inr ⟨g,cap,hv,h0,zqba hg hgr.size,fun q hq=>(World.cell?_of_block (hgr.block g hg (by simp))).trans (hc q hq)⟩) (by omega)
     have hx10:=getD_lt xs HX.out k;have hy10:=getD_lt ys HY.out j;have hw10:=getD_lt ws hin.lt (k+j);have hc9:=hin.carry;have hm81:xs.getD k 0*ys.getD j 0<=9*9:=Nat.mul_le_mul (by omega) (by omega);have zS':=hin.step (by omega) hx10 HY.out;have hset:=hcr.set (k+j) (.int .i64 ((ws.getD (k+j) 0+xs.getD k 0*ys.getD j 0+c)%10:Nat));rw[zLq] at hset;generalize ws.getD (k+j) 0=p at *;generalize xs.getD k 0=x at *;generalize ys.getD j 0=y at *
     have hmul:IntKind.i64.wrap ((x:Int)*(y:Int))=((x*y:Nat):Int):=by
      rw[<- Int.natCast_mul];exact zQbI
     generalize x*y=m at *;rw[show(((p+m+c)%10:Nat):Int)=((p:Int)+m+c)%10 by omega] at hset;have HE2:=zHd (show((p:Int)+m+c)/10=(((p+m+c)/10:Nat):Int) by omega);have HST:=zHd zS';have HSET:=zHd hset;have HGR2:=zHd hgr;have HAT:=zHd hat;clear hin hcr hgr zS' hset hat hwl;have p0:(0:Int)<=(p:Int):=(by omega);have p1:(p:Int)<10:=(by omega);have m0:(0:Int)<=(m:Int):=(by omega);have m1:(m:Int)<=81:=(by omega);have c0:(0:Int)<=(c:Int):=(by omega);have c9:(c:Int)<=9:=(by omega);have i0:(0:Int)<=(k:Int)+(j:Int):=(by omega);have i1:(k:Int)+(j:Int)<((xs.length+ys.length+1:Nat):Int):=(by omega);have i2:(0:Int)<=(k:Int):=(by omega);have i3:(k:Int)<(xs.length:Int):=(by omega);have i4:IntKind.i64.wrap ((k:Int)+(j:Int))=(k:Int)+(j:Int):=IntWalk.i64_in _ ⟨by omega,by omega⟩;clear hx10 hy10 hw10 hc9 hm81;go_wp2
     go_quiet ((go_at_call 210;exact Calls.quiet_of_same ((HAT.out _).mono fun _ _ h=>⟨h.1,h.2.symm⟩)))
     go_wp2
     go_roundw
     case rel=>exact⟨j+1,(p+m+c)/10,_,by go_num,zqbz (Value.int .i64) HE2.out,by omega,HST.out,HSET.out,zak (g:=w2.heap.size) HGR2.out (zaa (zcg wr _ nq) (zac (wr.drewN nq) ⟨w2.heap.size,k+j,none⟩ _)) (zqab _)⟩
     case measure=>simp[intOf];omega
    obtain rfl:j=ys.length+1:=by omega
    have HN:=zHd (zib.fin zi.out hlt hin HX.out HY.out);have HC1:=zHd hcr;have HG1:=zHd hgr;clear hin hcr hgr;go_wp2
    go_roundw
    case rel=>exact⟨k+1,ws,by go_num,by omega,HN.out,HC1.out,HG1.out⟩
    case measure=>simp[intOf];omega
  obtain rfl:k=xs.length:=by omega
  have hne:zs≠[]:=by intro e;have:=zi.out.len;rw[e] at this;simp at this
  have hl:=zi.out.len;have HT0:=zjq _ zs wr (HCR.out.digs hne) zi.out.lt (by omega);rw[hl,zi.out.val,zqaf (zqab _)] at HT0;have hnd:=zto zs zi.out.lt;rw[zi.out.val,zqaf (zqab _)] at hnd;have HT:=zHd HT0;have HL:=zHd (fun w=>zoE (vl 10 xs*vl 10 ys) w (by omega));clear HT0 hnd hne hl;go_wp2_with fail;refine HT.out.mono ?_;rintro e w5 ⟨rfl,hb3⟩;have BB:=zHd (zaa (zaa (zbe B2.out) (show w2.grownBy wr none from HGR.out) |> fun h=>h) (zbe hb3));clear hb3;go_wp2_with fail;refine(HL.out _).mono ?_;rintro e w' ⟨he,rfl⟩;rcases ztp (vl 10 xs*vl 10 ys) with⟨S,E,hS⟩;have hav:zew a b=.tuple #[.string S,.int .i64 E]:=by rw[HV.out,hS]
  rw[hS] at he;subst he;have HAV:=zHd hav;clear hav hS;go_wp2;go_ret2;rw[HAV.out];exact⟨rfl,BB.out⟩
def zAs (a b:ByteArray)(w:World)(ha:a.size<=maxLen)(hb:b.size<=maxLen)(na:zao a=false) :
  Calls prog 177 #[.string a,.string b] w (zab (zew a b) w):=by
 have HV:=zHd (show zew a b=.tuple #[.string ⟨#[]⟩,.int .i64 1] by unfold zew;rw[na];rfl);have va:=zau a w ha;have vb:=zau b w hb;rw[na] at va;have VA:=zHd va;have VB:=zHd vb;clear va vb ha hb na;go_enter func177,ntmps177;exact zQaJ
def zAt (a b:ByteArray)(w:World)(ha:a.size<=maxLen)(hb:b.size<=maxLen)(na:zao a=true)(nb:zao b=false) :
  Calls prog 177 #[.string a,.string b] w (zab (zew a b) w):=by
 have HV:=zHd (show zew a b=.tuple #[.string ⟨#[]⟩,.int .i64 1] by unfold zew;rw[na,nb];rfl);have va:=zau a w ha;have vb:=zau b w hb;rw[na] at va;rw[nb] at vb;have VA:=zHd va;have VB:=zHd vb;clear va vb ha hb na nb;go_enter func177,ntmps177;exact zQaw
def zHe (a b:ByteArray)(w:World)(ha:a.size<=maxLen)(hb:b.size<=maxLen) :
  Calls prog 177 #[.string a,.string b] w (zab (zew a b) w):=by
 cases na:zao a;exact zAs a b w ha hb na;cases nb:zao b;exact zAt a b w ha hb na nb;exact zHc a b w na nb
open Go.RowKit
open Go.Lib (nDigits decDigits)
def zDq (n k:Nat)(hk:1<=k)(h:n<10 ^ k):nDigits n<=k:=by
 rcases Nat.lt_or_ge k (nDigits n) with h1|h1
 ·rcases zgi n k (by omega) with h2|h2
  ·omega
  omega
 exact h1
def zjU (n k:Nat)(hk:1<=k)(hk2:k<=1000)(h:n<10 ^ k):zao (zai n)=true:=by
 rw[zrG];have:=zDq n k hk h;exact decide_eq_true (by omega)
def zvC {w w':World}{base:Nat}{e:TypeId}{v:Value}{n:Nat}{xs:List Value}(h:w.ownsRow base e 1 v n xs)(hb:Below w.heap.size w w'):w'.ownsRow base e 1 v n xs:=by
 obtain⟨h1,h2⟩:=h;refine⟨h1,?_⟩;rcases h2 with h2|⟨g,cap,cur,a,b,c,d⟩;exact .inl h2;exact .inr ⟨g,cap,cur,a,b,(hb.block g (zqad.1 c).1).trans c,d⟩
def pre (a:ByteArray)(k:Nat):Nat:=zcK (a.data.toList.take k)
def zvD (a:ByteArray)(k:Nat)(h:k<a.size):pre a (k+1)=pre a k*10+(a[k].toNat-48):=by
 unfold pre;rw[zlg a k h,zeR]
def zDr (a:ByteArray)(na:zao a=true)(k:Nat)(hk:k<=a.size):pre a k<10 ^ k:=by
 unfold pre;rw[<- zyU]
 have h:=zbP 10 (dgs (a.data.toList.take k)) (fun d hd=>by
  unfold dgs at hd;obtain⟨c,hc,rfl⟩:=zqbf.1 hd;rw[List.mem_reverse] at hc;have hc:=zqau hc;exact zeJ a na _ (by unfold zdK dgs;exact zqbf.2 ⟨c,List.mem_reverse.2 hc,rfl⟩))
 have e:(dgs (a.data.toList.take k)).length=k:=by simp[dgs];omega
 rw[e] at h;exact h
def zKc (a:ByteArray):pre a a.size=nv a:=by
 unfold pre nv;rw[zqaf (by simp)]
def zDs (a:ByteArray)(na:zao a=true)(k:Nat)(h:k<a.size):a.extract k (k+1)=zai (a[k].toNat-48):=by
 have hd:=zkN a na k h;apply ByteArray.ext;rw[ByteArray.data_extract];apply Array.toList_inj.1;rw[Array.toList_extract];unfold zai;rw[Lib.decDigits_one (by omega)];simp only[List.extract_eq_take_drop];rw[List.drop_eq_getElem_cons (by simpa using h),show k+1-k=1 by omega,List.take_succ_cons,List.take_zero];congr 1;apply UInt8.toNat_inj.1;rw[UInt8.toNat_ofNat'];have:a.data.toList[k]'(by simpa using h)=a[k]:=rfl;rw[this];omega
def zHf (R x:Nat)(h0:R≠0)(hx:x<10):zai R++zai x=zai (R*10+x):=by
 apply ByteArray.ext;rw[ByteArray.data_append];unfold zai;rw[Lib.decDigits_one hx]
 conv=>rhs;rw[decDigits,dif_neg (by omega)]
 rw[show(R*10+x)/10=R by omega,show(R*10+x)%10=x by omega];simp
structure zpe (a:ByteArray)(B k R:Nat)(S:ByteArray)(acc:List UInt8):Prop where
 text:S=zai R
 rest:R=pre a k%B
 len:acc.length=k
 dig:acc.all zck=true
 quo:zcK acc=pre a k/B
def zpe.start (a:ByteArray)(B:Nat):zpe a B 0 0 ⟨#[48]⟩ []:=⟨zpb.symm,by simp[pre,zcK],rfl,rfl,by simp[pre,zcK]⟩
def zpe.step {a:ByteArray}{B k R:Nat}{S:ByteArray}{acc:List UInt8}(h:zpe a B k R S acc)(hk:k<a.size)(hB:0<B){t M:Nat}(hN:R*10+(a[k].toNat-48)=t*B+M)(hM:M<B)(ht:t<10) :
  zpe a B (k+1) M (zai M) (acc++[UInt8.ofNat (48+t)]):=by
 have e0:=zqbt (pre a k) B;rw[<- h.rest,<- h.quo] at e0
 have e1:pre a (k+1)=B*(zcK acc*10+t)+M:=by
  rw[zvD a k hk,<- e0,zqbh,zqbc B t,<- zqav];rw[Nat.add_mul];omega
 refine⟨rfl,?_,by rw[zqag,h.len];rfl,?_,?_⟩;rw[e1,Nat.mul_add_mod,Nat.mod_eq_of_lt hM]
 ·rw[List.all_append,h.dig]
  simp[zck];omega
 rw[zeR,e1,Nat.mul_add_div hB,Nat.div_eq_of_lt hM,UInt8.toNat_ofNat'];omega
def zvE (acc:List UInt8)(j:Nat)(hj:j<acc.length)(hd:acc.all zck=true)(hv:zcK (acc.drop j)=zcK acc)(hz:j+1=acc.length∨(acc.drop j).headD 0≠48):(⟨(acc.drop j).toArray⟩:ByteArray)=zai (zcK acc):=by
 unfold zai
 rw[<- hv,zuU (acc.drop j) (by intro e;have:=zqbz List.length e;simp at this;omega) (by
  rw[List.all_eq_true] at hd ⊢;exact fun c hc=>hd c (List.mem_of_mem_drop hc)) (by
  rcases hz with hz|hz;left;rw[List.length_drop];omega;exact .inr hz)]
def zDt (c:UInt8):∀ (l:List UInt8),zcK (c::l)=(c.toNat-48)*10 ^ l.length+zcK l:=by
 intro l
 induction h:l.length generalizing l with
 | zero=>rw[List.length_eq_zero_iff.1 h];simp[zcK]
 | succ n ih =>
  obtain⟨l',x,rfl⟩:∃ l' x,l=l'++[x]:=⟨l.dropLast,l.getLast (by intro e;rw[e] at h;simp at h),(List.dropLast_concat_getLast _).symm⟩;have h':l'.length=n:=by simp at h;exact h
  rw[<- List.cons_append,zeR,zeR,ih l' h',zqbp,Nat.add_mul,zqav];omega
def zrW (acc:List UInt8)(j:Nat)(hj:j<acc.length)(h:acc[j]=48):zcK (acc.drop (j+1))=zcK (acc.drop j):=by
 rw[List.drop_eq_getElem_cons hj,zDt,h];simp
def zHg (a b:ByteArray)(w:World)(na:zao a=true)(nb:zao b=true)(hb0:nv b≠0) :
  Calls prog 180 #[.string a,.string b] w (zab (zdq a b) w):=by
 obtain⟨i0,hi,hz0,hz1,hz2⟩:=info_parts ztn;have va:=zau a w (zbo na);have vb:=zau b w (zbo nb);rw[na] at va;rw[nb] at vb;have VA:=zHd va;have VB:=zHd vb;have hsz:=zcc a na;have HV:=zHd (show zdq a b=.tuple #[.string (zai (nv a/nv b)),.string (zai (nv a%nv b)),.int .i64 0] by unfold zdq;rw[na,nb];simp only[Bool.and_self,if_true];rw[if_neg hb0]);have fb:(b.toList==[48])=false:=by rw[(zem b nb).1];simp[hb0]
 have NA:=zHd na;have NB:=zHd nb;have HB0:=zHd (show 0<nv b by omega);obtain⟨hs1,hs2⟩:=hsz;clear va vb na nb hb0;go_enter func180,ntmps180;go_wp2_with fail;refine VA.out.mono ?_;rintro e w' ⟨rfl,rfl⟩;go_wp2_with fail;refine VB.out.mono ?_;rintro e w' ⟨rfl,rfl⟩;go_wp2
 go_loopw [7,8,9] (fun q r i wr=>∃ (k R:Nat) (S:ByteArray) (acc:List UInt8),i=.int .i64 k/\k<=a.size/\r=.string S/\zpe a (nv b) k R S acc/\wr.ownsRow w.heap.size 5 1 q acc.length (Lib.byteCells acc)/\Below w.heap.size w wr) (fun _ _ i _=>a.size-(intOf i).toNat)
 case atStart=>exact⟨0,0,_,[],rfl,by omega,rfl,zpe.start a (nv b),World.ownsRow_nil _ _ _ _,Below.refl _ _⟩
 case round =>
  obtain⟨k,R,S,acc,rfl,hk,rfl,zI,zO,hb⟩:=hrel;have zi:=zHd zI;have HOWN:=zHd zO;have HBL:=zHd hb;have hal:acc.length=k:=zI.len;have hST:=zI.text;have hRlt:=zDr a NA.out k hk;have hRle:R<=pre a k:=by rw[zI.rest];exact Nat.mod_le _ _
  have hRB:R<nv b:=by rw[zI.rest];exact Nat.mod_lt _ HB0.out
  clear zI zO hb
  by_cases hlt:k<a.size
  ·have hpn:=zDr a NA.out (k+1) (by omega)
   rw[zvD a k hlt] at hpn;have hdg:=zkN a NA.out k hlt;have E1:=zDs a NA.out k hlt;obtain⟨x,hx⟩:∃ x,a[k].toNat-48=x:=⟨_,rfl⟩;have hx10:x<10:=by omega
   rw[hx] at E1 hpn;have hN1000:R*10+x<10 ^ (k+1):=by omega
   have nS:zao S=true:=by
    rw[hST];exact zjU R (k+1) (by omega) (by omega) (by omega)
   have sz:S.size<=1000:=(zcc S nS).2;have sf:=zem S nS;have HX:=zHd hx;have hNB:R*10+x<10*nv b:=by omega
   obtain⟨E,hE⟩:∃ E,a.extract k (k+1)=E:=⟨_,rfl⟩
   by_cases hR0:R=0
   ·have f1:(S.toList==[48])=true:=by rw[sf.1,hST,zaS];simp[hR0]
    have HT:=zHd (show a.extract k (k+1)=zai (R*10+x) by rw[E1,hR0];simp);have h1:=zHd hN1000;have h2:=zHd hNB;clear sf hST E1 hpn hRlt hRle nS hN1000 hNB hR0 hdg hRB hx10 hE;generalize wr=wv at *;go_wp2
    go_loopw [8,10] (fun r d wr=>∃ (t M:Nat) (T:ByteArray),r=.string T/\T=zai M/\R*10+x=t*nv b+M/\d=.int .u8 (48+(t:Int))/\t<=9/\Below wv.heap.size wv wr) (fun r _ _=>match r with | .string s=>nv s|_=>0)
    case atStart=>exact⟨0,R*10+x,_,rfl,HT.out,by omega,rfl,by omega,Below.refl _ _⟩
    case round =>
     obtain⟨t,M,T,rfl,hT,hN,rfl,ht9,hbw⟩:=hrel
     have nT:zao T=true:=by
      exact zQbp
     have rc:=zhf T b wr nT NB.out;have hM:nv T=M:=(by rw[hT,zaS]);rw[hM] at rc;have HTT:=zHd hT;have HN:=zHd hN;have HBW:=zHd hbw;have HM:=zHd hM;have HT9:=zHd ht9;have t0:(0:Int)<=(t:Int):=(by omega);have t9:(t:Int)<=9:=by omega
     by_cases hge:nv b<=M
     ·obtain⟨d,hd,hd0⟩:∃ d:Int,zbF M (nv b)=d/\0<=d:=⟨_,rfl,by have:=zfn M (nv b);omega⟩
      have ht8:t+1<=9:=by
       have hh:=h2.out;rcases Nat.lt_or_ge t 9 with h9|h9
       omega;obtain rfl:t=9:=by omega
       omega
      have HT8:=zHd ht8;rw[hd] at rc;have RC:=zHd rc;have D1:=zHd (fun w=>zdm T w nT);have D2:=zHd (fun w=>zdm b w NB.out);have hx1:=zeJ T nT;have hy1:=zeJ b NB.out;have l1:=zey T;have l2:=zey b;have s1:=zcc T nT;have s2:=zcc b NB.out;have v1:=zex T;have v2:=zex b;rw[hM] at v1;have HGE:=zHd hge;clear rc hd nT hM hT hN hbw hge ht8 ht9;generalize zdK T=us at *;generalize zdK b=ys at *;have hle:vl 10 ys<=vl 10 us:=(by rw[v1,v2];exact HGE.out);have lu:us.length<=1000:=(by omega);have ly:ys.length<=1000:=(by omega);have HX1:=zHd hx1;have HY1:=zHd hy1;have HLE:=zHd hle;have V1:=zHd v1;have V2:=zHd v2;clear hx1 hy1 hle v1 v2 s1 s2 l1 l2;go_wp2_with fail;refine RC.out.mono ?_;rintro e w1 ⟨rfl,hg⟩;have hb1:=HBW.out.trans ((below_grown hg (zqab _) (by simp)).mono HBW.out.size);have BB1:=zHd hb1;clear hg hb1;go_wp2_with fail;refine(D1.out _).mono ?_;rintro e w2 ⟨v1,rfl,hr1,hb2⟩;have R1:=zHd hr1;have BB2:=zHd (BB1.out.trans (hb2.mono BB1.out.size));clear hr1 hb2;go_wp2_with fail;refine(D2.out _).mono ?_;rintro e w3 ⟨v2,rfl,hr2,hb3⟩;have R1':=zHd (R1.out.below hb3);have R2:=zHd hr2;have BB3:=zHd (BB2.out.trans (hb3.mono BB2.out.size));clear hr2 hb3;go_wp2_with fail;refine(zpc v1 v2 us ys w3 R1'.out R2.out HX1.out HY1.out (by omega) (by omega) HLE.out).mono ?_;rintro e w4 ⟨v3,zs,rfl,hr3,hz,zV,zN,hb4⟩;have BB4:=zHd (BB3.out.trans (hb4.mono BB3.out.size));have hTx:=zjq v3 zs w4 hr3.1 hz (by omega);rw[zV,V1.out,V2.out] at hTx;have HTX:=zHd hTx;clear hr3 hz zV zN hb4 hTx;go_wp2_with fail;refine HTX.out.mono ?_;rintro e w5 ⟨rfl,hb5⟩;have BB5:=zHd (BB4.out.trans (hb5.mono BB4.out.size));clear hb5;have HNV:=zHd (zaS (M-nv b));obtain⟨T2,hT2⟩:∃ T2,zai (M-nv b)=T2:=⟨_,rfl⟩;have HT2:=zHd hT2;rw[hT2];clear hT2;go_wp2
      go_roundw
      case rel=>exact⟨t+1,M-nv b,T2,rfl,HT2.out.symm,by have:=HN.out;have:=HGE.out;rw[Nat.add_mul];omega,by go_num,HT8.out,BB5.out⟩
      case measure =>
       exact zQbq
     obtain⟨d,hd,hd0⟩:∃ d:Int,zbF M (nv b)=d/\d<0:=⟨_,rfl,by have:=zfn M (nv b);omega⟩;rw[hd] at rc;have RC:=zHd rc;have hNs:=hN;rw[<- HX.out] at hNs;have HSTEP:=zHd (zi.out.step hlt HB0.out hNs (by omega) (by omega));have HCC:=zHd (show Lib.byteCells [UInt8.ofNat (48+t)]=[Value.int .u8 (48+(t:Int))] from zjP t (by omega));have hb1:acc.length+1<=1000000:=(by omega);have HAL:=zHd hal;clear rc hd nT hM hT hN hNs hbw hge ht9 hal;go_wp2_with fail;refine RC.out.mono ?_;rintro e w1 ⟨rfl,hg⟩;have hbA:=HBW.out.trans ((below_grown hg (zqab _) (by simp)).mono HBW.out.size);have zO:=zvC HOWN.out hbA;have hb:=HBL.out.trans (hbA.mono HBL.out.size);have HBA:=zHd hb;have hbs:=hb.size;clear hg hbA hb;go_wp2_with (at_builtin;refine wpList_append_own _ rfl _ _ 145 rfl w.heap.size 5 i0 (.int .u8 0) 1 1 underlying145 hi hz0 hz1 hz2 rfl (by decide) _ _ _ rfl (zO.alloc _) ⟨w1.heap.size,0,none⟩ 1 1 [.int .u8 (48+(t:Int))] rfl rfl ?c1 ?c2 ?c3 ?c4 ?c5 ?_)
     case c1=>exact zfW _ _ _
     case c2=>intro u hu;simp at hu;subst hu;rfl
     case c3=>unfold maxLen;omega
     case c4=>omega
     case c5=>simp;omega
     intro v' w2 zo zG _;have HB2:=zHd (zen HBA.out _ (fun g e=>(zO.lt g e).1) zG);have HO:=zHd zo;clear zO zo zG;go_wp2
     go_roundw
     case rel=>exact⟨k+1,M,T,acc++[UInt8.ofNat (48+t)],by go_num,by omega,rfl,by rw[HTT.out];exact HSTEP.out,by
      rw[zqag,Lib.byteCells_append,HCC.out];exact HO.out,HB2.out⟩
     case measure=>simp[intOf];omega
   have f1:(S.toList==[48])=false:=by rw[sf.1,hST,zaS];simp[hR0]
   have HT:=zHd (show S++a.extract k (k+1)=zai (R*10+x) by rw[E1,hST,zHf R x hR0 hx10]);have hez:(a.extract k (k+1)).size<=1000:=(by rw[E1];exact(zcc _ (zjU x (k+1) (by omega) (by omega) (by have:=zqay (n:=10) (by decide) (show 1<=k+1 by omega);omega))).2);have hcz:S.size+(a.extract k (k+1)).size<=9223372036854775807:=(by omega);have h1:=zHd hN1000;have h2:=zHd hNB;clear sf hST E1 hpn hRlt hRle nS hN1000 hNB hR0 hdg hRB hx10 hE;generalize wr=wv at *;go_wp2
   go_loopw [8,10] (fun r d wr=>∃ (t M:Nat) (T:ByteArray),r=.string T/\T=zai M/\R*10+x=t*nv b+M/\d=.int .u8 (48+(t:Int))/\t<=9/\Below wv.heap.size wv wr) (fun r _ _=>match r with | .string s=>nv s|_=>0)
   case atStart=>exact⟨0,R*10+x,_,rfl,HT.out,by omega,rfl,by omega,Below.refl _ _⟩
   case round =>
    obtain⟨t,M,T,rfl,hT,hN,rfl,ht9,hbw⟩:=hrel
    have nT:zao T=true:=by
     exact zQbp
    have rc:=zhf T b wr nT NB.out;have hM:nv T=M:=(by rw[hT,zaS]);rw[hM] at rc;have HTT:=zHd hT;have HN:=zHd hN;have HBW:=zHd hbw;have HM:=zHd hM;have HT9:=zHd ht9;have t0:(0:Int)<=(t:Int):=(by omega);have t9:(t:Int)<=9:=by omega
    by_cases hge:nv b<=M
    ·obtain⟨d,hd,hd0⟩:∃ d:Int,zbF M (nv b)=d/\0<=d:=⟨_,rfl,by have:=zfn M (nv b);omega⟩
     have ht8:t+1<=9:=by
      have hh:=h2.out;rcases Nat.lt_or_ge t 9 with h9|h9
      omega;obtain rfl:t=9:=by omega
      omega
     have HT8:=zHd ht8;rw[hd] at rc;have RC:=zHd rc;have D1:=zHd (fun w=>zdm T w nT);have D2:=zHd (fun w=>zdm b w NB.out);have hx1:=zeJ T nT;have hy1:=zeJ b NB.out;have l1:=zey T;have l2:=zey b;have s1:=zcc T nT;have s2:=zcc b NB.out;have v1:=zex T;have v2:=zex b;rw[hM] at v1;have HGE:=zHd hge;clear rc hd nT hM hT hN hbw hge ht8 ht9;generalize zdK T=us at *;generalize zdK b=ys at *;have hle:vl 10 ys<=vl 10 us:=(by rw[v1,v2];exact HGE.out);have lu:us.length<=1000:=(by omega);have ly:ys.length<=1000:=(by omega);have HX1:=zHd hx1;have HY1:=zHd hy1;have HLE:=zHd hle;have V1:=zHd v1;have V2:=zHd v2;clear hx1 hy1 hle v1 v2 s1 s2 l1 l2;go_wp2_with fail;refine RC.out.mono ?_;rintro e w1 ⟨rfl,hg⟩;have hb1:=HBW.out.trans ((below_grown hg (zqab _) (by simp)).mono HBW.out.size);have BB1:=zHd hb1;clear hg hb1;go_wp2_with fail;refine(D1.out _).mono ?_;rintro e w2 ⟨v1,rfl,hr1,hb2⟩;have R1:=zHd hr1;have BB2:=zHd (BB1.out.trans (hb2.mono BB1.out.size));clear hr1 hb2;go_wp2_with fail;refine(D2.out _).mono ?_;rintro e w3 ⟨v2,rfl,hr2,hb3⟩;have R1':=zHd (R1.out.below hb3);have R2:=zHd hr2;have BB3:=zHd (BB2.out.trans (hb3.mono BB2.out.size));clear hr2 hb3;go_wp2_with fail;refine(zpc v1 v2 us ys w3 R1'.out R2.out HX1.out HY1.out (by omega) (by omega) HLE.out).mono ?_;rintro e w4 ⟨v3,zs,rfl,hr3,hz,zV,zN,hb4⟩;have BB4:=zHd (BB3.out.trans (hb4.mono BB3.out.size));have hTx:=zjq v3 zs w4 hr3.1 hz (by omega);rw[zV,V1.out,V2.out] at hTx;have HTX:=zHd hTx;clear hr3 hz zV zN hb4 hTx;go_wp2_with fail;refine HTX.out.mono ?_;rintro e w5 ⟨rfl,hb5⟩;have BB5:=zHd (BB4.out.trans (hb5.mono BB4.out.size));clear hb5;have HNV:=zHd (zaS (M-nv b));obtain⟨T2,hT2⟩:∃ T2,zai (M-nv b)=T2:=⟨_,rfl⟩;have HT2:=zHd hT2;rw[hT2];clear hT2;go_wp2
     go_roundw
     case rel=>exact⟨t+1,M-nv b,T2,rfl,HT2.out.symm,by have:=HN.out;have:=HGE.out;rw[Nat.add_mul];omega,by go_num,HT8.out,BB5.out⟩
     case measure =>
      exact zQbq
    obtain⟨d,hd,hd0⟩:∃ d:Int,zbF M (nv b)=d/\d<0:=⟨_,rfl,by have:=zfn M (nv b);omega⟩;rw[hd] at rc;have RC:=zHd rc;have hNs:=hN;rw[<- HX.out] at hNs;have HSTEP:=zHd (zi.out.step hlt HB0.out hNs (by omega) (by omega));have HCC:=zHd (show Lib.byteCells [UInt8.ofNat (48+t)]=[Value.int .u8 (48+(t:Int))] from zjP t (by omega));have hb1:acc.length+1<=1000000:=(by omega);have HAL:=zHd hal;clear rc hd nT hM hT hN hNs hbw hge ht9 hal;go_wp2_with fail;refine RC.out.mono ?_;rintro e w1 ⟨rfl,hg⟩;have hbA:=HBW.out.trans ((below_grown hg (zqab _) (by simp)).mono HBW.out.size);have zO:=zvC HOWN.out hbA;have hb:=HBL.out.trans (hbA.mono HBL.out.size);have HBA:=zHd hb;have hbs:=hb.size;clear hg hbA hb;go_wp2_with (at_builtin;refine wpList_append_own _ rfl _ _ 145 rfl w.heap.size 5 i0 (.int .u8 0) 1 1 underlying145 hi hz0 hz1 hz2 rfl (by decide) _ _ _ rfl (zO.alloc _) ⟨w1.heap.size,0,none⟩ 1 1 [.int .u8 (48+(t:Int))] rfl rfl ?c1 ?c2 ?c3 ?c4 ?c5 ?_)
    case c1=>exact zfW _ _ _
    case c2=>intro u hu;simp at hu;subst hu;rfl
    case c3=>unfold maxLen;omega
    case c4=>omega
    case c5=>simp;omega
    intro v' w2 zo zG _;have HB2:=zHd (zen HBA.out _ (fun g e=>(zO.lt g e).1) zG);have HO:=zHd zo;clear zO zo zG;go_wp2
    go_roundw
    case rel=>exact⟨k+1,M,T,acc++[UInt8.ofNat (48+t)],by go_num,by omega,rfl,by rw[HTT.out];exact HSTEP.out,by
     rw[zqag,Lib.byteCells_append,HCC.out];exact HO.out,HB2.out⟩
    case measure=>simp[intOf];omega
  obtain rfl:k=a.size:=by omega
  have hq:=zi.out.quo;have hr:=zi.out.rest;rw[zKc] at hq hr;have HQ:=zHd hq;have HR:=zHd hr;rcases HOWN.out.2 with⟨_,h0⟩|⟨g,cap,cur,hv,hgb,hgg,hcap,hcm,_,_⟩
  omega;subst hv;have zO:=HOWN.out
  have ze:∀ j (hj:j<acc.length),wr.cell? ⟨g,j,none⟩=some (.int .u8 (acc[j].toNat:Int)):=fun j hj=>by
   have:=zO.cells (g:=g) rfl j (.int .u8 (acc[j].toNat:Int)) (by unfold Lib.byteCells;rw[zqaj,zqac hj];rfl);rw[addr_add] at this;exact this
  have HC:=zHd ze
  have hcv:=fun j (hj:j<acc.length)=>run_convert_bytes_back (P:=prog) wr 145 9 5 ⟨g,j,none⟩ (cap-j) (acc.drop j) underlying145 underlying5 underlying9 (fun i hi=>by
   have e:(⟨g,j,none⟩:Addr).add i=⟨g,j+i,none⟩:=(by unfold Addr.add;split <;> simp_all);rw[List.length_drop] at hi;rw[e,ze (j+i) (by omega)];rw[List.getElem_drop])
  have HCV:=zHd hcv;have HAL:=zHd hal;have hl1:1<=acc.length:=by omega
  have hl2:acc.length<=1000:=by omega
  unfold maxLen at hcm;have HCM:=zHd hcm;clear zO ze hcv hq hr hgg hal hST hRlt hRle hRB hcm hlt hk;generalize wr=w1 at *;go_wp2
  go_loop [11] (fun i=>∃ j:Nat,i=.int .i64 j/\j+1<=acc.length/\zcK (acc.drop j)=zcK acc) (fun i=>acc.length-(intOf i).toNat)
  case atStart=>exact⟨0,rfl,by omega,rfl⟩
  case round =>
   obtain⟨j,rfl,hj,hdv⟩:=hrel;have HDV:=zHd hdv;clear hdv;have hjl:j<acc.length:=(by omega);have zE:=HC.out j hjl;have hcvj:=HCV.out j hjl;rw[List.length_drop] at hcvj;have hw:IntKind.i64.wrap ((acc.length:Int)-1)=(acc.length:Int)-1:=IntWalk.i64_in _ ⟨by omega,by omega⟩;have k0:(0:Int)<=(j:Int):=(by omega);have k1:(j:Int)<(acc.length:Int):=(by omega);have k2:(j:Int)<=(acc.length:Int):=(by omega);have k3:¬ (cap=j):=(by omega);have k4:¬ (cap-j=0):=by omega
   by_cases hgo:(j:Int)<(acc.length:Int)-1
   ·by_cases hz:acc[j]=48
    ·have f1:((acc[j].toNat:Int)==48)=true:=by rw[hz];rfl
     have HD:=zHd (zrW acc j hjl hz);clear hz hcvj;go_wp2;go_round
     case rel=>exact⟨j+1,by go_num,by omega,by rw[HD.out,HDV.out]⟩
     case measure=>simp[intOf];omega
    have f1:((acc[j].toNat:Int)==48)=false:=by
     rw[beq_eq_false_iff_ne];intro e;exact hz (UInt8.toNat_inj.1 (show acc[j].toNat=(48:UInt8).toNat by have:(48:UInt8).toNat=48:=rfl;omega))
    have HT:=zHd (zvE acc j hjl zi.out.dig HDV.out (.inr (by
     rw[List.drop_eq_getElem_cons hjl];exact hz)))
    clear hz;go_wp2
    go_ret3
    exact zQbE
   have HT:=zHd (zvE acc j hjl zi.out.dig HDV.out (.inl (by omega)));go_wp2
   go_ret3
   exact zQbE
open Go.RowKit
open Go.Lib (nDigits decDigits)
def zAu (a b:ByteArray)(w:World)(ha:a.size<=maxLen)(hb:b.size<=maxLen)(na:zao a=false) :
  Calls prog 180 #[.string a,.string b] w (zab (zdq a b) w):=by
 have HV:=zHd (show zdq a b=.tuple #[.string ⟨#[]⟩,.string ⟨#[]⟩,.int .i64 1] by unfold zdq;rw[na];rfl);have va:=zau a w ha;have vb:=zau b w hb;rw[na] at va;have VA:=zHd va;have VB:=zHd vb;clear va vb ha hb na;go_enter func180,ntmps180;go_wp2_with fail;refine VA.out.mono ?_;rintro e w' ⟨rfl,rfl⟩;go_wp2
 go_ret3
 rw[HV.out];exact⟨rfl,zae _ _⟩
def zAv (a b:ByteArray)(w:World)(ha:a.size<=maxLen)(hb:b.size<=maxLen)(na:zao a=true)(nb:zao b=false) :
  Calls prog 180 #[.string a,.string b] w (zab (zdq a b) w):=by
 have HV:=zHd (show zdq a b=.tuple #[.string ⟨#[]⟩,.string ⟨#[]⟩,.int .i64 1] by unfold zdq;rw[na,nb];rfl);have va:=zau a w ha;have vb:=zau b w hb;rw[na] at va;rw[nb] at vb;have VA:=zHd va;have VB:=zHd vb;clear va vb ha hb na nb;go_enter func180,ntmps180;go_wp2_with fail;refine VA.out.mono ?_;rintro e w' ⟨rfl,rfl⟩;go_wp2_with fail;refine VB.out.mono ?_;rintro e w' ⟨rfl,rfl⟩;go_wp2
 go_ret3
 rw[HV.out];exact⟨rfl,zae _ _⟩
def zDu (a b:ByteArray)(w:World)(na:zao a=true)(nb:zao b=true)(h0:nv b=0) :
  Calls prog 180 #[.string a,.string b] w (zab (zdq a b) w):=by
 have HV:=zHd (show zdq a b=.tuple #[.string ⟨#[]⟩,.string ⟨#[]⟩,.int .i64 4] by unfold zdq;rw[na,nb];simp only[Bool.and_self,if_true];rw[if_pos h0]);have va:=zau a w (zbo na);have vb:=zau b w (zbo nb);rw[na] at va;rw[nb] at vb;have VA:=zHd va;have VB:=zHd vb;have fb:(b.toList==[48])=true:=by rw[(zem b nb).1];simp[h0]
 clear va vb na nb h0;go_enter func180,ntmps180;go_wp2_with fail;refine VA.out.mono ?_;rintro e w' ⟨rfl,rfl⟩;go_wp2_with fail;refine VB.out.mono ?_;rintro e w' ⟨rfl,rfl⟩;go_wp2
 go_ret3
 rw[HV.out];exact⟨rfl,zae _ _⟩
def zvF (a b:ByteArray)(w:World)(ha:a.size<=maxLen)(hb:b.size<=maxLen) :
  Calls prog 180 #[.string a,.string b] w (zab (zdq a b) w):=by
 cases na:zao a;exact zAu a b w ha hb na;cases nb:zao b;exact zAv a b w ha hb na nb
 by_cases h0:nv b=0
 exact zDu a b w na nb h0;exact zHg a b w na nb h0
def zAw (a b:ByteArray)(w:World)(ha:a.size<=maxLen)(hb:b.size<=maxLen)(na:zao a=false) :
  Calls prog 173 #[.string a,.string b] w (zab (zeI a b) w):=by
 have HV:=zHd (show zeI a b=.tuple #[.string ⟨#[]⟩,.int .i64 1] by unfold zeI;rw[na];rfl);have va:=zau a w ha;have vb:=zau b w hb;rw[na] at va;have VA:=zHd va;have VB:=zHd vb;clear va vb ha hb na;go_enter func173,ntmps173;exact zQaJ
def zAx (a b:ByteArray)(w:World)(ha:a.size<=maxLen)(hb:b.size<=maxLen)(na:zao a=true)(nb:zao b=false) :
  Calls prog 173 #[.string a,.string b] w (zab (zeI a b) w):=by
 have HV:=zHd (show zeI a b=.tuple #[.string ⟨#[]⟩,.int .i64 1] by unfold zeI;rw[na,nb];rfl);have va:=zau a w ha;have vb:=zau b w hb;rw[na] at va;rw[nb] at vb;have VA:=zHd va;have VB:=zHd vb;clear va vb ha hb na nb;go_enter func173,ntmps173;exact zQaw
def zHh (a b:ByteArray)(w:World)(na:zao a=true)(nb:zao b=true) :
  Calls prog 173 #[.string a,.string b] w (zab (zeI a b) w):=by
 have va:=zau a w (zbo na);have vb:=zau b w (zbo nb);rw[na] at va;rw[nb] at vb;have VA:=zHd va;have VB:=zHd vb;have HV:=zHd (show zeI a b=.tuple #[.string (zai (Nat.gcd (nv a) (nv b))),.int .i64 0] by unfold zeI;rw[na,nb];simp only[Bool.and_self,if_true]);have NA:=zHd na;have NB:=zHd nb;obtain⟨G,hG⟩:∃ G,Nat.gcd (nv a) (nv b)=G:=⟨_,rfl⟩;rw[hG] at HV;have HG:=zHd hG;clear va vb na nb hG;go_enter func173,ntmps173;go_wp2_with fail;refine VA.out.mono ?_;rintro e w' ⟨rfl,rfl⟩;go_wp2_with fail;refine VB.out.mono ?_;rintro e w' ⟨rfl,rfl⟩;go_wp2
 go_loopg [0,1] (nv b) (fun n x y wr=>∃ S T:ByteArray,x=.string S/\y=.string T/\zao S=true/\zao T=true/\Nat.gcd (nv S) (nv T)=G/\w.grownBy wr none/\nv T=n)
 case atStart=>exact⟨a,b,rfl,rfl,NA.out,NB.out,HG.out,zae _ _,rfl⟩
 case round =>
  obtain⟨S,T,rfl,rfl,nS,nT,hg,hgr,hn⟩:=hrel;have sf:=zem T nT
  by_cases h0:nv T=0
  ·have f1:(T.toList==[48])=true:=by rw[sf.1];simp[h0]
   have f2:(T.toList != [48])=false:=by rw[sf.2];simp[h0]
   have HS:=zHd (show S=zai G by rw[<- hg,h0,Nat.gcd_zero_right];exact(zbZ S nS).1);have HGR:=zHd hgr;clear sf nS nT hg hgr hn h0;go_wp2;go_ret2;rw[HV.out,<- HS.out];exact⟨rfl,HGR.out⟩
  have f1:(T.toList==[48])=false:=by rw[sf.1];simp[h0]
  have f2:(T.toList != [48])=true:=by rw[sf.2];simp[h0]
  have nQ:zao (zai (nv S/nv T))=true:=zCP S nS (Nat.div_le_self _ _);have nR:zao (zai (nv S%nv T))=true:=zCP S nS (Nat.mod_le _ _);have hd:=zvF S T wr (zbo nS) (zbo nT);rw[zGB S T (zai (nv S/nv T)) (zai (nv S%nv T)) nS nT nQ nR h0 (zaS _) (zaS _)] at hd;have vR:=zaS (nv S%nv T);have hgg:Nat.gcd (nv T) (nv (zai (nv S%nv T)))=G:=by rw[vR,<- hg,Nat.gcd_comm (nv S),Nat.gcd_rec (nv T) (nv S),Nat.gcd_comm]
  have hlt:nv (zai (nv S%nv T))<nv T:=by rw[vR];exact Nat.mod_lt _ (by omega)
  generalize zai (nv S/nv T)=Q at *;generalize zai (nv S%nv T)=R at *;have HN:=zHd hn;have HD:=zHd hd;have HNT:=zHd nT;have HNR:=zHd nR;have HGG:=zHd hgg;have HLT:=zHd hlt;have HGR:=zHd hgr;clear sf nS nT hg hgr hn h0 nQ nR hd vR hgg hlt;go_wp2_with fail;refine HD.out.mono ?_;rintro e w1 ⟨rfl,hg1⟩;have HG1:=zHd (zaa HGR.out hg1);clear hg1;go_wp2
  go_roundg (nv R)
  case measure=>rw[<- HN.out];exact HLT.out
  case rel=>exact⟨T,R,rfl,rfl,HNT.out,HNR.out,HGG.out,HG1.out,rfl⟩
def zHi (a b:ByteArray)(w:World)(ha:a.size<=maxLen)(hb:b.size<=maxLen) :
  Calls prog 173 #[.string a,.string b] w (zab (zeI a b) w):=by
 cases na:zao a;exact zAw a b w ha hb na;cases nb:zao b;exact zAx a b w ha hb na nb;exact zHh a b w na nb
open Go.RowKit
open Go.Lib (nDigits decDigits)
def zrX (s:ByteArray)(k:Nat)(hk:k<s.size):s.data.toList[k]?=some s[k]:=Lib.data_getElem? s k hk
def zAy (s:ByteArray)(w:World)(hs:s.size<=maxLen) :
  Calls prog 171 #[.string s,.int .u8 47] w fun e w'=>e=.returned (.int .i64 (Lib.indexByte s.data.toList 47))/\w=w':=by
 unfold maxLen at hs;go_enter func171,ntmps171;go_wp2
 go_loop [5] (fun i=>∃ k:Nat,i=.int .i64 k/\k<=s.size/\Lib.NoAny s.data.toList [47] k) (fun i=>s.size-(intOf i).toNat)
 case atStart=>exact⟨0,rfl,by omega,Lib.NoAny.zero _ _⟩
 case round =>
  obtain⟨k,rfl,hk,hno⟩:=hrel;have HNO:=zHd hno;clear hno
  by_cases hlt:k<s.size
  ·have hat:=zHd (zrX s k hlt)
   cases he:((s[k].toNat:Int)==47)
   ·have hx:¬ (s[k].toNat:Int)=47:=by simpa using he
    have hc:([47]:List UInt8).contains s[k]=false:=by
     simp only[List.contains_cons,List.contains_nil,Bool.or_false,beq_eq_false_iff_ne];intro e;rw[e] at hx;exact hx rfl
    have HS:=zHd (HNO.out.succ hat.out hc);clear hx hc;go_wp2;go_round
    case rel=>exact⟨k+1,by go_num,by omega,HS.out⟩
    case measure=>simp[intOf];omega
   have hx:(s[k].toNat:Int)=47:=by simpa using he
   have hc:([47]:List UInt8).contains s[k]=true:=by
    have:s[k]=47:=UInt8.toNat_inj.1 (by have:(47:UInt8).toNat=47:=rfl;omega);rw[this];decide
   have HS:=zHd (Lib.indexAny_hit HNO.out hat.out hc);clear hx hc;exact zQbZ
  have HS:=zHd (Lib.indexAny_none (s:=s.data.toList) (chars:=[47]) (by
   have e:k=s.data.toList.length:=(by rw[<- Lib.size_eq];omega);rw[<- e];exact HNO.out))
  exact zQbZ
def zdY (s:ByteArray):Bool:=decide (s.size<=400)&&zao s
def zjV (s:ByteArray)(w:World)(hs:s.size<=maxLen) :
  Calls prog 172 #[.string s] w fun e w'=>e=.returned (.bool (zdY s))/\w=w':=by
 have hv:=fun w=>zau s w hs
 by_cases h:s.size<=400
 ·have HN:=zHd (show zdY s=zao s by unfold zdY;simp[h])
  have h1:(s.size:Int)<=400:=by omega
  generalize zao s=b at *;have HV:=zHd hv;clear hv;go_enter func172,ntmps172;go_wp2_with fail;refine(HV.out _).mono ?_;rintro e w' ⟨rfl,rfl⟩;exact zQaA
 have HN:=zHd (show zdY s=false by unfold zdY;simp[h]);have h1:¬ (s.size:Int)<=400:=by omega
 clear hv;go_enter func172,ntmps172;exact zQaA
def zxU (A C P:ByteArray)(w:World)(M:Hid (∀ w,Calls prog 177 #[.string A,.string C] w (zab (.tuple #[.string P,.int .i64 0]) w))) :
  Calls prog 138 #[.string A,.string C] w (zab (.string P) w):=by
 go_enter func138,ntmps138;go_wp2_with fail;refine(M.out _).mono ?_;exact zQau
open Go.RowKit
open Go.Lib (nDigits decDigits)
def zcX (R:ByteArray)(z:Int):Prop:=∀ w,Calls prog 171 #[.string R,.int .u8 47] w fun e w'=>e=.returned (.int .i64 z)/\w=w'
def zbf (s:ByteArray)(b:Bool):Prop:=∀ w,Calls prog 172 #[.string s] w fun e w'=>e=.returned (.bool b)/\w=w'
def zgy (n d G:ByteArray):Prop:=∀ w,Calls prog 173 #[.string n,.string d] w (zab (.tuple #[.string G,.int .i64 0]) w)
def zrY (a R G:ByteArray)(w:World)(h0:¬ (0:Int)<(a.size:Int))(eR:a=R)
  (IX:Hid (zcX R (-1))) (S1:Hid (zbf R false)) :
  Calls prog 136 #[.string a] w (zab (.tuple #[.bool false,.string ⟨#[]⟩,.string ⟨#[]⟩,.bool false]) w):=by
 subst eR;exact zQag
def zrZ (a R G:ByteArray)(w:World)(h0:(0:Int)<(a.size:Int))(hp:0<a.size)(h1:(((a[0]'hp).toNat:Int)==45)=false)(eR:a=R)
  (IX:Hid (zcX R (-1))) (S1:Hid (zbf R false)) :
  Calls prog 136 #[.string a] w (zab (.tuple #[.bool false,.string ⟨#[]⟩,.string ⟨#[]⟩,.bool false]) w):=by
 subst eR;exact zQag
def zsa (a R G:ByteArray)(w:World)(h0:(0:Int)<(a.size:Int))(hp:0<a.size)(h1:(((a[0]'hp).toNat:Int)==45)=true)(hle:(1:Int)<=(a.size:Int))(eR:a.extract 1 a.size=R)
  (IX:Hid (zcX R (-1))) (S1:Hid (zbf R false)) :
  Calls prog 136 #[.string a] w (zab (.tuple #[.bool false,.string ⟨#[]⟩,.string ⟨#[]⟩,.bool false]) w):=by
 exact zQag
def zqB (a R G:ByteArray)(w:World)(h0:(0:Int)<(a.size:Int))(hp:0<a.size)(h1:(((a[0]'hp).toNat:Int)==45)=false)(eR:a=R)
  (IX:Hid (zcX R (-1))) (S1:Hid (zbf R true)) (S2:Hid (zbf ⟨#[49]⟩ true)) (z1:(R.toList==[48])=true) (GC:Hid (zgy R ⟨#[49]⟩ G)) (q1:(G.toList==[49])=true) (q2:(G.toList != [49])=false) :
  Calls prog 136 #[.string a] w (zab (.tuple #[.bool false,.string R,.string ⟨#[49]⟩,.bool true]) w):=by
 subst eR;exact zQab
def zqC (a R G:ByteArray)(w:World)(h0:(0:Int)<(a.size:Int))(hp:0<a.size)(h1:(((a[0]'hp).toNat:Int)==45)=false)(eR:a=R)
  (IX:Hid (zcX R (-1))) (S1:Hid (zbf R true)) (S2:Hid (zbf ⟨#[49]⟩ true)) (z1:(R.toList==[48])=false) (GC:Hid (zgy R ⟨#[49]⟩ G)) (q1:(G.toList==[49])=true) (q2:(G.toList != [49])=false) :
  Calls prog 136 #[.string a] w (zab (.tuple #[.bool false,.string R,.string ⟨#[49]⟩,.bool true]) w):=by
 subst eR;exact zQab
def zsb (a R G:ByteArray)(w:World)(h0:(0:Int)<(a.size:Int))(hp:0<a.size)(h1:(((a[0]'hp).toNat:Int)==45)=true)(hle:(1:Int)<=(a.size:Int))(eR:a.extract 1 a.size=R)
  (IX:Hid (zcX R (-1))) (S1:Hid (zbf R true)) (S2:Hid (zbf ⟨#[49]⟩ true)) (z1:(R.toList==[48])=true) :
  Calls prog 136 #[.string a] w (zab (.tuple #[.bool false,.string ⟨#[]⟩,.string ⟨#[]⟩,.bool false]) w):=by
 exact zQaa
def zqD (a R G:ByteArray)(w:World)(h0:(0:Int)<(a.size:Int))(hp:0<a.size)(h1:(((a[0]'hp).toNat:Int)==45)=true)(hle:(1:Int)<=(a.size:Int))(eR:a.extract 1 a.size=R)
  (IX:Hid (zcX R (-1))) (S1:Hid (zbf R true)) (S2:Hid (zbf ⟨#[49]⟩ true)) (z1:(R.toList==[48])=false) (GC:Hid (zgy R ⟨#[49]⟩ G)) (q1:(G.toList==[49])=true) (q2:(G.toList != [49])=false) :
  Calls prog 136 #[.string a] w (zab (.tuple #[.bool true,.string R,.string ⟨#[49]⟩,.bool true]) w):=by
 exact zQab
def zsc (a R n d G:ByteArray)(i:Nat)(w:World)(h0:(0:Int)<(a.size:Int))(hp:0<a.size)(h1:(((a[0]'hp).toNat:Int)==45)=false)(eR:a=R)
  (hi:i<R.size) (hR:R.size<=9223372036854775807) (IX:Hid (zcX R i)) (eN:R.extract 0 i=n) (eD:R.extract (i+1) R.size=d) (S1:Hid (zbf n false)) :
  Calls prog 136 #[.string a] w (zab (.tuple #[.bool false,.string ⟨#[]⟩,.string ⟨#[]⟩,.bool false]) w):=by
 have c1:(0:Int)<=(i:Int):=by omega
 have c2:(i:Int)<=(R.size:Int):=by omega
 have c3:(0:Int)<=(i:Int)+1:=by omega
 have c4:(i:Int)+1<=(R.size:Int):=by omega
 subst eR;exact zQag
def zsd (a R n d G:ByteArray)(i:Nat)(w:World)(h0:(0:Int)<(a.size:Int))(hp:0<a.size)(h1:(((a[0]'hp).toNat:Int)==45)=false)(eR:a=R)
  (hi:i<R.size) (hR:R.size<=9223372036854775807) (IX:Hid (zcX R i)) (eN:R.extract 0 i=n) (eD:R.extract (i+1) R.size=d) (S1:Hid (zbf n true)) (S2:Hid (zbf d false)) :
  Calls prog 136 #[.string a] w (zab (.tuple #[.bool false,.string ⟨#[]⟩,.string ⟨#[]⟩,.bool false]) w):=by
 have c1:(0:Int)<=(i:Int):=by omega
 have c2:(i:Int)<=(R.size:Int):=by omega
 have c3:(0:Int)<=(i:Int)+1:=by omega
 have c4:(i:Int)+1<=(R.size:Int):=by omega
 subst eR;exact zQaa
def zse (a R n d G:ByteArray)(i:Nat)(w:World)(h0:(0:Int)<(a.size:Int))(hp:0<a.size)(h1:(((a[0]'hp).toNat:Int)==45)=false)(eR:a=R)
  (hi:i<R.size) (hR:R.size<=9223372036854775807) (IX:Hid (zcX R i)) (eN:R.extract 0 i=n) (eD:R.extract (i+1) R.size=d) (S1:Hid (zbf n true)) (S2:Hid (zbf d true)) (z2:(d.toList==[48])=true) :
  Calls prog 136 #[.string a] w (zab (.tuple #[.bool false,.string ⟨#[]⟩,.string ⟨#[]⟩,.bool false]) w):=by
 have c1:(0:Int)<=(i:Int):=by omega
 have c2:(i:Int)<=(R.size:Int):=by omega
 have c3:(0:Int)<=(i:Int)+1:=by omega
 have c4:(i:Int)+1<=(R.size:Int):=by omega
 subst eR;exact zQaa
def zsf (a R n d G:ByteArray)(i:Nat)(w:World)(h0:(0:Int)<(a.size:Int))(hp:0<a.size)(h1:(((a[0]'hp).toNat:Int)==45)=false)(eR:a=R)
  (hi:i<R.size) (hR:R.size<=9223372036854775807) (IX:Hid (zcX R i)) (eN:R.extract 0 i=n) (eD:R.extract (i+1) R.size=d) (S1:Hid (zbf n true)) (S2:Hid (zbf d true)) (z2:(d.toList==[48])=false) (z1:(n.toList==[48])=true) :
  Calls prog 136 #[.string a] w (zab (.tuple #[.bool false,.string ⟨#[]⟩,.string ⟨#[]⟩,.bool false]) w):=by
 have c1:(0:Int)<=(i:Int):=by omega
 have c2:(i:Int)<=(R.size:Int):=by omega
 have c3:(0:Int)<=(i:Int)+1:=by omega
 have c4:(i:Int)+1<=(R.size:Int):=by omega
 subst eR;exact zQaa
def zsg (a R n d G:ByteArray)(i:Nat)(w:World)(h0:(0:Int)<(a.size:Int))(hp:0<a.size)(h1:(((a[0]'hp).toNat:Int)==45)=false)(eR:a=R)
  (hi:i<R.size) (hR:R.size<=9223372036854775807) (IX:Hid (zcX R i)) (eN:R.extract 0 i=n) (eD:R.extract (i+1) R.size=d) (S1:Hid (zbf n true)) (S2:Hid (zbf d true)) (z2:(d.toList==[48])=false) (z1:(n.toList==[48])=false) (o2:(d.toList==[49])=true) :
  Calls prog 136 #[.string a] w (zab (.tuple #[.bool false,.string ⟨#[]⟩,.string ⟨#[]⟩,.bool false]) w):=by
 have c1:(0:Int)<=(i:Int):=by omega
 have c2:(i:Int)<=(R.size:Int):=by omega
 have c3:(0:Int)<=(i:Int)+1:=by omega
 have c4:(i:Int)+1<=(R.size:Int):=by omega
 subst eR;exact zQaa
def zsh (a R n d G:ByteArray)(i:Nat)(w:World)(h0:(0:Int)<(a.size:Int))(hp:0<a.size)(h1:(((a[0]'hp).toNat:Int)==45)=false)(eR:a=R)
  (hi:i<R.size) (hR:R.size<=9223372036854775807) (IX:Hid (zcX R i)) (eN:R.extract 0 i=n) (eD:R.extract (i+1) R.size=d) (S1:Hid (zbf n true)) (S2:Hid (zbf d true)) (z2:(d.toList==[48])=false) (z1:(n.toList==[48])=false) (o2:(d.toList==[49])=false) (o3:(d.toList != [49])=true) (GC:Hid (zgy n d G)) (q1:(G.toList==[49])=false) (q2:(G.toList != [49])=true) :
  Calls prog 136 #[.string a] w (zab (.tuple #[.bool false,.string ⟨#[]⟩,.string ⟨#[]⟩,.bool false]) w):=by
 have c1:(0:Int)<=(i:Int):=by omega
 have c2:(i:Int)<=(R.size:Int):=by omega
 have c3:(0:Int)<=(i:Int)+1:=by omega
 have c4:(i:Int)+1<=(R.size:Int):=by omega
 subst eR;exact zQab
def zsi (a R n d G:ByteArray)(i:Nat)(w:World)(h0:(0:Int)<(a.size:Int))(hp:0<a.size)(h1:(((a[0]'hp).toNat:Int)==45)=false)(eR:a=R)
  (hi:i<R.size) (hR:R.size<=9223372036854775807) (IX:Hid (zcX R i)) (eN:R.extract 0 i=n) (eD:R.extract (i+1) R.size=d) (S1:Hid (zbf n true)) (S2:Hid (zbf d true)) (z2:(d.toList==[48])=false) (z1:(n.toList==[48])=false) (o2:(d.toList==[49])=false) (o3:(d.toList != [49])=true) (GC:Hid (zgy n d G)) (q1:(G.toList==[49])=true) (q2:(G.toList != [49])=false) :
  Calls prog 136 #[.string a] w (zab (.tuple #[.bool false,.string n,.string d,.bool true]) w):=by
 have c1:(0:Int)<=(i:Int):=by omega
 have c2:(i:Int)<=(R.size:Int):=by omega
 have c3:(0:Int)<=(i:Int)+1:=by omega
 have c4:(i:Int)+1<=(R.size:Int):=by omega
 subst eR;exact zQab
def zsj (a R n d G:ByteArray)(i:Nat)(w:World)(h0:(0:Int)<(a.size:Int))(hp:0<a.size)(h1:(((a[0]'hp).toNat:Int)==45)=true)(hle:(1:Int)<=(a.size:Int))(eR:a.extract 1 a.size=R)
  (hi:i<R.size) (hR:R.size<=9223372036854775807) (IX:Hid (zcX R i)) (eN:R.extract 0 i=n) (eD:R.extract (i+1) R.size=d) (S1:Hid (zbf n false)) :
  Calls prog 136 #[.string a] w (zab (.tuple #[.bool false,.string ⟨#[]⟩,.string ⟨#[]⟩,.bool false]) w):=by
 have c1:(0:Int)<=(i:Int):=by omega
 have c2:(i:Int)<=(R.size:Int):=by omega
 have c3:(0:Int)<=(i:Int)+1:=by omega
 have c4:(i:Int)+1<=(R.size:Int):=by omega
 exact zQag
def zsk (a R n d G:ByteArray)(i:Nat)(w:World)(h0:(0:Int)<(a.size:Int))(hp:0<a.size)(h1:(((a[0]'hp).toNat:Int)==45)=true)(hle:(1:Int)<=(a.size:Int))(eR:a.extract 1 a.size=R)
  (hi:i<R.size) (hR:R.size<=9223372036854775807) (IX:Hid (zcX R i)) (eN:R.extract 0 i=n) (eD:R.extract (i+1) R.size=d) (S1:Hid (zbf n true)) (S2:Hid (zbf d false)) :
  Calls prog 136 #[.string a] w (zab (.tuple #[.bool false,.string ⟨#[]⟩,.string ⟨#[]⟩,.bool false]) w):=by
 have c1:(0:Int)<=(i:Int):=by omega
 have c2:(i:Int)<=(R.size:Int):=by omega
 have c3:(0:Int)<=(i:Int)+1:=by omega
 have c4:(i:Int)+1<=(R.size:Int):=by omega
 exact zQaa
def zsl (a R n d G:ByteArray)(i:Nat)(w:World)(h0:(0:Int)<(a.size:Int))(hp:0<a.size)(h1:(((a[0]'hp).toNat:Int)==45)=true)(hle:(1:Int)<=(a.size:Int))(eR:a.extract 1 a.size=R)
  (hi:i<R.size) (hR:R.size<=9223372036854775807) (IX:Hid (zcX R i)) (eN:R.extract 0 i=n) (eD:R.extract (i+1) R.size=d) (S1:Hid (zbf n true)) (S2:Hid (zbf d true)) (z2:(d.toList==[48])=true) :
  Calls prog 136 #[.string a] w (zab (.tuple #[.bool false,.string ⟨#[]⟩,.string ⟨#[]⟩,.bool false]) w):=by
 have c1:(0:Int)<=(i:Int):=by omega
 have c2:(i:Int)<=(R.size:Int):=by omega
 have c3:(0:Int)<=(i:Int)+1:=by omega
 have c4:(i:Int)+1<=(R.size:Int):=by omega
 exact zQaa
def zsm (a R n d G:ByteArray)(i:Nat)(w:World)(h0:(0:Int)<(a.size:Int))(hp:0<a.size)(h1:(((a[0]'hp).toNat:Int)==45)=true)(hle:(1:Int)<=(a.size:Int))(eR:a.extract 1 a.size=R)
  (hi:i<R.size) (hR:R.size<=9223372036854775807) (IX:Hid (zcX R i)) (eN:R.extract 0 i=n) (eD:R.extract (i+1) R.size=d) (S1:Hid (zbf n true)) (S2:Hid (zbf d true)) (z2:(d.toList==[48])=false) (z1:(n.toList==[48])=true) :
  Calls prog 136 #[.string a] w (zab (.tuple #[.bool false,.string ⟨#[]⟩,.string ⟨#[]⟩,.bool false]) w):=by
 have c1:(0:Int)<=(i:Int):=by omega
 have c2:(i:Int)<=(R.size:Int):=by omega
 have c3:(0:Int)<=(i:Int)+1:=by omega
 have c4:(i:Int)+1<=(R.size:Int):=by omega
 exact zQaa
def zsn (a R n d G:ByteArray)(i:Nat)(w:World)(h0:(0:Int)<(a.size:Int))(hp:0<a.size)(h1:(((a[0]'hp).toNat:Int)==45)=true)(hle:(1:Int)<=(a.size:Int))(eR:a.extract 1 a.size=R)
  (hi:i<R.size) (hR:R.size<=9223372036854775807) (IX:Hid (zcX R i)) (eN:R.extract 0 i=n) (eD:R.extract (i+1) R.size=d) (S1:Hid (zbf n true)) (S2:Hid (zbf d true)) (z2:(d.toList==[48])=false) (z1:(n.toList==[48])=false) (o2:(d.toList==[49])=true) :
  Calls prog 136 #[.string a] w (zab (.tuple #[.bool false,.string ⟨#[]⟩,.string ⟨#[]⟩,.bool false]) w):=by
 have c1:(0:Int)<=(i:Int):=by omega
 have c2:(i:Int)<=(R.size:Int):=by omega
 have c3:(0:Int)<=(i:Int)+1:=by omega
 have c4:(i:Int)+1<=(R.size:Int):=by omega
 exact zQaa
def zso (a R n d G:ByteArray)(i:Nat)(w:World)(h0:(0:Int)<(a.size:Int))(hp:0<a.size)(h1:(((a[0]'hp).toNat:Int)==45)=true)(hle:(1:Int)<=(a.size:Int))(eR:a.extract 1 a.size=R)
  (hi:i<R.size) (hR:R.size<=9223372036854775807) (IX:Hid (zcX R i)) (eN:R.extract 0 i=n) (eD:R.extract (i+1) R.size=d) (S1:Hid (zbf n true)) (S2:Hid (zbf d true)) (z2:(d.toList==[48])=false) (z1:(n.toList==[48])=false) (o2:(d.toList==[49])=false) (o3:(d.toList != [49])=true) (GC:Hid (zgy n d G)) (q1:(G.toList==[49])=false) (q2:(G.toList != [49])=true) :
  Calls prog 136 #[.string a] w (zab (.tuple #[.bool false,.string ⟨#[]⟩,.string ⟨#[]⟩,.bool false]) w):=by
 have c1:(0:Int)<=(i:Int):=by omega
 have c2:(i:Int)<=(R.size:Int):=by omega
 have c3:(0:Int)<=(i:Int)+1:=by omega
 have c4:(i:Int)+1<=(R.size:Int):=by omega
 exact zQab
def zsp (a R n d G:ByteArray)(i:Nat)(w:World)(h0:(0:Int)<(a.size:Int))(hp:0<a.size)(h1:(((a[0]'hp).toNat:Int)==45)=true)(hle:(1:Int)<=(a.size:Int))(eR:a.extract 1 a.size=R)
  (hi:i<R.size) (hR:R.size<=9223372036854775807) (IX:Hid (zcX R i)) (eN:R.extract 0 i=n) (eD:R.extract (i+1) R.size=d) (S1:Hid (zbf n true)) (S2:Hid (zbf d true)) (z2:(d.toList==[48])=false) (z1:(n.toList==[48])=false) (o2:(d.toList==[49])=false) (o3:(d.toList != [49])=true) (GC:Hid (zgy n d G)) (q1:(G.toList==[49])=true) (q2:(G.toList != [49])=false) :
  Calls prog 136 #[.string a] w (zab (.tuple #[.bool true,.string n,.string d,.bool true]) w):=by
 have c1:(0:Int)<=(i:Int):=by omega
 have c2:(i:Int)<=(R.size:Int):=by omega
 have c3:(0:Int)<=(i:Int)+1:=by omega
 have c4:(i:Int)+1<=(R.size:Int):=by omega
 exact zQab
open Go.RowKit
open Go.Lib (nDigits decDigits)
def zDv (b:ByteArray)(h:zao b=true):(b.toList==[49])=decide (nv b=1)/\(b.toList != [49]) = !decide (nv b=1):=by
 have e:=(zbZ b h).1;have:=zgJ (nv b);rw[<- e] at this;exact this
def zDw (a:ByteArray):(a.extract 1 a.size).data.toList=a.data.toList.drop 1:=by
 rw[ByteArray.data_extract,Array.toList_extract,List.extract_eq_take_drop,zqaf];rw[List.length_drop,Lib.size_eq];exact zqab _
def zqE (a:ByteArray)(h:∀ (hp:0<a.size),a[0]≠45):zcL a=false/\zcW a=a.data.toList:=by
 have e:zcL a=false:=by
  unfold zcL Lib.hasPrefix;cases hd:a.data.toList with
  | nil=>rfl
  | cons c r =>
   have hp:0<a.size:=by rw[Lib.size_eq,hd];simp
   have h0:=zrX a 0 hp;rw[hd] at h0;have:c=a[0]:=by simpa using h0
   simp only[List.isPrefixOf_cons_cons,Bool.and_eq_false_iff];left;rw[beq_eq_false_iff_ne];intro k;exact h hp (by rw[<- this,<- k])
 refine⟨e,?_⟩;unfold zcW Lib.trimPrefix;unfold zcL at e;rw[e];simp
def zxV (a:ByteArray)(hp:0<a.size)(h:a[0]=45):zcL a=true/\zcW a=(a.extract 1 a.size).data.toList:=by
 have e:zcL a=true:=by
  unfold zcL Lib.hasPrefix;have h0:=zrX a 0 hp;cases hd:a.data.toList with
  | nil=>rw[hd] at h0;simp at h0
  | cons c r =>
   rw[hd] at h0;have:c=a[0]:=by simpa using h0
   rw[this,h];rfl
 refine⟨e,?_⟩;rw[zDw];unfold zcW Lib.trimPrefix;unfold zcL at e;rw[e];simp
def zDx (s:ByteArray):(⟨s.data.toList.toArray⟩:ByteArray)=s:=by
 apply ByteArray.ext;apply Array.ext';simp
def zxW (a R:ByteArray)(hr:zcW a=R.data.toList)(h:Lib.indexByte R.data.toList 47 = -1):zdd a=false/\zcM a=R/\zcy a=⟨#[49]⟩:=by
 have hc:Lib.cut (zcW a) [47]=(R.data.toList,[],false):=by
  rw[hr];unfold Lib.cut;rw[Lib.index_one,h];rfl
 refine⟨by unfold zdd;rw[hc],?_,by unfold zcy zdd;rw[hc];rfl⟩;unfold zcM;rw[hc]
def zxX (a R:ByteArray)(i:Nat)(hr:zcW a=R.data.toList)(h:Lib.indexByte R.data.toList 47=i):zdd a=true/\zcM a=R.extract 0 i/\zcy a=R.extract (i+1) R.size:=by
 have hc:Lib.cut (zcW a) [47]=(R.data.toList.take i,R.data.toList.drop (i+1),true):=by
  rw[hr];unfold Lib.cut;rw[Lib.index_one,h,if_pos (by omega)];simp
 have e1:=zvy R.data.toList i;have e2:=extract_drop R.data.toList (i+1);rw[zDx] at e1 e2;refine⟨by unfold zdd;rw[hc],?_,?_⟩;unfold zcM;rw[hc];exact e1.symm;unfold zcy zdd tailA;rw[hc];exact e2.symm
def index_room (s:List UInt8):Lib.indexByte s 47 = -1∨∃ i:Nat,Lib.indexByte s 47=i/\i<s.length:=by
 rw[<- Lib.indexAny_one];rcases zxS s [47] with⟨h,_⟩|⟨i,c,h1,h2,_⟩
 exact .inl h;exact .inr ⟨i,h1,(zqae.1 h2).1⟩
def zqF (a:ByteArray)(w:World)(e:Ending)(w':World):Prop :=
 ((zeF a/\e=.returned (.tuple #[.bool (zcL a),.string (zcM a),.string (zcy a),.bool true]))∨(¬ zeF a/\e=.returned zej))/\w.grownBy w' none
def zio {a:ByteArray}{w:World}(h:¬ zeF a){e:Ending}{w':World}(k:zab zej w e w'):zqF a w e w':=⟨.inr ⟨h,k.1⟩,k.2⟩
def zJk {a:ByteArray}{w:World}(h:zeF a){e:Ending}{w':World}(k:zab (.tuple #[.bool (zcL a),.string (zcM a),.string (zcy a),.bool true]) w e w'):zqF a w e w':=⟨.inl ⟨h,k.1⟩,k.2⟩
def zpf {a:ByteArray}(h:zeF a):zdY (zcM a)=true/\zdY (zcy a)=true:=by
 unfold zdY;rw[h.n,h.d];have:=h.sn;have:=h.sd;simp[*]
def zpg {s:ByteArray}(h:zdY s=true):s.size<=400/\zao s=true:=by
 unfold zdY at h;simpa using h
def zHj (n d:ByteArray)(hn:zao n=true)(hd:zao d=true):zgy n d (zai (Nat.gcd (nv n) (nv d))):=fun w=>by
 have:=zHi n d w (zbo hn) (zbo hd);unfold zeI at this;rw[hn,hd] at this;exact this
def zvG (k:Nat):((zai k).toList==[49])=decide (k=1)/\((zai k).toList != [49]) = !decide (k=1):=zgJ k
def zlv (a R:ByteArray)(N:Bool)(w:World)(hN:zcL a=N)(hr:zcW a=R.data.toList)(hR:R.size<=maxLen)(hz:Lib.indexByte R.data.toList 47 = -1)
  (B:zbf R false->∀ w,Calls prog 136 #[.string a] w (zab zej w))
  (Z:N=true->zbf R true->(R.toList==[48])=true->∀ w,Calls prog 136 #[.string a] w (zab zej w))
  (K:∀ z G,zdY R=true->zbf R true->(R.toList==[48])=z->(N=true->z=false)->zgy R ⟨#[49]⟩ G->(G.toList==[49])=true->(G.toList != [49])=false->∀ w,Calls prog 136 #[.string a] w (zab (.tuple #[.bool N,.string R,.string ⟨#[49]⟩,.bool true]) w)) :
  Calls prog 136 #[.string a] w (zqF a w):=by
 obtain⟨e1,e2,e3⟩:=zxW a R hr hz;have S:=fun w=>zjV R w hR;cases hs:zdY R
 ·rw[hs] at S
  refine(B S w).mono fun e w' k=>zio (fun h=>?_) k;have:=(zpf h).1;rw[e2,hs] at this;cases this
 rw[hs] at S;obtain⟨h4,hn⟩:=zpg hs;have hzf:=(zem R hn).1
 by_cases hb:N=true/\nv R=0
 ·refine(Z hb.1 S (by rw[hzf];simpa using hb.2) w).mono fun e w' k=>zio (fun h=>?_) k
  have:=(h.z (by rw[e2];exact hb.2)).1;rw[hN,hb.1] at this;cases this
 have G:=zHj R ⟨#[49]⟩ hn (by decide +kernel);have hg:Nat.gcd (nv R) (nv ⟨#[49]⟩)=1:=by rw[show nv ⟨#[49]⟩=1 by decide +kernel,Nat.gcd_one_right]
 rw[hg] at G;have f:=zvG 1;refine(K _ _ hs S rfl (fun hN1=>by rw[hzf];simpa using fun h0=>hb ⟨hN1,h0⟩) G (by simpa using f.1) (by simpa using f.2) w).mono fun e w' k=>?_
 have P:zeF a:=by
  refine⟨by rw[e2];exact hn,by rw[e3];decide +kernel,by rw[e2];exact h4,by rw[e3];decide,by rw[e3];decide +kernel,?_,?_,?_⟩
  ·rw[e2,hN,e1]
   intro h0;refine⟨?_,rfl⟩;cases N;rfl;exact absurd ⟨rfl,h0⟩ hb
  ·intro _;exact e1
  rw[e3];exact .inr (by decide +kernel)
 exact zJk P (by rw[hN,e2,e3];exact k)
def zoI (a R:ByteArray)(N:Bool)(i:Nat)(w:World)(hN:zcL a=N)(hr:zcW a=R.data.toList)(hR:R.size<=maxLen)(hz:Lib.indexByte R.data.toList 47=i)(hi:i<R.size)
  (B0:∀ n d,R.extract 0 i=n->R.extract (i+1) R.size=d->zbf n false->∀ w,Calls prog 136 #[.string a] w (zab zej w))
  (B1:∀ n d,R.extract 0 i=n->R.extract (i+1) R.size=d->zbf n true->zbf d false->∀ w,Calls prog 136 #[.string a] w (zab zej w))
  (B2:∀ n d,R.extract 0 i=n->R.extract (i+1) R.size=d->zbf n true->zbf d true->(d.toList==[48])=true->∀ w,Calls prog 136 #[.string a] w (zab zej w))
  (B3:∀ n d,R.extract 0 i=n->R.extract (i+1) R.size=d->zbf n true->zbf d true->(d.toList==[48])=false->(n.toList==[48])=true->∀ w,Calls prog 136 #[.string a] w (zab zej w))
  (B4:∀ n d,R.extract 0 i=n->R.extract (i+1) R.size=d->zbf n true->zbf d true->(d.toList==[48])=false->(n.toList==[48])=false->(d.toList==[49])=true->∀ w,Calls prog 136 #[.string a] w (zab zej w))
  (B5:∀ n d G,R.extract 0 i=n->R.extract (i+1) R.size=d->zbf n true->zbf d true->(d.toList==[48])=false->(n.toList==[48])=false->(d.toList==[49])=false->(d.toList != [49])=true->zgy n d G->(G.toList==[49])=false->(G.toList != [49])=true->∀ w,Calls prog 136 #[.string a] w (zab zej w))
  (K:∀ n d G,R.extract 0 i=n->R.extract (i+1) R.size=d->zbf n true->zbf d true->(d.toList==[48])=false->(n.toList==[48])=false->(d.toList==[49])=false->(d.toList != [49])=true->zgy n d G->(G.toList==[49])=true->(G.toList != [49])=false->∀ w,Calls prog 136 #[.string a] w (zab (.tuple #[.bool N,.string n,.string d,.bool true]) w)) :
  Calls prog 136 #[.string a] w (zqF a w):=by
 obtain⟨e1,e2,e3⟩:=zxX a R i hr hz;have l1:(R.extract 0 i).size<=maxLen:=by rw[ByteArray.size_extract];omega
 have l2:(R.extract (i+1) R.size).size<=maxLen:=by rw[ByteArray.size_extract];omega
 have S1:=fun w=>zjV _ w l1;have S2:=fun w=>zjV _ w l2;obtain⟨n,en⟩:∃ n,R.extract 0 i=n:=⟨_,rfl⟩;obtain⟨d,ed⟩:∃ d,R.extract (i+1) R.size=d:=⟨_,rfl⟩;rw[en] at S1 e2;rw[ed] at S2 e3;cases hs1:zdY n
 ·rw[hs1] at S1
  refine(B0 n d en ed S1 w).mono fun e w' k=>zio (fun h=>?_) k;have:=(zpf h).1;rw[e2,hs1] at this;cases this
 rw[hs1] at S1;cases hs2:zdY d
 ·rw[hs2] at S2
  refine(B1 n d en ed S1 S2 w).mono fun e w' k=>zio (fun h=>?_) k;have:=(zpf h).2;rw[e3,hs2] at this;cases this
 rw[hs2] at S2;obtain⟨n4,nn⟩:=zpg hs1;obtain⟨d4,nd⟩:=zpg hs2;have zn:=(zem n nn).1;have zd:=(zem d nd).1;obtain⟨od,od'⟩:=zDv d nd
 by_cases h0:nv d=0
 ·refine(B2 n d en ed S1 S2 (by rw[zd];simpa using h0) w).mono fun e w' k=>zio (fun h=>?_) k
  exact h.d0 (by rw[e3];exact h0)
 by_cases h1:nv n=0
 ·refine(B3 n d en ed S1 S2 (by rw[zd];simpa using h0) (by rw[zn];simpa using h1) w).mono fun e w' k=>zio (fun h=>?_) k
  have:=(h.z (by rw[e2];exact h1)).2;rw[e1] at this;cases this
 by_cases h2:nv d=1
 ·refine(B4 n d en ed S1 S2 (by rw[zd];simpa using h0) (by rw[zn];simpa using h1) (by rw[od];simpa using h2) w).mono fun e w' k=>zio (fun h=>?_) k
  have:=h.one (by rw[e3];exact h2);rw[e1] at this;cases this
 have G:=zHj n d nn nd;have f:=zvG (Nat.gcd (nv n) (nv d))
 by_cases h3:Nat.gcd (nv n) (nv d)=1
 ·refine(K n d _ en ed S1 S2 (by rw[zd];simpa using h0) (by rw[zn];simpa using h1) (by rw[od];simpa using h2) (by rw[od'];simpa using h2) G (by rw[f.1];simpa using h3) (by rw[f.2];simpa using h3) w).mono fun e w' k=>?_
  have P:zeF a:=by
   refine⟨by rw[e2];exact nn,by rw[e3];exact nd,by rw[e2];exact n4,by rw[e3];exact d4,by rw[e3];exact h0,?_,?_,?_⟩;rw[e2];intro h;exact absurd h h1;rw[e3];intro h;exact absurd h h2;rw[e2,e3];exact .inl h3
  exact zJk P (by rw[hN,e2,e3];exact k)
 refine(B5 n d _ en ed S1 S2 (by rw[zd];simpa using h0) (by rw[zn];simpa using h1) (by rw[od];simpa using h2) (by rw[od'];simpa using h2) G (by rw[f.1];simpa using h3) (by rw[f.2];simpa using h3) w).mono fun e w' k=>zio (fun h=>?_) k;have:=h.gcd;rw[e2,e3] at this;exact h3 this
def zqG (a:ByteArray)(w:World)(ha:a.size<=maxLen):Calls prog 136 #[.string a] w (zqF a w):=by
 have hm:=ha;unfold maxLen at hm;have one:zbf ⟨#[49]⟩ true:=fun w=>by have:=zjV ⟨#[49]⟩ w (by decide);rw[show zdY ⟨#[49]⟩=true by decide +kernel] at this;exact this
 have ix:∀ (R:ByteArray) (z:Int),R.size<=maxLen->Lib.indexByte R.data.toList 47=z->zcX R z:=fun R z h e w=>by rw[<- e];exact zAy R w h
 by_cases hp:0<a.size
 ·cases h45:(((a[0]'hp).toNat:Int)==45)
  ·have hne:a[0]≠45:=by intro e;rw[e] at h45;exact absurd h45 (by decide)
   obtain⟨hN,hr⟩:=zqE a (fun _=>hne);rcases index_room a.data.toList with hz|⟨i,hz,hi⟩
   ·have I:=zHd (ix a _ ha hz)
    refine zlv a a false w hN hr ha hz ?_ ?_ ?_;exact fun S w=>zrZ a a ⟨#[]⟩ w (by omega) hp h45 rfl I (zHd S)
    ·intro h;cases h
    intro z G _ S hzz _ GC q1 q2 w;cases z;exact zqC a a G w (by omega) hp h45 rfl I (zHd S) (zHd one) hzz (zHd GC) q1 q2;exact zqB a a G w (by omega) hp h45 rfl I (zHd S) (zHd one) hzz (zHd GC) q1 q2
   have I:=zHd (ix a _ ha hz);have hi':i<a.size:=(by rw[Lib.size_eq];exact hi);refine zoI a a false i w hN hr ha hz hi' ?_ ?_ ?_ ?_ ?_ ?_ ?_;exact fun n d en ed S1 w=>zsc a a n d ⟨#[]⟩ i w (by omega) hp h45 rfl hi' hm I en ed (zHd S1);exact fun n d en ed S1 S2 w=>zsd a a n d ⟨#[]⟩ i w (by omega) hp h45 rfl hi' hm I en ed (zHd S1) (zHd S2);exact fun n d en ed S1 S2 f w=>zse a a n d ⟨#[]⟩ i w (by omega) hp h45 rfl hi' hm I en ed (zHd S1) (zHd S2) f;exact fun n d en ed S1 S2 f g w=>zsf a a n d ⟨#[]⟩ i w (by omega) hp h45 rfl hi' hm I en ed (zHd S1) (zHd S2) f g;exact fun n d en ed S1 S2 f g h w=>zsg a a n d ⟨#[]⟩ i w (by omega) hp h45 rfl hi' hm I en ed (zHd S1) (zHd S2) f g h;exact fun n d G en ed S1 S2 f g h h' GC q1 q2 w=>zsh a a n d G i w (by omega) hp h45 rfl hi' hm I en ed (zHd S1) (zHd S2) f g h h' (zHd GC) q1 q2;exact fun n d G en ed S1 S2 f g h h' GC q1 q2 w=>zsi a a n d G i w (by omega) hp h45 rfl hi' hm I en ed (zHd S1) (zHd S2) f g h h' (zHd GC) q1 q2
  have he:a[0]=45:=UInt8.toNat_inj.1 (by
   have h2:((a[0]'hp).toNat:Int)=45:=(by simpa using h45);have:(45:UInt8).toNat=45:=rfl;omega)
  obtain⟨hN,hr⟩:=zxV a hp he;obtain⟨R,eR⟩:∃ R,a.extract 1 a.size=R:=⟨_,rfl⟩;have hR:R.size<=maxLen:=by rw[<- eR,ByteArray.size_extract];omega
  have hmR:=hR;unfold maxLen at hmR;rw[eR] at hr;rcases index_room R.data.toList with hz|⟨i,hz,hi⟩
  ·have I:=zHd (ix R _ hR hz)
   refine zlv a R true w hN hr hR hz ?_ ?_ ?_;exact fun S w=>zsa a R ⟨#[]⟩ w (by omega) hp h45 (by omega) eR I (zHd S);exact fun _ S z w=>zsb a R ⟨#[]⟩ w (by omega) hp h45 (by omega) eR I (zHd S) (zHd one) z;intro z G _ S hzz hzn GC q1 q2 w;have:=hzn rfl;subst this;exact zqD a R G w (by omega) hp h45 (by omega) eR I (zHd S) (zHd one) hzz (zHd GC) q1 q2
  have I:=zHd (ix R _ hR hz);have hi':i<R.size:=(by rw[Lib.size_eq];exact hi);refine zoI a R true i w hN hr hR hz hi' ?_ ?_ ?_ ?_ ?_ ?_ ?_;exact fun n d en ed S1 w=>zsj a R n d ⟨#[]⟩ i w (by omega) hp h45 (by omega) eR hi' hmR I en ed (zHd S1);exact fun n d en ed S1 S2 w=>zsk a R n d ⟨#[]⟩ i w (by omega) hp h45 (by omega) eR hi' hmR I en ed (zHd S1) (zHd S2);exact fun n d en ed S1 S2 f w=>zsl a R n d ⟨#[]⟩ i w (by omega) hp h45 (by omega) eR hi' hmR I en ed (zHd S1) (zHd S2) f;exact fun n d en ed S1 S2 f g w=>zsm a R n d ⟨#[]⟩ i w (by omega) hp h45 (by omega) eR hi' hmR I en ed (zHd S1) (zHd S2) f g;exact fun n d en ed S1 S2 f g h w=>zsn a R n d ⟨#[]⟩ i w (by omega) hp h45 (by omega) eR hi' hmR I en ed (zHd S1) (zHd S2) f g h;exact fun n d G en ed S1 S2 f g h h' GC q1 q2 w=>zso a R n d G i w (by omega) hp h45 (by omega) eR hi' hmR I en ed (zHd S1) (zHd S2) f g h h' (zHd GC) q1 q2;exact fun n d G en ed S1 S2 f g h h' GC q1 q2 w=>zsp a R n d G i w (by omega) hp h45 (by omega) eR hi' hmR I en ed (zHd S1) (zHd S2) f g h h' (zHd GC) q1 q2
 have h0:a.size=0:=by omega
 obtain⟨hN,hr⟩:=zqE a (fun h=>absurd h hp)
 have e0:a=⟨#[]⟩:=by
  cases a with
  | mk d=>congr 1;exact Array.eq_empty_of_size_eq_zero h0
 have hz:Lib.indexByte a.data.toList 47 = -1:=by rw[e0];rfl
 have I:=zHd (ix a _ ha hz);refine zlv a a false w hN hr ha hz ?_ ?_ ?_;exact fun S w=>zrY a a ⟨#[]⟩ w (by omega) rfl I (zHd S)
 ·intro h;cases h
 intro z G hs _ _ _ _ _ _ w;rw[e0] at hs;exact absurd hs (by decide +kernel)
def zAz {a:ByteArray}{x:Rat}(h:zaA a x)(w:World):Calls prog 136 #[.string a] w (zab (zDl x) w):=by
 refine(zqG a w (zkO h)).mono ?_;rintro e w' ⟨⟨_,k⟩|⟨k,_⟩,hg⟩
 ·obtain⟨p1,p2,p3,_⟩:=apart a x h.eq
  rw[p1,p2,p3] at k;exact⟨k,hg⟩
 exact absurd (zmt h) k
def zDy {a:ByteArray}(h:zeo a)(ha:a.size<=maxLen)(w:World):Calls prog 136 #[.string a] w (zab zej w):=by
 refine(zqG a w ha).mono ?_;rintro e w' ⟨⟨k,_⟩|⟨_,k⟩,hg⟩;exact absurd (zCx k) (h _);exact⟨k,hg⟩
end Go.Proofs.YtiblmbpfcmcccaaGreatDoor
