/- W07 W13 W61 -/
import Derived.Test.YtaogepcaoogpgaaGreatDoorX08
import Derived.Test.YtaogepcaoogpgaaGreatDoorX07
set_option linter.unusedVariables false
set_option linter.unusedSimpArgs false
set_option maxRecDepth 100000
set_option maxHeartbeats 16000000
namespace Go.Proofs.YtaogepcaoogpgaaGreatDoor
open Go.RowKit
open Go.Lib (nDigits decDigits)
def zce (w:World)(g:Nat)(l:List Value):Prop:=w.heap[g]? = some (.cells l.toArray 3 (0,0))
theorem zce.cell {w:World}{g:Nat}{l:List Value}(h:zce w g l)(k:Nat):w.cell? ⟨g,k,none⟩=l[k]? := by
 rw[zfC h];simp
theorem zce.free {w:World}{g:Nat}{l:List Value}(h:zce w g l)(k:Nat):w.frozen? ⟨g,k,none⟩=false:=frozen_of_row w g k _ _ h
theorem zce.set {w:World}{g:Nat}{l:List Value}(h:zce w g l)(k:Nat)(u:Value):zce (w.setCell ⟨g,k,none⟩ u) g (l.set k u):=by
 unfold zce;rw[heap_setCell_same w g k _ _ u h];simp
theorem zce.lt {w:World}{g:Nat}{l:List Value}(h:zce w g l):g<w.heap.size:=lt_of_block h
theorem zce.of_full {w:World}{B g n:Nat}{l:List Value}(h:w.ownsRow B 3 1 (.slice (some ⟨g,0,none⟩) n n) n l):zce w g l:=by
 rcases h.2 with⟨h',_⟩|⟨g',cap',cur,h',hb,hg,_,_,hs,ht⟩
 ·simp at h'
 ·simp only[Value.slice.injEq,Option.some.injEq,Addr.mk.injEq,and_true,true_and] at h'
  obtain⟨rfl,rfl⟩:=h';rw[List.take_of_length_le (by rw[Array.length_toList,hs];exact Nat.le_refl _)] at ht;subst ht;unfold zce;rw[hg]
theorem zsu (n:Nat):(madeCells #[Value.int .i64 0] n).toList=iv (List.replicate n 0):=by
 rw[toList_madeCells_one];simp[iv]
theorem zzO (zs:List Nat)(k:Nat)(h:k<zs.length):(iv zs)[k]? = some (.int .i64 (zs.getD k 0:Nat)):=by
 simp[iv,List.getD_eq_getElem?_getD,List.getElem?_eq_getElem h]
theorem zGW (zs:List Nat)(i n:Nat):(iv zs).set i (.int .i64 (n:Int))=iv (zs.set i n):=by simp[iv,List.map_set]
theorem zce.digs {w:World}{g:Nat}{zs:List Nat}(h:zce w g (iv zs))(h0:zs≠[]):Digs w (.slice (some ⟨g,0,none⟩) zs.length zs.length) zs :=
 .inr ⟨g,_,rfl,h0,h.lt,fun k hk=>by rw[h.cell,zzO zs k hk]⟩
theorem zzP:∀ (zs:List Nat) (k v:Nat),k<zs.length→vl 10 (zs.set k v)+10 ^ k * zs.getD k 0=vl 10 zs+10 ^ k * v
 | [],k,v,h=>by simp at h
 | z::zs,0,v,h=>by simp[vl];omega
 | z::zs,k+1,v,h=>by
  have ih:=zzP zs k v (by simpa using h);simp only[List.set_cons_succ,vl,List.getD_cons_succ,Nat.pow_succ];rw[Nat.mul_comm (10 ^ k) 10,Nat.mul_assoc,Nat.mul_assoc]
  omega
structure zhl (xs ys:List Nat)(i:Nat)(zs:List Nat):Prop where
 len:zs.length=xs.length+ys.length+1
 lt:∀ d∈zs,d<10
 val:vl 10 zs=vl 10 (xs.take i) * vl 10 ys
structure zfS (z0:Nat)(N x:Nat)(ys:List Nat)(i j c:Nat)(zs:List Nat):Prop where
 len:zs.length=N
 lt:∀ d∈zs,d<10
 carry:c≤9
 val:vl 10 zs+10 ^ (i+j) * c=z0+10 ^ i * (x * vl 10 (ys.take j))
theorem zhl.start (xs ys:List Nat):zhl xs ys 0 (List.replicate (xs.length+ys.length+1) 0) :=
 ⟨by simp,fun d h=>by rw[(List.mem_replicate.1 h).2];decide,by rw[zfx];simp[vl]⟩
theorem zfS.start {xs ys zs:List Nat}{i x:Nat}(h:zhl xs ys i zs):zfS (vl 10 zs) (xs.length+ys.length+1) x ys i 0 0 zs :=
 ⟨h.len,h.lt,by omega,by simp[vl]⟩
theorem zfS.step {z0 N x i j c:Nat}{ys zs:List Nat}(h:zfS z0 N x ys i j c zs)(hij:i+j<N)(hx:x<10)(hy:∀ d∈ys,d<10) :
  zfS z0 N x ys i (j+1) ((zs.getD (i+j) 0+x * ys.getD j 0+c) / 10) (zs.set (i+j) ((zs.getD (i+j) 0+x * ys.getD j 0+c) % 10)):=by
 have h1:=getD_lt zs h.lt (i+j);have h2:=getD_lt ys hy j;have h3:=h.carry;have hm:x * ys.getD j 0≤9 * 9:=Nat.mul_le_mul (by omega) (by omega);refine⟨by rw[List.length_set,h.len],fun d hd => ?_,by omega,?_⟩
 ·rcases List.mem_or_eq_of_mem_set hd with hd|hd
  ·exact h.lt d hd
  ·rw[hd];omega
 ·have e:=h.val
  have s:=zzP zs (i+j) ((zs.getD (i+j) 0+x * ys.getD j 0+c) % 10) (by rw[h.len];exact hij);rw[zax];have hd:=Nat.div_add_mod (zs.getD (i+j) 0+x * ys.getD j 0+c) 10
  have e2:10 ^ i * (x * (vl 10 (ys.take j)+10 ^ j * ys.getD j 0))=10 ^ i * (x * vl 10 (ys.take j))+10 ^ (i+j) * (x * ys.getD j 0):=by
   rw[Nat.mul_add,Nat.mul_add,Nat.pow_add,Nat.mul_assoc (10 ^ i),Nat.mul_left_comm x]
  rw[e2,show i+(j+1)=i+j+1 from rfl,Nat.pow_succ];generalize vl 10 (zs.set (i+j) ((zs.getD (i+j) 0+x * ys.getD j 0+c) % 10))=V at *;generalize zs.getD (i+j) 0=p at *;generalize x * ys.getD j 0=q at *;generalize 10 ^ i * (x * vl 10 (ys.take j))=W at *;generalize 10 ^ (i+j)=P at *;generalize (p+q+c) / 10=u at *;generalize (p+q+c) % 10=v at *;have e1:P * 10 * u+P * v=P * (p+q+c):=by rw[← hd,Nat.mul_add,Nat.mul_assoc]
  rw[Nat.mul_add,Nat.mul_add] at e1
  omega
theorem zfS.fin {xs ys zs ws:List Nat}{i c:Nat}(h0:zhl xs ys i zs)(hi:i<xs.length)(h:zfS (vl 10 zs) (xs.length+ys.length+1) (xs.getD i 0) ys i (ys.length+1) c ws)(hx:∀ d∈xs,d<10)(hy:∀ d∈ys,d<10):zhl xs ys (i+1) ws:=by
 refine⟨h.len,h.lt,?_⟩;have e:=h.val;rw[h0.val,List.take_of_length_le (l:=ys) (by omega)] at e
 have e2:vl 10 (xs.take (i+1)) * vl 10 ys=vl 10 (xs.take i) * vl 10 ys+10 ^ i * (xs.getD i 0 * vl 10 ys):=by
  rw[zax,Nat.add_mul,Nat.mul_assoc]
 rw[← e2] at e;have a1:=zbn 10 (xs.take (i+1)) (fun d hd=>hx d (List.mem_of_mem_take hd));have a2:=zbn 10 ys hy;rw[List.length_take,Nat.min_eq_left (by omega)] at a1
 have a3:vl 10 (xs.take (i+1)) * vl 10 ys<10 ^ (i+(ys.length+1)):=by
  have h1:vl 10 (xs.take (i+1)) * vl 10 ys≤10 ^ (i+1) * vl 10 ys:=Nat.mul_le_mul_right _ (Nat.le_of_lt a1);have h2:10 ^ (i+1) * vl 10 ys<10 ^ (i+1) * 10 ^ ys.length:=Nat.mul_lt_mul_of_pos_left a2 (Nat.pow_pos (by decide));rw[← Nat.pow_add,show i+1+ys.length=i+(ys.length+1) by omega] at h2
  omega
 have:c=0:=by
  rcases Nat.eq_zero_or_pos c with h0|h0
  ·exact h0
  ·have:=Nat.mul_le_mul_left (10 ^ (i+(ys.length+1))) h0
   omega
 subst this
 omega
theorem zDi (a b:ByteArray)(w:World)(na:numB a=true)(nb:numB b=true) :
  Calls Tryz.prog 178 #[.string a,.string b] w (zab (mulV a b) w):=by
 obtain⟨i0,hi,hz0,hz1,hz2⟩:=info_parts zhj;have va:=zan a w (zaR na);have vb:=zan b w (zaR nb);rw[na] at va;rw[nb] at vb;have VA:=zHd va;have VB:=zHd vb;have D1:=zHd (fun w=>zcj a w na);have D2:=zHd (fun w=>zcj b w nb);have HV:=zHd (show mulV a b=limV (vl 10 (dg10 a) * vl 10 (dg10 b)) by unfold mulV;rw[na,nb,zcY,zcY];rfl);have hx:=zdi a na;have hy:=zdi b nb;have sa:=zbv a na;have sb:=zbv b nb;have la:=zcZ a;have lb:=zcZ b;clear va vb na nb;generalize dg10 a=xs at *;generalize dg10 b=ys at *;have HX:=zHd hx;have HY:=zHd hy;have lx1:1≤xs.length:=by omega
 have lx2:xs.length≤1000:=by omega
 have ly1:1≤ys.length:=by omega
 have ly2:ys.length≤1000:=by omega
 clear hx hy sa sb la lb;go_enter Tryz.func178,Tryz.ntmps178;go_wp2_with fail;refine VA.out.mono ?_;rintro e w' ⟨rfl,rfl⟩;go_wp2_with fail;refine VB.out.mono ?_;rintro e w' ⟨rfl,rfl⟩;go_wp2_with fail;refine(D1.out _).mono ?_;rintro e w1 ⟨v1,rfl,hr1,hb1⟩;obtain⟨g1,c1,rfl⟩:=hr1.form;have R1:=zHd hr1;have B1:=zHd hb1;clear hr1 hb1;go_wp2_with fail;refine(D2.out _).mono ?_;rintro e w2 ⟨v2,rfl,hr2,hb2⟩;obtain⟨g2,c2,rfl⟩:=hr2.form;have R1':=zHd (R1.out.below hb2);have R2:=zHd hr2;have B2:=zHd (B1.out.trans (hb2.mono B1.out.size));clear hr2 hb2 R1 B1 VA VB D1 D2;go_wp2_with (at_make;refine wpList_make_full _ rfl _ _ 51 rfl w2.heap.size 3 i0 (.int .i64 0) 1 Tryz.underlying51 hi hz0 hz1 _ _ _ _ (xs.length+ys.length+1) rfl rfl ?c0 ?c1 ?c2 (by unfold maxLen;omega) (Nat.le_refl _) ?_)
 case c0=>omega
 case c1=>omega
 case c2=>first|omega|(rw[hz2];omega)
 intro w3 hown hgr;rw[zsu] at hown;have HC0:=zHd (zce.of_full hown);have HG:=zHd hgr;clear hown hgr;go_wp2
 go_loopw [9] (fun i wr=>∃ (k:Nat) (zs:List Nat),i = .int .i64 k∧k≤xs.length∧zhl xs ys k zs∧zce wr w2.heap.size (iv zs)∧w2.grownBy wr none) (fun i _=>xs.length - (intOf i).toNat)
 case atStart=>exact⟨0,_,rfl,by omega,zhl.start xs ys,HC0.out,HG.out⟩
 case round =>
  obtain⟨k,zs,rfl,hk,hinv,hcr,hgr⟩:=hrel;have HINV:=zHd hinv;have HCR:=zHd hcr;have HGR:=zHd hgr;clear hinv hcr hgr
  by_cases hlt:k<xs.length
  ·generalize wr=w4 at *
   go_wp2
   go_loopw [10,11] (fun cc jj wr=>∃ (j c:Nat) (ws:List Nat),jj = .int .i64 j∧cc = .int .i64 c∧j≤ys.length+1∧zfS (vl 10 zs) (xs.length+ys.length+1) (xs.getD k 0) ys k j c ws∧zce wr w2.heap.size (iv ws)∧w2.grownBy wr none) (fun _ jj _=>ys.length+1 - (intOf jj).toNat)
   case atStart=>exact⟨0,0,zs,rfl,rfl,by omega,zfS.start HINV.out,HCR.out,HGR.out⟩
   case round =>
    obtain⟨j,c,ws,rfl,rfl,hj,hin,hcr,hgr⟩:=hrel
    by_cases hlj:j≤ys.length
    ·have hwl:=hin.len
     have hcell:wr.cell? ⟨w2.heap.size,k+j,none⟩=some (.int .i64 (ws.getD (k+j) 0:Nat)):=by rw[hcr.cell,zzO _ _ (by omega)]
     have hfree:=hcr.free (k+j)
     have hdx:wr.cell? ⟨g1,k,none⟩=some (.int .i64 (xs.getD k 0:Nat)):=by
      rcases R1'.out.1 with⟨_,h0⟩|⟨g,cap,hv,_,hg,hc⟩
      ·exact absurd h0 R1'.out.2
      ·simp only[Value.slice.injEq,Option.some.injEq,Addr.mk.injEq,and_true,true_and] at hv
       obtain⟨rfl,_⟩:=hv;have:=hc k hlt;rw[← this];exact World.cell?_of_block (hgr.block g1 hg (by simp))
     have hat:=fun n=>zki (.slice (some ⟨g2,0,none⟩) ys.length c2) ys j (wr.drewN n) (by
      refine⟨?_,R2.out.2⟩;rcases R2.out.1 with⟨_,h0⟩|⟨g,cap,hv,h0,hg,hc⟩
      ·exact absurd h0 R2.out.2
      ·exact .inr ⟨g,cap,hv,h0,Nat.lt_of_lt_of_le hg hgr.size,fun q hq=>(World.cell?_of_block (hgr.block g hg (by simp))).trans (hc q hq)⟩) (by omega)
     have hx10:=getD_lt xs HX.out k;have hy10:=getD_lt ys HY.out j;have hw10:=getD_lt ws hin.lt (k+j);have hc9:=hin.carry;have hm81:xs.getD k 0 * ys.getD j 0≤9 * 9:=Nat.mul_le_mul (by omega) (by omega);have hstep:=hin.step (by omega) hx10 HY.out;have hset:=hcr.set (k+j) (.int .i64 ((ws.getD (k+j) 0+xs.getD k 0 * ys.getD j 0+c) % 10:Nat));rw[zGW] at hset;generalize ws.getD (k+j) 0=p at *;generalize xs.getD k 0=x at *;generalize ys.getD j 0=y at *
     have hmul:IntKind.i64.wrap ((x:Int) * (y:Int))=((x * y:Nat):Int):=by
      rw[← Int.natCast_mul];exact IntWalk.i64_in _ ⟨by omega,by omega⟩
     generalize x * y=m at *;rw[show(((p+m+c) % 10:Nat):Int)=((p:Int)+m+c) % 10 by omega] at hset;have HE2:=zHd (show((p:Int)+m+c) / 10=(((p+m+c) / 10:Nat):Int) by omega);have HST:=zHd hstep;have HSET:=zHd hset;have HGR2:=zHd hgr;have HAT:=zHd hat;clear hin hcr hgr hstep hset hat hwl;have p0:(0:Int)≤(p:Int):=by omega
     have p1:(p:Int)<10:=by omega
     have m0:(0:Int)≤(m:Int):=by omega
     have m1:(m:Int)≤81:=by omega
     have c0:(0:Int)≤(c:Int):=by omega
     have c9:(c:Int)≤9:=by omega
     have i0:(0:Int)≤(k:Int)+(j:Int):=by omega
     have i1:(k:Int)+(j:Int)<((xs.length+ys.length+1:Nat):Int):=by omega
     have i2:(0:Int)≤(k:Int):=by omega
     have i3:(k:Int)<(xs.length:Int):=by omega
     have i4:IntKind.i64.wrap ((k:Int)+(j:Int))=(k:Int)+(j:Int):=IntWalk.i64_in _ ⟨by omega,by omega⟩;clear hx10 hy10 hw10 hc9 hm81;go_wp2
     go_quiet ((go_at_call 211;exact Calls.quiet_of_same ((HAT.out _).mono fun _ _ h=>⟨h.1,h.2.symm⟩)))
     go_wp2
     go_roundw
     case rel=>exact⟨j+1,(p+m+c) / 10,_,by go_num,congrArg (Value.int .i64) HE2.out,by omega,HST.out,HSET.out,zai (g:=w2.heap.size) HGR2.out (zaa (zbz wr _ nq) (zac (wr.drewN nq) ⟨w2.heap.size,k+j,none⟩ _)) (Nat.le_refl _)⟩
     case measure=>simp[intOf];omega
    ·obtain rfl:j=ys.length+1:=by omega
     have HN:=zHd (zfS.fin HINV.out hlt hin HX.out HY.out);have HC1:=zHd hcr;have HG1:=zHd hgr;clear hin hcr hgr;go_wp2
     go_roundw
     case rel=>exact⟨k+1,ws,by go_num,by omega,HN.out,HC1.out,HG1.out⟩
     case measure=>simp[intOf];omega
  ·obtain rfl:k=xs.length:=by omega
   have hne:zs≠[]:=by intro e;have:=HINV.out.len;rw[e] at this;simp at this
   have hl:=HINV.out.len;have HT0:=zhk _ zs wr (HCR.out.digs hne) HINV.out.lt (by omega);rw[hl,HINV.out.val,List.take_of_length_le (Nat.le_refl _)] at HT0;have hnd:=zqf zs HINV.out.lt;rw[HINV.out.val,List.take_of_length_le (Nat.le_refl _)] at hnd;have HT:=zHd HT0;have HL:=zHd (fun w=>zlV (vl 10 xs * vl 10 ys) w (by omega));clear HT0 hnd hne hl;go_wp2_with fail;refine HT.out.mono ?_;rintro e w5 ⟨rfl,hb3⟩;have BB:=zHd (zaa (zaa (zaI B2.out) (show w2.grownBy wr none from HGR.out) |> fun h=>h) (zaI hb3));clear hb3;go_wp2_with fail;refine(HL.out _).mono ?_;rintro e w' ⟨he,rfl⟩;rcases zqg (vl 10 xs * vl 10 ys) with⟨S,E,hS⟩
   have hav:mulV a b = .tuple #[.string S,.int .i64 E]:=by rw[HV.out,hS]
   rw[hS] at he;subst he;have HAV:=zHd hav;clear hav hS;go_wp2
   go_ret2
   rw[HAV.out];exact⟨rfl,BB.out⟩
theorem zxh (a b:ByteArray)(w:World)(ha:a.size≤maxLen)(hb:b.size≤maxLen)(na:numB a=false) :
  Calls Tryz.prog 178 #[.string a,.string b] w (zab (mulV a b) w):=by
 have HV:=zHd (show mulV a b = .tuple #[.string ⟨#[]⟩,.int .i64 1] by unfold mulV;rw[na];rfl);have va:=zan a w ha;have vb:=zan b w hb;rw[na] at va;have VA:=zHd va;have VB:=zHd vb;clear va vb ha hb na;go_enter Tryz.func178,Tryz.ntmps178;go_wp2_with fail;refine VA.out.mono ?_;rintro e w' ⟨rfl,rfl⟩;go_wp2
 go_ret2
 rw[HV.out];exact⟨rfl,zah _ _⟩
theorem zxi (a b:ByteArray)(w:World)(ha:a.size≤maxLen)(hb:b.size≤maxLen)(na:numB a=true)(nb:numB b=false) :
  Calls Tryz.prog 178 #[.string a,.string b] w (zab (mulV a b) w):=by
 have HV:=zHd (show mulV a b = .tuple #[.string ⟨#[]⟩,.int .i64 1] by unfold mulV;rw[na,nb];rfl);have va:=zan a w ha;have vb:=zan b w hb;rw[na] at va;rw[nb] at vb;have VA:=zHd va;have VB:=zHd vb;clear va vb ha hb na nb;go_enter Tryz.func178,Tryz.ntmps178;go_wp2_with fail;refine VA.out.mono ?_;rintro e w' ⟨rfl,rfl⟩;go_wp2_with fail;refine VB.out.mono ?_;rintro e w' ⟨rfl,rfl⟩;go_wp2
 go_ret2
 rw[HV.out];exact⟨rfl,zah _ _⟩
theorem zDj (a b:ByteArray)(w:World)(ha:a.size≤maxLen)(hb:b.size≤maxLen) :
  Calls Tryz.prog 178 #[.string a,.string b] w (zab (mulV a b) w):=by
 cases na:numB a
 ·exact zxh a b w ha hb na
 cases nb:numB b
 ·exact zxi a b w ha hb na nb
 exact zDi a b w na nb
open Go.RowKit
open Go.Lib (nDigits decDigits)
theorem zzQ (n k:Nat)(hk:1≤k)(h:n<10 ^ k):nDigits n≤k:=by
 rcases Nat.lt_or_ge k (nDigits n) with h1|h1
 ·rcases zew n k (by omega) with h2|h2
  ·omega
  ·omega
 ·exact h1
theorem zhM (n k:Nat)(hk:1≤k)(hk2:k≤1000)(h:n<10 ^ k):numB (decS n)=true:=by
 rw[zoy];have:=zzQ n k hk h;exact decide_eq_true (by omega)
theorem zsv {w w':World}{base:Nat}{e:TypeId}{v:Value}{n:Nat}{xs:List Value}(h:w.ownsRow base e 1 v n xs)(hb:Below w.heap.size w w'):w'.ownsRow base e 1 v n xs:=by
 obtain⟨h1,h2⟩:=h;refine⟨h1,?_⟩;rcases h2 with h2|⟨g,cap,cur,a,b,c,d⟩
 ·exact .inl h2
 ·exact .inr ⟨g,cap,cur,a,b,(hb.block g (Array.getElem?_eq_some_iff.1 c).1).trans c,d⟩
def pre (a:ByteArray)(k:Nat):Nat:=dval (a.data.toList.take k)
theorem zsw (a:ByteArray)(k:Nat)(h:k<a.size):pre a (k+1)=pre a k * 10+(a[k].toNat - 48):=by
 unfold pre;rw[ziR a k h,zdp]
theorem zzR (a:ByteArray)(na:numB a=true)(k:Nat)(hk:k≤a.size):pre a k<10 ^ k:=by
 unfold pre;rw[← zvP]
 have h:=zbn 10 (dgs (a.data.toList.take k)) (fun d hd=>by
  unfold dgs at hd;obtain⟨c,hc,rfl⟩:=List.mem_map.1 hd;rw[List.mem_reverse] at hc;have hc:=List.mem_of_mem_take hc;exact zdi a na _ (by unfold dg10 dgs;exact List.mem_map.2 ⟨c,List.mem_reverse.2 hc,rfl⟩))
 have e:(dgs (a.data.toList.take k)).length=k:=by simp[dgs];omega
 rw[e] at h;exact h
theorem zFK (a:ByteArray):pre a a.size=nv a:=by
 unfold pre nv;rw[List.take_of_length_le (by simp)]
theorem zzS (a:ByteArray)(na:numB a=true)(k:Nat)(h:k<a.size):a.extract k (k+1)=decS (a[k].toNat - 48):=by
 have hd:=zix a na k h
 apply ByteArray.ext
 rw[ByteArray.data_extract]
 apply Array.toList_inj.1
 rw[Array.toList_extract];unfold decS;rw[Lib.decDigits_one (by omega)];simp only[List.extract_eq_take_drop];rw[List.drop_eq_getElem_cons (by simpa using h),show k+1 - k=1 by omega,List.take_succ_cons,List.take_zero]
 congr 1
 apply UInt8.toNat_inj.1
 rw[UInt8.toNat_ofNat'];have:a.data.toList[k]'(by simpa using h)=a[k]:=rfl;rw[this]
 omega
theorem zDk (R x:Nat)(h0:R≠0)(hx:x<10):decS R++decS x=decS (R * 10+x):=by
 apply ByteArray.ext
 rw[ByteArray.data_append];unfold decS;rw[Lib.decDigits_one hx]
 conv=>rhs;rw[decDigits,dif_neg (by omega)]
 rw[show(R * 10+x) / 10=R by omega,show(R * 10+x) % 10=x by omega];simp
structure DivI (a:ByteArray)(B k R:Nat)(S:ByteArray)(acc:List UInt8):Prop where
 text:S=decS R
 rest:R=pre a k % B
 len:acc.length=k
 dig:acc.all isDg=true
 quo:dval acc=pre a k / B
theorem DivI.start (a:ByteArray)(B:Nat):DivI a B 0 0 ⟨#[48]⟩ []:=⟨zmo.symm,by simp[pre,dval],rfl,rfl,by simp[pre,dval]⟩
theorem DivI.step {a:ByteArray}{B k R:Nat}{S:ByteArray}{acc:List UInt8}(h:DivI a B k R S acc)(hk:k<a.size)(hB:0<B){t M:Nat}(hN:R * 10+(a[k].toNat - 48)=t * B+M)(hM:M<B)(ht:t<10) :
  DivI a B (k+1) M (decS M) (acc++[UInt8.ofNat (48+t)]):=by
 have e0:=Nat.div_add_mod (pre a k) B;rw[← h.rest,← h.quo] at e0
 have e1:pre a (k+1)=B * (dval acc * 10+t)+M:=by
  rw[zsw a k hk,← e0,Nat.mul_add,Nat.mul_comm B t,← Nat.mul_assoc];rw[Nat.add_mul]
  omega
 refine⟨rfl,?_,by rw[List.length_append,h.len];rfl,?_,?_⟩
 ·rw[e1,Nat.mul_add_mod,Nat.mod_eq_of_lt hM]
 ·rw[List.all_append,h.dig]
  simp[isDg]
  omega
 ·rw[zdp,e1,Nat.mul_add_div hB,Nat.div_eq_of_lt hM,UInt8.toNat_ofNat']
  omega
theorem zsx (acc:List UInt8)(j:Nat)(hj:j<acc.length)(hd:acc.all isDg=true)(hv:dval (acc.drop j)=dval acc)(hz:j+1=acc.length∨(acc.drop j).headD 0≠48):(⟨(acc.drop j).toArray⟩:ByteArray)=decS (dval acc):=by
 unfold decS
 rw[← hv,zrL (acc.drop j) (by intro e;have:=congrArg List.length e;simp at this;omega) (by
  rw[List.all_eq_true] at hd ⊢;exact fun c hc=>hd c (List.mem_of_mem_drop hc)) (by
  rcases hz with hz|hz
  ·left;rw[List.length_drop];omega
  ·exact .inr hz)]
theorem zzT (c:UInt8):∀ (l:List UInt8),dval (c::l)=(c.toNat - 48) * 10 ^ l.length+dval l:=by
 intro l
 induction h:l.length generalizing l with
 | zero=>rw[List.length_eq_zero_iff.1 h];simp[dval]
 | succ n ih =>
  obtain⟨l',x,rfl⟩:∃ l' x,l=l'++[x]:=⟨l.dropLast,l.getLast (by intro e;rw[e] at h;simp at h),(List.dropLast_concat_getLast _).symm⟩;have h':l'.length=n:=by simp at h;exact h
  rw[← List.cons_append,zdp,zdp,ih l' h',Nat.pow_succ,Nat.add_mul,Nat.mul_assoc]
  omega
theorem zoM (acc:List UInt8)(j:Nat)(hj:j<acc.length)(h:acc[j]=48):dval (acc.drop (j+1))=dval (acc.drop j):=by
 rw[List.drop_eq_getElem_cons hj,zzT,h];simp
theorem zDl (a b:ByteArray)(w:World)(na:numB a=true)(nb:numB b=true)(hb0:nv b≠0) :
  Calls Tryz.prog 209 #[.string a,.string b] w (zab (divV a b) w):=by
 obtain⟨i0,hi,hz0,hz1,hz2⟩:=info_parts zqe;have va:=zan a w (zaR na);have vb:=zan b w (zaR nb);rw[na] at va;rw[nb] at vb;have VA:=zHd va;have VB:=zHd vb;have hsz:=zbv a na;have HV:=zHd (show divV a b = .tuple #[.string (decS (nv a / nv b)),.string (decS (nv a % nv b)),.int .i64 0] by unfold divV;rw[na,nb];simp only[Bool.and_self,if_true];rw[if_neg hb0]);have fb:(b.toList == [48])=false:=by rw[(zds b nb).1];simp[hb0]
 have NA:=zHd na;have NB:=zHd nb;have HB0:=zHd (show 0<nv b by omega);obtain⟨hs1,hs2⟩:=hsz;clear va vb na nb hb0;go_enter Tryz.func209,Tryz.ntmps209;go_wp2_with fail;refine VA.out.mono ?_;rintro e w' ⟨rfl,rfl⟩;go_wp2_with fail;refine VB.out.mono ?_;rintro e w' ⟨rfl,rfl⟩;go_wp2
 go_loopw [7,8,9] (fun q r i wr=>∃ (k R:Nat) (S:ByteArray) (acc:List UInt8),i = .int .i64 k∧k≤a.size∧r = .string S∧DivI a (nv b) k R S acc∧wr.ownsRow w.heap.size 5 1 q acc.length (Lib.byteCells acc)∧Below w.heap.size w wr) (fun _ _ i _=>a.size - (intOf i).toNat)
 case atStart=>exact⟨0,0,_,[],rfl,by omega,rfl,DivI.start a (nv b),World.ownsRow_nil _ _ _ _,Below.refl _ _⟩
 case round =>
  obtain⟨k,R,S,acc,rfl,hk,rfl,hinv,hown,hb⟩:=hrel;have HINV:=zHd hinv;have HOWN:=zHd hown;have HBL:=zHd hb;have hal:acc.length=k:=hinv.len;have hST:=hinv.text;have hRlt:=zzR a NA.out k hk;have hRle:R≤pre a k:=by rw[hinv.rest];exact Nat.mod_le _ _
  have hRB:R<nv b:=by rw[hinv.rest];exact Nat.mod_lt _ HB0.out
  clear hinv hown hb
  by_cases hlt:k<a.size
  ·have hpn:=zzR a NA.out (k+1) (by omega)
   rw[zsw a k hlt] at hpn;have hdg:=zix a NA.out k hlt;have E1:=zzS a NA.out k hlt;obtain⟨x,hx⟩:∃ x,a[k].toNat - 48=x:=⟨_,rfl⟩;have hx10:x<10:=by omega
   rw[hx] at E1 hpn;have hN1000:R * 10+x<10 ^ (k+1):=by omega
   have nS:numB S=true:=by
    rw[hST];exact zhM R (k+1) (by omega) (by omega) (by omega)
   have sz:S.size≤1000:=(zbv S nS).2;have sf:=zds S nS;have HX:=zHd hx;have hNB:R * 10+x<10 * nv b:=by omega
   obtain⟨E,hE⟩:∃ E,a.extract k (k+1)=E:=⟨_,rfl⟩
   by_cases hR0:R=0
   ·have f1:(S.toList == [48])=true:=by rw[sf.1,hST,zaD];simp[hR0]
    have HT:=zHd (show a.extract k (k+1)=decS (R * 10+x) by rw[E1,hR0];simp);have h1:=zHd hN1000;have h2:=zHd hNB;clear sf hST E1 hpn hRlt hRle nS hN1000 hNB hR0 hdg hRB hx10 hE;generalize wr=wv at *;go_wp2
    go_loopw [8,10] (fun r d wr=>∃ (t M:Nat) (T:ByteArray),r = .string T∧T=decS M∧R * 10+x=t * nv b+M∧d = .int .u8 (48+(t:Int))∧t≤9∧Below wv.heap.size wv wr) (fun r _ _=>match r with | .string s=>nv s|_=>0)
    case atStart=>exact⟨0,R * 10+x,_,rfl,HT.out,by omega,rfl,by omega,Below.refl _ _⟩
    case round =>
     obtain⟨t,M,T,rfl,hT,hN,rfl,ht9,hbw⟩:=hrel
     have nT:numB T=true:=by
      rw[hT];exact zhM M (k+1) (by omega) (by omega) (by have:=h1.out;have:=Nat.le_add_left M (t * nv b);omega)
     have rc:=zfg T b wr nT NB.out;have hM:nv T=M:=by rw[hT,zaD]
     rw[hM] at rc;have HTT:=zHd hT;have HN:=zHd hN;have HBW:=zHd hbw;have HM:=zHd hM;have HT9:=zHd ht9;have t0:(0:Int)≤(t:Int):=by omega
     have t9:(t:Int)≤9:=by omega
     by_cases hge:nv b≤M
     ·obtain⟨d,hd,hd0⟩:∃ d:Int,cmpN M (nv b)=d∧0≤d:=⟨_,rfl,by have:=zdG M (nv b);omega⟩
      have ht8:t+1≤9:=by
       have hh:=h2.out;rcases Nat.lt_or_ge t 9 with h9|h9
       ·omega
       ·obtain rfl:t=9:=by omega
        omega
      have HT8:=zHd ht8;rw[hd] at rc;have RC:=zHd rc;have D1:=zHd (fun w=>zcj T w nT);have D2:=zHd (fun w=>zcj b w NB.out);have hx1:=zdi T nT;have hy1:=zdi b NB.out;have l1:=zcZ T;have l2:=zcZ b;have s1:=zbv T nT;have s2:=zbv b NB.out;have v1:=zcY T;have v2:=zcY b;rw[hM] at v1;have HGE:=zHd hge;clear rc hd nT hM hT hN hbw hge ht8 ht9;generalize dg10 T=us at *;generalize dg10 b=ys at *;have hle:vl 10 ys≤vl 10 us:=by rw[v1,v2];exact HGE.out
      have lu:us.length≤1000:=by omega
      have ly:ys.length≤1000:=by omega
      have HX1:=zHd hx1;have HY1:=zHd hy1;have HLE:=zHd hle;have V1:=zHd v1;have V2:=zHd v2;clear hx1 hy1 hle v1 v2 s1 s2 l1 l2;go_wp2_with fail;refine RC.out.mono ?_;rintro e w1 ⟨rfl,hg⟩;have hb1:=HBW.out.trans ((below_grown hg (Nat.le_refl _) (by simp)).mono HBW.out.size);have BB1:=zHd hb1;clear hg hb1;go_wp2_with fail;refine(D1.out _).mono ?_;rintro e w2 ⟨v1,rfl,hr1,hb2⟩;have R1:=zHd hr1;have BB2:=zHd (BB1.out.trans (hb2.mono BB1.out.size));clear hr1 hb2;go_wp2_with fail;refine(D2.out _).mono ?_;rintro e w3 ⟨v2,rfl,hr2,hb3⟩;have R1':=zHd (R1.out.below hb3);have R2:=zHd hr2;have BB3:=zHd (BB2.out.trans (hb3.mono BB2.out.size));clear hr2 hb3;go_wp2_with fail;refine(zmq v1 v2 us ys w3 R1'.out R2.out HX1.out HY1.out (by omega) (by omega) HLE.out).mono ?_;rintro e w4 ⟨v3,zs,rfl,hr3,hz,hval,hlen,hb4⟩;have BB4:=zHd (BB3.out.trans (hb4.mono BB3.out.size));have hTx:=zhk v3 zs w4 hr3.1 hz (by omega);rw[hval,V1.out,V2.out] at hTx;have HTX:=zHd hTx;clear hr3 hz hval hlen hb4 hTx;go_wp2_with fail;refine HTX.out.mono ?_;rintro e w5 ⟨rfl,hb5⟩;have BB5:=zHd (BB4.out.trans (hb5.mono BB4.out.size));clear hb5;have HNV:=zHd (zaD (M - nv b));obtain⟨T2,hT2⟩:∃ T2,decS (M - nv b)=T2:=⟨_,rfl⟩;have HT2:=zHd hT2;rw[hT2];clear hT2;go_wp2
      go_roundw
      case rel=>exact⟨t+1,M - nv b,T2,rfl,HT2.out.symm,by have:=HN.out;have:=HGE.out;rw[Nat.add_mul];omega,by go_num,HT8.out,BB5.out⟩
      case measure =>
       have e1:=HNV.out;rw[HT2.out] at e1;have:=HGE.out;have:=HB0.out;have:=HM.out;show nv T2<nv T
       omega
     ·obtain⟨d,hd,hd0⟩:∃ d:Int,cmpN M (nv b)=d∧d<0:=⟨_,rfl,by have:=zdG M (nv b);omega⟩
      rw[hd] at rc;have RC:=zHd rc;have hNs:=hN;rw[← HX.out] at hNs;have HSTEP:=zHd (HINV.out.step hlt HB0.out hNs (by omega) (by omega));have HCC:=zHd (show Lib.byteCells [UInt8.ofNat (48+t)]=[Value.int .u8 (48+(t:Int))] from zhL t (by omega));have hb1:acc.length+1≤1000000:=by omega
      have HAL:=zHd hal;clear rc hd nT hM hT hN hNs hbw hge ht9 hal;go_wp2_with fail;refine RC.out.mono ?_;rintro e w1 ⟨rfl,hg⟩;have hbA:=HBW.out.trans ((below_grown hg (Nat.le_refl _) (by simp)).mono HBW.out.size);have hown:=zsv HOWN.out hbA;have hb:=HBL.out.trans (hbA.mono HBL.out.size);have HBA:=zHd hb;have hbs:=hb.size;clear hg hbA hb;go_wp2_with (at_builtin;refine wpList_append_own _ rfl _ _ 149 rfl w.heap.size 5 i0 (.int .u8 0) 1 1 Tryz.underlying149 hi hz0 hz1 hz2 rfl (by decide) _ _ _ rfl (hown.alloc _) ⟨w1.heap.size,0,none⟩ 1 1 [.int .u8 (48+(t:Int))] rfl rfl ?c1 ?c2 ?c3 ?c4 ?c5 ?_)
      case c1=>exact zen _ _ _
      case c2=>intro u hu;simp at hu;subst hu;rfl
      case c3=>unfold maxLen;omega
      case c4=>omega
      case c5=>simp;omega
      intro v' w2 hown' hgrow _;have HB2:=zHd (zcR HBA.out _ (fun g e=>(hown.lt g e).1) hgrow);have HO:=zHd hown';clear hown hown' hgrow;go_wp2
      go_roundw
      case rel=>exact⟨k+1,M,T,acc++[UInt8.ofNat (48+t)],by go_num,by omega,rfl,by rw[HTT.out];exact HSTEP.out,by
       rw[List.length_append,Lib.byteCells_append,HCC.out];exact HO.out,HB2.out⟩
      case measure=>simp[intOf];omega
   ·have f1:(S.toList == [48])=false:=by rw[sf.1,hST,zaD];simp[hR0]
    have HT:=zHd (show S++a.extract k (k+1)=decS (R * 10+x) by rw[E1,hST,zDk R x hR0 hx10]);have hez:(a.extract k (k+1)).size≤1000:=by rw[E1];exact(zbv _ (zhM x (k+1) (by omega) (by omega) (by have:=Nat.pow_le_pow_right (n:=10) (by decide) (show 1≤k+1 by omega);omega))).2
    have hcz:S.size+(a.extract k (k+1)).size≤9223372036854775807:=by omega
    have h1:=zHd hN1000;have h2:=zHd hNB;clear sf hST E1 hpn hRlt hRle nS hN1000 hNB hR0 hdg hRB hx10 hE;generalize wr=wv at *;go_wp2
    go_loopw [8,10] (fun r d wr=>∃ (t M:Nat) (T:ByteArray),r = .string T∧T=decS M∧R * 10+x=t * nv b+M∧d = .int .u8 (48+(t:Int))∧t≤9∧Below wv.heap.size wv wr) (fun r _ _=>match r with | .string s=>nv s|_=>0)
    case atStart=>exact⟨0,R * 10+x,_,rfl,HT.out,by omega,rfl,by omega,Below.refl _ _⟩
    case round =>
     obtain⟨t,M,T,rfl,hT,hN,rfl,ht9,hbw⟩:=hrel
     have nT:numB T=true:=by
      rw[hT];exact zhM M (k+1) (by omega) (by omega) (by have:=h1.out;have:=Nat.le_add_left M (t * nv b);omega)
     have rc:=zfg T b wr nT NB.out;have hM:nv T=M:=by rw[hT,zaD]
     rw[hM] at rc;have HTT:=zHd hT;have HN:=zHd hN;have HBW:=zHd hbw;have HM:=zHd hM;have HT9:=zHd ht9;have t0:(0:Int)≤(t:Int):=by omega
     have t9:(t:Int)≤9:=by omega
     by_cases hge:nv b≤M
     ·obtain⟨d,hd,hd0⟩:∃ d:Int,cmpN M (nv b)=d∧0≤d:=⟨_,rfl,by have:=zdG M (nv b);omega⟩
      have ht8:t+1≤9:=by
       have hh:=h2.out;rcases Nat.lt_or_ge t 9 with h9|h9
       ·omega
       ·obtain rfl:t=9:=by omega
        omega
      have HT8:=zHd ht8;rw[hd] at rc;have RC:=zHd rc;have D1:=zHd (fun w=>zcj T w nT);have D2:=zHd (fun w=>zcj b w NB.out);have hx1:=zdi T nT;have hy1:=zdi b NB.out;have l1:=zcZ T;have l2:=zcZ b;have s1:=zbv T nT;have s2:=zbv b NB.out;have v1:=zcY T;have v2:=zcY b;rw[hM] at v1;have HGE:=zHd hge;clear rc hd nT hM hT hN hbw hge ht8 ht9;generalize dg10 T=us at *;generalize dg10 b=ys at *;have hle:vl 10 ys≤vl 10 us:=by rw[v1,v2];exact HGE.out
      have lu:us.length≤1000:=by omega
      have ly:ys.length≤1000:=by omega
      have HX1:=zHd hx1;have HY1:=zHd hy1;have HLE:=zHd hle;have V1:=zHd v1;have V2:=zHd v2;clear hx1 hy1 hle v1 v2 s1 s2 l1 l2;go_wp2_with fail;refine RC.out.mono ?_;rintro e w1 ⟨rfl,hg⟩;have hb1:=HBW.out.trans ((below_grown hg (Nat.le_refl _) (by simp)).mono HBW.out.size);have BB1:=zHd hb1;clear hg hb1;go_wp2_with fail;refine(D1.out _).mono ?_;rintro e w2 ⟨v1,rfl,hr1,hb2⟩;have R1:=zHd hr1;have BB2:=zHd (BB1.out.trans (hb2.mono BB1.out.size));clear hr1 hb2;go_wp2_with fail;refine(D2.out _).mono ?_;rintro e w3 ⟨v2,rfl,hr2,hb3⟩;have R1':=zHd (R1.out.below hb3);have R2:=zHd hr2;have BB3:=zHd (BB2.out.trans (hb3.mono BB2.out.size));clear hr2 hb3;go_wp2_with fail;refine(zmq v1 v2 us ys w3 R1'.out R2.out HX1.out HY1.out (by omega) (by omega) HLE.out).mono ?_;rintro e w4 ⟨v3,zs,rfl,hr3,hz,hval,hlen,hb4⟩;have BB4:=zHd (BB3.out.trans (hb4.mono BB3.out.size));have hTx:=zhk v3 zs w4 hr3.1 hz (by omega);rw[hval,V1.out,V2.out] at hTx;have HTX:=zHd hTx;clear hr3 hz hval hlen hb4 hTx;go_wp2_with fail;refine HTX.out.mono ?_;rintro e w5 ⟨rfl,hb5⟩;have BB5:=zHd (BB4.out.trans (hb5.mono BB4.out.size));clear hb5;have HNV:=zHd (zaD (M - nv b));obtain⟨T2,hT2⟩:∃ T2,decS (M - nv b)=T2:=⟨_,rfl⟩;have HT2:=zHd hT2;rw[hT2];clear hT2;go_wp2
      go_roundw
      case rel=>exact⟨t+1,M - nv b,T2,rfl,HT2.out.symm,by have:=HN.out;have:=HGE.out;rw[Nat.add_mul];omega,by go_num,HT8.out,BB5.out⟩
      case measure =>
       have e1:=HNV.out;rw[HT2.out] at e1;have:=HGE.out;have:=HB0.out;have:=HM.out;show nv T2<nv T
       omega
     ·obtain⟨d,hd,hd0⟩:∃ d:Int,cmpN M (nv b)=d∧d<0:=⟨_,rfl,by have:=zdG M (nv b);omega⟩
      rw[hd] at rc;have RC:=zHd rc;have hNs:=hN;rw[← HX.out] at hNs;have HSTEP:=zHd (HINV.out.step hlt HB0.out hNs (by omega) (by omega));have HCC:=zHd (show Lib.byteCells [UInt8.ofNat (48+t)]=[Value.int .u8 (48+(t:Int))] from zhL t (by omega));have hb1:acc.length+1≤1000000:=by omega
      have HAL:=zHd hal;clear rc hd nT hM hT hN hNs hbw hge ht9 hal;go_wp2_with fail;refine RC.out.mono ?_;rintro e w1 ⟨rfl,hg⟩;have hbA:=HBW.out.trans ((below_grown hg (Nat.le_refl _) (by simp)).mono HBW.out.size);have hown:=zsv HOWN.out hbA;have hb:=HBL.out.trans (hbA.mono HBL.out.size);have HBA:=zHd hb;have hbs:=hb.size;clear hg hbA hb;go_wp2_with (at_builtin;refine wpList_append_own _ rfl _ _ 149 rfl w.heap.size 5 i0 (.int .u8 0) 1 1 Tryz.underlying149 hi hz0 hz1 hz2 rfl (by decide) _ _ _ rfl (hown.alloc _) ⟨w1.heap.size,0,none⟩ 1 1 [.int .u8 (48+(t:Int))] rfl rfl ?c1 ?c2 ?c3 ?c4 ?c5 ?_)
      case c1=>exact zen _ _ _
      case c2=>intro u hu;simp at hu;subst hu;rfl
      case c3=>unfold maxLen;omega
      case c4=>omega
      case c5=>simp;omega
      intro v' w2 hown' hgrow _;have HB2:=zHd (zcR HBA.out _ (fun g e=>(hown.lt g e).1) hgrow);have HO:=zHd hown';clear hown hown' hgrow;go_wp2
      go_roundw
      case rel=>exact⟨k+1,M,T,acc++[UInt8.ofNat (48+t)],by go_num,by omega,rfl,by rw[HTT.out];exact HSTEP.out,by
       rw[List.length_append,Lib.byteCells_append,HCC.out];exact HO.out,HB2.out⟩
      case measure=>simp[intOf];omega
  ·obtain rfl:k=a.size:=by omega
   have hq:=HINV.out.quo;have hr:=HINV.out.rest;rw[zFK] at hq hr;have HQ:=zHd hq;have HR:=zHd hr;rcases HOWN.out.2 with⟨_,h0⟩|⟨g,cap,cur,hv,hgb,hgg,hcap,hcm,_,_⟩
   ·omega
   subst hv;have hown:=HOWN.out
   have hcells:∀ j (hj:j<acc.length),wr.cell? ⟨g,j,none⟩=some (.int .u8 (acc[j].toNat:Int)):=fun j hj=>by
    have:=hown.cells (g:=g) rfl j (.int .u8 (acc[j].toNat:Int)) (by unfold Lib.byteCells;rw[List.getElem?_map,List.getElem?_eq_getElem hj];rfl);rw[addr_add] at this;exact this
   have HC:=zHd hcells
   have hcv:=fun j (hj:j<acc.length)=>run_convert_bytes_back (P:=Tryz.prog) wr 149 9 5 ⟨g,j,none⟩ (cap - j) (acc.drop j) Tryz.underlying149 Tryz.underlying5 Tryz.underlying9 (fun i hi=>by
    have e:(⟨g,j,none⟩:Addr).add i=⟨g,j+i,none⟩:=by unfold Addr.add;split <;> simp_all
    rw[List.length_drop] at hi;rw[e,hcells (j+i) (by omega)];rw[List.getElem_drop])
   have HCV:=zHd hcv;have HAL:=zHd hal;have hl1:1≤acc.length:=by omega
   have hl2:acc.length≤1000:=by omega
   unfold maxLen at hcm;have HCM:=zHd hcm;clear hown hcells hcv hq hr hgg hal hST hRlt hRle hRB hcm hlt hk;generalize wr=w1 at *;go_wp2
   go_loop [11] (fun i=>∃ j:Nat,i = .int .i64 j∧j+1≤acc.length∧dval (acc.drop j)=dval acc) (fun i=>acc.length - (intOf i).toNat)
   case atStart=>exact⟨0,rfl,by omega,rfl⟩
   case round =>
    obtain⟨j,rfl,hj,hdv⟩:=hrel;have HDV:=zHd hdv;clear hdv;have hjl:j<acc.length:=by omega
    have hcell:=HC.out j hjl;have hcvj:=HCV.out j hjl;rw[List.length_drop] at hcvj;have hw:IntKind.i64.wrap ((acc.length:Int) - 1)=(acc.length:Int) - 1:=IntWalk.i64_in _ ⟨by omega,by omega⟩;have k0:(0:Int)≤(j:Int):=by omega
    have k1:(j:Int)<(acc.length:Int):=by omega
    have k2:(j:Int)≤(acc.length:Int):=by omega
    have k3:¬ (cap=j):=by omega
    have k4:¬ (cap - j=0):=by omega
    by_cases hgo:(j:Int)<(acc.length:Int) - 1
    ·by_cases hz:acc[j]=48
     ·have f1:((acc[j].toNat:Int) == 48)=true:=by rw[hz];rfl
      have HD:=zHd (zoM acc j hjl hz);clear hz hcvj;go_wp2
      go_round
      case rel=>exact⟨j+1,by go_num,by omega,by rw[HD.out,HDV.out]⟩
      case measure=>simp[intOf];omega
     ·have f1:((acc[j].toNat:Int) == 48)=false:=by
       rw[beq_eq_false_iff_ne];intro e;exact hz (UInt8.toNat_inj.1 (show acc[j].toNat=(48:UInt8).toNat by have:(48:UInt8).toNat=48:=rfl;omega))
      have HT:=zHd (zsx acc j hjl HINV.out.dig HDV.out (.inr (by
       rw[List.drop_eq_getElem_cons hjl];exact hz)))
      clear hz;go_wp2
      go_ret3
      rw[HV.out,← HQ.out,← HT.out,← HR.out,← HINV.out.text];exact⟨rfl,zaI HBL.out⟩
    ·have HT:=zHd (zsx acc j hjl HINV.out.dig HDV.out (.inl (by omega)))
     go_wp2
     go_ret3
     rw[HV.out,← HQ.out,← HT.out,← HR.out,← HINV.out.text];exact⟨rfl,zaI HBL.out⟩
open Go.RowKit
open Go.Lib (nDigits decDigits)
theorem zxj (a b:ByteArray)(w:World)(ha:a.size≤maxLen)(hb:b.size≤maxLen)(na:numB a=false) :
  Calls Tryz.prog 209 #[.string a,.string b] w (zab (divV a b) w):=by
 have HV:=zHd (show divV a b = .tuple #[.string ⟨#[]⟩,.string ⟨#[]⟩,.int .i64 1] by unfold divV;rw[na];rfl);have va:=zan a w ha;have vb:=zan b w hb;rw[na] at va;have VA:=zHd va;have VB:=zHd vb;clear va vb ha hb na;go_enter Tryz.func209,Tryz.ntmps209;go_wp2_with fail;refine VA.out.mono ?_;rintro e w' ⟨rfl,rfl⟩;go_wp2
 go_ret3
 rw[HV.out];exact⟨rfl,zah _ _⟩
theorem zxk (a b:ByteArray)(w:World)(ha:a.size≤maxLen)(hb:b.size≤maxLen)(na:numB a=true)(nb:numB b=false) :
  Calls Tryz.prog 209 #[.string a,.string b] w (zab (divV a b) w):=by
 have HV:=zHd (show divV a b = .tuple #[.string ⟨#[]⟩,.string ⟨#[]⟩,.int .i64 1] by unfold divV;rw[na,nb];rfl);have va:=zan a w ha;have vb:=zan b w hb;rw[na] at va;rw[nb] at vb;have VA:=zHd va;have VB:=zHd vb;clear va vb ha hb na nb;go_enter Tryz.func209,Tryz.ntmps209;go_wp2_with fail;refine VA.out.mono ?_;rintro e w' ⟨rfl,rfl⟩;go_wp2_with fail;refine VB.out.mono ?_;rintro e w' ⟨rfl,rfl⟩;go_wp2
 go_ret3
 rw[HV.out];exact⟨rfl,zah _ _⟩
theorem zzU (a b:ByteArray)(w:World)(na:numB a=true)(nb:numB b=true)(h0:nv b=0) :
  Calls Tryz.prog 209 #[.string a,.string b] w (zab (divV a b) w):=by
 have HV:=zHd (show divV a b = .tuple #[.string ⟨#[]⟩,.string ⟨#[]⟩,.int .i64 4] by unfold divV;rw[na,nb];simp only[Bool.and_self,if_true];rw[if_pos h0]);have va:=zan a w (zaR na);have vb:=zan b w (zaR nb);rw[na] at va;rw[nb] at vb;have VA:=zHd va;have VB:=zHd vb;have fb:(b.toList == [48])=true:=by rw[(zds b nb).1];simp[h0]
 clear va vb na nb h0;go_enter Tryz.func209,Tryz.ntmps209;go_wp2_with fail;refine VA.out.mono ?_;rintro e w' ⟨rfl,rfl⟩;go_wp2_with fail;refine VB.out.mono ?_;rintro e w' ⟨rfl,rfl⟩;go_wp2
 go_ret3
 rw[HV.out];exact⟨rfl,zah _ _⟩
theorem zDm (a b:ByteArray)(w:World)(ha:a.size≤maxLen)(hb:b.size≤maxLen) :
  Calls Tryz.prog 209 #[.string a,.string b] w (zab (divV a b) w):=by
 cases na:numB a
 ·exact zxj a b w ha hb na
 cases nb:numB b
 ·exact zxk a b w ha hb na nb
 by_cases h0:nv b=0
 ·exact zzU a b w na nb h0
 ·exact zDl a b w na nb h0
theorem zxl (a b:ByteArray)(w:World)(ha:a.size≤maxLen)(hb:b.size≤maxLen)(na:numB a=false) :
  Calls Tryz.prog 174 #[.string a,.string b] w (zab (gcdV a b) w):=by
 have HV:=zHd (show gcdV a b = .tuple #[.string ⟨#[]⟩,.int .i64 1] by unfold gcdV;rw[na];rfl);have va:=zan a w ha;have vb:=zan b w hb;rw[na] at va;have VA:=zHd va;have VB:=zHd vb;clear va vb ha hb na;go_enter Tryz.func174,Tryz.ntmps174;go_wp2_with fail;refine VA.out.mono ?_;rintro e w' ⟨rfl,rfl⟩;go_wp2
 go_ret2
 rw[HV.out];exact⟨rfl,zah _ _⟩
theorem zxm (a b:ByteArray)(w:World)(ha:a.size≤maxLen)(hb:b.size≤maxLen)(na:numB a=true)(nb:numB b=false) :
  Calls Tryz.prog 174 #[.string a,.string b] w (zab (gcdV a b) w):=by
 have HV:=zHd (show gcdV a b = .tuple #[.string ⟨#[]⟩,.int .i64 1] by unfold gcdV;rw[na,nb];rfl);have va:=zan a w ha;have vb:=zan b w hb;rw[na] at va;rw[nb] at vb;have VA:=zHd va;have VB:=zHd vb;clear va vb ha hb na nb;go_enter Tryz.func174,Tryz.ntmps174;go_wp2_with fail;refine VA.out.mono ?_;rintro e w' ⟨rfl,rfl⟩;go_wp2_with fail;refine VB.out.mono ?_;rintro e w' ⟨rfl,rfl⟩;go_wp2
 go_ret2
 rw[HV.out];exact⟨rfl,zah _ _⟩
theorem zDn (a b:ByteArray)(w:World)(na:numB a=true)(nb:numB b=true) :
  Calls Tryz.prog 174 #[.string a,.string b] w (zab (gcdV a b) w):=by
 have va:=zan a w (zaR na);have vb:=zan b w (zaR nb);rw[na] at va;rw[nb] at vb;have VA:=zHd va;have VB:=zHd vb;have HV:=zHd (show gcdV a b = .tuple #[.string (decS (Nat.gcd (nv a) (nv b))),.int .i64 0] by unfold gcdV;rw[na,nb];simp only[Bool.and_self,if_true]);have NA:=zHd na;have NB:=zHd nb;obtain⟨G,hG⟩:∃ G,Nat.gcd (nv a) (nv b)=G:=⟨_,rfl⟩;rw[hG] at HV;have HG:=zHd hG;clear va vb na nb hG;go_enter Tryz.func174,Tryz.ntmps174;go_wp2_with fail;refine VA.out.mono ?_;rintro e w' ⟨rfl,rfl⟩;go_wp2_with fail;refine VB.out.mono ?_;rintro e w' ⟨rfl,rfl⟩;go_wp2
 go_loopg [0,1] (nv b) (fun n x y wr=>∃ S T:ByteArray,x = .string S∧y = .string T∧numB S=true∧numB T=true∧Nat.gcd (nv S) (nv T)=G∧w.grownBy wr none∧nv T=n)
 case atStart=>exact⟨a,b,rfl,rfl,NA.out,NB.out,HG.out,zah _ _,rfl⟩
 case round =>
  obtain⟨S,T,rfl,rfl,nS,nT,hg,hgr,hn⟩:=hrel;have sf:=zds T nT
  by_cases h0:nv T=0
  ·have f1:(T.toList == [48])=true:=by rw[sf.1];simp[h0]
   have f2:(T.toList != [48])=false:=by rw[sf.2];simp[h0]
   have HS:=zHd (show S=decS G by rw[← hg,h0,Nat.gcd_zero_right];exact(zbK S nS).1);have HGR:=zHd hgr;clear sf nS nT hg hgr hn h0;go_wp2
   go_ret2
   rw[HV.out,← HS.out];exact⟨rfl,HGR.out⟩
  ·have f1:(T.toList == [48])=false:=by rw[sf.1];simp[h0]
   have f2:(T.toList != [48])=true:=by rw[sf.2];simp[h0]
   have nQ:numB (decS (nv S / nv T))=true:=zzv S nS (Nat.div_le_self _ _);have nR:numB (decS (nv S % nv T))=true:=zzv S nS (Nat.mod_le _ _);have hd:=zDm S T wr (zaR nS) (zaR nT);rw[zCN S T (decS (nv S / nv T)) (decS (nv S % nv T)) nS nT nQ nR h0 (zaD _) (zaD _)] at hd;have vR:=zaD (nv S % nv T);have hgg:Nat.gcd (nv T) (nv (decS (nv S % nv T)))=G:=by rw[vR,← hg,Nat.gcd_comm (nv S),Nat.gcd_rec (nv T) (nv S),Nat.gcd_comm]
   have hlt:nv (decS (nv S % nv T))<nv T:=by rw[vR];exact Nat.mod_lt _ (by omega)
   generalize decS (nv S / nv T)=Q at *;generalize decS (nv S % nv T)=R at *;have HN:=zHd hn;have HD:=zHd hd;have HNT:=zHd nT;have HNR:=zHd nR;have HGG:=zHd hgg;have HLT:=zHd hlt;have HGR:=zHd hgr;clear sf nS nT hg hgr hn h0 nQ nR hd vR hgg hlt;go_wp2_with fail;refine HD.out.mono ?_;rintro e w1 ⟨rfl,hg1⟩;have HG1:=zHd (zaa HGR.out hg1);clear hg1;go_wp2
   go_roundg (nv R)
   case measure=>rw[← HN.out];exact HLT.out
   case rel=>exact⟨T,R,rfl,rfl,HNT.out,HNR.out,HGG.out,HG1.out,rfl⟩
theorem zDo (a b:ByteArray)(w:World)(ha:a.size≤maxLen)(hb:b.size≤maxLen) :
  Calls Tryz.prog 174 #[.string a,.string b] w (zab (gcdV a b) w):=by
 cases na:numB a
 ·exact zxl a b w ha hb na
 cases nb:numB b
 ·exact zxm a b w ha hb na nb
 exact zDn a b w na nb
open Go.RowKit
open Go.Lib (nDigits decDigits)
def infS:ByteArray:=⟨#[105,110,102]⟩
def lowS:ByteArray:=⟨#[45,105,110,102]⟩
def zdL:ByteArray:=⟨#[48]⟩
def oneS:ByteArray:=⟨#[49]⟩
abbrev Ext:=Sum Bool Rat
def IsE (a:ByteArray):Ext→Prop
 | .inl true=>a=infS
 | .inl false=>a=lowS
 | .inr x=>zay a x
def extV:Ext→Value
 | .inl true => .tuple #[.string infS,.int .i64 0]
 | .inl false => .tuple #[.string lowS,.int .i64 0]
 | .inr x=>finV x
theorem zfF {a:ByteArray}{v:Ext}(h:IsE a v):extV v = .tuple #[.string a,.int .i64 0]:=by
 rcases v with(_|_)|x
 ·cases h;rfl
 ·cases h;rfl
 ·exact zhd h
theorem zoN:∀ x,¬ zay infS x:=fun x h=>by
 have h1:=(zhG h).n
 revert h1
 decide +kernel
theorem zoO:∀ x,¬ zay lowS x:=fun x h=>by
 have h1:=(zhG h).n
 revert h1
 decide +kernel
theorem zvQ:lowS≠infS:=by decide +kernel
theorem IsE.uniq {a:ByteArray}{u v:Ext}(h:IsE a u)(k:IsE a v):u=v:=by
 rcases u with(_|_)|x <;> rcases v with(_|_)|y
 ·rfl
 ·exact absurd (h.symm.trans k) zvQ
 ·cases h;exact absurd k (zoO y)
 ·exact absurd (k.symm.trans h) zvQ
 ·rfl
 ·cases h;exact absurd k (zoN y)
 ·cases k;exact absurd h (zoO x)
 ·cases k;exact absurd h (zoN x)
 ·rw[zay.uniq h k]
theorem IsE.same {a b:ByteArray}{v:Ext}(h:IsE a v)(k:IsE b v):a=b:=by
 rcases v with(_|_)|x
 ·exact h.trans k.symm
 ·exact h.trans k.symm
 ·exact h.eq.trans k.eq.symm
theorem IsE.len {a:ByteArray}{v:Ext}(h:IsE a v):a.size≤maxLen:=by
 rcases v with(_|_)|x
 ·cases h;decide
 ·cases h;decide
 ·exact zgR h
theorem znt:IsE zdL (.inr 0):=ziY
theorem oneE:IsE oneS (.inr 1):=⟨by decide +kernel,by decide +kernel⟩
theorem topE:IsE infS (.inl true):=rfl
theorem lowE:IsE lowS (.inl false):=rfl
def zxn:Ext→Int
 | .inl true=>1
 | .inl false => -1
 | .inr _=>0
def cmpI (m n:Int):Int:=if m<n then -1 else if n<m then 1 else 0
def cmpE:Ext→Ext→Int
 | .inr x,.inr y=>cmpQ x y
 | u,v=>cmpI (zxn u) (zxn v)
theorem zzV (x:Rat):cmpQ x x=0:=by unfold cmpQ;rw[if_neg (Rat.lt_irrefl),if_neg (Rat.lt_irrefl)]
theorem zeJ (x y:Rat):cmpQ x y<0↔x<y:=by
 unfold cmpQ
 split
 ·simp_all
 ·split <;> simp_all
theorem zkj (x y:Rat):cmpQ y x = -cmpQ x y:=by
 unfold cmpQ
 by_cases h:x<y
 ·rw[if_pos h,if_neg (Rat.not_lt.2 (Rat.le_of_lt h)),if_pos h];rfl
 ·by_cases k:y<x
  ·rw[if_pos k,if_neg h,if_pos k]
  ·rw[if_neg k,if_neg h,if_neg h,if_neg k];rfl
theorem zmr (x y:Rat):0<cmpQ x y↔y<x:=by
 rw[← zeJ,zkj];omega
theorem zqh (x y:Rat):cmpQ x y=0↔x=y:=by
 constructor
 ·intro h
  have h1:¬ x<y:=fun k=>by have:=(zeJ x y).2 k;omega
  have h2:¬ y<x:=fun k=>by have:=(zmr x y).2 k;omega
  exact Rat.le_antisymm (Rat.not_lt.1 h2) (Rat.not_lt.1 h1)
 ·rintro rfl;exact zzV x
theorem zly (x y:Rat):cmpQ x y≤0↔x≤y:=by
 rw[← Rat.not_lt,← zmr];omega
theorem zdV (u v:Ext):cmpE v u = -cmpE u v:=by
 rcases u with(_|_)|x <;> rcases v with(_|_)|y
 all_goals first|exact zkj x y|rfl
theorem zeO (u v:Ext):cmpE u v=0↔u=v:=by
 rcases u with(_|_)|x <;> rcases v with(_|_)|y
 all_goals first
  | exact⟨fun h=>congrArg _ ((zqh x y).1 h),fun h=>(zqh x y).2 (Sum.inr.inj h)⟩
  | exact⟨fun h=>absurd (show(-1:Int)=0 from h) (by decide),fun h=>by cases h⟩
  | exact⟨fun h=>absurd (show(1:Int)=0 from h) (by decide),fun h=>by cases h⟩
  | exact⟨fun _=>rfl,fun _=>rfl⟩
theorem ziZ (u v t:Ext)(h:cmpE u v≤0)(k:cmpE v t≤0):cmpE u t≤0:=by
 rcases u with(_|_)|x <;> rcases v with(_|_)|y <;> rcases t with(_|_)|z
 all_goals first
  | exact(zly x z).2 (Rat.le_trans ((zly x y).1 h) ((zly y z).1 k))
  | exact absurd (show(1:Int)≤0 from h) (by decide)
  | exact absurd (show(1:Int)≤0 from k) (by decide)
  | exact(show(-1:Int)≤0 by decide)
  | exact(show(0:Int)≤0 by decide)
def zeD (k:Int):Bool:=decide (k=1) || (decide (k=2) || decide (k=3))
def hasE (k:Int):Ext→Bool
 | .inl true=>zeD k
 | .inl false=>decide (k=1)
 | .inr x=>decide (k=1) || ((decide (k=2) || decide (k=3))&&decide (0≤x))
def wgtE (k:Int):Ext→Bool
 | .inl _=>false
 | .inr x=>decide (k=1) || ((decide (k=2) || decide (k=3))&&decide (0<x))
def zfT (k:Int):Ext:=if k=1 then .inl true else .inr 0
def zgh (k:Int):Ext:=if k=1 then .inr 0 else .inr 1
def zbH (u v:Ext):Ext:=if cmpE v u<0 then v else u
def zbD (u v:Ext):Ext:=if 0<cmpE v u then v else u
def zbI:Ext→Ext→Ext
 | .inr x,.inr y => .inr (x+y)
 | .inl true,_ => .inl true
 | _,.inl true => .inl true
 | _,_ => .inl false
def sumE:Ext→Ext→Ext
 | .inr x,.inr y => .inr (x+y)
 | _,_ => .inl true
def zaB (u v:Ext):Ext:=if u = .inr 0∨v = .inr 0 then .inr 0 else match u,v with
 | .inr x,.inr y => .inr (x * y)
 | _,_ => .inl true
def zcp (k:Int)(u v:Ext):Ext:=if k=1 then zbH u v else if k=2 then sumE u v else zbD u v
def zaZ (k:Int)(u v:Ext):Ext:=if k=1 then zbI u v else zaB u v
def zcM (k:Int)(u:Ext):Ext :=
 if k=1 then (if cmpE u (.inr 0)<0 then .inl false else .inr 0)
 else if k=2 then (match u with
  | .inr x=>if x<1 then .inr (1 / (1 - x)) else .inl true
  | _ => .inl true)
 else (if 0<cmpE u (.inr 1) then .inl true else .inr 1)
def zbq (k:Int)(u v:Ext):Int:=if k=1 then cmpE u v else cmpE v u
structure Val (k:Int)(a:ByteArray)(v:Ext):Prop where
 e:IsE a v
 has:hasE k v=true
structure Wgt (k:Int)(a:ByteArray)(v:Ext):Prop where
 e:IsE a v
 has:wgtE k v=true
def zfU (k:Int)(a:ByteArray):Prop:=∀ v,IsE a v→hasE k v=false
def zxo (k:Int)(a:ByteArray):Prop:=∀ v,IsE a v→wgtE k v=false
theorem zgi (k:Int)(a:ByteArray):(∃ v,Val k a v)∨zfU k a:=by
 by_cases h:∃ v,Val k a v
 ·exact .inl h
 ·refine .inr fun v hv => ?_
  cases hk:hasE k v
  ·rfl
  ·exact absurd ⟨v,hv,hk⟩ h
theorem zGX (k:Int)(a:ByteArray):(∃ v,Wgt k a v)∨zxo k a:=by
 by_cases h:∃ v,Wgt k a v
 ·exact .inl h
 ·refine .inr fun v hv => ?_
  cases hk:wgtE k v
  ·rfl
  ·exact absurd ⟨v,hv,hk⟩ h
theorem zFL {k:Int}{v:Ext}(h:wgtE k v=true):hasE k v=true:=by
 rcases v with(_|_)|x
 ·cases h
 ·cases h
 ·unfold wgtE at h;unfold hasE
  simp only[Bool.or_eq_true,Bool.and_eq_true,decide_eq_true_eq] at h ⊢;rcases h with h|⟨h1,h2⟩
  ·exact .inl h
  ·exact .inr ⟨h1,Rat.le_of_lt h2⟩
theorem Wgt.val {k:Int}{a:ByteArray}{v:Ext}(h:Wgt k a v):Val k a v:=⟨h.e,zFL h.has⟩
theorem zoP {k:Int}(h1:k≠1)(h2:k≠2)(h3:k≠3)(v:Ext):hasE k v=false:=by
 rcases v with(_|_)|x <;> simp[hasE,zeD,h1,h2,h3]
theorem Val.kind {k:Int}{a:ByteArray}{v:Ext}(h:Val k a v):k=1∨k=2∨k=3:=by
 by_cases h1:k=1
 ·exact .inl h1
 by_cases h2:k=2
 ·exact .inr (.inl h2)
 by_cases h3:k=3
 ·exact .inr (.inr h3)
 have:=zoP h1 h2 h3 v;rw[h.has] at this;cases this
theorem zch (v:Ext):hasE 2 v=hasE 3 v:=by rcases v with(_|_)|x <;> rfl
theorem zvR (v:Ext):wgtE 2 v=wgtE 3 v:=by rcases v with(_|_)|x <;> rfl
theorem zlz (v:Ext):hasE 1 v=true:=by rcases v with(_|_)|x <;> rfl
theorem zat (v:Ext)(h:hasE 2 v=true):v = .inl true∨∃ x,v = .inr x∧0≤x:=by
 rcases v with(_|_)|x
 ·cases h
 ·exact .inl rfl
 ·refine .inr ⟨x,rfl,?_⟩
  simpa [hasE] using h
open Go.RowKit
open Go.Lib (nDigits decDigits)
def Wide (n:Nat)(x:Rat):Prop:=nDigits x.num.natAbs≤n∧nDigits x.den≤n
theorem Wide.mono {m n:Nat}{x:Rat}(h:Wide m x)(k:m≤n):Wide n x:=⟨Nat.le_trans h.1 k,Nat.le_trans h.2 k⟩
theorem zDp (z:Int)(d:Nat)(hd:d≠0):(mkRat z d).num.natAbs≤z.natAbs∧(mkRat z d).den≤d:=by
 have e:sg (decide (z<0)) z.natAbs=z:=by
  unfold sg
  by_cases h:z<0
  ·rw[if_pos (by simpa using h)];omega
  ·rw[if_neg (by simpa using h)];omega
 have h1:=zrQ (decide (z<0)) z.natAbs d hd;have h2:=zrR (decide (z<0)) z.natAbs d hd;rw[e] at h1 h2;rw[h1,h2];exact⟨Nat.div_le_self _ _,Nat.div_le_self _ _⟩
theorem zoQ (z:Int)(d n:Nat)(hd:d≠0)(h1:nDigits z.natAbs≤n)(h2:nDigits d≤n):Wide n (mkRat z d):=by
 obtain⟨k1,k2⟩:=zDp z d hd;exact⟨Nat.le_trans (zbL k1) h1,Nat.le_trans (zbL k2) h2⟩
theorem dig_mul' {x y m n:Nat}(hx:nDigits x≤m)(hy:nDigits y≤n):nDigits (x * y)≤m+n:=by have:=zlU x y;omega
theorem zzW (x y:Rat):x.den * y.den≠0:=Nat.mul_ne_zero x.den_nz y.den_nz
theorem zDq {m n:Nat}{x y:Rat}(hx:Wide m x)(hy:Wide n y):Wide (m+n) (x * y):=by
 rw[← zqd x y];refine zoQ _ _ _ (zzW x y) ?_ (dig_mul' hx.2 hy.2);rw[zit];exact dig_mul' hx.1 hy.1
theorem zDr {m n:Nat}{x y:Rat}(hx:Wide m x)(hy:Wide n y):Wide (m+n+1) (x+y):=by
 rw[← zge x y _ rfl];refine zoQ _ _ _ (zzW x y) ?_ (Nat.le_succ_of_le (dig_mul' hx.2 hy.2));have d1:=dig_mul' hx.1 hy.2;have d2:nDigits (y.num.natAbs * x.den)≤m+n:=by have:=dig_mul' hy.1 hx.2;omega
 refine Nat.le_trans (zbL ?_) (zif _ _ _ d1 d2);have e1:=zit (sgn x) (x.num.natAbs * y.den);have e2:=zit (sgn y) (y.num.natAbs * x.den)
 omega
theorem zzX:Wide 1 (0:Rat):=by unfold Wide;decide +kernel
theorem zDs:Wide 1 (1:Rat):=by unfold Wide;decide +kernel
theorem zxp {x:Rat}:(1 - x)=mkRat ((x.den:Int) - x.num) x.den:=by
 have e:=zge 1 (-x) _ rfl;rw[Rat.sub_eq_add_neg,← e]
 have h1:sg (sgn 1) ((1:Rat).num.natAbs * (-x).den)=(x.den:Int):=by
  rw[Rat.neg_den,show sgn 1=false by decide +kernel,show(1:Rat).num.natAbs=1 by decide +kernel];unfold sg;simp
 have h2:sg (sgn (-x)) ((-x).num.natAbs * (1:Rat).den) = -x.num:=by
  rw[show(1:Rat).den=1 by decide +kernel,Nat.mul_one,← Rat.neg_num];exact zrP (-x)
 rw[h1,h2,show(1:Rat).den * (-x).den=x.den by rw[Rat.neg_den,show(1:Rat).den=1 by decide +kernel,Nat.one_mul],Int.sub_eq_add_neg]
theorem zxq {x:Rat}(h0:0≤x)(h1:x≤1)(h:zbd x):zbd (1 - x):=by
 rw[zxp];have k0:=Rat.num_nonneg.2 h0
 have k1:x.num≤x.den:=by
  have:=(Rat.le_iff x 1).1 h1;rw[show(1:Rat).num=1 by decide +kernel,show(1:Rat).den=1 by decide +kernel] at this
  omega
 refine zoQ _ _ 400 x.den_nz ?_ h.2;refine Nat.le_trans (zbL ?_) h.2
 omega
theorem zvS {x:Rat}(h:x<1):(1 - x).num≠0:=fun k=>by
 rw[Rat.num_eq_zero] at k;have:=Rat.sub_add_cancel (a:=1) (b:=x);rw[k,Rat.zero_add] at this;rw[this] at h;exact Rat.lt_irrefl h
open Go.RowKit
open Go.Lib (nDigits decDigits)
def leE (u v:Ext):Prop:=cmpE u v≤0
theorem zbU (u:Ext):leE u u:=by unfold leE;rw[(zeO u u).2 rfl];decide
theorem zdt {u v t:Ext}(h:leE u v)(k:leE v t):leE u t:=ziZ u v t h k
theorem zeP (u v:Ext):leE u v∨leE v u:=by
 unfold leE;have:=zdV u v
 omega
theorem zsy {u v:Ext}(h:leE u v)(k:leE v u):u=v:=by
 unfold leE at *;have:=zdV u v;exact(zeO u v).1 (by omega)
theorem zbi (x y:Rat):leE (.inr x) (.inr y)↔x≤y:=zly x y
theorem zbQ (u:Ext):leE u (.inl true):=by
 rcases u with(_|_)|x
 ·exact(show(-1:Int)≤0 by decide)
 ·exact(show(0:Int)≤0 by decide)
 ·exact(show(-1:Int)≤0 by decide)
theorem zvT (u:Ext):leE (.inl false) u:=by
 rcases u with(_|_)|x
 ·exact(show(0:Int)≤0 by decide)
 ·exact(show(-1:Int)≤0 by decide)
 ·exact(show(-1:Int)≤0 by decide)
theorem zbA (x:Rat):¬ leE (.inl true) (.inr x):=fun h=>absurd (show(1:Int)≤0 from h) (by decide)
theorem zig:¬ leE (.inl true) (.inl false):=fun h=>absurd (show(1:Int)≤0 from h) (by decide)
theorem zey (x:Rat):¬ leE (.inr x) (.inl false):=fun h=>absurd (show(1:Int)≤0 from h) (by decide)
theorem zeQ {u v:Ext}(h:leE u v):zbH u v=u:=by
 unfold zbH;unfold leE at h;have:=zdV u v;rw[if_neg (by omega)]
theorem zfi {u v:Ext}(h:leE v u):zbH u v=v:=by
 unfold zbH
 by_cases k:cmpE v u<0
 ·rw[if_pos k]
 ·rw[if_neg k]
  unfold leE at h;exact((zeO v u).1 (by omega)).symm
theorem zeR {u v:Ext}(h:leE v u):zbD u v=u:=by
 unfold zbD;unfold leE at h;rw[if_neg (by omega)]
theorem zfj {u v:Ext}(h:leE u v):zbD u v=v:=by
 unfold zbD
 by_cases k:0<cmpE v u
 ·rw[if_pos k]
 ·rw[if_neg k]
  unfold leE at h;have:=zdV u v;exact(zeO u v).1 (by omega)
theorem zfG (t u v:Ext):leE t (zbH u v)↔leE t u∧leE t v:=by
 rcases zeP u v with h|h
 ·rw[zeQ h];exact⟨fun k=>⟨k,zdt k h⟩,fun k=>k.1⟩
 ·rw[zfi h];exact⟨fun k=>⟨zdt k h,k⟩,fun k=>k.2⟩
theorem zfH (t u v:Ext):leE (zbD u v) t↔leE u t∧leE v t:=by
 rcases zeP u v with h|h
 ·rw[zfj h];exact⟨fun k=>⟨zdt h k,k⟩,fun k=>k.2⟩
 ·rw[zeR h];exact⟨fun k=>⟨k,zdt h k⟩,fun k=>k.1⟩
theorem zsz {u v:Ext}(h:∀ t,leE t u↔leE t v):u=v:=zsy ((h u).1 (zbU u)) ((h v).2 (zbU v))
theorem zsA {u v:Ext}(h:∀ t,leE u t↔leE v t):u=v:=zsy ((h v).2 (zbU v)) ((h u).1 (zbU u))
theorem zzY (u v:Ext):zbH u v=zbH v u:=zsz fun t=>by rw[zfG,zfG];exact and_comm
theorem zzZ (u v:Ext):zbD u v=zbD v u:=zsA fun t=>by rw[zfH,zfH];exact and_comm
theorem zxr (u v t:Ext):zbH (zbH u v) t=zbH u (zbH v t):=zsz fun s=>by simp only[zfG,and_assoc]
theorem zxs (u v t:Ext):zbD (zbD u v) t=zbD u (zbD v t):=zsA fun s=>by simp only[zfH,and_assoc]
theorem zvU (u v:Ext):zbH u v=u∨zbH u v=v:=by rcases zeP u v with h|h;exact .inl (zeQ h);exact .inr (zfi h)
theorem zoR (u v:Ext):zbD u v=u∨zbD u v=v:=by rcases zeP u v with h|h;exact .inr (zfj h);exact .inl (zeR h)
theorem zDt (u:Ext):zbI (.inl true) u = .inl true:=by rcases u with(_|_)|x <;> rfl
theorem zkk (u v:Ext):zbI u v=zbI v u:=by
 rcases u with(_|_)|x <;> rcases v with(_|_)|y
 all_goals first|exact congrArg Sum.inr (Rat.add_comm x y)|rfl
theorem zxt (u v t:Ext):zbI (zbI u v) t=zbI u (zbI v t):=by
 rcases u with(_|_)|x <;> rcases v with(_|_)|y <;> rcases t with(_|_)|z
 all_goals first|exact congrArg Sum.inr (Rat.add_assoc x y z)|rfl
theorem zkl (u:Ext):zbI u (.inr 0)=u:=by
 rcases u with(_|_)|x
 ·rfl
 ·rfl
 ·exact congrArg Sum.inr (Rat.add_zero x)
theorem zkm (t u v:Ext)(h:leE u v):leE (zbI t u) (zbI t v):=by
 rcases t with(_|_)|z <;> rcases u with(_|_)|x <;> rcases v with(_|_)|y
 all_goals first
  | exact zbQ _
  | exact zvT _
  | exact absurd h zig
  | exact absurd h (zbA _)
  | exact absurd h (zey _)
  | exact(zbi _ _).2 (Rat.add_le_add_left.2 ((zbi _ _).1 h))
theorem zAa (t u v:Ext):zbI t (zbH u v)=zbH (zbI t u) (zbI t v):=by
 rcases zeP u v with h|h
 ·rw[zeQ h,zeQ (zkm t u v h)]
 ·rw[zfi h,zfi (zkm t v u h)]
theorem zaU (x y:Rat):zaB (.inr x) (.inr y) = .inr (x * y):=by
 unfold zaB
 by_cases hx:x=0
 ·subst hx;rw[if_pos (.inl rfl),Rat.zero_mul]
 by_cases hy:y=0
 ·subst hy;rw[if_pos (.inr rfl),Rat.mul_zero]
 rw[if_neg (fun h=>by rcases h with h|h;exact hx (Sum.inr.inj h);exact hy (Sum.inr.inj h))]
theorem zaS (u:Ext):zaB (.inr 0) u = .inr 0:=if_pos (.inl rfl)
theorem zaz (u:Ext):zaB u (.inr 0) = .inr 0:=if_pos (.inr rfl)
theorem zaC {x:Rat}(h:x≠0):zaB (.inl true) (.inr x) = .inl true:=by
 unfold zaB;rw[if_neg (fun k=>by rcases k with k|k;cases k;exact h (Sum.inr.inj k))]
theorem zaE {x:Rat}(h:x≠0):zaB (.inr x) (.inl true) = .inl true:=by
 unfold zaB;rw[if_neg (fun k=>by rcases k with k|k;exact h (Sum.inr.inj k);cases k)]
theorem zbf:zaB (.inl true) (.inl true) = .inl true:=by
 unfold zaB;rw[if_neg (fun k=>by rcases k with k|k <;> cases k)]
theorem zkn (u v:Ext)(hu:hasE 2 u=true)(hv:hasE 2 v=true):zaB u v=zaB v u:=by
 rcases zat u hu with rfl|⟨x,rfl,hx⟩ <;> rcases zat v hv with rfl|⟨y,rfl,hy⟩
 ·rfl
 ·by_cases h:y=0
  ·subst h;rw[zaS,zaz]
  ·rw[zaC h,zaE h]
 ·by_cases h:x=0
  ·subst h;rw[zaS,zaz]
  ·rw[zaC h,zaE h]
 ·rw[zaU,zaU,Rat.mul_comm]
theorem zAb {x y:Rat}(hx:x≠0)(hy:y≠0):x * y≠0:=fun h=>by rcases Rat.mul_eq_zero.1 h with h|h;exact hx h;exact hy h
theorem znu (u v t:Ext)(hu:hasE 2 u=true)(hv:hasE 2 v=true)(ht:hasE 2 t=true):zaB (zaB u v) t=zaB u (zaB v t):=by
 by_cases zu:u = .inr 0
 ·subst zu;rw[zaS,zaS,zaS]
 by_cases zv:v = .inr 0
 ·subst zv;rw[zaS,zaz,zaS]
 by_cases zt:t = .inr 0
 ·subst zt;rw[zaz,zaz,zaz]
 rcases zat u hu with rfl|⟨x,rfl,hx⟩ <;> rcases zat v hv with rfl|⟨y,rfl,hy⟩ <;> rcases zat t ht with rfl|⟨z,rfl,hz⟩
 ·rw[zbf]
 ·rw[zbf,zaC (fun h=>zt (congrArg _ h)),zbf]
 ·rw[zaC (fun h=>zv (congrArg _ h)),zaE (fun h=>zv (congrArg _ h))]
 ·rw[zaC (fun h=>zv (congrArg _ h)),zaC (fun h=>zt (congrArg _ h)),zaU,zaC (zAb (fun h=>zv (congrArg _ h)) (fun h=>zt (congrArg _ h)))]
 ·rw[zaE (fun h=>zu (congrArg _ h)),zbf,zaE (fun h=>zu (congrArg _ h))]
 ·rw[zaE (fun h=>zu (congrArg _ h)),zaC (fun h=>zt (congrArg _ h)),zaE (fun h=>zu (congrArg _ h))]
 ·rw[zaU,zaE (fun h=>zv (congrArg _ h)),zaE (fun h=>zu (congrArg _ h)),zaE (zAb (fun h=>zu (congrArg _ h)) (fun h=>zv (congrArg _ h)))]
 ·rw[zaU,zaU,zaU,zaU,Rat.mul_assoc]
theorem zja (u:Ext)(hu:hasE 2 u=true):zaB u (.inr 1)=u:=by
 rcases zat u hu with rfl|⟨x,rfl,hx⟩
 ·exact zaC (by decide +kernel)
 ·rw[zaU,Rat.mul_one]
theorem zhN (t u v:Ext)(ht:hasE 2 t=true)(hu:hasE 2 u=true)(hv:hasE 2 v=true)(h:leE u v):leE (zaB t u) (zaB t v):=by
 by_cases zt:t = .inr 0
 ·subst zt;rw[zaS,zaS];exact zbU _
 rcases zat v hv with rfl|⟨y,rfl,hy⟩
 ·rcases zat t ht with rfl|⟨z,rfl,hz⟩
  ·rw[zbf];exact zbQ _
  ·rw[zaE (fun h=>zt (congrArg _ h))];exact zbQ _
 rcases zat u hu with rfl|⟨x,rfl,hx⟩
 ·exact absurd h (zbA _)
 have k:=(zbi _ _).1 h;rcases zat t ht with rfl|⟨z,rfl,hz⟩
 ·by_cases zx:x=0
  ·subst zx
   rw[zaz]
   by_cases zy:y=0
   ·subst zy;rw[zaz];exact zbU _
   ·rw[zaC zy];exact zbQ _
  ·have zy:y≠0:=fun e=>zx (Rat.le_antisymm (e ▸ k) hx)
   rw[zaC zx,zaC zy];exact zbU _
 ·rw[zaU,zaU]
  exact(zbi _ _).2 (Rat.mul_le_mul_of_nonneg_left k hz)
theorem zAc (t u v:Ext)(ht:hasE 2 t=true)(hu:hasE 2 u=true)(hv:hasE 2 v=true):zaB t (zbD u v)=zbD (zaB t u) (zaB t v):=by
 rcases zeP u v with h|h
 ·rw[zfj h,zfj (zhN t u v ht hu hv h)]
 ·rw[zeR h,zeR (zhN t v u ht hv hu h)]
theorem zbr (x y:Rat):sumE (.inr x) (.inr y) = .inr (x+y):=rfl
theorem zbg (u:Ext):sumE (.inl true) u = .inl true:=by rcases u with(_|_)|x <;> rfl
theorem zaT (u:Ext):sumE u (.inl true) = .inl true:=by rcases u with(_|_)|x <;> rfl
theorem zDu (u v:Ext)(hu:hasE 2 u=true)(hv:hasE 2 v=true):sumE u v=sumE v u:=by
 rcases zat u hu with rfl|⟨x,rfl,hx⟩ <;> rcases zat v hv with rfl|⟨y,rfl,hy⟩
 ·rfl
 ·rfl
 ·rfl
 ·rw[zbr,zbr,Rat.add_comm]
theorem zAd (u v t:Ext)(hu:hasE 2 u=true)(hv:hasE 2 v=true)(ht:hasE 2 t=true):sumE (sumE u v) t=sumE u (sumE v t):=by
 rcases zat u hu with rfl|⟨x,rfl,hx⟩
 ·rw[zbg,zbg,zbg]
 rcases zat v hv with rfl|⟨y,rfl,hy⟩
 ·rw[zaT,zbg,zaT]
 rcases zat t ht with rfl|⟨z,rfl,hz⟩
 ·rw[zaT,zaT,zaT]
 rw[zbr,zbr,zbr,zbr,Rat.add_assoc]
theorem zDv (u:Ext)(hu:hasE 2 u=true):sumE u (.inr 0)=u:=by
 rcases zat u hu with rfl|⟨x,rfl,hx⟩
 ·rfl
 ·rw[zbr,Rat.add_zero]
theorem zFM {x y:Rat}(hx:0≤x)(hy:0≤y)(h:x+y=0):x=0∧y=0:=by
 have h1:x≤x+y:=by
  have:=(Rat.add_le_add_left (c:=x)).2 hy
  rwa [Rat.add_zero] at this
 have h2:y≤x+y:=by
  have:=(Rat.add_le_add_right (c:=y)).2 hx
  rwa [Rat.zero_add] at this
 rw[h] at h1 h2;exact⟨Rat.le_antisymm h1 hx,Rat.le_antisymm h2 hy⟩
theorem zDw (t u v:Ext)(ht:hasE 2 t=true)(hu:hasE 2 u=true)(hv:hasE 2 v=true):zaB t (sumE u v)=sumE (zaB t u) (zaB t v):=by
 rcases zat t ht with rfl|⟨z,rfl,hz⟩
 ·rcases zat u hu with rfl|⟨x,rfl,hx⟩
  ·rw[zbg,zbf,zbg]
  rcases zat v hv with rfl|⟨y,rfl,hy⟩
  ·rw[zaT,zbf,zaT]
  rw[zbr]
  by_cases zx:x=0
  ·subst zx
   rw[Rat.zero_add,zaz]
   by_cases zy:y=0
   ·subst zy;rw[zaz,zbr,Rat.zero_add]
   ·rw[zaC zy];rfl
  ·rw[zaC zx,zbg]
   exact zaC (fun h=>zx (zFM hx hy h).1)
 ·by_cases zz:z=0
  ·subst zz;rw[zaS,zaS,zaS,zbr,Rat.zero_add]
  rcases zat u hu with rfl|⟨x,rfl,hx⟩
  ·rw[zbg,zaE zz,zbg]
  rcases zat v hv with rfl|⟨y,rfl,hy⟩
  ·rw[zaT,zaE zz,zaT]
  rw[zbr,zaU,zaU,zaU,zbr,Rat.mul_add]
theorem zoS {x:Rat}(h:0≤x):hasE 2 (.inr x)=true:=by simp[hasE,h]
theorem zsB {u v:Ext}(hu:hasE 2 u=true)(hv:hasE 2 v=true):hasE 2 (zaB u v)=true:=by
 by_cases zu:u = .inr 0
 ·subst zu;rw[zaS];exact hu
 by_cases zv:v = .inr 0
 ·subst zv;rw[zaz];exact hv
 rcases zat u hu with rfl|⟨x,rfl,hx⟩ <;> rcases zat v hv with rfl|⟨y,rfl,hy⟩
 ·rw[zbf];rfl
 ·rw[zaC (fun h=>zv (congrArg _ h))];rfl
 ·rw[zaE (fun h=>zu (congrArg _ h))];rfl
 ·rw[zaU];exact zoS (Rat.mul_nonneg hx hy)
theorem zFN {u v:Ext}(hu:hasE 2 u=true)(hv:hasE 2 v=true):hasE 2 (sumE u v)=true:=by
 rcases zat u hu with rfl|⟨x,rfl,hx⟩
 ·rw[zbg];rfl
 rcases zat v hv with rfl|⟨y,rfl,hy⟩
 ·rw[zaT];rfl
 ·rw[zbr];exact zoS (Rat.add_nonneg hx hy)
abbrev zad (k:Int):Prop:=k=1∨k=2∨k=3
theorem zDx {k:Int}(hk:zad k){u v:Ext}(hu:hasE k u=true)(hv:hasE k v=true):hasE k (zcp k u v)=true:=by
 rcases hk with rfl|rfl|rfl
 ·exact zlz _
 ·exact zFN hu hv
 ·show hasE 3 (zbD u v)=true
  rcases zoR u v with h|h <;> rw[h] <;> assumption
theorem zAe {k:Int}(hk:zad k){u v:Ext}(hu:hasE k u=true)(hv:hasE k v=true):hasE k (zaZ k u v)=true:=by
 rcases hk with rfl|rfl|rfl
 ·exact zlz _
 ·exact zsB hu hv
 ·rw[← zch] at *;exact zsB hu hv
theorem zAf {k:Int}(hk:zad k):hasE k (zfT k)=true:=by rcases hk with rfl|rfl|rfl <;> decide +kernel
theorem zDy {k:Int}(hk:zad k):hasE k (zgh k)=true:=by rcases hk with rfl|rfl|rfl <;> decide +kernel
theorem zAg {k:Int}(hk:zad k){u v:Ext}(hu:hasE k u=true)(hv:hasE k v=true):zcp k u v=zcp k v u:=by
 rcases hk with rfl|rfl|rfl
 ·exact zzY u v
 ·exact zDu u v hu hv
 ·exact zzZ u v
theorem zxu {k:Int}(hk:zad k){u v t:Ext}(hu:hasE k u=true)(hv:hasE k v=true)(ht:hasE k t=true):zcp k (zcp k u v) t=zcp k u (zcp k v t):=by
 rcases hk with rfl|rfl|rfl
 ·exact zxr u v t
 ·exact zAd u v t hu hv ht
 ·exact zxs u v t
theorem zfk {k:Int}(hk:zad k){u v:Ext}(hu:hasE k u=true)(hv:hasE k v=true):zaZ k u v=zaZ k v u:=by
 rcases hk with rfl|rfl|rfl
 ·exact zkk u v
 ·exact zkn u v hu hv
 ·rw[← zch] at *;exact zkn u v hu hv
theorem zuG {k:Int}(hk:zad k){u v t:Ext}(hu:hasE k u=true)(hv:hasE k v=true)(ht:hasE k t=true):zaZ k (zaZ k u v) t=zaZ k u (zaZ k v t):=by
 rcases hk with rfl|rfl|rfl
 ·exact zxt u v t
 ·exact znu u v t hu hv ht
 ·rw[← zch] at *;exact znu u v t hu hv ht
theorem zxv {k:Int}(hk:zad k){u v t:Ext}(hu:hasE k u=true)(hv:hasE k v=true)(ht:hasE k t=true):zaZ k u (zcp k v t)=zcp k (zaZ k u v) (zaZ k u t):=by
 rcases hk with rfl|rfl|rfl
 ·exact zAa u v t
 ·exact zDw u v t hu hv ht
 ·rw[← zch] at *;exact zAc u v t hu hv ht
theorem zAh {k:Int}(hk:zad k){u:Ext}(hu:hasE k u=true):zcp k u (zfT k)=u:=by
 rcases hk with rfl|rfl|rfl
 ·exact zeQ (zbQ u)
 ·exact zDv u hu
 ·rw[← zch] at hu
  refine zeR ?_;rcases zat u hu with rfl|⟨x,rfl,hx⟩
  ·exact zbQ _
  ·exact(zbi _ _).2 hx
theorem zAi {k:Int}(hk:zad k){u:Ext}(hu:hasE k u=true):zaZ k u (zgh k)=u:=by
 rcases hk with rfl|rfl|rfl
 ·exact zkl u
 ·exact zja u hu
 ·rw[← zch] at hu;exact zja u hu
theorem zxw {k:Int}(hk:zad k)(u:Ext):zaZ k u (zfT k)=zfT k:=by
 rcases hk with rfl|rfl|rfl
 ·show zbI u (.inl true) = .inl true
  rw[zkk,zDt]
 ·exact zaz u
 ·exact zaz u
theorem zlW (k:Int)(u v:Ext):zbq k v u = -zbq k u v:=by
 unfold zbq
 split
 ·exact zdV u v
 ·exact zdV v u
theorem zlX (k:Int)(u v:Ext):zbq k u v=0↔u=v:=by
 unfold zbq
 split
 ·exact zeO u v
 ·exact(zeO v u).trans ⟨Eq.symm,Eq.symm⟩
theorem zsC (k:Int)(u v t:Ext)(h:zbq k u v≤0)(j:zbq k v t≤0):zbq k u t≤0:=by
 by_cases hk:k=1
 ·subst hk;exact ziZ u v t h j
 ·have e:∀ a b,zbq k a b=cmpE b a:=fun a b=>if_neg hk
  rw[e] at *;exact ziZ t v u j h
theorem zsD {k:Int}(hk:zad k){u v t:Ext}(hu:hasE k u=true)(hv:hasE k v=true)(ht:hasE k t=true)(h:zbq k u v≤0):zbq k (zaZ k u t) (zaZ k v t)≤0:=by
 rw[zfk hk hu ht,zfk hk hv ht];rcases hk with rfl|rfl|rfl
 ·exact zkm t u v h
 ·exact zhN t v u ht hv hu h
 ·rw[← zch] at *;exact zhN t v u ht hv hu h
theorem zDz {x:Rat}(h:x<1):1 / (1 - x)=1+x * (1 / (1 - x)):=by
 have hne:(1 - x)≠0:=fun k=>zvS h (by rw[k];rfl);have e:1 / (1 - x) * (1 - x)=1:=Rat.div_mul_cancel hne;generalize 1 / (1 - x)=s at *;rw[Rat.sub_eq_add_neg,Rat.mul_add,Rat.mul_one,Rat.mul_neg] at e;have e2:s + -(s * x)+s * x=1+s * x:=by rw[e]
 rw[Rat.add_assoc,Rat.neg_add_cancel,Rat.add_zero] at e2;rw[Rat.mul_comm x s];exact e2
theorem zlY {x:Rat}(h:x<1):0≤1 / (1 - x):=by
 have h1:0<1 - x:=(Rat.lt_iff_sub_pos x 1).1 h;rw[Rat.div_def,Rat.one_mul];exact Rat.le_of_lt (Rat.inv_pos.2 h1)
theorem zDA {k:Int}(hk:zad k)(u:Ext)(hu:hasE k u=true):hasE k (zcM k u)=true:=by
 rcases hk with rfl|rfl|rfl
 ·exact zlz _
 ·rcases zat u hu with rfl|⟨x,rfl,hx⟩
  ·rfl
  ·show hasE 2 (if x<1 then .inr (1 / (1 - x)) else .inl true)=true
   by_cases h:x<1
   ·rw[if_pos h];exact zoS (zlY h)
   ·rw[if_neg h];rfl
 ·show hasE 3 (if 0<cmpE u (.inr 1) then .inl true else .inr 1)=true
  split <;> decide +kernel
theorem star_law {k:Int}(hk:zad k)(u:Ext)(hu:hasE k u=true):zcp k (zgh k) (zaZ k u (zcM k u))=zcM k u:=by
 rcases hk with rfl|rfl|rfl
 ·show zbH (.inr 0) (zbI u (if cmpE u (.inr 0)<0 then .inl false else .inr 0))=if cmpE u (.inr 0)<0 then .inl false else .inr 0
  by_cases h:cmpE u (.inr 0)<0
  ·rw[if_pos h]
   have:zbI u (.inl false) = .inl false:=by
    rcases u with(_|_)|x
    ·rfl
    ·exact absurd (show(1:Int)<0 from h) (by decide)
    ·rfl
   rw[this];exact zfi (zvT _)
  ·rw[if_neg h,zkl]
   refine zeQ ?_;unfold leE;have:=zdV u (.inr 0)
   omega
 ·rcases zat u hu with rfl|⟨x,rfl,hx⟩
  ·show sumE (.inr 1) (zaB (.inl true) (.inl true)) = .inl true
   rw[zbf];rfl
  ·show sumE (.inr 1) (zaB (.inr x) (if x<1 then .inr (1 / (1 - x)) else .inl true))=if x<1 then .inr (1 / (1 - x)) else .inl true
   by_cases h:x<1
   ·rw[if_pos h,zaU,zbr,← zDz h]
   ·rw[if_neg h,zaE (fun e=>by subst e;exact h (by decide +kernel)),zaT]
 ·rw[← zch] at hu
  show zbD (.inr 1) (zaB u (if 0<cmpE u (.inr 1) then .inl true else .inr 1))=if 0<cmpE u (.inr 1) then .inl true else .inr 1
  by_cases h:0<cmpE u (.inr 1)
  ·rw[if_pos h]
   have:zaB u (.inl true) = .inl true:=by
    rcases zat u hu with rfl|⟨x,rfl,hx⟩
    ·exact zbf
    ·exact zaE (fun e=>by subst e;revert h;decide +kernel)
   rw[this];exact zfj (zbQ _)
  ·rw[if_neg h,zja u hu]
   exact zeR (by unfold leE;omega)
def zaA (n:Nat):Ext→Prop
 | .inr x=>Wide n x
 | _=>True
def Fits:Ext→Prop
 | .inr x=>zbd x
 | _=>True
def extT:Ext→ByteArray
 | .inl true=>infS
 | .inl false=>lowS
 | .inr x=>ratS x
theorem zvV {v:Ext}(h:Fits v):IsE (extT v) v:=by
 rcases v with(_|_)|x
 ·rfl
 ·rfl
 ·exact⟨h,rfl⟩
theorem zko {v:Ext}(h:Fits v):extV v = .tuple #[.string (extT v),.int .i64 0]:=zfF (zvV h)
theorem IsE.text {a:ByteArray}{v:Ext}(h:IsE a v):a=extT v:=by
 rcases v with(_|_)|x
 ·exact h
 ·exact h
 ·exact h.eq
theorem zaA.mono {m n:Nat}{v:Ext}(h:zaA m v)(k:m≤n):zaA n v:=by
 rcases v with(_|_)|x
 ·trivial
 ·trivial
 ·exact Wide.mono h k
theorem zaA.fits {n:Nat}{v:Ext}(h:zaA n v)(k:n≤400):Fits v:=by
 rcases v with(_|_)|x
 ·trivial
 ·trivial
 ·exact Wide.mono h k
theorem zgC:zaA 1 (.inr 0):=zzX
theorem zqi:zaA 1 (.inr 1):=zDs
theorem zxx {m n:Nat}{u v:Ext}(hm:1≤m)(hu:zaA m u)(hv:zaA n v):zaA (m+n) (zaB u v):=by
 unfold zaB
 split
 ·exact zgC.mono (by omega)
 ·rcases u with(_|_)|x <;> rcases v with(_|_)|y
  all_goals first|exact zDq hu hv|trivial
theorem zdH (k:Int){m n:Nat}{u v:Ext}(hm:1≤m)(hu:zaA m u)(hv:zaA n v):zaA (m+n+1) (zaZ k u v):=by
 unfold zaZ
 split
 ·rcases u with(_|_)|x <;> rcases v with(_|_)|y
  all_goals first|exact zDr hu hv|trivial
 ·exact(zxx hm hu hv).mono (by omega)
theorem zda (k:Int):zaA 1 (zfT k):=by unfold zfT;split;trivial;exact zgC
theorem zgD (k:Int):zaA 1 (zgh k):=by unfold zgh;split;exact zgC;exact zqi
end Go.Proofs.YtaogepcaoogpgaaGreatDoor
