/- WE07 WE14 -/
import Derived.Test.YtaogepcaoogpgaaGreatDoorKE09
import Derived.Test.YtaogepcaoogpgaaGreatDoorKE08
import Derived.Laws.EntriesVeiled
import Derived.Great.Walk
set_option linter.unusedVariables false
set_option linter.unusedSimpArgs false
set_option maxRecDepth 100000
set_option maxHeartbeats 16000000
namespace Go.Proofs.YtaogepcaoogpgaaGreatDoor
open Go.RowKit
open Go.Lib (nDigits decDigits)
def zcc (w:World)(g:Nat)(l:List Value):Prop:=w.heap[g]? = some (.cells l.toArray 3 (0,0))
theorem zcc.cell {w:World}{g:Nat}{l:List Value}(h:zcc w g l)(k:Nat):w.cell? ⟨g,k,none⟩=l[k]? := by
 rw[zfA h];simp
theorem zcc.free {w:World}{g:Nat}{l:List Value}(h:zcc w g l)(k:Nat):w.frozen? ⟨g,k,none⟩=false:=frozen_of_row w g k _ _ h
theorem zcc.set {w:World}{g:Nat}{l:List Value}(h:zcc w g l)(k:Nat)(u:Value):zcc (w.setCell ⟨g,k,none⟩ u) g (l.set k u):=by
 unfold zcc;rw[heap_setCell_same w g k _ _ u h];simp
theorem zcc.lt {w:World}{g:Nat}{l:List Value}(h:zcc w g l):g<w.heap.size:=lt_of_block h
theorem zcc.of_full {w:World}{B g n:Nat}{l:List Value}(h:w.ownsRow B 3 1 (.slice (some ⟨g,0,none⟩) n n) n l):zcc w g l:=by
 rcases h.2 with⟨h',_⟩|⟨g',cap',cur,h',hb,hg,_,_,hs,ht⟩
 ·simp at h'
 ·simp only[Value.slice.injEq,Option.some.injEq,Addr.mk.injEq,and_true,true_and] at h'
  obtain⟨rfl,rfl⟩:=h';rw[List.take_of_length_le (by rw[Array.length_toList,hs];exact Nat.le_refl _)] at ht;subst ht;unfold zcc;rw[hg]
theorem zsg (n:Nat):(madeCells #[Value.int .i64 0] n).toList=iv (List.replicate n 0):=by
 rw[toList_madeCells_one];simp[iv]
theorem zzB (zs:List Nat)(k:Nat)(h:k<zs.length):(iv zs)[k]? = some (.int .i64 (zs.getD k 0:Nat)):=by
 simp[iv,List.getD_eq_getElem?_getD,List.getElem?_eq_getElem h]
theorem zGo (zs:List Nat)(i n:Nat):(iv zs).set i (.int .i64 (n:Int))=iv (zs.set i n):=by simp[iv,List.map_set]
theorem zcc.digs {w:World}{g:Nat}{zs:List Nat}(h:zcc w g (iv zs))(h0:zs≠[]):Digs w (.slice (some ⟨g,0,none⟩) zs.length zs.length) zs :=
 .inr ⟨g,_,rfl,h0,h.lt,fun k hk=>by rw[h.cell,zzB zs k hk]⟩
theorem zzC:∀ (zs:List Nat) (k v:Nat),k<zs.length→vl 10 (zs.set k v)+10 ^ k * zs.getD k 0=vl 10 zs+10 ^ k * v
 | [],k,v,h=>by simp at h
 | z::zs,0,v,h=>by simp[vl];omega
 | z::zs,k+1,v,h=>by
  have ih:=zzC zs k v (by simpa using h);simp only[List.set_cons_succ,vl,List.getD_cons_succ,Nat.pow_succ];rw[Nat.mul_comm (10 ^ k) 10,Nat.mul_assoc,Nat.mul_assoc]
  omega
structure zgZ (xs ys:List Nat)(i:Nat)(zs:List Nat):Prop where
 len:zs.length=xs.length+ys.length+1
 lt:∀ d∈zs,d<10
 val:vl 10 zs=vl 10 (xs.take i) * vl 10 ys
structure zfR (z0:Nat)(N x:Nat)(ys:List Nat)(i j c:Nat)(zs:List Nat):Prop where
 len:zs.length=N
 lt:∀ d∈zs,d<10
 carry:c≤9
 val:vl 10 zs+10 ^ (i+j) * c=z0+10 ^ i * (x * vl 10 (ys.take j))
theorem zgZ.start (xs ys:List Nat):zgZ xs ys 0 (List.replicate (xs.length+ys.length+1) 0) :=
 ⟨by simp,fun d h=>by rw[(List.mem_replicate.1 h).2];decide,by rw[zfv];simp[vl]⟩
theorem zfR.start {xs ys zs:List Nat}{i x:Nat}(h:zgZ xs ys i zs):zfR (vl 10 zs) (xs.length+ys.length+1) x ys i 0 0 zs :=
 ⟨h.len,h.lt,by omega,by simp[vl]⟩
theorem zfR.step {z0 N x i j c:Nat}{ys zs:List Nat}(h:zfR z0 N x ys i j c zs)(hij:i+j<N)(hx:x<10)(hy:∀ d∈ys,d<10) :
  zfR z0 N x ys i (j+1) ((zs.getD (i+j) 0+x * ys.getD j 0+c) / 10) (zs.set (i+j) ((zs.getD (i+j) 0+x * ys.getD j 0+c) % 10)):=by
 have h1:=getD_lt zs h.lt (i+j);have h2:=getD_lt ys hy j;have h3:=h.carry;have hm:x * ys.getD j 0≤9 * 9:=Nat.mul_le_mul (by omega) (by omega);refine⟨by rw[List.length_set,h.len],fun d hd => ?_,by omega,?_⟩
 ·rcases List.mem_or_eq_of_mem_set hd with hd|hd
  ·exact h.lt d hd
  ·rw[hd];omega
 ·have e:=h.val
  have s:=zzC zs (i+j) ((zs.getD (i+j) 0+x * ys.getD j 0+c) % 10) (by rw[h.len];exact hij);rw[zaw];have hd:=Nat.div_add_mod (zs.getD (i+j) 0+x * ys.getD j 0+c) 10
  have e2:10 ^ i * (x * (vl 10 (ys.take j)+10 ^ j * ys.getD j 0))=10 ^ i * (x * vl 10 (ys.take j))+10 ^ (i+j) * (x * ys.getD j 0):=by
   rw[Nat.mul_add,Nat.mul_add,Nat.pow_add,Nat.mul_assoc (10 ^ i),Nat.mul_left_comm x]
  rw[e2,show i+(j+1)=i+j+1 from rfl,Nat.pow_succ];generalize vl 10 (zs.set (i+j) ((zs.getD (i+j) 0+x * ys.getD j 0+c) % 10))=V at *;generalize zs.getD (i+j) 0=p at *;generalize x * ys.getD j 0=q at *;generalize 10 ^ i * (x * vl 10 (ys.take j))=W at *;generalize 10 ^ (i+j)=P at *;generalize (p+q+c) / 10=u at *;generalize (p+q+c) % 10=v at *;have e1:P * 10 * u+P * v=P * (p+q+c):=by rw[← hd,Nat.mul_add,Nat.mul_assoc]
  rw[Nat.mul_add,Nat.mul_add] at e1
  omega
theorem zfR.fin {xs ys zs ws:List Nat}{i c:Nat}(h0:zgZ xs ys i zs)(hi:i<xs.length)(h:zfR (vl 10 zs) (xs.length+ys.length+1) (xs.getD i 0) ys i (ys.length+1) c ws)(hx:∀ d∈xs,d<10)(hy:∀ d∈ys,d<10):zgZ xs ys (i+1) ws:=by
 refine⟨h.len,h.lt,?_⟩;have e:=h.val;rw[h0.val,List.take_of_length_le (l:=ys) (by omega)] at e
 have e2:vl 10 (xs.take (i+1)) * vl 10 ys=vl 10 (xs.take i) * vl 10 ys+10 ^ i * (xs.getD i 0 * vl 10 ys):=by
  rw[zaw,Nat.add_mul,Nat.mul_assoc]
 rw[← e2] at e;have a1:=zbm 10 (xs.take (i+1)) (fun d hd=>hx d (List.mem_of_mem_take hd));have a2:=zbm 10 ys hy;rw[List.length_take,Nat.min_eq_left (by omega)] at a1
 have a3:vl 10 (xs.take (i+1)) * vl 10 ys<10 ^ (i+(ys.length+1)):=by
  have h1:vl 10 (xs.take (i+1)) * vl 10 ys≤10 ^ (i+1) * vl 10 ys:=Nat.mul_le_mul_right _ (Nat.le_of_lt a1);have h2:10 ^ (i+1) * vl 10 ys<10 ^ (i+1) * 10 ^ ys.length:=Nat.mul_lt_mul_of_pos_left a2 (Nat.pow_pos (by decide));rw[← Nat.pow_add,show i+1+ys.length=i+(ys.length+1) by omega] at h2
  omega
 have:c=0:=by
  rcases Nat.eq_zero_or_pos c with h0|h0
  ·exact h0
  ·have:=Nat.mul_le_mul_left (10 ^ (i+(ys.length+1))) h0
   omega
 subst this
 omega
theorem zCR (a b:ByteArray)(w:World)(na:numB a=true)(nb:numB b=true) :
  Calls Tryz.prog 178 #[.string a,.string b] w (zab (mulV a b) w):=by
 obtain⟨i0,hi,hz0,hz1,hz2⟩:=info_parts ziN;have va:=zan a w (zaS na);have vb:=zan b w (zaS nb);rw[na] at va;rw[nb] at vb;have VA:=zHd va;have VB:=zHd vb;have D1:=zHd (fun w=>zch a w na);have D2:=zHd (fun w=>zch b w nb);have HV:=zHd (show mulV a b=limV (vl 10 (dg10 a) * vl 10 (dg10 b)) by unfold mulV;rw[na,nb,zcX,zcX];rfl);have hx:=zdg a na;have hy:=zdg b nb;have sa:=zbs a na;have sb:=zbs b nb;have la:=zcY a;have lb:=zcY b;clear va vb na nb;generalize dg10 a=xs at *;generalize dg10 b=ys at *;have HX:=zHd hx;have HY:=zHd hy;have lx1:1≤xs.length:=by omega
 have lx2:xs.length≤1000:=by omega
 have ly1:1≤ys.length:=by omega
 have ly2:ys.length≤1000:=by omega
 clear hx hy sa sb la lb;go_enter Tryz.func178,Tryz.ntmps178;go_wp2_with fail;refine VA.out.mono ?_;rintro e w' ⟨rfl,rfl⟩;go_wp2_with fail;refine VB.out.mono ?_;rintro e w' ⟨rfl,rfl⟩;go_wp2_with fail;refine(D1.out _).mono ?_;rintro e w1 ⟨v1,rfl,hr1,hb1⟩;obtain⟨g1,c1,rfl⟩:=hr1.form;have R1:=zHd hr1;have B1:=zHd hb1;clear hr1 hb1;go_wp2_with fail;refine(D2.out _).mono ?_;rintro e w2 ⟨v2,rfl,hr2,hb2⟩;obtain⟨g2,c2,rfl⟩:=hr2.form;have R1':=zHd (R1.out.below hb2);have R2:=zHd hr2;have B2:=zHd (B1.out.trans (hb2.mono B1.out.size));clear hr2 hb2 R1 B1 VA VB D1 D2;go_wp2_with (at_make;refine wpList_make_full _ rfl _ _ 51 rfl w2.heap.size 3 i0 (.int .i64 0) 1 Tryz.underlying51 hi hz0 hz1 _ _ _ _ (xs.length+ys.length+1) rfl rfl ?c0 ?c1 ?c2 (by unfold maxLen;omega) (Nat.le_refl _) ?_)
 case c0=>omega
 case c1=>omega
 case c2=>first|omega|(rw[hz2];omega)
 intro w3 hown hgr;rw[zsg] at hown;have HC0:=zHd (zcc.of_full hown);have HG:=zHd hgr;clear hown hgr;go_wp2
 go_loopw [9] (fun i wr=>∃ (k:Nat) (zs:List Nat),i = .int .i64 k∧k≤xs.length∧zgZ xs ys k zs∧zcc wr w2.heap.size (iv zs)∧w2.grownBy wr none) (fun i _=>xs.length - (intOf i).toNat)
 case atStart=>exact⟨0,_,rfl,by omega,zgZ.start xs ys,HC0.out,HG.out⟩
 case round =>
  obtain⟨k,zs,rfl,hk,hinv,hcr,hgr⟩:=hrel;have HINV:=zHd hinv;have HCR:=zHd hcr;have HGR:=zHd hgr;clear hinv hcr hgr
  by_cases hlt:k<xs.length
  ·generalize wr=w4 at *
   go_wp2
   go_loopw [10,11] (fun cc jj wr=>∃ (j c:Nat) (ws:List Nat),jj = .int .i64 j∧cc = .int .i64 c∧j≤ys.length+1∧zfR (vl 10 zs) (xs.length+ys.length+1) (xs.getD k 0) ys k j c ws∧zcc wr w2.heap.size (iv ws)∧w2.grownBy wr none) (fun _ jj _=>ys.length+1 - (intOf jj).toNat)
   case atStart=>exact⟨0,0,zs,rfl,rfl,by omega,zfR.start HINV.out,HCR.out,HGR.out⟩
   case round =>
    obtain⟨j,c,ws,rfl,rfl,hj,hin,hcr,hgr⟩:=hrel
    by_cases hlj:j≤ys.length
    ·have hwl:=hin.len
     have hcell:wr.cell? ⟨w2.heap.size,k+j,none⟩=some (.int .i64 (ws.getD (k+j) 0:Nat)):=by rw[hcr.cell,zzB _ _ (by omega)]
     have hfree:=hcr.free (k+j)
     have hdx:wr.cell? ⟨g1,k,none⟩=some (.int .i64 (xs.getD k 0:Nat)):=by
      rcases R1'.out.1 with⟨_,h0⟩|⟨g,cap,hv,_,hg,hc⟩
      ·exact absurd h0 R1'.out.2
      ·simp only[Value.slice.injEq,Option.some.injEq,Addr.mk.injEq,and_true,true_and] at hv
       obtain⟨rfl,_⟩:=hv;have:=hc k hlt;rw[← this];exact World.cell?_of_block (hgr.block g1 hg (by simp))
     have hat:=fun n=>zkc (.slice (some ⟨g2,0,none⟩) ys.length c2) ys j (wr.drewN n) (by
      refine⟨?_,R2.out.2⟩;rcases R2.out.1 with⟨_,h0⟩|⟨g,cap,hv,h0,hg,hc⟩
      ·exact absurd h0 R2.out.2
      ·exact .inr ⟨g,cap,hv,h0,Nat.lt_of_lt_of_le hg hgr.size,fun q hq=>(World.cell?_of_block (hgr.block g hg (by simp))).trans (hc q hq)⟩) (by omega)
     have hx10:=getD_lt xs HX.out k;have hy10:=getD_lt ys HY.out j;have hw10:=getD_lt ws hin.lt (k+j);have hc9:=hin.carry;have hm81:xs.getD k 0 * ys.getD j 0≤9 * 9:=Nat.mul_le_mul (by omega) (by omega);have hstep:=hin.step (by omega) hx10 HY.out;have hset:=hcr.set (k+j) (.int .i64 ((ws.getD (k+j) 0+xs.getD k 0 * ys.getD j 0+c) % 10:Nat));rw[zGo] at hset;generalize ws.getD (k+j) 0=p at *;generalize xs.getD k 0=x at *;generalize ys.getD j 0=y at *
     have hmul:IntKind.i64.wrap ((x:Int) * (y:Int))=((x * y:Nat):Int):=by
      rw[← Int.natCast_mul];exact IntWalk.i64_in _ ⟨by omega,by omega⟩
     generalize x * y=m at *;rw[show(((p+m+c) % 10:Nat):Int)=((p:Int)+m+c) % 10 by omega] at hset;have HE2:=zHd (show((p:Int)+m+c) / 10=(((p+m+c) / 10:Nat):Int) by omega);have HST:=zHd hstep;have HSET:=zHd hset;have HGR2:=zHd hgr;have HAT:=zHd hat;clear hin hcr hgr hstep hset hat hwl;have p0:(0:Int)≤(p:Int):=by omega
     have p1:(p:Int)<10:=by omega
     have m0:(0:Int)≤(m:Int):=by omega
     have m1:(m:Int)≤81:=by omega
     have c0:(0:Int)≤(c:Int):=by omega
     have c9:(c:Int)≤9:=by omega
     have i0:(0:Int)≤(k:Int)+(j:Int):=by omega
     have i1:(k:Int)+(j:Int)<((xs.length+ys.length+1:Nat):Int):=by omega
     have i2:(0:Int)≤(k:Int):=by omega
     have i3:(k:Int)<(xs.length:Int):=by omega
     have i4:IntKind.i64.wrap ((k:Int)+(j:Int))=(k:Int)+(j:Int):=IntWalk.i64_in _ ⟨by omega,by omega⟩;clear hx10 hy10 hw10 hc9 hm81;go_wp2
     go_quiet ((go_at_call 211;exact Calls.quiet_of_same ((HAT.out _).mono fun _ _ h=>⟨h.1,h.2.symm⟩)))
     go_wp2
     go_roundw
     case rel=>exact⟨j+1,(p+m+c) / 10,_,by go_num,congrArg (Value.int .i64) HE2.out,by omega,HST.out,HSET.out,zai (g:=w2.heap.size) HGR2.out (zaa (zbv wr _ nq) (zac (wr.drewN nq) ⟨w2.heap.size,k+j,none⟩ _)) (Nat.le_refl _)⟩
     case measure=>simp[intOf];omega
    ·obtain rfl:j=ys.length+1:=by omega
     have HN:=zHd (zfR.fin HINV.out hlt hin HX.out HY.out);have HC1:=zHd hcr;have HG1:=zHd hgr;clear hin hcr hgr;go_wp2
     go_roundw
     case rel=>exact⟨k+1,ws,by go_num,by omega,HN.out,HC1.out,HG1.out⟩
     case measure=>simp[intOf];omega
  ·obtain rfl:k=xs.length:=by omega
   have hne:zs≠[]:=by intro e;have:=HINV.out.len;rw[e] at this;simp at this
   have hl:=HINV.out.len;have HT0:=zgY _ zs wr (HCR.out.digs hne) HINV.out.lt (by omega);rw[hl,HINV.out.val,List.take_of_length_le (Nat.le_refl _)] at HT0;have hnd:=zpR zs HINV.out.lt;rw[HINV.out.val,List.take_of_length_le (Nat.le_refl _)] at hnd;have HT:=zHd HT0;have HL:=zHd (fun w=>zlI (vl 10 xs * vl 10 ys) w (by omega));clear HT0 hnd hne hl;go_wp2_with fail;refine HT.out.mono ?_;rintro e w5 ⟨rfl,hb3⟩;have BB:=zHd (zaa (zaa (zaI B2.out) (show w2.grownBy wr none from HGR.out) |> fun h=>h) (zaI hb3));clear hb3;go_wp2_with fail;refine(HL.out _).mono ?_;rintro e w' ⟨he,rfl⟩;rcases zpS (vl 10 xs * vl 10 ys) with⟨S,E,hS⟩
   have hav:mulV a b = .tuple #[.string S,.int .i64 E]:=by rw[HV.out,hS]
   rw[hS] at he;subst he;have HAV:=zHd hav;clear hav hS;go_wp2
   go_ret2
   rw[HAV.out];exact⟨rfl,BB.out⟩
theorem zwQ (a b:ByteArray)(w:World)(ha:a.size≤maxLen)(hb:b.size≤maxLen)(na:numB a=false) :
  Calls Tryz.prog 178 #[.string a,.string b] w (zab (mulV a b) w):=by
 have HV:=zHd (show mulV a b = .tuple #[.string ⟨#[]⟩,.int .i64 1] by unfold mulV;rw[na];rfl);have va:=zan a w ha;have vb:=zan b w hb;rw[na] at va;have VA:=zHd va;have VB:=zHd vb;clear va vb ha hb na;go_enter Tryz.func178,Tryz.ntmps178;go_wp2_with fail;refine VA.out.mono ?_;rintro e w' ⟨rfl,rfl⟩;go_wp2
 go_ret2
 rw[HV.out];exact⟨rfl,zag _ _⟩
theorem zwR (a b:ByteArray)(w:World)(ha:a.size≤maxLen)(hb:b.size≤maxLen)(na:numB a=true)(nb:numB b=false) :
  Calls Tryz.prog 178 #[.string a,.string b] w (zab (mulV a b) w):=by
 have HV:=zHd (show mulV a b = .tuple #[.string ⟨#[]⟩,.int .i64 1] by unfold mulV;rw[na,nb];rfl);have va:=zan a w ha;have vb:=zan b w hb;rw[na] at va;rw[nb] at vb;have VA:=zHd va;have VB:=zHd vb;clear va vb ha hb na nb;go_enter Tryz.func178,Tryz.ntmps178;go_wp2_with fail;refine VA.out.mono ?_;rintro e w' ⟨rfl,rfl⟩;go_wp2_with fail;refine VB.out.mono ?_;rintro e w' ⟨rfl,rfl⟩;go_wp2
 go_ret2
 rw[HV.out];exact⟨rfl,zag _ _⟩
theorem zCS (a b:ByteArray)(w:World)(ha:a.size≤maxLen)(hb:b.size≤maxLen) :
  Calls Tryz.prog 178 #[.string a,.string b] w (zab (mulV a b) w):=by
 cases na:numB a
 ·exact zwQ a b w ha hb na
 cases nb:numB b
 ·exact zwR a b w ha hb na nb
 exact zCR a b w na nb
open Go.RowKit
open Go.Lib (nDigits decDigits)
theorem zzD (n k:Nat)(hk:1≤k)(h:n<10 ^ k):nDigits n≤k:=by
 rcases Nat.lt_or_ge k (nDigits n) with h1|h1
 ·rcases zew n k (by omega) with h2|h2
  ·omega
  ·omega
 ·exact h1
theorem zhA (n k:Nat)(hk:1≤k)(hk2:k≤1000)(h:n<10 ^ k):numB (decS n)=true:=by
 rw[zog];have:=zzD n k hk h;exact decide_eq_true (by omega)
theorem zsh {w w':World}{base:Nat}{e:TypeId}{v:Value}{n:Nat}{xs:List Value}(h:w.ownsRow base e 1 v n xs)(hb:Below w.heap.size w w'):w'.ownsRow base e 1 v n xs:=by
 obtain⟨h1,h2⟩:=h;refine⟨h1,?_⟩;rcases h2 with h2|⟨g,cap,cur,a,b,c,d⟩
 ·exact .inl h2
 ·exact .inr ⟨g,cap,cur,a,b,(hb.block g (Array.getElem?_eq_some_iff.1 c).1).trans c,d⟩
def pre (a:ByteArray)(k:Nat):Nat:=dval (a.data.toList.take k)
theorem zsi (a:ByteArray)(k:Nat)(h:k<a.size):pre a (k+1)=pre a k * 10+(a[k].toNat - 48):=by
 unfold pre;rw[ziD a k h,zdn]
theorem zzE (a:ByteArray)(na:numB a=true)(k:Nat)(hk:k≤a.size):pre a k<10 ^ k:=by
 unfold pre;rw[← zvx]
 have h:=zbm 10 (dgs (a.data.toList.take k)) (fun d hd=>by
  unfold dgs at hd;obtain⟨c,hc,rfl⟩:=List.mem_map.1 hd;rw[List.mem_reverse] at hc;have hc:=List.mem_of_mem_take hc;exact zdg a na _ (by unfold dg10 dgs;exact List.mem_map.2 ⟨c,List.mem_reverse.2 hc,rfl⟩))
 have e:(dgs (a.data.toList.take k)).length=k:=by simp[dgs];omega
 rw[e] at h;exact h
theorem zFk (a:ByteArray):pre a a.size=nv a:=by
 unfold pre nv;rw[List.take_of_length_le (by simp)]
theorem zzF (a:ByteArray)(na:numB a=true)(k:Nat)(h:k<a.size):a.extract k (k+1)=decS (a[k].toNat - 48):=by
 have hd:=zig a na k h
 apply ByteArray.ext
 rw[ByteArray.data_extract]
 apply Array.toList_inj.1
 rw[Array.toList_extract];unfold decS;rw[Lib.decDigits_one (by omega)];simp only[List.extract_eq_take_drop];rw[List.drop_eq_getElem_cons (by simpa using h),show k+1 - k=1 by omega,List.take_succ_cons,List.take_zero]
 congr 1
 apply UInt8.toNat_inj.1
 rw[UInt8.toNat_ofNat'];have:a.data.toList[k]'(by simpa using h)=a[k]:=rfl;rw[this]
 omega
theorem zCT (R x:Nat)(h0:R≠0)(hx:x<10):decS R++decS x=decS (R * 10+x):=by
 apply ByteArray.ext
 rw[ByteArray.data_append];unfold decS;rw[Lib.decDigits_one hx]
 conv=>rhs;rw[decDigits,dif_neg (by omega)]
 rw[show(R * 10+x) / 10=R by omega,show(R * 10+x) % 10=x by omega];simp
structure DivI (a:ByteArray)(B k R:Nat)(S:ByteArray)(acc:List UInt8):Prop where
 text:S=decS R
 rest:R=pre a k % B
 len:acc.length=k
 dig:acc.all isDg=true
 quo:dval acc=pre a k / B
theorem DivI.start (a:ByteArray)(B:Nat):DivI a B 0 0 ⟨#[48]⟩ []:=⟨zlY.symm,by simp[pre,dval],rfl,rfl,by simp[pre,dval]⟩
theorem DivI.step {a:ByteArray}{B k R:Nat}{S:ByteArray}{acc:List UInt8}(h:DivI a B k R S acc)(hk:k<a.size)(hB:0<B){t M:Nat}(hN:R * 10+(a[k].toNat - 48)=t * B+M)(hM:M<B)(ht:t<10) :
  DivI a B (k+1) M (decS M) (acc++[UInt8.ofNat (48+t)]):=by
 have e0:=Nat.div_add_mod (pre a k) B;rw[← h.rest,← h.quo] at e0
 have e1:pre a (k+1)=B * (dval acc * 10+t)+M:=by
  rw[zsi a k hk,← e0,Nat.mul_add,Nat.mul_comm B t,← Nat.mul_assoc];rw[Nat.add_mul]
  omega
 refine⟨rfl,?_,by rw[List.length_append,h.len];rfl,?_,?_⟩
 ·rw[e1,Nat.mul_add_mod,Nat.mod_eq_of_lt hM]
 ·rw[List.all_append,h.dig]
  simp[isDg]
  omega
 ·rw[zdn,e1,Nat.mul_add_div hB,Nat.div_eq_of_lt hM,UInt8.toNat_ofNat']
  omega
theorem zsj (acc:List UInt8)(j:Nat)(hj:j<acc.length)(hd:acc.all isDg=true)(hv:dval (acc.drop j)=dval acc)(hz:j+1=acc.length∨(acc.drop j).headD 0≠48):(⟨(acc.drop j).toArray⟩:ByteArray)=decS (dval acc):=by
 unfold decS
 rw[← hv,zrq (acc.drop j) (by intro e;have:=congrArg List.length e;simp at this;omega) (by
  rw[List.all_eq_true] at hd ⊢;exact fun c hc=>hd c (List.mem_of_mem_drop hc)) (by
  rcases hz with hz|hz
  ·left;rw[List.length_drop];omega
  ·exact .inr hz)]
theorem zzG (c:UInt8):∀ (l:List UInt8),dval (c::l)=(c.toNat - 48) * 10 ^ l.length+dval l:=by
 intro l
 induction h:l.length generalizing l with
 | zero=>rw[List.length_eq_zero_iff.1 h];simp[dval]
 | succ n ih =>
  obtain⟨l',x,rfl⟩:∃ l' x,l=l'++[x]:=⟨l.dropLast,l.getLast (by intro e;rw[e] at h;simp at h),(List.dropLast_concat_getLast _).symm⟩;have h':l'.length=n:=by simp at h;exact h
  rw[← List.cons_append,zdn,zdn,ih l' h',Nat.pow_succ,Nat.add_mul,Nat.mul_assoc]
  omega
theorem zoB (acc:List UInt8)(j:Nat)(hj:j<acc.length)(h:acc[j]=48):dval (acc.drop (j+1))=dval (acc.drop j):=by
 rw[List.drop_eq_getElem_cons hj,zzG,h];simp
theorem zCU (a b:ByteArray)(w:World)(na:numB a=true)(nb:numB b=true)(hb0:nv b≠0) :
  Calls Tryz.prog 209 #[.string a,.string b] w (zab (divV a b) w):=by
 obtain⟨i0,hi,hz0,hz1,hz2⟩:=info_parts zpQ;have va:=zan a w (zaS na);have vb:=zan b w (zaS nb);rw[na] at va;rw[nb] at vb;have VA:=zHd va;have VB:=zHd vb;have hsz:=zbs a na;have HV:=zHd (show divV a b = .tuple #[.string (decS (nv a / nv b)),.string (decS (nv a % nv b)),.int .i64 0] by unfold divV;rw[na,nb];simp only[Bool.and_self,if_true];rw[if_neg hb0]);have fb:(b.toList == [48])=false:=by rw[(zdp b nb).1];simp[hb0]
 have NA:=zHd na;have NB:=zHd nb;have HB0:=zHd (show 0<nv b by omega);obtain⟨hs1,hs2⟩:=hsz;clear va vb na nb hb0;go_enter Tryz.func209,Tryz.ntmps209;go_wp2_with fail;refine VA.out.mono ?_;rintro e w' ⟨rfl,rfl⟩;go_wp2_with fail;refine VB.out.mono ?_;rintro e w' ⟨rfl,rfl⟩;go_wp2
 go_loopw [7,8,9] (fun q r i wr=>∃ (k R:Nat) (S:ByteArray) (acc:List UInt8),i = .int .i64 k∧k≤a.size∧r = .string S∧DivI a (nv b) k R S acc∧wr.ownsRow w.heap.size 5 1 q acc.length (Lib.byteCells acc)∧Below w.heap.size w wr) (fun _ _ i _=>a.size - (intOf i).toNat)
 case atStart=>exact⟨0,0,_,[],rfl,by omega,rfl,DivI.start a (nv b),World.ownsRow_nil _ _ _ _,Below.refl _ _⟩
 case round =>
  obtain⟨k,R,S,acc,rfl,hk,rfl,hinv,hown,hb⟩:=hrel;have HINV:=zHd hinv;have HOWN:=zHd hown;have HBL:=zHd hb;have hal:acc.length=k:=hinv.len;have hST:=hinv.text;have hRlt:=zzE a NA.out k hk;have hRle:R≤pre a k:=by rw[hinv.rest];exact Nat.mod_le _ _
  have hRB:R<nv b:=by rw[hinv.rest];exact Nat.mod_lt _ HB0.out
  clear hinv hown hb
  by_cases hlt:k<a.size
  ·have hpn:=zzE a NA.out (k+1) (by omega)
   rw[zsi a k hlt] at hpn;have hdg:=zig a NA.out k hlt;have E1:=zzF a NA.out k hlt;obtain⟨x,hx⟩:∃ x,a[k].toNat - 48=x:=⟨_,rfl⟩;have hx10:x<10:=by omega
   rw[hx] at E1 hpn;have hN1000:R * 10+x<10 ^ (k+1):=by omega
   have nS:numB S=true:=by
    rw[hST];exact zhA R (k+1) (by omega) (by omega) (by omega)
   have sz:S.size≤1000:=(zbs S nS).2;have sf:=zdp S nS;have HX:=zHd hx;have hNB:R * 10+x<10 * nv b:=by omega
   obtain⟨E,hE⟩:∃ E,a.extract k (k+1)=E:=⟨_,rfl⟩
   by_cases hR0:R=0
   ·have f1:(S.toList == [48])=true:=by rw[sf.1,hST,zaD];simp[hR0]
    have HT:=zHd (show a.extract k (k+1)=decS (R * 10+x) by rw[E1,hR0];simp);have h1:=zHd hN1000;have h2:=zHd hNB;clear sf hST E1 hpn hRlt hRle nS hN1000 hNB hR0 hdg hRB hx10 hE;generalize wr=wv at *;go_wp2
    go_loopw [8,10] (fun r d wr=>∃ (t M:Nat) (T:ByteArray),r = .string T∧T=decS M∧R * 10+x=t * nv b+M∧d = .int .u8 (48+(t:Int))∧t≤9∧Below wv.heap.size wv wr) (fun r _ _=>match r with | .string s=>nv s|_=>0)
    case atStart=>exact⟨0,R * 10+x,_,rfl,HT.out,by omega,rfl,by omega,Below.refl _ _⟩
    case round =>
     obtain⟨t,M,T,rfl,hT,hN,rfl,ht9,hbw⟩:=hrel
     have nT:numB T=true:=by
      rw[hT];exact zhA M (k+1) (by omega) (by omega) (by have:=h1.out;have:=Nat.le_add_left M (t * nv b);omega)
     have rc:=zfk T b wr nT NB.out;have hM:nv T=M:=by rw[hT,zaD]
     rw[hM] at rc;have HTT:=zHd hT;have HN:=zHd hN;have HBW:=zHd hbw;have HM:=zHd hM;have HT9:=zHd ht9;have t0:(0:Int)≤(t:Int):=by omega
     have t9:(t:Int)≤9:=by omega
     by_cases hge:nv b≤M
     ·obtain⟨d,hd,hd0⟩:∃ d:Int,cmpN M (nv b)=d∧0≤d:=⟨_,rfl,by have:=zdC M (nv b);omega⟩
      have ht8:t+1≤9:=by
       have hh:=h2.out;rcases Nat.lt_or_ge t 9 with h9|h9
       ·omega
       ·obtain rfl:t=9:=by omega
        omega
      have HT8:=zHd ht8;rw[hd] at rc;have RC:=zHd rc;have D1:=zHd (fun w=>zch T w nT);have D2:=zHd (fun w=>zch b w NB.out);have hx1:=zdg T nT;have hy1:=zdg b NB.out;have l1:=zcY T;have l2:=zcY b;have s1:=zbs T nT;have s2:=zbs b NB.out;have v1:=zcX T;have v2:=zcX b;rw[hM] at v1;have HGE:=zHd hge;clear rc hd nT hM hT hN hbw hge ht8 ht9;generalize dg10 T=us at *;generalize dg10 b=ys at *;have hle:vl 10 ys≤vl 10 us:=by rw[v1,v2];exact HGE.out
      have lu:us.length≤1000:=by omega
      have ly:ys.length≤1000:=by omega
      have HX1:=zHd hx1;have HY1:=zHd hy1;have HLE:=zHd hle;have V1:=zHd v1;have V2:=zHd v2;clear hx1 hy1 hle v1 v2 s1 s2 l1 l2;go_wp2_with fail;refine RC.out.mono ?_;rintro e w1 ⟨rfl,hg⟩;have hb1:=HBW.out.trans ((below_grown hg (Nat.le_refl _) (by simp)).mono HBW.out.size);have BB1:=zHd hb1;clear hg hb1;go_wp2_with fail;refine(D1.out _).mono ?_;rintro e w2 ⟨v1,rfl,hr1,hb2⟩;have R1:=zHd hr1;have BB2:=zHd (BB1.out.trans (hb2.mono BB1.out.size));clear hr1 hb2;go_wp2_with fail;refine(D2.out _).mono ?_;rintro e w3 ⟨v2,rfl,hr2,hb3⟩;have R1':=zHd (R1.out.below hb3);have R2:=zHd hr2;have BB3:=zHd (BB2.out.trans (hb3.mono BB2.out.size));clear hr2 hb3;go_wp2_with fail;refine(zmb v1 v2 us ys w3 R1'.out R2.out HX1.out HY1.out (by omega) (by omega) HLE.out).mono ?_;rintro e w4 ⟨v3,zs,rfl,hr3,hz,hval,hlen,hb4⟩;have BB4:=zHd (BB3.out.trans (hb4.mono BB3.out.size));have hTx:=zgY v3 zs w4 hr3.1 hz (by omega);rw[hval,V1.out,V2.out] at hTx;have HTX:=zHd hTx;clear hr3 hz hval hlen hb4 hTx;go_wp2_with fail;refine HTX.out.mono ?_;rintro e w5 ⟨rfl,hb5⟩;have BB5:=zHd (BB4.out.trans (hb5.mono BB4.out.size));clear hb5;have HNV:=zHd (zaD (M - nv b));obtain⟨T2,hT2⟩:∃ T2,decS (M - nv b)=T2:=⟨_,rfl⟩;have HT2:=zHd hT2;rw[hT2];clear hT2;go_wp2
      go_roundw
      case rel=>exact⟨t+1,M - nv b,T2,rfl,HT2.out.symm,by have:=HN.out;have:=HGE.out;rw[Nat.add_mul];omega,by go_num,HT8.out,BB5.out⟩
      case measure =>
       have e1:=HNV.out;rw[HT2.out] at e1;have:=HGE.out;have:=HB0.out;have:=HM.out;show nv T2<nv T
       omega
     ·obtain⟨d,hd,hd0⟩:∃ d:Int,cmpN M (nv b)=d∧d<0:=⟨_,rfl,by have:=zdC M (nv b);omega⟩
      rw[hd] at rc;have RC:=zHd rc;have hNs:=hN;rw[← HX.out] at hNs;have HSTEP:=zHd (HINV.out.step hlt HB0.out hNs (by omega) (by omega));have HCC:=zHd (show Lib.byteCells [UInt8.ofNat (48+t)]=[Value.int .u8 (48+(t:Int))] from zhz t (by omega));have hb1:acc.length+1≤1000000:=by omega
      have HAL:=zHd hal;clear rc hd nT hM hT hN hNs hbw hge ht9 hal;go_wp2_with fail;refine RC.out.mono ?_;rintro e w1 ⟨rfl,hg⟩;have hbA:=HBW.out.trans ((below_grown hg (Nat.le_refl _) (by simp)).mono HBW.out.size);have hown:=zsh HOWN.out hbA;have hb:=HBL.out.trans (hbA.mono HBL.out.size);have HBA:=zHd hb;have hbs:=hb.size;clear hg hbA hb;go_wp2_with (at_builtin;refine wpList_append_own _ rfl _ _ 149 rfl w.heap.size 5 i0 (.int .u8 0) 1 1 Tryz.underlying149 hi hz0 hz1 hz2 rfl (by decide) _ _ _ rfl (hown.alloc _) ⟨w1.heap.size,0,none⟩ 1 1 [.int .u8 (48+(t:Int))] rfl rfl ?c1 ?c2 ?c3 ?c4 ?c5 ?_)
      case c1=>exact zen _ _ _
      case c2=>intro u hu;simp at hu;subst hu;rfl
      case c3=>unfold maxLen;omega
      case c4=>omega
      case c5=>simp;omega
      intro v' w2 hown' hgrow _;have HB2:=zHd (zcQ HBA.out _ (fun g e=>(hown.lt g e).1) hgrow);have HO:=zHd hown';clear hown hown' hgrow;go_wp2
      go_roundw
      case rel=>exact⟨k+1,M,T,acc++[UInt8.ofNat (48+t)],by go_num,by omega,rfl,by rw[HTT.out];exact HSTEP.out,by
       rw[List.length_append,Lib.byteCells_append,HCC.out];exact HO.out,HB2.out⟩
      case measure=>simp[intOf];omega
   ·have f1:(S.toList == [48])=false:=by rw[sf.1,hST,zaD];simp[hR0]
    have HT:=zHd (show S++a.extract k (k+1)=decS (R * 10+x) by rw[E1,hST,zCT R x hR0 hx10]);have hez:(a.extract k (k+1)).size≤1000:=by rw[E1];exact(zbs _ (zhA x (k+1) (by omega) (by omega) (by have:=Nat.pow_le_pow_right (n:=10) (by decide) (show 1≤k+1 by omega);omega))).2
    have hcz:S.size+(a.extract k (k+1)).size≤9223372036854775807:=by omega
    have h1:=zHd hN1000;have h2:=zHd hNB;clear sf hST E1 hpn hRlt hRle nS hN1000 hNB hR0 hdg hRB hx10 hE;generalize wr=wv at *;go_wp2
    go_loopw [8,10] (fun r d wr=>∃ (t M:Nat) (T:ByteArray),r = .string T∧T=decS M∧R * 10+x=t * nv b+M∧d = .int .u8 (48+(t:Int))∧t≤9∧Below wv.heap.size wv wr) (fun r _ _=>match r with | .string s=>nv s|_=>0)
    case atStart=>exact⟨0,R * 10+x,_,rfl,HT.out,by omega,rfl,by omega,Below.refl _ _⟩
    case round =>
     obtain⟨t,M,T,rfl,hT,hN,rfl,ht9,hbw⟩:=hrel
     have nT:numB T=true:=by
      rw[hT];exact zhA M (k+1) (by omega) (by omega) (by have:=h1.out;have:=Nat.le_add_left M (t * nv b);omega)
     have rc:=zfk T b wr nT NB.out;have hM:nv T=M:=by rw[hT,zaD]
     rw[hM] at rc;have HTT:=zHd hT;have HN:=zHd hN;have HBW:=zHd hbw;have HM:=zHd hM;have HT9:=zHd ht9;have t0:(0:Int)≤(t:Int):=by omega
     have t9:(t:Int)≤9:=by omega
     by_cases hge:nv b≤M
     ·obtain⟨d,hd,hd0⟩:∃ d:Int,cmpN M (nv b)=d∧0≤d:=⟨_,rfl,by have:=zdC M (nv b);omega⟩
      have ht8:t+1≤9:=by
       have hh:=h2.out;rcases Nat.lt_or_ge t 9 with h9|h9
       ·omega
       ·obtain rfl:t=9:=by omega
        omega
      have HT8:=zHd ht8;rw[hd] at rc;have RC:=zHd rc;have D1:=zHd (fun w=>zch T w nT);have D2:=zHd (fun w=>zch b w NB.out);have hx1:=zdg T nT;have hy1:=zdg b NB.out;have l1:=zcY T;have l2:=zcY b;have s1:=zbs T nT;have s2:=zbs b NB.out;have v1:=zcX T;have v2:=zcX b;rw[hM] at v1;have HGE:=zHd hge;clear rc hd nT hM hT hN hbw hge ht8 ht9;generalize dg10 T=us at *;generalize dg10 b=ys at *;have hle:vl 10 ys≤vl 10 us:=by rw[v1,v2];exact HGE.out
      have lu:us.length≤1000:=by omega
      have ly:ys.length≤1000:=by omega
      have HX1:=zHd hx1;have HY1:=zHd hy1;have HLE:=zHd hle;have V1:=zHd v1;have V2:=zHd v2;clear hx1 hy1 hle v1 v2 s1 s2 l1 l2;go_wp2_with fail;refine RC.out.mono ?_;rintro e w1 ⟨rfl,hg⟩;have hb1:=HBW.out.trans ((below_grown hg (Nat.le_refl _) (by simp)).mono HBW.out.size);have BB1:=zHd hb1;clear hg hb1;go_wp2_with fail;refine(D1.out _).mono ?_;rintro e w2 ⟨v1,rfl,hr1,hb2⟩;have R1:=zHd hr1;have BB2:=zHd (BB1.out.trans (hb2.mono BB1.out.size));clear hr1 hb2;go_wp2_with fail;refine(D2.out _).mono ?_;rintro e w3 ⟨v2,rfl,hr2,hb3⟩;have R1':=zHd (R1.out.below hb3);have R2:=zHd hr2;have BB3:=zHd (BB2.out.trans (hb3.mono BB2.out.size));clear hr2 hb3;go_wp2_with fail;refine(zmb v1 v2 us ys w3 R1'.out R2.out HX1.out HY1.out (by omega) (by omega) HLE.out).mono ?_;rintro e w4 ⟨v3,zs,rfl,hr3,hz,hval,hlen,hb4⟩;have BB4:=zHd (BB3.out.trans (hb4.mono BB3.out.size));have hTx:=zgY v3 zs w4 hr3.1 hz (by omega);rw[hval,V1.out,V2.out] at hTx;have HTX:=zHd hTx;clear hr3 hz hval hlen hb4 hTx;go_wp2_with fail;refine HTX.out.mono ?_;rintro e w5 ⟨rfl,hb5⟩;have BB5:=zHd (BB4.out.trans (hb5.mono BB4.out.size));clear hb5;have HNV:=zHd (zaD (M - nv b));obtain⟨T2,hT2⟩:∃ T2,decS (M - nv b)=T2:=⟨_,rfl⟩;have HT2:=zHd hT2;rw[hT2];clear hT2;go_wp2
      go_roundw
      case rel=>exact⟨t+1,M - nv b,T2,rfl,HT2.out.symm,by have:=HN.out;have:=HGE.out;rw[Nat.add_mul];omega,by go_num,HT8.out,BB5.out⟩
      case measure =>
       have e1:=HNV.out;rw[HT2.out] at e1;have:=HGE.out;have:=HB0.out;have:=HM.out;show nv T2<nv T
       omega
     ·obtain⟨d,hd,hd0⟩:∃ d:Int,cmpN M (nv b)=d∧d<0:=⟨_,rfl,by have:=zdC M (nv b);omega⟩
      rw[hd] at rc;have RC:=zHd rc;have hNs:=hN;rw[← HX.out] at hNs;have HSTEP:=zHd (HINV.out.step hlt HB0.out hNs (by omega) (by omega));have HCC:=zHd (show Lib.byteCells [UInt8.ofNat (48+t)]=[Value.int .u8 (48+(t:Int))] from zhz t (by omega));have hb1:acc.length+1≤1000000:=by omega
      have HAL:=zHd hal;clear rc hd nT hM hT hN hNs hbw hge ht9 hal;go_wp2_with fail;refine RC.out.mono ?_;rintro e w1 ⟨rfl,hg⟩;have hbA:=HBW.out.trans ((below_grown hg (Nat.le_refl _) (by simp)).mono HBW.out.size);have hown:=zsh HOWN.out hbA;have hb:=HBL.out.trans (hbA.mono HBL.out.size);have HBA:=zHd hb;have hbs:=hb.size;clear hg hbA hb;go_wp2_with (at_builtin;refine wpList_append_own _ rfl _ _ 149 rfl w.heap.size 5 i0 (.int .u8 0) 1 1 Tryz.underlying149 hi hz0 hz1 hz2 rfl (by decide) _ _ _ rfl (hown.alloc _) ⟨w1.heap.size,0,none⟩ 1 1 [.int .u8 (48+(t:Int))] rfl rfl ?c1 ?c2 ?c3 ?c4 ?c5 ?_)
      case c1=>exact zen _ _ _
      case c2=>intro u hu;simp at hu;subst hu;rfl
      case c3=>unfold maxLen;omega
      case c4=>omega
      case c5=>simp;omega
      intro v' w2 hown' hgrow _;have HB2:=zHd (zcQ HBA.out _ (fun g e=>(hown.lt g e).1) hgrow);have HO:=zHd hown';clear hown hown' hgrow;go_wp2
      go_roundw
      case rel=>exact⟨k+1,M,T,acc++[UInt8.ofNat (48+t)],by go_num,by omega,rfl,by rw[HTT.out];exact HSTEP.out,by
       rw[List.length_append,Lib.byteCells_append,HCC.out];exact HO.out,HB2.out⟩
      case measure=>simp[intOf];omega
  ·obtain rfl:k=a.size:=by omega
   have hq:=HINV.out.quo;have hr:=HINV.out.rest;rw[zFk] at hq hr;have HQ:=zHd hq;have HR:=zHd hr;rcases HOWN.out.2 with⟨_,h0⟩|⟨g,cap,cur,hv,hgb,hgg,hcap,hcm,_,_⟩
   ·omega
   subst hv;have hown:=HOWN.out
   have hcells:∀ j (hj:j<acc.length),wr.cell? ⟨g,j,none⟩=some (.int .u8 (acc[j].toNat:Int)):=fun j hj=>by
    have:=hown.cells (g:=g) rfl j (.int .u8 (acc[j].toNat:Int)) (by unfold Lib.byteCells;rw[List.getElem?_map,List.getElem?_eq_getElem hj];rfl);rw[addr_add] at this;exact this
   have HC:=zHd hcells
   have hcv:=fun j (hj:j<acc.length)=>run_convert_bytes_back (P:=Tryz.prog) wr 149 9 5 ⟨g,j,none⟩ (cap - j) (acc.drop j) Tryz.underlying149 Tryz.underlying5 Tryz.underlying9 (fun i hi=>by
    have e:(⟨g,j,none⟩:Addr).add i=⟨g,j+i,none⟩:=by unfold Addr.add;split <;> simp_all
    rw[List.length_drop] at hi;rw[e,hcells (j+i) (by omega)];rw[List.getElem_drop])
   have HCV:=zHd hcv;have HAL:=zHd hal;have hl1:1≤acc.length:=by omega
   have hl2:acc.length≤1000:=by omega
   unfold maxLen at hcm;have HCM:=zHd hcm;clear hown hcells hcv hq hr hgg hal hST hRlt hRle hRB hcm hlt hk;generalize wr=w1 at *;go_wp2
   go_loop [11] (fun i=>∃ j:Nat,i = .int .i64 j∧j+1≤acc.length∧dval (acc.drop j)=dval acc) (fun i=>acc.length - (intOf i).toNat)
   case atStart=>exact⟨0,rfl,by omega,rfl⟩
   case round =>
    obtain⟨j,rfl,hj,hdv⟩:=hrel;have HDV:=zHd hdv;clear hdv;have hjl:j<acc.length:=by omega
    have hcell:=HC.out j hjl;have hcvj:=HCV.out j hjl;rw[List.length_drop] at hcvj;have hw:IntKind.i64.wrap ((acc.length:Int) - 1)=(acc.length:Int) - 1:=IntWalk.i64_in _ ⟨by omega,by omega⟩;have k0:(0:Int)≤(j:Int):=by omega
    have k1:(j:Int)<(acc.length:Int):=by omega
    have k2:(j:Int)≤(acc.length:Int):=by omega
    have k3:¬ (cap=j):=by omega
    have k4:¬ (cap - j=0):=by omega
    by_cases hgo:(j:Int)<(acc.length:Int) - 1
    ·by_cases hz:acc[j]=48
     ·have f1:((acc[j].toNat:Int) == 48)=true:=by rw[hz];rfl
      have HD:=zHd (zoB acc j hjl hz);clear hz hcvj;go_wp2
      go_round
      case rel=>exact⟨j+1,by go_num,by omega,by rw[HD.out,HDV.out]⟩
      case measure=>simp[intOf];omega
     ·have f1:((acc[j].toNat:Int) == 48)=false:=by
       rw[beq_eq_false_iff_ne];intro e;exact hz (UInt8.toNat_inj.1 (show acc[j].toNat=(48:UInt8).toNat by have:(48:UInt8).toNat=48:=rfl;omega))
      have HT:=zHd (zsj acc j hjl HINV.out.dig HDV.out (.inr (by
       rw[List.drop_eq_getElem_cons hjl];exact hz)))
      clear hz;go_wp2
      go_ret3
      rw[HV.out,← HQ.out,← HT.out,← HR.out,← HINV.out.text];exact⟨rfl,zaI HBL.out⟩
    ·have HT:=zHd (zsj acc j hjl HINV.out.dig HDV.out (.inl (by omega)))
     go_wp2
     go_ret3
     rw[HV.out,← HQ.out,← HT.out,← HR.out,← HINV.out.text];exact⟨rfl,zaI HBL.out⟩
open Go.RowKit
open Go.Lib (nDigits decDigits)
theorem zwS (a b:ByteArray)(w:World)(ha:a.size≤maxLen)(hb:b.size≤maxLen)(na:numB a=false) :
  Calls Tryz.prog 209 #[.string a,.string b] w (zab (divV a b) w):=by
 have HV:=zHd (show divV a b = .tuple #[.string ⟨#[]⟩,.string ⟨#[]⟩,.int .i64 1] by unfold divV;rw[na];rfl);have va:=zan a w ha;have vb:=zan b w hb;rw[na] at va;have VA:=zHd va;have VB:=zHd vb;clear va vb ha hb na;go_enter Tryz.func209,Tryz.ntmps209;go_wp2_with fail;refine VA.out.mono ?_;rintro e w' ⟨rfl,rfl⟩;go_wp2
 go_ret3
 rw[HV.out];exact⟨rfl,zag _ _⟩
theorem zwT (a b:ByteArray)(w:World)(ha:a.size≤maxLen)(hb:b.size≤maxLen)(na:numB a=true)(nb:numB b=false) :
  Calls Tryz.prog 209 #[.string a,.string b] w (zab (divV a b) w):=by
 have HV:=zHd (show divV a b = .tuple #[.string ⟨#[]⟩,.string ⟨#[]⟩,.int .i64 1] by unfold divV;rw[na,nb];rfl);have va:=zan a w ha;have vb:=zan b w hb;rw[na] at va;rw[nb] at vb;have VA:=zHd va;have VB:=zHd vb;clear va vb ha hb na nb;go_enter Tryz.func209,Tryz.ntmps209;go_wp2_with fail;refine VA.out.mono ?_;rintro e w' ⟨rfl,rfl⟩;go_wp2_with fail;refine VB.out.mono ?_;rintro e w' ⟨rfl,rfl⟩;go_wp2
 go_ret3
 rw[HV.out];exact⟨rfl,zag _ _⟩
theorem zzH (a b:ByteArray)(w:World)(na:numB a=true)(nb:numB b=true)(h0:nv b=0) :
  Calls Tryz.prog 209 #[.string a,.string b] w (zab (divV a b) w):=by
 have HV:=zHd (show divV a b = .tuple #[.string ⟨#[]⟩,.string ⟨#[]⟩,.int .i64 4] by unfold divV;rw[na,nb];simp only[Bool.and_self,if_true];rw[if_pos h0]);have va:=zan a w (zaS na);have vb:=zan b w (zaS nb);rw[na] at va;rw[nb] at vb;have VA:=zHd va;have VB:=zHd vb;have fb:(b.toList == [48])=true:=by rw[(zdp b nb).1];simp[h0]
 clear va vb na nb h0;go_enter Tryz.func209,Tryz.ntmps209;go_wp2_with fail;refine VA.out.mono ?_;rintro e w' ⟨rfl,rfl⟩;go_wp2_with fail;refine VB.out.mono ?_;rintro e w' ⟨rfl,rfl⟩;go_wp2
 go_ret3
 rw[HV.out];exact⟨rfl,zag _ _⟩
theorem zCV (a b:ByteArray)(w:World)(ha:a.size≤maxLen)(hb:b.size≤maxLen) :
  Calls Tryz.prog 209 #[.string a,.string b] w (zab (divV a b) w):=by
 cases na:numB a
 ·exact zwS a b w ha hb na
 cases nb:numB b
 ·exact zwT a b w ha hb na nb
 by_cases h0:nv b=0
 ·exact zzH a b w na nb h0
 ·exact zCU a b w na nb h0
theorem zwU (a b:ByteArray)(w:World)(ha:a.size≤maxLen)(hb:b.size≤maxLen)(na:numB a=false) :
  Calls Tryz.prog 174 #[.string a,.string b] w (zab (gcdV a b) w):=by
 have HV:=zHd (show gcdV a b = .tuple #[.string ⟨#[]⟩,.int .i64 1] by unfold gcdV;rw[na];rfl);have va:=zan a w ha;have vb:=zan b w hb;rw[na] at va;have VA:=zHd va;have VB:=zHd vb;clear va vb ha hb na;go_enter Tryz.func174,Tryz.ntmps174;go_wp2_with fail;refine VA.out.mono ?_;rintro e w' ⟨rfl,rfl⟩;go_wp2
 go_ret2
 rw[HV.out];exact⟨rfl,zag _ _⟩
theorem zwV (a b:ByteArray)(w:World)(ha:a.size≤maxLen)(hb:b.size≤maxLen)(na:numB a=true)(nb:numB b=false) :
  Calls Tryz.prog 174 #[.string a,.string b] w (zab (gcdV a b) w):=by
 have HV:=zHd (show gcdV a b = .tuple #[.string ⟨#[]⟩,.int .i64 1] by unfold gcdV;rw[na,nb];rfl);have va:=zan a w ha;have vb:=zan b w hb;rw[na] at va;rw[nb] at vb;have VA:=zHd va;have VB:=zHd vb;clear va vb ha hb na nb;go_enter Tryz.func174,Tryz.ntmps174;go_wp2_with fail;refine VA.out.mono ?_;rintro e w' ⟨rfl,rfl⟩;go_wp2_with fail;refine VB.out.mono ?_;rintro e w' ⟨rfl,rfl⟩;go_wp2
 go_ret2
 rw[HV.out];exact⟨rfl,zag _ _⟩
theorem zCW (a b:ByteArray)(w:World)(na:numB a=true)(nb:numB b=true) :
  Calls Tryz.prog 174 #[.string a,.string b] w (zab (gcdV a b) w):=by
 have va:=zan a w (zaS na);have vb:=zan b w (zaS nb);rw[na] at va;rw[nb] at vb;have VA:=zHd va;have VB:=zHd vb;have HV:=zHd (show gcdV a b = .tuple #[.string (decS (Nat.gcd (nv a) (nv b))),.int .i64 0] by unfold gcdV;rw[na,nb];simp only[Bool.and_self,if_true]);have NA:=zHd na;have NB:=zHd nb;obtain⟨G,hG⟩:∃ G,Nat.gcd (nv a) (nv b)=G:=⟨_,rfl⟩;rw[hG] at HV;have HG:=zHd hG;clear va vb na nb hG;go_enter Tryz.func174,Tryz.ntmps174;go_wp2_with fail;refine VA.out.mono ?_;rintro e w' ⟨rfl,rfl⟩;go_wp2_with fail;refine VB.out.mono ?_;rintro e w' ⟨rfl,rfl⟩;go_wp2
 go_loopg [0,1] (nv b) (fun n x y wr=>∃ S T:ByteArray,x = .string S∧y = .string T∧numB S=true∧numB T=true∧Nat.gcd (nv S) (nv T)=G∧w.grownBy wr none∧nv T=n)
 case atStart=>exact⟨a,b,rfl,rfl,NA.out,NB.out,HG.out,zag _ _,rfl⟩
 case round =>
  obtain⟨S,T,rfl,rfl,nS,nT,hg,hgr,hn⟩:=hrel;have sf:=zdp T nT
  by_cases h0:nv T=0
  ·have f1:(T.toList == [48])=true:=by rw[sf.1];simp[h0]
   have f2:(T.toList != [48])=false:=by rw[sf.2];simp[h0]
   have HS:=zHd (show S=decS G by rw[← hg,h0,Nat.gcd_zero_right];exact(zbG S nS).1);have HGR:=zHd hgr;clear sf nS nT hg hgr hn h0;go_wp2
   go_ret2
   rw[HV.out,← HS.out];exact⟨rfl,HGR.out⟩
  ·have f1:(T.toList == [48])=false:=by rw[sf.1];simp[h0]
   have f2:(T.toList != [48])=true:=by rw[sf.2];simp[h0]
   have nQ:numB (decS (nv S / nv T))=true:=zyM S nS (Nat.div_le_self _ _);have nR:numB (decS (nv S % nv T))=true:=zyM S nS (Nat.mod_le _ _);have hd:=zCV S T wr (zaS nS) (zaS nT);rw[zCe S T (decS (nv S / nv T)) (decS (nv S % nv T)) nS nT nQ nR h0 (zaD _) (zaD _)] at hd;have vR:=zaD (nv S % nv T);have hgg:Nat.gcd (nv T) (nv (decS (nv S % nv T)))=G:=by rw[vR,← hg,Nat.gcd_comm (nv S),Nat.gcd_rec (nv T) (nv S),Nat.gcd_comm]
   have hlt:nv (decS (nv S % nv T))<nv T:=by rw[vR];exact Nat.mod_lt _ (by omega)
   generalize decS (nv S / nv T)=Q at *;generalize decS (nv S % nv T)=R at *;have HN:=zHd hn;have HD:=zHd hd;have HNT:=zHd nT;have HNR:=zHd nR;have HGG:=zHd hgg;have HLT:=zHd hlt;have HGR:=zHd hgr;clear sf nS nT hg hgr hn h0 nQ nR hd vR hgg hlt;go_wp2_with fail;refine HD.out.mono ?_;rintro e w1 ⟨rfl,hg1⟩;have HG1:=zHd (zaa HGR.out hg1);clear hg1;go_wp2
   go_roundg (nv R)
   case measure=>rw[← HN.out];exact HLT.out
   case rel=>exact⟨T,R,rfl,rfl,HNT.out,HNR.out,HGG.out,HG1.out,rfl⟩
theorem zCX (a b:ByteArray)(w:World)(ha:a.size≤maxLen)(hb:b.size≤maxLen) :
  Calls Tryz.prog 174 #[.string a,.string b] w (zab (gcdV a b) w):=by
 cases na:numB a
 ·exact zwU a b w ha hb na
 cases nb:numB b
 ·exact zwV a b w ha hb na nb
 exact zCW a b w na nb
open Go.RowKit
def fnV (F:Nat):Value := .func (.func F) #[] #[]
def zcn:Array Value:=#[.string ⟨#[]⟩,.string ⟨#[]⟩,fnV 107,fnV 107,.nilFunc,.nilFunc,.nilFunc,.nilFunc,.nilFunc]
def zco:Array Value:=#[.string infS,.string zdH,fnV 108,fnV 109,fnV 110,fnV 111,fnV 112,fnV 113,fnV 114]
def zcp:Array Value:=#[.string zdH,.string oneS,fnV 115,fnV 116,fnV 117,fnV 118,fnV 119,fnV 120,fnV 121]
def zcq:Array Value:=#[.string zdH,.string oneS,fnV 115,fnV 116,fnV 122,fnV 118,fnV 123,fnV 120,fnV 121]
def tabC:Array Value:=zcn++zco++zcp++zcq
def zcs:Array Value:=#[.string ⟨#[]⟩,.string ⟨#[]⟩,.nilFunc,.nilFunc,.nilFunc,.nilFunc,.nilFunc,.nilFunc,.nilFunc]
def zcu:Array Value:=zcs++zcs++zcs++zcs
def zar (k:Int):Array Value:=if k=1 then zco else if k=2 then zcp else if k=3 then zcq else zcn
def zwW (k:Int):Value := .agg (zar k)
theorem zih (j:Nat)(hj:j<4)(i:Nat)(v:Value)(h:(zar j).toList[i]? = some v):tabC[j * 9+i]? = some v:=by
 have h4:j=0∨j=1∨j=2∨j=3:=by omega
 have hi:i<9:=by
  have h1:=(List.getElem?_eq_some_iff.1 h).1;rcases h4 with rfl|rfl|rfl|rfl <;> exact h1
 have h9:i=0∨i=1∨i=2∨i=3∨i=4∨i=5∨i=6∨i=7∨i=8:=by omega
 rcases h4 with rfl|rfl|rfl|rfl <;> rcases h9 with rfl|rfl|rfl|rfl|rfl|rfl|rfl|rfl|rfl <;> exact h
theorem zeT (o:Oper)(ho:o.op = .alloc 115)(ρ:Operand→Value)(w:World){g:Nat}(hg:w.heap.size=g):(execOp ρ o).run Tryz.prog w = .ok (.value (.pointer (some ⟨g,0,none⟩))) (w.alloc (.cells zcu 115)):=by
 subst hg;obtain⟨d,p,t,q,af,gd⟩:=o;cases ho
 kernel_rfl
theorem zgJ (o:Oper)(x y:Operand)(ho:o.op = .indexAddr 115 x y)(ρ:Operand→Value)(w:World)(g:Nat)(j:Nat)(hj:j<4)(hx:ρ x = .pointer (some ⟨g,0,none⟩))(hy:ρ y = .int .i64 j) :
  (execOp ρ o).run Tryz.prog w = .ok (.value (.pointer (some ⟨g,j * 9,none⟩))) w:=by
 obtain⟨d,p,t,q,af,gd⟩:=o;cases ho;unfold execOp
 dsimp only
 rw[hx,hy];have h4:j=0∨j=1∨j=2∨j=3:=by omega
 rcases h4 with rfl|rfl|rfl|rfl <;> exact rfl
theorem zeU {w w1:World}{g:Nat}{cs:Array Value}(h:w.grownBy w1 none)(hg:w.heap.size≤g):w.grownBy (w1.setRow g cs) none :=
 ⟨h.1,h.2,h.3,by rw[setRow_size];exact h.4,fun k hk hn=>by rw[setRow_other _ _ _ _ (by omega)];exact h.5 k hk hn⟩
theorem zGp (w:World):Calls Tryz.prog 66 #[.int .i64 1] w (zab (.agg (zar 1)) w):=by
 go_enter Tryz.func66,Tryz.ntmps66;go_upto_region 1 with(fail)
 rename_i K hK
 generalize hW:w.alloc (.cells #[.string ⟨#[]⟩,.string ⟨#[]⟩,.nilFunc,.nilFunc,.nilFunc,.nilFunc,.nilFunc,.nilFunc,.nilFunc] 89)=W at *;have h1:W.heap[w.heap.size]? = some (.cells zcs 89 (0,0)):=by subst hW;exact zau _ _
 have h2:w.grownBy W none:=by subst hW;exact zGA _ _ none
 have h3:W.heap.size=w.heap.size+1:=by subst hW;simp
 clear hW
 apply wp_region_lit
 refine wpList_buildTo rfl 89 _ rfl (some 4) rfl zcn (by as_aux_lemma=>kernel_rfl) ?_;refine wpList_buildTo rfl 89 _ rfl (some 5) rfl zco (by as_aux_lemma=>kernel_rfl) ?_;refine wpList_buildTo rfl 89 _ rfl (some 6) rfl zcp (by as_aux_lemma=>kernel_rfl) ?_;refine wpList_buildTo rfl 89 _ rfl (some 7) rfl zcq (by as_aux_lemma=>kernel_rfl) ?_;refine wpList_buildTo rfl 115 _ rfl (some 8) rfl tabC (by as_aux_lemma=>kernel_rfl) ?_;refine Great.wpList_allocTo rfl (some 3) rfl (.pointer (some ⟨w.heap.size+1,0,none⟩)) (.cells zcu 115) ?_ ?_
 ·exact zeT _ rfl _ _ h3
 refine wpList_store_rowTo rfl 115 _ _ rfl rfl (w.heap.size+1) tabC ?_ ?_ 115 zcu ?_ ?_ ?_ ?_ ?_
 ·exact Act.eval_put_same _ 3 _ (by simp[Act.size_put])
 ·exact(Act.eval_put_ne _ 3 8 _ (by decide)).trans (Act.eval_put_same _ 8 _ (by simp[Act.size_put]))
 ·exact zcD _ _ _ h3.symm
 ·as_aux_lemma=>kernel_rfl
 ·as_aux_lemma=>kernel_rfl
 ·as_aux_lemma=>kernel_rfl
 refine wpList_nil (hK _ _ ?_);have e1:(W.alloc (.cells zcu 115)).setRow (w.heap.size+1) tabC=W.alloc (.cells tabC 115):=by rw[← h3];exact World.setRow_alloc_new _ _ _ _
 rw[e1]
 change Code.wp _ _ _ ⟨#[.int .i64 1,undef,.pointer (some ⟨w.heap.size,0,none⟩),.pointer (some ⟨w.heap.size+1,0,none⟩),.agg zcn,.agg zco,.agg zcp,.agg zcq,.agg tabC,undef,undef,undef,undef,undef,undef,undef,undef,undef],[]⟩ _
 clear hK;go_upto_region 4 with(fail)
 rename_i K2 hK2
 apply wp_region_lit
 refine Great.wpList_readTo rfl (some 15) rfl (.int .i64 1) rfl ?_;refine Great.wpList_readTo rfl (some 16) rfl (.pointer (some ⟨w.heap.size+1,1 * 9,none⟩)) ?_ ?_
 ·exact zgJ _ (.tmp 3) (.tmp 15) rfl _ _ _ 1 (by decide) rfl rfl
 refine wpList_load_mid rfl 89 _ rfl (w.heap.size+1) (1 * 9) rfl (zar 1).toList _ ?_ Tryz.underlying89 rfl (by as_aux_lemma=>kernel_rfl) ?_
 ·intro i v hv
  rw[← h3,cell_of_row _ _ _ _ _ (0,0) (zau _ _)];exact zih 1 (by decide) i v hv
 refine wpList_store_rowTo rfl 89 _ _ rfl rfl w.heap.size (zar 1) rfl rfl 89 zcs ?_ ?_ ?_ ?_ ?_
 ·exact(zbk _ _ _ (by omega)).trans h1
 ·as_aux_lemma=>kernel_rfl
 ·as_aux_lemma=>kernel_rfl
 ·as_aux_lemma=>kernel_rfl
 refine wpList_nil (hK2 _ _ ?_);clear hK2
 have hb:((W.alloc (.cells tabC 115)).setRow w.heap.size (zar 1)).heap[w.heap.size]? = some (.cells (zar 1) 89 (0,0)) :=
  setRow_heap _ _ _ _ _ _ ((zbk _ _ _ (by omega)).trans h1)
 have hg:w.grownBy ((W.alloc (.cells tabC 115)).setRow w.heap.size (zar 1)) none :=
  zeU (zaa h2 (zGA _ _ none)) (Nat.le_refl _)
 generalize (W.alloc (.cells tabC 115)).setRow w.heap.size (zar 1)=W2 at *
 change Code.wp _ _ _ ⟨#[.int .i64 1,undef,.pointer (some ⟨w.heap.size,0,none⟩),.pointer (some ⟨w.heap.size+1,0,none⟩),.agg zcn,.agg zco,.agg zcp,.agg zcq,.agg tabC,_,_,_,_,_,_,.int .i64 1,.pointer (some ⟨w.heap.size+1,1 * 9,none⟩),.agg (zar 1)],[]⟩ _
 go_wp2;have hl:=run_loadVar_row (P:=Tryz.prog) W2 w.heap.size 89 89 (zar 1) (0,0) _ hb Tryz.underlying89 rfl (by as_aux_lemma=>kernel_rfl);refine bodyPost_ret (v := .agg (zar 1)) ?_ rfl ⟨rfl,hg⟩;unfold results;rw[Tryz.results66];simp[asAddr,hl]
theorem zGq (w:World):Calls Tryz.prog 66 #[.int .i64 2] w (zab (.agg (zar 2)) w):=by
 go_enter Tryz.func66,Tryz.ntmps66;go_upto_region 1 with(fail)
 rename_i K hK
 generalize hW:w.alloc (.cells #[.string ⟨#[]⟩,.string ⟨#[]⟩,.nilFunc,.nilFunc,.nilFunc,.nilFunc,.nilFunc,.nilFunc,.nilFunc] 89)=W at *;have h1:W.heap[w.heap.size]? = some (.cells zcs 89 (0,0)):=by subst hW;exact zau _ _
 have h2:w.grownBy W none:=by subst hW;exact zGA _ _ none
 have h3:W.heap.size=w.heap.size+1:=by subst hW;simp
 clear hW
 apply wp_region_lit
 refine wpList_buildTo rfl 89 _ rfl (some 4) rfl zcn (by as_aux_lemma=>kernel_rfl) ?_;refine wpList_buildTo rfl 89 _ rfl (some 5) rfl zco (by as_aux_lemma=>kernel_rfl) ?_;refine wpList_buildTo rfl 89 _ rfl (some 6) rfl zcp (by as_aux_lemma=>kernel_rfl) ?_;refine wpList_buildTo rfl 89 _ rfl (some 7) rfl zcq (by as_aux_lemma=>kernel_rfl) ?_;refine wpList_buildTo rfl 115 _ rfl (some 8) rfl tabC (by as_aux_lemma=>kernel_rfl) ?_;refine Great.wpList_allocTo rfl (some 3) rfl (.pointer (some ⟨w.heap.size+1,0,none⟩)) (.cells zcu 115) ?_ ?_
 ·exact zeT _ rfl _ _ h3
 refine wpList_store_rowTo rfl 115 _ _ rfl rfl (w.heap.size+1) tabC ?_ ?_ 115 zcu ?_ ?_ ?_ ?_ ?_
 ·exact Act.eval_put_same _ 3 _ (by simp[Act.size_put])
 ·exact(Act.eval_put_ne _ 3 8 _ (by decide)).trans (Act.eval_put_same _ 8 _ (by simp[Act.size_put]))
 ·exact zcD _ _ _ h3.symm
 ·as_aux_lemma=>kernel_rfl
 ·as_aux_lemma=>kernel_rfl
 ·as_aux_lemma=>kernel_rfl
 refine wpList_nil (hK _ _ ?_);have e1:(W.alloc (.cells zcu 115)).setRow (w.heap.size+1) tabC=W.alloc (.cells tabC 115):=by rw[← h3];exact World.setRow_alloc_new _ _ _ _
 rw[e1]
 change Code.wp _ _ _ ⟨#[.int .i64 2,undef,.pointer (some ⟨w.heap.size,0,none⟩),.pointer (some ⟨w.heap.size+1,0,none⟩),.agg zcn,.agg zco,.agg zcp,.agg zcq,.agg tabC,undef,undef,undef,undef,undef,undef,undef,undef,undef],[]⟩ _
 clear hK;go_upto_region 4 with(fail)
 rename_i K2 hK2
 apply wp_region_lit
 refine Great.wpList_readTo rfl (some 15) rfl (.int .i64 2) rfl ?_;refine Great.wpList_readTo rfl (some 16) rfl (.pointer (some ⟨w.heap.size+1,2 * 9,none⟩)) ?_ ?_
 ·exact zgJ _ (.tmp 3) (.tmp 15) rfl _ _ _ 2 (by decide) rfl rfl
 refine wpList_load_mid rfl 89 _ rfl (w.heap.size+1) (2 * 9) rfl (zar 2).toList _ ?_ Tryz.underlying89 rfl (by as_aux_lemma=>kernel_rfl) ?_
 ·intro i v hv
  rw[← h3,cell_of_row _ _ _ _ _ (0,0) (zau _ _)];exact zih 2 (by decide) i v hv
 refine wpList_store_rowTo rfl 89 _ _ rfl rfl w.heap.size (zar 2) rfl rfl 89 zcs ?_ ?_ ?_ ?_ ?_
 ·exact(zbk _ _ _ (by omega)).trans h1
 ·as_aux_lemma=>kernel_rfl
 ·as_aux_lemma=>kernel_rfl
 ·as_aux_lemma=>kernel_rfl
 refine wpList_nil (hK2 _ _ ?_);clear hK2
 have hb:((W.alloc (.cells tabC 115)).setRow w.heap.size (zar 2)).heap[w.heap.size]? = some (.cells (zar 2) 89 (0,0)) :=
  setRow_heap _ _ _ _ _ _ ((zbk _ _ _ (by omega)).trans h1)
 have hg:w.grownBy ((W.alloc (.cells tabC 115)).setRow w.heap.size (zar 2)) none :=
  zeU (zaa h2 (zGA _ _ none)) (Nat.le_refl _)
 generalize (W.alloc (.cells tabC 115)).setRow w.heap.size (zar 2)=W2 at *
 change Code.wp _ _ _ ⟨#[.int .i64 2,undef,.pointer (some ⟨w.heap.size,0,none⟩),.pointer (some ⟨w.heap.size+1,0,none⟩),.agg zcn,.agg zco,.agg zcp,.agg zcq,.agg tabC,_,_,_,_,_,_,.int .i64 2,.pointer (some ⟨w.heap.size+1,2 * 9,none⟩),.agg (zar 2)],[]⟩ _
 go_wp2;have hl:=run_loadVar_row (P:=Tryz.prog) W2 w.heap.size 89 89 (zar 2) (0,0) _ hb Tryz.underlying89 rfl (by as_aux_lemma=>kernel_rfl);refine bodyPost_ret (v := .agg (zar 2)) ?_ rfl ⟨rfl,hg⟩;unfold results;rw[Tryz.results66];simp[asAddr,hl]
theorem zCY (w:World):Calls Tryz.prog 66 #[.int .i64 3] w (zab (.agg (zar 3)) w):=by
 go_enter Tryz.func66,Tryz.ntmps66;go_upto_region 1 with(fail)
 rename_i K hK
 generalize hW:w.alloc (.cells #[.string ⟨#[]⟩,.string ⟨#[]⟩,.nilFunc,.nilFunc,.nilFunc,.nilFunc,.nilFunc,.nilFunc,.nilFunc] 89)=W at *;have h1:W.heap[w.heap.size]? = some (.cells zcs 89 (0,0)):=by subst hW;exact zau _ _
 have h2:w.grownBy W none:=by subst hW;exact zGA _ _ none
 have h3:W.heap.size=w.heap.size+1:=by subst hW;simp
 clear hW
 apply wp_region_lit
 refine wpList_buildTo rfl 89 _ rfl (some 4) rfl zcn (by as_aux_lemma=>kernel_rfl) ?_;refine wpList_buildTo rfl 89 _ rfl (some 5) rfl zco (by as_aux_lemma=>kernel_rfl) ?_;refine wpList_buildTo rfl 89 _ rfl (some 6) rfl zcp (by as_aux_lemma=>kernel_rfl) ?_;refine wpList_buildTo rfl 89 _ rfl (some 7) rfl zcq (by as_aux_lemma=>kernel_rfl) ?_;refine wpList_buildTo rfl 115 _ rfl (some 8) rfl tabC (by as_aux_lemma=>kernel_rfl) ?_;refine Great.wpList_allocTo rfl (some 3) rfl (.pointer (some ⟨w.heap.size+1,0,none⟩)) (.cells zcu 115) ?_ ?_
 ·exact zeT _ rfl _ _ h3
 refine wpList_store_rowTo rfl 115 _ _ rfl rfl (w.heap.size+1) tabC ?_ ?_ 115 zcu ?_ ?_ ?_ ?_ ?_
 ·exact Act.eval_put_same _ 3 _ (by simp[Act.size_put])
 ·exact(Act.eval_put_ne _ 3 8 _ (by decide)).trans (Act.eval_put_same _ 8 _ (by simp[Act.size_put]))
 ·exact zcD _ _ _ h3.symm
 ·as_aux_lemma=>kernel_rfl
 ·as_aux_lemma=>kernel_rfl
 ·as_aux_lemma=>kernel_rfl
 refine wpList_nil (hK _ _ ?_);have e1:(W.alloc (.cells zcu 115)).setRow (w.heap.size+1) tabC=W.alloc (.cells tabC 115):=by rw[← h3];exact World.setRow_alloc_new _ _ _ _
 rw[e1]
 change Code.wp _ _ _ ⟨#[.int .i64 3,undef,.pointer (some ⟨w.heap.size,0,none⟩),.pointer (some ⟨w.heap.size+1,0,none⟩),.agg zcn,.agg zco,.agg zcp,.agg zcq,.agg tabC,undef,undef,undef,undef,undef,undef,undef,undef,undef],[]⟩ _
 clear hK;go_upto_region 4 with(fail)
 rename_i K2 hK2
 apply wp_region_lit
 refine Great.wpList_readTo rfl (some 15) rfl (.int .i64 3) rfl ?_;refine Great.wpList_readTo rfl (some 16) rfl (.pointer (some ⟨w.heap.size+1,3 * 9,none⟩)) ?_ ?_
 ·exact zgJ _ (.tmp 3) (.tmp 15) rfl _ _ _ 3 (by decide) rfl rfl
 refine wpList_load_mid rfl 89 _ rfl (w.heap.size+1) (3 * 9) rfl (zar 3).toList _ ?_ Tryz.underlying89 rfl (by as_aux_lemma=>kernel_rfl) ?_
 ·intro i v hv
  rw[← h3,cell_of_row _ _ _ _ _ (0,0) (zau _ _)];exact zih 3 (by decide) i v hv
 refine wpList_store_rowTo rfl 89 _ _ rfl rfl w.heap.size (zar 3) rfl rfl 89 zcs ?_ ?_ ?_ ?_ ?_
 ·exact(zbk _ _ _ (by omega)).trans h1
 ·as_aux_lemma=>kernel_rfl
 ·as_aux_lemma=>kernel_rfl
 ·as_aux_lemma=>kernel_rfl
 refine wpList_nil (hK2 _ _ ?_);clear hK2
 have hb:((W.alloc (.cells tabC 115)).setRow w.heap.size (zar 3)).heap[w.heap.size]? = some (.cells (zar 3) 89 (0,0)) :=
  setRow_heap _ _ _ _ _ _ ((zbk _ _ _ (by omega)).trans h1)
 have hg:w.grownBy ((W.alloc (.cells tabC 115)).setRow w.heap.size (zar 3)) none :=
  zeU (zaa h2 (zGA _ _ none)) (Nat.le_refl _)
 generalize (W.alloc (.cells tabC 115)).setRow w.heap.size (zar 3)=W2 at *
 change Code.wp _ _ _ ⟨#[.int .i64 3,undef,.pointer (some ⟨w.heap.size,0,none⟩),.pointer (some ⟨w.heap.size+1,0,none⟩),.agg zcn,.agg zco,.agg zcp,.agg zcq,.agg tabC,_,_,_,_,_,_,.int .i64 3,.pointer (some ⟨w.heap.size+1,3 * 9,none⟩),.agg (zar 3)],[]⟩ _
 go_wp2;have hl:=run_loadVar_row (P:=Tryz.prog) W2 w.heap.size 89 89 (zar 3) (0,0) _ hb Tryz.underlying89 rfl (by as_aux_lemma=>kernel_rfl);refine bodyPost_ret (v := .agg (zar 3)) ?_ rfl ⟨rfl,hg⟩;unfold results;rw[Tryz.results66];simp[asAddr,hl]
theorem zFl (w:World):Calls Tryz.prog 66 #[.int .i64 0] w (zab (.agg (zar 0)) w):=by
 go_enter Tryz.func66,Tryz.ntmps66;go_upto_region 1 with(fail)
 rename_i K hK
 generalize hW:w.alloc (.cells #[.string ⟨#[]⟩,.string ⟨#[]⟩,.nilFunc,.nilFunc,.nilFunc,.nilFunc,.nilFunc,.nilFunc,.nilFunc] 89)=W at *;have h1:W.heap[w.heap.size]? = some (.cells zcs 89 (0,0)):=by subst hW;exact zau _ _
 have h2:w.grownBy W none:=by subst hW;exact zGA _ _ none
 have h3:W.heap.size=w.heap.size+1:=by subst hW;simp
 clear hW
 apply wp_region_lit
 refine wpList_buildTo rfl 89 _ rfl (some 4) rfl zcn (by as_aux_lemma=>kernel_rfl) ?_;refine wpList_buildTo rfl 89 _ rfl (some 5) rfl zco (by as_aux_lemma=>kernel_rfl) ?_;refine wpList_buildTo rfl 89 _ rfl (some 6) rfl zcp (by as_aux_lemma=>kernel_rfl) ?_;refine wpList_buildTo rfl 89 _ rfl (some 7) rfl zcq (by as_aux_lemma=>kernel_rfl) ?_;refine wpList_buildTo rfl 115 _ rfl (some 8) rfl tabC (by as_aux_lemma=>kernel_rfl) ?_;refine Great.wpList_allocTo rfl (some 3) rfl (.pointer (some ⟨w.heap.size+1,0,none⟩)) (.cells zcu 115) ?_ ?_
 ·exact zeT _ rfl _ _ h3
 refine wpList_store_rowTo rfl 115 _ _ rfl rfl (w.heap.size+1) tabC ?_ ?_ 115 zcu ?_ ?_ ?_ ?_ ?_
 ·exact Act.eval_put_same _ 3 _ (by simp[Act.size_put])
 ·exact(Act.eval_put_ne _ 3 8 _ (by decide)).trans (Act.eval_put_same _ 8 _ (by simp[Act.size_put]))
 ·exact zcD _ _ _ h3.symm
 ·as_aux_lemma=>kernel_rfl
 ·as_aux_lemma=>kernel_rfl
 ·as_aux_lemma=>kernel_rfl
 refine wpList_nil (hK _ _ ?_);have e1:(W.alloc (.cells zcu 115)).setRow (w.heap.size+1) tabC=W.alloc (.cells tabC 115):=by rw[← h3];exact World.setRow_alloc_new _ _ _ _
 rw[e1]
 change Code.wp _ _ _ ⟨#[.int .i64 0,undef,.pointer (some ⟨w.heap.size,0,none⟩),.pointer (some ⟨w.heap.size+1,0,none⟩),.agg zcn,.agg zco,.agg zcp,.agg zcq,.agg tabC,undef,undef,undef,undef,undef,undef,undef,undef,undef],[]⟩ _
 clear hK;go_upto_region 4 with(fail)
 rename_i K2 hK2
 apply wp_region_lit
 refine Great.wpList_readTo rfl (some 15) rfl (.int .i64 0) rfl ?_;refine Great.wpList_readTo rfl (some 16) rfl (.pointer (some ⟨w.heap.size+1,0 * 9,none⟩)) ?_ ?_
 ·exact zgJ _ (.tmp 3) (.tmp 15) rfl _ _ _ 0 (by decide) rfl rfl
 refine wpList_load_mid rfl 89 _ rfl (w.heap.size+1) (0 * 9) rfl (zar 0).toList _ ?_ Tryz.underlying89 rfl (by as_aux_lemma=>kernel_rfl) ?_
 ·intro i v hv
  rw[← h3,cell_of_row _ _ _ _ _ (0,0) (zau _ _)];exact zih 0 (by decide) i v hv
 refine wpList_store_rowTo rfl 89 _ _ rfl rfl w.heap.size (zar 0) rfl rfl 89 zcs ?_ ?_ ?_ ?_ ?_
 ·exact(zbk _ _ _ (by omega)).trans h1
 ·as_aux_lemma=>kernel_rfl
 ·as_aux_lemma=>kernel_rfl
 ·as_aux_lemma=>kernel_rfl
 refine wpList_nil (hK2 _ _ ?_);clear hK2
 have hb:((W.alloc (.cells tabC 115)).setRow w.heap.size (zar 0)).heap[w.heap.size]? = some (.cells (zar 0) 89 (0,0)) :=
  setRow_heap _ _ _ _ _ _ ((zbk _ _ _ (by omega)).trans h1)
 have hg:w.grownBy ((W.alloc (.cells tabC 115)).setRow w.heap.size (zar 0)) none :=
  zeU (zaa h2 (zGA _ _ none)) (Nat.le_refl _)
 generalize (W.alloc (.cells tabC 115)).setRow w.heap.size (zar 0)=W2 at *
 change Code.wp _ _ _ ⟨#[.int .i64 0,undef,.pointer (some ⟨w.heap.size,0,none⟩),.pointer (some ⟨w.heap.size+1,0,none⟩),.agg zcn,.agg zco,.agg zcp,.agg zcq,.agg tabC,_,_,_,_,_,_,.int .i64 0,.pointer (some ⟨w.heap.size+1,0 * 9,none⟩),.agg (zar 0)],[]⟩ _
 go_wp2;have hl:=run_loadVar_row (P:=Tryz.prog) W2 w.heap.size 89 89 (zar 0) (0,0) _ hb Tryz.underlying89 rfl (by as_aux_lemma=>kernel_rfl);refine bodyPost_ret (v := .agg (zar 0)) ?_ rfl ⟨rfl,hg⟩;unfold results;rw[Tryz.results66];simp[asAddr,hl]
theorem of_low (w:World)(k:Int)(h:k<0):Calls Tryz.prog 66 #[.int .i64 k] w (zab (.agg (zar 0)) w):=by
 go_enter Tryz.func66,Tryz.ntmps66;go_upto_region 1 with(fail)
 rename_i K hK
 generalize hW:w.alloc (.cells #[.string ⟨#[]⟩,.string ⟨#[]⟩,.nilFunc,.nilFunc,.nilFunc,.nilFunc,.nilFunc,.nilFunc,.nilFunc] 89)=W at *;have h1:W.heap[w.heap.size]? = some (.cells zcs 89 (0,0)):=by subst hW;exact zau _ _
 have h2:w.grownBy W none:=by subst hW;exact zGA _ _ none
 have h3:W.heap.size=w.heap.size+1:=by subst hW;simp
 clear hW
 apply wp_region_lit
 refine wpList_buildTo rfl 89 _ rfl (some 4) rfl zcn (by as_aux_lemma=>kernel_rfl) ?_;refine wpList_buildTo rfl 89 _ rfl (some 5) rfl zco (by as_aux_lemma=>kernel_rfl) ?_;refine wpList_buildTo rfl 89 _ rfl (some 6) rfl zcp (by as_aux_lemma=>kernel_rfl) ?_;refine wpList_buildTo rfl 89 _ rfl (some 7) rfl zcq (by as_aux_lemma=>kernel_rfl) ?_;refine wpList_buildTo rfl 115 _ rfl (some 8) rfl tabC (by as_aux_lemma=>kernel_rfl) ?_;refine Great.wpList_allocTo rfl (some 3) rfl (.pointer (some ⟨w.heap.size+1,0,none⟩)) (.cells zcu 115) ?_ ?_
 ·exact zeT _ rfl _ _ h3
 refine wpList_store_rowTo rfl 115 _ _ rfl rfl (w.heap.size+1) tabC ?_ ?_ 115 zcu ?_ ?_ ?_ ?_ ?_
 ·exact Act.eval_put_same _ 3 _ (by simp[Act.size_put])
 ·exact(Act.eval_put_ne _ 3 8 _ (by decide)).trans (Act.eval_put_same _ 8 _ (by simp[Act.size_put]))
 ·exact zcD _ _ _ h3.symm
 ·as_aux_lemma=>kernel_rfl
 ·as_aux_lemma=>kernel_rfl
 ·as_aux_lemma=>kernel_rfl
 refine wpList_nil (hK _ _ ?_);have e1:(W.alloc (.cells zcu 115)).setRow (w.heap.size+1) tabC=W.alloc (.cells tabC 115):=by rw[← h3];exact World.setRow_alloc_new _ _ _ _
 rw[e1]
 change Code.wp _ _ _ ⟨#[.int .i64 k,undef,.pointer (some ⟨w.heap.size,0,none⟩),.pointer (some ⟨w.heap.size+1,0,none⟩),.agg zcn,.agg zco,.agg zcp,.agg zcq,.agg tabC,undef,undef,undef,undef,undef,undef,undef,undef,undef],[]⟩ _
 clear hK;go_upto_region 4 with(fail)
 rename_i K2 hK2
 apply wp_region_lit
 refine Great.wpList_readTo rfl (some 15) rfl (.int .i64 0) rfl ?_;refine Great.wpList_readTo rfl (some 16) rfl (.pointer (some ⟨w.heap.size+1,0 * 9,none⟩)) ?_ ?_
 ·exact zgJ _ (.tmp 3) (.tmp 15) rfl _ _ _ 0 (by decide) rfl rfl
 refine wpList_load_mid rfl 89 _ rfl (w.heap.size+1) (0 * 9) rfl (zar 0).toList _ ?_ Tryz.underlying89 rfl (by as_aux_lemma=>kernel_rfl) ?_
 ·intro i v hv
  rw[← h3,cell_of_row _ _ _ _ _ (0,0) (zau _ _)];exact zih 0 (by decide) i v hv
 refine wpList_store_rowTo rfl 89 _ _ rfl rfl w.heap.size (zar 0) rfl rfl 89 zcs ?_ ?_ ?_ ?_ ?_
 ·exact(zbk _ _ _ (by omega)).trans h1
 ·as_aux_lemma=>kernel_rfl
 ·as_aux_lemma=>kernel_rfl
 ·as_aux_lemma=>kernel_rfl
 refine wpList_nil (hK2 _ _ ?_);clear hK2
 have hb:((W.alloc (.cells tabC 115)).setRow w.heap.size (zar 0)).heap[w.heap.size]? = some (.cells (zar 0) 89 (0,0)) :=
  setRow_heap _ _ _ _ _ _ ((zbk _ _ _ (by omega)).trans h1)
 have hg:w.grownBy ((W.alloc (.cells tabC 115)).setRow w.heap.size (zar 0)) none :=
  zeU (zaa h2 (zGA _ _ none)) (Nat.le_refl _)
 generalize (W.alloc (.cells tabC 115)).setRow w.heap.size (zar 0)=W2 at *
 change Code.wp _ _ _ ⟨#[.int .i64 0,undef,.pointer (some ⟨w.heap.size,0,none⟩),.pointer (some ⟨w.heap.size+1,0,none⟩),.agg zcn,.agg zco,.agg zcp,.agg zcq,.agg tabC,_,_,_,_,_,_,.int .i64 0,.pointer (some ⟨w.heap.size+1,0 * 9,none⟩),.agg (zar 0)],[]⟩ _
 go_wp2;have hl:=run_loadVar_row (P:=Tryz.prog) W2 w.heap.size 89 89 (zar 0) (0,0) _ hb Tryz.underlying89 rfl (by as_aux_lemma=>kernel_rfl);refine bodyPost_ret (v := .agg (zar 0)) ?_ rfl ⟨rfl,hg⟩;unfold results;rw[Tryz.results66];simp[asAddr,hl]
theorem zFm (w:World)(k:Int)(h:4≤k):Calls Tryz.prog 66 #[.int .i64 k] w (zab (.agg (zar 0)) w):=by
 have h2:¬ k<0:=by omega
 go_enter Tryz.func66,Tryz.ntmps66;go_upto_region 1 with(fail)
 rename_i K hK
 generalize hW:w.alloc (.cells #[.string ⟨#[]⟩,.string ⟨#[]⟩,.nilFunc,.nilFunc,.nilFunc,.nilFunc,.nilFunc,.nilFunc,.nilFunc] 89)=W at *;have h1:W.heap[w.heap.size]? = some (.cells zcs 89 (0,0)):=by subst hW;exact zau _ _
 have h2:w.grownBy W none:=by subst hW;exact zGA _ _ none
 have h3:W.heap.size=w.heap.size+1:=by subst hW;simp
 clear hW
 apply wp_region_lit
 refine wpList_buildTo rfl 89 _ rfl (some 4) rfl zcn (by as_aux_lemma=>kernel_rfl) ?_;refine wpList_buildTo rfl 89 _ rfl (some 5) rfl zco (by as_aux_lemma=>kernel_rfl) ?_;refine wpList_buildTo rfl 89 _ rfl (some 6) rfl zcp (by as_aux_lemma=>kernel_rfl) ?_;refine wpList_buildTo rfl 89 _ rfl (some 7) rfl zcq (by as_aux_lemma=>kernel_rfl) ?_;refine wpList_buildTo rfl 115 _ rfl (some 8) rfl tabC (by as_aux_lemma=>kernel_rfl) ?_;refine Great.wpList_allocTo rfl (some 3) rfl (.pointer (some ⟨w.heap.size+1,0,none⟩)) (.cells zcu 115) ?_ ?_
 ·exact zeT _ rfl _ _ h3
 refine wpList_store_rowTo rfl 115 _ _ rfl rfl (w.heap.size+1) tabC ?_ ?_ 115 zcu ?_ ?_ ?_ ?_ ?_
 ·exact Act.eval_put_same _ 3 _ (by simp[Act.size_put])
 ·exact(Act.eval_put_ne _ 3 8 _ (by decide)).trans (Act.eval_put_same _ 8 _ (by simp[Act.size_put]))
 ·exact zcD _ _ _ h3.symm
 ·as_aux_lemma=>kernel_rfl
 ·as_aux_lemma=>kernel_rfl
 ·as_aux_lemma=>kernel_rfl
 refine wpList_nil (hK _ _ ?_);have e1:(W.alloc (.cells zcu 115)).setRow (w.heap.size+1) tabC=W.alloc (.cells tabC 115):=by rw[← h3];exact World.setRow_alloc_new _ _ _ _
 rw[e1]
 change Code.wp _ _ _ ⟨#[.int .i64 k,undef,.pointer (some ⟨w.heap.size,0,none⟩),.pointer (some ⟨w.heap.size+1,0,none⟩),.agg zcn,.agg zco,.agg zcp,.agg zcq,.agg tabC,undef,undef,undef,undef,undef,undef,undef,undef,undef],[]⟩ _
 clear hK;go_upto_region 4 with(fail)
 rename_i K2 hK2
 apply wp_region_lit
 refine Great.wpList_readTo rfl (some 15) rfl (.int .i64 0) rfl ?_;refine Great.wpList_readTo rfl (some 16) rfl (.pointer (some ⟨w.heap.size+1,0 * 9,none⟩)) ?_ ?_
 ·exact zgJ _ (.tmp 3) (.tmp 15) rfl _ _ _ 0 (by decide) rfl rfl
 refine wpList_load_mid rfl 89 _ rfl (w.heap.size+1) (0 * 9) rfl (zar 0).toList _ ?_ Tryz.underlying89 rfl (by as_aux_lemma=>kernel_rfl) ?_
 ·intro i v hv
  rw[← h3,cell_of_row _ _ _ _ _ (0,0) (zau _ _)];exact zih 0 (by decide) i v hv
 refine wpList_store_rowTo rfl 89 _ _ rfl rfl w.heap.size (zar 0) rfl rfl 89 zcs ?_ ?_ ?_ ?_ ?_
 ·exact(zbk _ _ _ (by omega)).trans h1
 ·as_aux_lemma=>kernel_rfl
 ·as_aux_lemma=>kernel_rfl
 ·as_aux_lemma=>kernel_rfl
 refine wpList_nil (hK2 _ _ ?_);clear hK2
 have hb:((W.alloc (.cells tabC 115)).setRow w.heap.size (zar 0)).heap[w.heap.size]? = some (.cells (zar 0) 89 (0,0)) :=
  setRow_heap _ _ _ _ _ _ ((zbk _ _ _ (by omega)).trans h1)
 have hg:w.grownBy ((W.alloc (.cells tabC 115)).setRow w.heap.size (zar 0)) none :=
  zeU (zaa h2 (zGA _ _ none)) (Nat.le_refl _)
 generalize (W.alloc (.cells tabC 115)).setRow w.heap.size (zar 0)=W2 at *
 change Code.wp _ _ _ ⟨#[.int .i64 0,undef,.pointer (some ⟨w.heap.size,0,none⟩),.pointer (some ⟨w.heap.size+1,0,none⟩),.agg zcn,.agg zco,.agg zcp,.agg zcq,.agg tabC,_,_,_,_,_,_,.int .i64 0,.pointer (some ⟨w.heap.size+1,0 * 9,none⟩),.agg (zar 0)],[]⟩ _
 go_wp2;have hl:=run_loadVar_row (P:=Tryz.prog) W2 w.heap.size 89 89 (zar 0) (0,0) _ hb Tryz.underlying89 rfl (by as_aux_lemma=>kernel_rfl);refine bodyPost_ret (v := .agg (zar 0)) ?_ rfl ⟨rfl,hg⟩;unfold results;rw[Tryz.results66];simp[asAddr,hl]
theorem znl (k:Int)(w:World):Calls Tryz.prog 66 #[.int .i64 k] w (zab (zwW k) w):=by
 unfold zwW
 by_cases h1:k=1
 ·subst h1;exact zGp w
 by_cases h2:k=2
 ·subst h2;exact zGq w
 by_cases h3:k=3
 ·subst h3;exact zCY w
 have e:zar k=zar 0:=by
  unfold zar;rw[if_neg h1,if_neg h2,if_neg h3]
  rfl
 rw[e]
 by_cases h0:k=0
 ·subst h0;exact zFl w
 by_cases hl:k<0
 ·exact of_low w k hl
 ·exact zFm w k (by omega)
open Go.RowKit
open Go.Lib (nDigits decDigits)
def zGX:Ext→Bool
 | .inl false=>true
 | _=>false
def zGY:Ext→Bool
 | .inl true=>true
 | _=>false
def isNil:Ext→Bool
 | .inr x=>decide (x=0)
 | _=>false
theorem zsk {a c:ByteArray}{u v:Ext}(h:IsE a u)(k:IsE c v):decide (a=c)=decide (u=v):=by
 apply decide_eq_decide.2
 exact⟨fun e=>by subst e;exact h.uniq k,fun e=>by subst e;exact h.same k⟩
theorem zmc:lowS.toList=[45,105,110,102]:=by decide +kernel
theorem ziO:infS.toList=[105,110,102]:=by decide +kernel
theorem zzI:zdH.toList=[48]:=by decide +kernel
theorem zlj {a:ByteArray}{v:Ext}(h:IsE a v):(a.toList == [45,105,110,102])=zGX v:=by
 rw[← zmc,zds,zsk h lowE];rcases v with(_|_)|x
 ·rfl
 ·exact decide_eq_false (fun e=>by cases e)
 ·exact decide_eq_false (fun e=>by cases e)
theorem zdh {a:ByteArray}{v:Ext}(h:IsE a v):(a.toList == [105,110,102])=zGY v:=by
 rw[← ziO,zds,zsk h topE];rcases v with(_|_)|x
 ·exact decide_eq_false (fun e=>by cases e)
 ·rfl
 ·exact decide_eq_false (fun e=>by cases e)
theorem zsl {a:ByteArray}{v:Ext}(h:IsE a v):(a.toList == [48])=isNil v:=by
 rw[← zzI,zds,zsk h zni];rcases v with(_|_)|x
 ·exact decide_eq_false (fun e=>by cases e)
 ·exact decide_eq_false (fun e=>by cases e)
 ·exact decide_eq_decide.2 ⟨fun e=>Sum.inr.inj e,fun e=>by rw[e]⟩
theorem zpT (a:ByteArray)(b1 b2:Bool)(f1:(a.toList == [45,105,110,102])=b1)(f2:(a.toList == [105,110,102])=b2)(w:World) :
  Calls Tryz.prog 151 #[.string a] w fun e w'=>e = .returned (.int .i64 (if b1 then -1 else if b2 then 1 else 0))∧w=w':=by
 cases b1 <;> cases b2
 all_goals
  go_enter Tryz.func151,Tryz.ntmps151;go_wp2;go_ret;exact⟨rfl,rfl⟩
def zfm (a:ByteArray)(s:Int):Prop:=∀ w,Calls Tryz.prog 151 #[.string a] w fun e w'=>e = .returned (.int .i64 s)∧w=w'
theorem zmd {a:ByteArray}{v:Ext}(h:IsE a v):zfm a (zwB v):=fun w=>by
 have k:=zpT a _ _ (zlj h) (zdh h) w;rcases v with(_|_)|x <;> exact k
theorem zFn {a:ByteArray}(h1:a≠lowS)(h2:a≠infS):zfm a 0:=fun w=>by
 have k:=zpT a false false (by rw[← zmc,zds];exact decide_eq_false h1) (by rw[← ziO,zds];exact decide_eq_false h2) w;exact k
def zvy (a b:ByteArray)(c:Int):Prop:=∀ w,Calls Tryz.prog 156 #[.string a,.string b] w (zab (.int .i64 c) w)
theorem zdi (a b:ByteArray)(s t c:Int)(w:World)(SA:Hid (zfm a s))(SB:Hid (zfm b t))(hc:Hid (Lib.compareInt s t=c))(f1:(c == 0)=false)(f2:(c != 0)=true) :
  Calls Tryz.prog 114 #[.string a,.string b] w (zab (.int .i64 c) w):=by
 go_enter Tryz.func114,Tryz.ntmps114;go_wp2_with fail;refine(SA.out _).mono ?_;rintro e w' ⟨rfl,rfl⟩;go_wp2_with fail;refine(SB.out _).mono ?_;rintro e w' ⟨rfl,rfl⟩;go_wp2_with fail;refine(Tryz.cmp_Compare_int s t _).mono ?_;rintro e w' ⟨rfl,rfl⟩;rw[hc.out];go_wp2;go_ret;exact⟨rfl,zag _ _⟩
theorem zhT (a b:ByteArray)(s t c:Int)(w:World)(SA:Hid (zfm a s))(SB:Hid (zfm b t))(hc:Hid (Lib.compareInt s t=0))(C:Hid (zvy a b c)) :
  Calls Tryz.prog 114 #[.string a,.string b] w (zab (.int .i64 c) w):=by
 go_enter Tryz.func114,Tryz.ntmps114;go_wp2_with fail;refine(SA.out _).mono ?_;rintro e w' ⟨rfl,rfl⟩;go_wp2_with fail;refine(SB.out _).mono ?_;rintro e w' ⟨rfl,rfl⟩;go_wp2_with fail;refine(Tryz.cmp_Compare_int s t _).mono ?_;rintro e w' ⟨rfl,rfl⟩;rw[hc.out];go_wp2_with fail;refine(C.out _).mono ?_;rintro e w1 ⟨rfl,hg⟩;have G1:=zHd hg;clear hg;go_wp2;go_ret;exact⟨rfl,G1.out⟩
def zdS (a b:ByteArray)(c:Int):Prop:=∀ w,Calls Tryz.prog 114 #[.string a,.string b] w (zab (.int .i64 c) w)
theorem zgx:zcP infS:=zov
theorem zgy:zcP lowS:=zow
theorem zoC:infS.size≤maxLen:=by decide
theorem zoD:lowS.size≤maxLen:=by decide
theorem zcZ {a b:ByteArray}{u v:Ext}(ha:IsE a u)(hb:IsE b v):zdS a b (cmpE u v):=fun w=>by
 have sa:=zHd (zmd ha);have sb:=zHd (zmd hb);rcases u with(_|_)|x <;> rcases v with(_|_)|y
 ·cases ha;cases hb
  exact zhT _ _ _ _ _ w sa sb (zHd (show Lib.compareInt (-1) (-1)=0 by decide +kernel)) (zHd fun w=>zgc zoD zoD (.inl zgy) w)
 ·exact zdi _ _ _ _ _ w sa sb (zHd (show Lib.compareInt (-1) (1) = -1 by decide +kernel)) rfl rfl
 ·exact zdi _ _ _ _ _ w sa sb (zHd (show Lib.compareInt (-1) (0) = -1 by decide +kernel)) rfl rfl
 ·exact zdi _ _ _ _ _ w sa sb (zHd (show Lib.compareInt (1) (-1)=1 by decide +kernel)) rfl rfl
 ·cases ha;cases hb
  exact zhT _ _ _ _ _ w sa sb (zHd (show Lib.compareInt (1) (1)=0 by decide +kernel)) (zHd fun w=>zgc zoC zoC (.inl zgx) w)
 ·exact zdi _ _ _ _ _ w sa sb (zHd (show Lib.compareInt (1) (0)=1 by decide +kernel)) rfl rfl
 ·exact zdi _ _ _ _ _ w sa sb (zHd (show Lib.compareInt (0) (-1)=1 by decide +kernel)) rfl rfl
 ·exact zdi _ _ _ _ _ w sa sb (zHd (show Lib.compareInt (0) (1) = -1 by decide +kernel)) rfl rfl
 ·exact zhT _ _ _ _ _ w sa sb (zHd (show Lib.compareInt (0) (0)=0 by decide +kernel)) (zHd fun w=>znh ha hb w)
theorem zsm (a:ByteArray)(w:World):Calls Tryz.prog 107 #[.string a] w (zab (.bool false) w):=by
 go_enter Tryz.func107,Tryz.ntmps107;go_wp2;go_ret;exact⟨rfl,zag _ _⟩
def zGr (a:ByteArray)(k:Bool):Prop:=∀ w,Calls Tryz.prog 109 #[.string a] w (zab (.bool k) w)
theorem zjy (a:ByteArray)(s:Int)(w:World)(SA:Hid (zfm a s))(f1:(s == 0)=false)(f2:(s != 0)=true) :
  Calls Tryz.prog 108 #[.string a] w (zab (.bool true) w):=by
 go_enter Tryz.func108,Tryz.ntmps108;go_wp2_with fail;refine(SA.out _).mono ?_;rintro e w' ⟨rfl,rfl⟩;go_wp2;go_ret;exact⟨rfl,zag _ _⟩
theorem zkd (a:ByteArray)(k:Bool)(w:World)(SA:Hid (zfm a 0))(V:Hid (zGr a k)) :
  Calls Tryz.prog 108 #[.string a] w (zab (.bool k) w):=by
 go_enter Tryz.func108,Tryz.ntmps108;go_wp2_with fail;refine(SA.out _).mono ?_;rintro e w' ⟨rfl,rfl⟩;go_wp2_with fail;refine(V.out _).mono ?_;rintro e w1 ⟨rfl,hg⟩;have G1:=zHd hg;clear hg;go_wp2;go_ret;exact⟨rfl,G1.out⟩
def zaZ (F:Nat)(a:ByteArray)(k:Bool):Prop:=∀ w,Calls Tryz.prog F #[.string a] w (zab (.bool k) w)
theorem zsn {a:ByteArray}{v:Ext}(h:IsE a v):zaZ 108 a true:=fun w=>by
 have sa:=zHd (zmd h);rcases v with(_|_)|x
 ·exact zjy a _ w sa rfl rfl
 ·exact zjy a _ w sa rfl rfl
 ·exact zkd a true w sa (zHd fun w=>zjT h w)
def zfS (a:ByteArray):Prop:=∀ v,¬ IsE a v
theorem zfS.rat {a:ByteArray}(h:zfS a):zcP a:=fun x k=>h (.inr x) k
theorem zfS.size {a:ByteArray}(h:zfS a):zfm a 0:=zFn (fun e=>h (.inl false) e) (fun e=>h (.inl true) e)
theorem znm (a:ByteArray):(∃ v,IsE a v)∨zfS a:=by
 by_cases h:∃ v,IsE a v
 ·exact .inl h
 ·exact .inr fun v k=>h ⟨v,k⟩
theorem zum {a:ByteArray}(h:zfS a)(ha:a.size≤maxLen):zaZ 108 a false:=fun w =>
 zkd a false w (zHd h.size) (zHd fun w=>zfO h.rat ha w)
def zoE (a:ByteArray)(b k:Bool):Prop:=∃ A B,∀ w,Calls Tryz.prog 157 #[.string a] w (zab (.tuple #[.bool b,.string A,.string B,.bool k]) w)
theorem zfT (a:ByteArray)(i b k:Bool)(w:World)(f1:(a.toList == [105,110,102])=i)(P:Hid (zoE a b k)) :
  Calls Tryz.prog 115 #[.string a] w (zab (.bool (i || (k && !b))) w):=by
 obtain⟨A,B,p⟩:=P.out;clear P;have P:=zHd p;clear p;cases i <;> cases b <;> cases k
 all_goals
  go_enter Tryz.func115,Tryz.ntmps115;go_wp2_with fail;refine(P.out _).mono ?_;rintro e w1 ⟨rfl,hg⟩;have G1:=zHd hg;clear hg;go_wp2;go_ret;exact⟨rfl,G1.out⟩
theorem zzJ {a:ByteArray}{x:Rat}(h:zax a x):zoE a (sgn x) true:=⟨_,_,fun w=>zzl h w⟩
theorem zke {a:ByteArray}(h:zcP a)(ha:a.size≤maxLen):zoE a false false:=⟨_,_,fun w=>zCw h ha w⟩
theorem zwX (x:Rat):(!sgn x)=decide (0≤x):=by
 unfold sgn;have h:=Rat.num_nonneg (q:=x)
 by_cases k:0≤x
 ·have:=h.2 k
  simp[k]
  try omega
 ·have h2:¬ 0≤x.num:=fun z=>k (h.1 z)
  simp[k]
  try omega
theorem znn {a:ByteArray}{v:Ext}(h:IsE a v):zaZ 115 a (hasE 2 v):=fun w=>by
 rcases v with(_|_)|x
 ·have:=zfT a _ _ _ w (zdh h) (zHd (zke (by cases h;exact zgy) (IsE.len (v := .inl false) h)))
  exact this
 ·have:=zfT a _ _ _ w (zdh h) (zHd (zke (by cases h;exact zgx) (IsE.len (v := .inl true) h)))
  exact this
 ·have:=zfT a _ _ _ w (zdh h) (zHd (zzJ h))
  rw[Bool.true_and,zwX] at this;rw[show hasE 2 (.inr x)=decide (0≤x) by simp[hasE]];exact this
theorem zzK {a:ByteArray}(h:zfS a)(ha:a.size≤maxLen):zaZ 115 a false:=fun w=>by
 have:=zfT a false _ _ w (by rw[← ziO,zds];exact decide_eq_false (fun e=>h (.inl true) e)) (zHd (zke h.rat ha));exact this
theorem zeG (a:ByteArray)(c:Int)(k:Bool)(w:World)(C:Hid (zvy a ⟨#[48]⟩ c))(hk:decide (0<c)=k) :
  Calls Tryz.prog 116 #[.string a] w (zab (.bool k) w):=by
 go_enter Tryz.func116,Tryz.ntmps116;go_wp2_with fail;refine(C.out _).mono ?_;rintro e w1 ⟨rfl,hg⟩;have G1:=zHd hg;clear hg;go_wp2;go_ret;exact⟨by first|rfl|rw[← hk]|simp_all,G1.out⟩
theorem zme:zdH.size≤maxLen:=by decide
theorem zkf {a:ByteArray}{v:Ext}(h:IsE a v):zaZ 116 a (wgtE 2 v):=fun w=>by
 rcases v with(_|_)|x
 ·exact zeG a 0 false w (zHd fun w=>zgc (IsE.len (v := .inl false) h) zme (.inl (by cases h;exact zgy)) w) rfl
 ·exact zeG a 0 false w (zHd fun w=>zgc (IsE.len (v := .inl true) h) zme (.inl (by cases h;exact zgx)) w) rfl
 ·refine zeG a _ _ w (zHd fun w=>znh h ziK w) ?_
  rw[show wgtE 2 (.inr x)=decide (0<x) by simp[wgtE]];exact decide_eq_decide.2 (zma x 0)
theorem zun {a:ByteArray}(h:zfS a)(ha:a.size≤maxLen):zaZ 116 a false:=fun w =>
 zeG a 0 false w (zHd fun w=>zgc ha zme (.inl h.rat) w) rfl
theorem zno {a:ByteArray}{v:Ext}(h:IsE a v):zaZ 109 a (wgtE 1 v):=fun w=>by
 rcases v with(_|_)|x
 ·exact zfO (by cases h;exact zgy) (IsE.len (v := .inl false) h) w
 ·exact zfO (by cases h;exact zgx) (IsE.len (v := .inl true) h) w
 ·exact zjT h w
open Go.RowKit
open Go.Lib (nDigits decDigits)
def OpIs (F:Nat)(a b:ByteArray)(V:Value):Prop:=∀ w,Calls Tryz.prog F #[.string a,.string b] w (zab V w)
def zrm (F:Nat)(a:ByteArray)(V:Value):Prop:=∀ w,Calls Tryz.prog F #[.string a] w (zab V w)
def okV (a:ByteArray):Value := .tuple #[.string a,.int .i64 0]
theorem zuo (a b:ByteArray)(c:Int)(k:Bool)(w:World)(C:Hid (zdS b a c))(hk:decide (c<0)=k) :
  Calls Tryz.prog 110 #[.string a,.string b] w (zab (okV (if k then b else a)) w):=by
 cases k
 all_goals
  have hk2:=hk;simp only[decide_eq_true_eq,decide_eq_false_iff_not] at hk2;go_enter Tryz.func110,Tryz.ntmps110;go_wp2_with fail;refine(C.out _).mono ?_;rintro e w1 ⟨rfl,hg⟩;have G1:=zHd hg;clear hg;go_wp2
  go_ret2
  exact⟨rfl,G1.out⟩
theorem zso (a b:ByteArray)(c:Int)(k:Bool)(w:World)(C:Hid (zdS b a c))(hk:decide (0<c)=k) :
  Calls Tryz.prog 122 #[.string a,.string b] w (zab (okV (if k then b else a)) w):=by
 cases k
 all_goals
  have hk2:=hk;simp only[decide_eq_true_eq,decide_eq_false_iff_not] at hk2;go_enter Tryz.func122,Tryz.ntmps122;go_wp2_with fail;refine(C.out _).mono ?_;rintro e w1 ⟨rfl,hg⟩;have G1:=zHd hg;clear hg;go_wp2
  go_ret2
  exact⟨rfl,G1.out⟩
theorem zwY {a b:ByteArray}{u v:Ext}(ha:IsE a u)(hb:IsE b v):OpIs 110 a b (extV (zbD u v)):=fun w=>by
 have k:=zuo a b _ _ w (zHd (zcZ hb ha)) rfl;unfold zbD
 by_cases h:cmpE v u<0
 ·rw[if_pos h,zfC hb]
  rw[decide_eq_true h] at k;exact k
 ·rw[if_neg h,zfC ha]
  rw[decide_eq_false h] at k;exact k
theorem zup {a b:ByteArray}{u v:Ext}(ha:IsE a u)(hb:IsE b v):OpIs 122 a b (extV (zbz u v)):=fun w=>by
 have k:=zso a b _ _ w (zHd (zcZ hb ha)) rfl;unfold zbz
 by_cases h:0<cmpE v u
 ·rw[if_pos h,zfC hb]
  rw[decide_eq_true h] at k;exact k
 ·rw[if_neg h,zfC ha]
  rw[decide_eq_false h] at k;exact k
theorem zgg (a b:ByteArray)(i j:Bool)(w:World)(p0:(a.toList == [105,110,102])=i)(q0:(b.toList == [105,110,102])=j)(h:(i || j)=true) :
  Calls Tryz.prog 111 #[.string a,.string b] w (zab (okV infS) w):=by
 cases i <;> cases j <;> simp only[Bool.or_self,Bool.or_true,Bool.true_or,Bool.false_eq_true] at h
 all_goals
  go_enter Tryz.func111,Tryz.ntmps111;go_wp2
  go_ret2
  exact⟨rfl,zag _ _⟩
theorem zkg (a b:ByteArray)(i j:Bool)(w:World)(p0:(a.toList == [105,110,102])=false)(q0:(b.toList == [105,110,102])=false)(p1:(a.toList == [45,105,110,102])=i)(q1:(b.toList == [45,105,110,102])=j)(h:(i || j)=true) :
  Calls Tryz.prog 111 #[.string a,.string b] w (zab (okV lowS) w):=by
 cases i <;> cases j <;> simp only[Bool.or_self,Bool.or_true,Bool.true_or,Bool.false_eq_true] at h
 all_goals
  go_enter Tryz.func111,Tryz.ntmps111;go_wp2
  go_ret2
  exact⟨rfl,zag _ _⟩
theorem zzL (a b S:ByteArray)(E:Int)(w:World)(p0:(a.toList == [105,110,102])=false)(q0:(b.toList == [105,110,102])=false)(p1:(a.toList == [45,105,110,102])=false)(q1:(b.toList == [45,105,110,102])=false)(C:Hid (OpIs 153 a b (.tuple #[.string S,.int .i64 E]))) :
  Calls Tryz.prog 111 #[.string a,.string b] w (zab (.tuple #[.string S,.int .i64 E]) w):=by
 go_enter Tryz.func111,Tryz.ntmps111;go_wp2_with fail;refine(C.out _).mono ?_;rintro e w1 ⟨rfl,hg⟩;have G1:=zHd hg;clear hg;go_wp2
 go_ret2
 exact⟨rfl,G1.out⟩
theorem zvz (a b:ByteArray)(i j:Bool)(w:World)(p0:(a.toList == [105,110,102])=i)(q0:(b.toList == [105,110,102])=j)(h:(i || j)=true) :
  Calls Tryz.prog 117 #[.string a,.string b] w (zab (okV infS) w):=by
 cases i <;> cases j <;> simp only[Bool.or_self,Bool.or_true,Bool.true_or,Bool.false_eq_true] at h
 all_goals
  go_enter Tryz.func117,Tryz.ntmps117;go_wp2
  go_ret2
  exact⟨rfl,zag _ _⟩
theorem zFo (a b S:ByteArray)(E:Int)(w:World)(p0:(a.toList == [105,110,102])=false)(q0:(b.toList == [105,110,102])=false)(C:Hid (OpIs 153 a b (.tuple #[.string S,.int .i64 E]))) :
  Calls Tryz.prog 117 #[.string a,.string b] w (zab (.tuple #[.string S,.int .i64 E]) w):=by
 go_enter Tryz.func117,Tryz.ntmps117;go_wp2_with fail;refine(C.out _).mono ?_;rintro e w1 ⟨rfl,hg⟩;have G1:=zHd hg;clear hg;go_wp2
 go_ret2
 exact⟨rfl,G1.out⟩
theorem zzM (a b:ByteArray)(i j:Bool)(w:World)(p0:(a.toList == [48])=i)(q0:(b.toList == [48])=j)(h:(i || j)=true) :
  Calls Tryz.prog 118 #[.string a,.string b] w (zab (okV zdH) w):=by
 cases i <;> cases j <;> simp only[Bool.or_self,Bool.or_true,Bool.true_or,Bool.false_eq_true] at h
 all_goals
  go_enter Tryz.func118,Tryz.ntmps118;go_wp2
  go_ret2
  exact⟨rfl,zag _ _⟩
theorem zsp (a b:ByteArray)(i j:Bool)(w:World)(p0:(a.toList == [48])=false)(q0:(b.toList == [48])=false)(p1:(a.toList == [105,110,102])=i)(q1:(b.toList == [105,110,102])=j)(h:(i || j)=true) :
  Calls Tryz.prog 118 #[.string a,.string b] w (zab (okV infS) w):=by
 cases i <;> cases j <;> simp only[Bool.or_self,Bool.or_true,Bool.true_or,Bool.false_eq_true] at h
 all_goals
  go_enter Tryz.func118,Tryz.ntmps118;go_wp2
  go_ret2
  exact⟨rfl,zag _ _⟩
theorem zCZ (a b S:ByteArray)(E:Int)(w:World)(p0:(a.toList == [48])=false)(q0:(b.toList == [48])=false)(p1:(a.toList == [105,110,102])=false)(q1:(b.toList == [105,110,102])=false)(C:Hid (OpIs 158 a b (.tuple #[.string S,.int .i64 E]))) :
  Calls Tryz.prog 118 #[.string a,.string b] w (zab (.tuple #[.string S,.int .i64 E]) w):=by
 go_enter Tryz.func118,Tryz.ntmps118;go_wp2_with fail;refine(C.out _).mono ?_;rintro e w1 ⟨rfl,hg⟩;have G1:=zHd hg;clear hg;go_wp2
 go_ret2
 exact⟨rfl,G1.out⟩
theorem znp (a:ByteArray)(c:Int)(k:Bool)(w:World)(C:Hid (zdS a ⟨#[48]⟩ c))(hk:decide (c<0)=k) :
  Calls Tryz.prog 112 #[.string a] w (zab (okV (if k then lowS else zdH)) w):=by
 cases k
 all_goals
  have hk2:=hk;simp only[decide_eq_true_eq,decide_eq_false_iff_not] at hk2;go_enter Tryz.func112,Tryz.ntmps112;go_wp2_with fail;refine(C.out _).mono ?_;rintro e w1 ⟨rfl,hg⟩;have G1:=zHd hg;clear hg;go_wp2
  go_ret2
  exact⟨rfl,G1.out⟩
theorem zmf (a:ByteArray)(c:Int)(k:Bool)(w:World)(C:Hid (zdS a ⟨#[49]⟩ c))(hk:decide (0<c)=k) :
  Calls Tryz.prog 123 #[.string a] w (zab (okV (if k then infS else oneS)) w):=by
 cases k
 all_goals
  have hk2:=hk;simp only[decide_eq_true_eq,decide_eq_false_iff_not] at hk2;go_enter Tryz.func123,Tryz.ntmps123;go_wp2_with fail;refine(C.out _).mono ?_;rintro e w1 ⟨rfl,hg⟩;have G1:=zHd hg;clear hg;go_wp2
  go_ret2
  exact⟨rfl,G1.out⟩
theorem zkh (a:ByteArray)(c:Int)(w:World)(C:Hid (zdS a ⟨#[49]⟩ c))(hk:0≤c) :
  Calls Tryz.prog 119 #[.string a] w (zab (okV infS) w):=by
 go_enter Tryz.func119,Tryz.ntmps119;go_wp2_with fail;refine(C.out _).mono ?_;rintro e w1 ⟨rfl,hg⟩;have G1:=zHd hg;clear hg;go_wp2
 go_ret2
 exact⟨rfl,G1.out⟩
theorem zsq (a R S:ByteArray)(c K E:Int)(w:World)(C:Hid (zdS a ⟨#[49]⟩ c))(hk:¬ 0≤c)(D:Hid (OpIs 154 ⟨#[49]⟩ a (.tuple #[.string R,.int .i64 K])))
  (V:Hid (OpIs 120 ⟨#[49]⟩ R (.tuple #[.string S,.int .i64 E]))) :
  Calls Tryz.prog 119 #[.string a] w (zab (.tuple #[.string S,.int .i64 E]) w):=by
 go_enter Tryz.func119,Tryz.ntmps119;go_wp2_with fail;refine(C.out _).mono ?_;rintro e w1 ⟨rfl,hg⟩;have G1:=zHd hg;clear hg;go_wp2_with fail;refine(D.out _).mono ?_;rintro e w2 ⟨rfl,hg⟩;have G2:=zHd (zaa G1.out hg);clear hg G1;go_wp2_with fail;refine(V.out _).mono ?_;rintro e w3 ⟨rfl,hg⟩;have G3:=zHd (zaa G2.out hg);clear hg G2;go_wp2
 go_ret2
 exact⟨rfl,G3.out⟩
end Go.Proofs.YtaogepcaoogpgaaGreatDoor
