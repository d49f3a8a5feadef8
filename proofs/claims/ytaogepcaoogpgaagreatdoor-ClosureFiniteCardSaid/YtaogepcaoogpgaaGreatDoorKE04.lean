/- WE04 -/
import Derived.Test.YtaogepcaoogpgaaGreatDoorKE03
import Derived.Laws.CopyOwn
set_option linter.unusedVariables false
set_option linter.unusedSimpArgs false
set_option maxRecDepth 100000
set_option maxHeartbeats 16000000
namespace Go.Proofs.YtaogepcaoogpgaaGreatDoor
open Go.RowKit
open Go.Lib (dg decDigits nDigits)
def cmpN (m n:Nat):Int:=if m<n then -1 else if n<m then 1 else 0
theorem zdC (m n:Nat):cmpN m n<0↔m<n:=by unfold cmpN;split <;> (try split) <;> omega
theorem zyC (m n k:Nat):(dg m k<dg n k↔m / 10 ^ k % 10<n / 10 ^ k % 10)∧(dg m k=dg n k↔m / 10 ^ k % 10=n / 10 ^ k % 10):=by
 unfold dg;have h1:m / 10 ^ k % 10<10:=Nat.mod_lt _ (by decide);have h2:n / 10 ^ k % 10<10:=Nat.mod_lt _ (by decide)
 constructor
 ·rw[UInt8.lt_iff_toNat_lt,UInt8.toNat_ofNat',UInt8.toNat_ofNat'];omega
 ·rw[← UInt8.toNat_inj,UInt8.toNat_ofNat',UInt8.toNat_ofNat'];omega
theorem zvd (m n:Nat):∀ k,Lib.compareBytes (pad k m) (pad k n)=cmpN (m % 10 ^ k) (n % 10 ^ k)
 | 0=>by simp[pad,Lib.compareBytes,cmpN,Nat.mod_one]
 | k+1=>by
  rw[zgS,zgS,Lib.compareBytes,zvd m n k];obtain⟨h1,h2⟩:=zyC m n k;obtain⟨h3,h4⟩:=zyC n m k;have em:m % 10 ^ (k+1)=m % 10 ^ k+10 ^ k * (m / 10 ^ k % 10):=by rw[Nat.pow_succ,Nat.mod_mul]
  have en:n % 10 ^ (k+1)=n % 10 ^ k+10 ^ k * (n / 10 ^ k % 10):=by rw[Nat.pow_succ,Nat.mod_mul]
  have hm:m % 10 ^ k<10 ^ k:=Nat.mod_lt _ (Nat.pow_pos (by decide));have hn:n % 10 ^ k<10 ^ k:=Nat.mod_lt _ (Nat.pow_pos (by decide));rw[em,en];generalize m / 10 ^ k % 10=a at *;generalize n / 10 ^ k % 10=b at *;generalize m % 10 ^ k=x at *;generalize n % 10 ^ k=y at *;generalize 10 ^ k=P at *
  by_cases hab:a<b
  ·rw[if_pos (h1.2 hab)]
   have:P * (a+1)≤P * b:=Nat.mul_le_mul_left _ hab;rw[Nat.mul_add,Nat.mul_one] at this;unfold cmpN;rw[if_pos (by omega)]
  ·rw[if_neg (fun h=>hab (h1.1 h))]
   by_cases hba:b<a
   ·rw[if_pos (h3.2 hba)]
    have:P * (b+1)≤P * a:=Nat.mul_le_mul_left _ hba;rw[Nat.mul_add,Nat.mul_one] at this;unfold cmpN;rw[if_neg (by omega),if_pos (by omega)]
   ·rw[if_neg (fun h=>hba (h3.1 h))]
    have e:a=b:=by omega
    subst e;unfold cmpN;simp only[Nat.add_lt_add_iff_right]
theorem zoq (m n:Nat)(h:nDigits m=nDigits n):Lib.compareBytes (decDigits m) (decDigits n)=cmpN m n:=by
 rw[zkU,zkU,h,zvd,Nat.mod_eq_of_lt (Lib.lt_pow_nDigits n),Nat.mod_eq_of_lt];rw[← h];exact Lib.lt_pow_nDigits m
theorem zgs {m n:Nat}(h:nDigits m<nDigits n):m<n:=by
 rcases Nat.lt_or_ge m n with h'|h'
 ·exact h'
 ·have:=zbH h';omega
theorem ztW (m n:Nat):(if Lib.compareInt (nDigits m:Int) (nDigits n:Int)≠0 then Lib.compareInt (nDigits m:Int) (nDigits n:Int) else Lib.compareBytes (decDigits m) (decDigits n))=cmpN m n:=by
 by_cases h1:nDigits m<nDigits n
 ·have e:Lib.compareInt (nDigits m:Int) (nDigits n:Int) = -1:=by unfold Lib.compareInt;rw[if_pos (by omega)]
  have:=zgs h1;rw[e,if_pos (by decide)];unfold cmpN;rw[if_pos this]
 ·by_cases h2:nDigits n<nDigits m
  ·have e:Lib.compareInt (nDigits m:Int) (nDigits n:Int)=1:=by unfold Lib.compareInt;rw[if_neg (by omega),if_pos (by omega)]
   have:=zgs h2;rw[e,if_pos (by decide)];unfold cmpN;rw[if_neg (by omega),if_pos this]
  ·have e:Lib.compareInt (nDigits m:Int) (nDigits n:Int)=0:=by unfold Lib.compareInt;rw[if_neg (by omega),if_neg (by omega)]
   rw[e,if_neg (by decide)];exact zoq m n (by omega)
theorem zGf (x y:Int)(g:Nat)(w:World)(h0:w.cell? ⟨g,0,none⟩=some (.int .i64 x))(h1:w.cell? ⟨g,1,none⟩=some (.int .i64 y)) :
  Calls Tryz.prog 252 #[.slice (some ⟨g,0,none⟩) 2 2] w fun e w'=>e = .returned (.int .i64 (if x≠0 then x else y))∧w=w':=by
 by_cases hx:x=0
 ·subst hx
  by_cases hy:y=0
  ·subst hy
   go_enter Tryz.func252,Tryz.ntmps252;go_wp2
   go_loop [8] (fun i=>∃ k:Nat,i = .int .i64 k∧k≤2) (fun i=>2 - (intOf i).toNat)
   case atStart=>exact⟨0,rfl,by omega⟩
   case round =>
    obtain⟨k,rfl,hk⟩:=hrel;rcases (show k=0∨k=1∨k=2 by omega) with rfl|rfl|rfl
    ·go_wp2
     go_round
     case rel=>exact⟨1,by go_num,by omega⟩
     case measure=>simp[intOf]
    ·go_wp2
     go_round
     case rel=>exact⟨2,by go_num,by omega⟩
     case measure=>simp[intOf]
    ·go_wp2
     go_ret;exact⟨by simp,rfl⟩
  ·have f1:(y != 0)=true:=by simpa using hy
   go_enter Tryz.func252,Tryz.ntmps252;go_wp2
   go_loop [8] (fun i=>∃ k:Nat,i = .int .i64 k∧k≤1) (fun i=>2 - (intOf i).toNat)
   case atStart=>exact⟨0,rfl,by omega⟩
   case round =>
    obtain⟨k,rfl,hk⟩:=hrel;rcases (show k=0∨k=1 by omega) with rfl|rfl
    ·go_wp2
     go_round
     case rel=>exact⟨1,by go_num,by omega⟩
     case measure=>simp[intOf]
    ·go_wp2
     go_ret;exact⟨by simp,rfl⟩
 ·have f1:(x != 0)=true:=by simpa using hx
  rw[if_pos hx];go_enter Tryz.func252,Tryz.ntmps252;go_wp2
  go_loop [8] (fun i=>∃ k:Nat,i = .int .i64 k∧k=0) (fun i=>2 - (intOf i).toNat)
  case atStart=>exact⟨0,rfl,rfl⟩
  case round =>
   obtain⟨k,rfl,rfl⟩:=hrel;go_wp2;go_ret;exact⟨rfl,rfl⟩
def cmpV (a b:ByteArray):Int:=if numB a&&numB b then cmpN (nv a) (nv b) else 0
theorem ziE (n:Nat):(decS n).data.toList=decDigits n:=by unfold decS;simp
theorem zkZ (a b:ByteArray)(w:World)(ha:a.size≤maxLen)(hb:b.size≤maxLen) :
  Calls Tryz.prog 227 #[.string a,.string b] w fun e w'=>e = .returned (.int .i64 (cmpV a b))∧w.grownBy w' none:=by
 have va:=fun w=>zbL a w ha;have vb:=fun w=>zbL b w hb;unfold maxLen at ha hb;cases hna:numB a
 ·have e:cmpV a b=0:=by unfold cmpV;rw[hna];rfl
  rw[e];simp only[hna] at va;clear vb hna e;go_enter Tryz.func227,Tryz.ntmps227;go_wp2_with (go_at_call 225;refine(va _).mono ?_;rintro e w' ⟨rfl,rfl⟩);go_ret;exact⟨rfl,zag _ _⟩
 cases hnb:numB b
 ·have e:cmpV a b=0:=by unfold cmpV;rw[hnb,Bool.and_false];rfl
  rw[e];simp only[hna] at va;simp only[hnb] at vb;clear hna hnb e;go_enter Tryz.func227,Tryz.ntmps227;go_wp2_with fail;refine(va _).mono ?_;rintro e w' ⟨rfl,rfl⟩;go_wp2_with fail;refine(vb _).mono ?_;rintro e w' ⟨rfl,rfl⟩;go_wp2;go_ret;exact⟨rfl,zag _ _⟩
 have e:cmpV a b=cmpN (nv a) (nv b):=by unfold cmpV;rw[hna,hnb];rfl
 have hc:=ztW (nv a) (nv b);rw[← ziE,← ziE,← zbW,← zbW,← (zbG a hna).1,← (zbG b hnb).1,← e] at hc;simp only[hna] at va;simp only[hnb] at vb;have h1:=fun w=>Tryz.cmp_Compare_int (a.size:Int) (b.size:Int) w;have h2:=fun w=>Tryz.strings_Compare a b w;generalize Lib.compareInt (a.size:Int) (b.size:Int)=x at *;generalize Lib.compareBytes a.data.toList b.data.toList=y at *;have h3:=zGf x y w.heap.size (w.alloc (.cells #[.int .i64 x,.int .i64 y] 3)) (World.cell?_alloc_at _ _ _ _ rfl) (World.cell?_alloc_at _ _ _ _ rfl);rw[hc] at h3;have H3:=zHd h3;clear hna hnb e hc h3;go_enter Tryz.func227,Tryz.ntmps227;go_wp2_with fail;refine(va _).mono ?_;rintro e w' ⟨rfl,rfl⟩;go_wp2_with fail;refine(vb _).mono ?_;rintro e w' ⟨rfl,rfl⟩
 go_wp2_with (first
  | (go_at_call 155;refine(h1 _).mono ?_;rintro e w' ⟨rfl,rfl⟩)
  | (go_at_call 253;refine(h2 _).mono ?_;rintro e w' ⟨rfl,rfl⟩)
  | (go_at_call 252;refine H3.out.mono ?_;rintro e w' ⟨rfl,rfl⟩))
 go_ret;exact⟨rfl,zGA _ _ _⟩
open Go.RowKit
theorem zrD (P z c S:Nat)(h:z+P * c=S)(hS:S<P):c=0∧z=S:=by
 rcases Nat.eq_zero_or_pos c with rfl|hc
 ·simp at h;exact⟨rfl,h⟩
 ·have:P * 1≤P * c:=Nat.mul_le_mul_left _ hc
  omega
theorem zGg (B:Nat)(xs:List Nat)(n:Nat):vl B (xs++List.replicate n 0)=vl B xs:=by rw[zcj,zfv];simp
theorem zve {B n:Nat}{xs:List Nat}(hB:0<B)(hx:∀ x∈xs,x<B):∀ x∈xs++List.replicate n 0,x<B:=by
 intro x h;rcases List.mem_append.1 h with h|h
 ·exact hx x h
 ·rw[(List.mem_replicate.1 h).2];exact hB
def zvf (n m:Nat)(w:World)(e:Ending)(w':World):Prop :=
 ∃ g zs,e = .returned (.slice (some ⟨g,0,none⟩) zs.length zs.length)∧Blks w.heap.size w' (.slice (some ⟨g,0,none⟩) zs.length zs.length) zs ∧
  (∀ z∈zs,z<1000000000)∧vl 1000000000 zs=n∧zs.length≤m∧w.grownBy w' none
theorem zBY (xs ys:List Nat)(hx:∀ x∈xs,x<1000000000)(hy:∀ y∈ys,y<1000000000)(n:Nat)(hn:n=max xs.length ys.length+1) :
  (∀ z∈(comb (addT 1) (xs++List.replicate (n - xs.length) 0) ys 0 n).1,z<1000000000)∧vl 1000000000 (comb (addT 1) (xs++List.replicate (n - xs.length) 0) ys 0 n).1=vl 1000000000 xs+vl 1000000000 ys:=by
 obtain⟨h1,h2,h3⟩:=zgR 1 (xs++List.replicate (n - xs.length) 0) ys (by decide) (zve (by decide) hx) hy 0 (by decide) n;refine⟨h1,?_⟩;rw[List.take_of_length_le (by simp;omega),List.take_of_length_le (by omega),zGg,Nat.one_mul,Nat.add_zero] at h3;have a1:=zbm 1000000000 xs hx;have a2:=zbm 1000000000 ys hy;have b1:(1000000000:Nat) ^ xs.length≤1000000000 ^ (n - 1):=Nat.pow_le_pow_right (by decide) (by omega);have b2:(1000000000:Nat) ^ ys.length≤1000000000 ^ (n - 1):=Nat.pow_le_pow_right (by decide) (by omega);have b3:(1000000000:Nat) ^ n=1000000000 ^ (n - 1) * 1000000000:=by rw[← Nat.pow_succ];congr 1;omega
 exact(zrD _ _ _ _ h3 (by omega)).2
theorem zwp (xs:List Nat)(n:Nat)(h:xs.length≤n):splice (uv (List.replicate n 0)) 0 (uv xs)=uv (xs++List.replicate (n - xs.length) 0):=by
 unfold splice;rw[zbr];simp[uv,h]
theorem add_plain (g j:Nat):(⟨g,0,none⟩:Addr).add j=⟨g,j,none⟩:=by unfold Addr.add;split <;> simp_all
theorem zGh (xs:List Nat):∀ v∈uv xs,v.oneCell'=true:=by
 intro v hv;unfold uv at hv;obtain⟨n,_,rfl⟩:=List.mem_map.1 hv
 rfl
theorem zBZ (w:World)(g gx cx m:Nat)(xs:List Nat)(post:List Value)(hg:zav w g (uv (List.replicate m 0)))(hx:zav w gx (uv xs++post))(hle:xs.length≤m) :
  ∃ w',(Builtin.copy_ #[209,209] 3 #[.slice (some ⟨g,0,none⟩) m m,.slice (some ⟨gx,0,none⟩) xs.length cx]).run Tryz.prog w = .ok (.int .i64 (xs.length:Nat)) w'∧zav w' g (uv (xs++List.replicate (m - xs.length) 0))∧w.grownBy w' (some g):=by
 have hrun:=run_copy_row (P:=Tryz.prog) w 209 209 3 181 g 0 m m ⟨gx,0,none⟩ xs.length cx (uv (List.replicate m 0)).toArray 181 (uv xs) Tryz.underlying209 (by kernel_rfl) hg
   (by rw[zas];exact(Nat.min_eq_left (by omega)).symm) (fun j v hj=>by
    rw[add_plain,hx.cell,List.getElem?_append_left (List.getElem?_eq_some_iff.1 hj).1];exact hj) (by simp[uv];omega) (zGh xs)
 rw[zas] at hrun;refine⟨w.setRow g _,hrun,?_,⟨rfl,rfl,rfl,by simp[World.setRow],fun k hk hne=>setRow_other w g k _ (fun e=>hne (by rw[e]))⟩⟩;unfold zav;rw[setRow_heap w g _ _ _ _ hg];have:=zwp xs m hle;unfold splice at this;rw[← this];simp[uv]
theorem zET (gx cx:Nat)(xs ys:List Nat)(vy:Value)(w:World)(hxb:Blks 0 w (.slice (some ⟨gx,0,none⟩) xs.length cx) xs)(hyb:Blks 0 w vy ys)
  (hx:∀ x∈xs,x<1000000000) (hy:∀ y∈ys,y<1000000000) (hnx:xs.length≤10000) (hny:ys.length≤10000) :
  Calls Tryz.prog 250 #[.slice (some ⟨gx,0,none⟩) xs.length cx,vy] w (zvf (vl 1000000000 xs+vl 1000000000 ys) (max xs.length ys.length+1) w):=by
 obtain⟨i0,hi,hz0,hz1,hz2⟩:=info_parts zgX;obtain⟨A,capy,hvy,hrdy⟩:=zmL hyb;obtain⟨_,_,_,hcx,post,hcells,_⟩:=hxb.cells;obtain⟨m,hm⟩:∃ m,max xs.length ys.length=m:=⟨_,rfl⟩;have hmx:xs.length≤m:=by omega
 have hmy:ys.length≤m:=by omega
 have hm2:m≤10000:=by omega
 have hsm:=zBY xs ys hx hy (m+1) (by rw[hm]);have hgx:=hcells.lt;rw[hm];have hlen:(xs++List.replicate (m+1 - xs.length) 0).length=m+1:=by rw[List.length_append,List.length_replicate];omega
 have hadd:=fun(w':World) (hg:zav w' w.heap.size (uv (xs++List.replicate (m+1 - xs.length) 0))) (hb:Blks 0 w' (.slice A ys.length capy) ys) =>
  zgW 1 w.heap.size (m+1) [] [] (xs++List.replicate (m+1 - xs.length) 0) ys (.slice A ys.length capy) w' (by decide) (zve (by decide) hx) hy (by omega) (by simp) (by omega) (by unfold maxLen;omega) (by simpa using hg) hb
   (fun e=>by have:=(hyb.lt w.heap.size (by rw[hvy];exact e)).2;omega)
 rw[hlen] at hadd;have hcl:=zaY (addT 1) (xs++List.replicate (m+1 - xs.length) 0) ys 0 (m+1);have hsp:xs++List.replicate (m+1 - xs.length) 0=xs++List.replicate (m+1 - xs.length) 0:=rfl;generalize comb (addT 1) (xs++List.replicate (m+1 - xs.length) 0) ys 0 (m+1)=q at *;obtain⟨xp,hxp⟩:∃ xp,xs++List.replicate (m+1 - xs.length) 0=xp:=⟨_,rfl⟩;clear hsp;have hsp:=hxp;rw[hxp] at hlen;simp only[hxp] at hadd;clear hxp;subst hvy;have hsz:(Tryz.prog.info? 181).map (·.size)=some 1:=by kernel_rfl
 have huvl:=zas xs;have HM:=zHd hm;have HS:=zHd hsm;have HX:=zHd hx;have HY:=zHd hy;have HYB:=zHd hyb;have HC:=zHd hcells;have HLEN:=zHd hlen;have HADD:=zHd hadd;have HCL:=zHd hcl;have HSP:=zHd hsp;have HUL:=zHd huvl;clear hm hsm hx hy hyb hcells hxb hlen hadd hcl hsp huvl;unfold maxLen at hcx;rcases Nat.lt_or_ge xs.length ys.length with hxy|hxy
 all_goals
  go_enter Tryz.func250,Tryz.ntmps250;go_wp2_with (at_make;refine wpList_make_full _ rfl _ _ 209 rfl w.heap.size 181 i0 (.int .u64 0) 1 Tryz.underlying209 hi hz0 hz1 _ _ _ _ (m+1) rfl rfl ?c0 ?c1 ?c2 (by unfold maxLen;omega) (Nat.le_refl _) ?_)
  case c0=>have:=HM.out;omega
  case c1=>have:=HM.out;omega
  case c2=>first|omega|(rw[hz2];omega)
  intro w1 hown hgr;rw[zdP] at hown;have hc0:=(zav.of_full hown).1;have hcx1:zav w1 gx (uv xs++post):=HC.out.grown hgr (by simp);have HG:=zHd hgr;have HC0:=zHd hc0;have HCX:=zHd hcx1;clear hown hgr hc0 hcx1;obtain⟨w2,hrun,hc2,hg2⟩:=zBZ w1 w.heap.size gx cx (m+1) xs post HC0.out HCX.out (by omega);have h9:=HADD.out w2 (by rw[← HSP.out];exact hc2) ((HYB.out.grown HG.out (by simp)).grown hg2 (fun g e=>by have:=(HYB.out.lt g e).2;simp;omega));have H9:=zHd h9;have HG2:=zHd hg2;clear hc2 hg2 h9;go_wp2_with fail;refine H9.out.mono ?_;rintro e w3 ⟨rfl,hc3,hg3⟩;have HC3:=zHd hc3;have HG3:=zHd hg3;clear hc3 hg3;go_wp2;go_ret;have hcl:=HCL.out;obtain⟨hs1,hs2⟩:=HS.out;have hc3:=HC3.out;simp only[List.nil_append,List.append_nil] at hc3;refine⟨w.heap.size,q.1,by rw[hcl];rfl,Blks.of_cells hc3 (Nat.le_refl _) (zas _) (by rw[hcl];unfold maxLen;omega) (by rw[List.take_of_length_le (by rw[zas];exact Nat.le_refl _)]) (Nat.le_refl _),hs1,hs2,by rw[hcl];exact Nat.le_refl _,zai (g:=w.heap.size) (zai (g:=w.heap.size) HG.out HG2.out (Nat.le_refl _)) HG3.out (Nat.le_refl _)⟩
theorem zqP (xs:List Nat)(k:Nat)(hk:k≤xs.length)(hz:∀ j,k≤j→xs.getD j 0=0):vl 1000000000 (xs.drop k)=0:=by
 have e:xs.drop k=List.replicate (xs.length - k) 0:=by
  apply List.ext_getElem?
  intro j;rw[List.getElem?_drop,List.getElem?_replicate]
  by_cases hj:j<xs.length - k
  ·rw[if_pos hj]
   have:=hz (k+j) (by omega);rw[List.getD_eq_getElem?_getD,List.getElem?_eq_getElem (by omega)] at this;rw[List.getElem?_eq_getElem (by omega)];exact congrArg some this
  ·rw[if_neg hj,List.getElem?_eq_none (by omega)]
 rw[e,zfv]
structure zef (xs ys:List Nat)(k:Nat)(zs:List Nat):Prop where
 length:zs.length=xs.length+ys.length
 lt:∀ z∈zs,z<1000000000
 val:vl 1000000000 zs=vl 1000000000 (xs.take k) * vl 1000000000 ys
 zero:∀ j,k+ys.length≤j→zs.getD j 0=0
theorem zef.start (xs ys:List Nat):zef xs ys 0 (List.replicate (xs.length+ys.length) 0) :=
 ⟨by simp,fun z hz=>by rw[(List.mem_replicate.1 hz).2];decide,by rw[zfv];simp[vl],fun j _=>zeb _ _⟩
theorem zef.step {xs ys zs:List Nat}{k:Nat}(h:zef xs ys k zs)(hk:k<xs.length)(hx:∀ x∈xs,x<1000000000)(hy:∀ y∈ys,y<1000000000)(q:List Nat × Nat)
  (hq:q=comb (addT (xs.getD k 0)) ((zs.drop k).take (ys.length+1)) ys 0 (ys.length+1)) :
  zef xs ys (k+1) (zs.take k++q.1++zs.drop (k+(ys.length+1))):=by
 have hl:=h.length;have hxk:=zaG 1000000000 (by decide) xs hx k;have hpl:((zs.drop k).take (ys.length+1)).length=ys.length+1:=by rw[List.length_take,List.length_drop];omega
 have hpm:∀ z∈(zs.drop k).take (ys.length+1),z<1000000000:=fun z hz=>h.lt z (List.mem_of_mem_drop (List.mem_of_mem_take hz));obtain⟨c1,c2,c3⟩:=zgR (xs.getD k 0) ((zs.drop k).take (ys.length+1)) ys (by omega) hpm hy 0 (by decide) (ys.length+1);have c4:=zaY (addT (xs.getD k 0)) ((zs.drop k).take (ys.length+1)) ys 0 (ys.length+1);rw[← hq] at c1 c2 c3 c4;rw[List.take_of_length_le (by rw[hpl];exact Nat.le_refl _),List.take_of_length_le (by omega:ys.length≤ys.length+1),Nat.add_zero] at c3
 have htop:((zs.drop k).take (ys.length+1)).getD ys.length 0=0:=by
  rw[List.getD_eq_getElem?_getD,List.getElem?_take,if_pos (by omega),List.getElem?_drop,← List.getD_eq_getElem?_getD];exact h.zero _ (by omega)
 have hpv:vl 1000000000 ((zs.drop k).take (ys.length+1))<1000000000 ^ ys.length:=by
  have e:=zaw 1000000000 ((zs.drop k).take (ys.length+1)) ys.length;rw[htop,List.take_of_length_le (by rw[hpl];exact Nat.le_refl _),Nat.mul_zero] at e;have h2:=zbm 1000000000 (((zs.drop k).take (ys.length+1)).take ys.length) (fun z hz=>hpm z (List.mem_of_mem_take hz));rw[List.length_take,Nat.min_eq_left (by omega)] at h2
  omega
 have hyv:=zbm 1000000000 ys hy;have hxy:xs.getD k 0 * vl 1000000000 ys≤999999999 * vl 1000000000 ys:=Nat.mul_le_mul_right _ (by omega);obtain⟨_,c5⟩:=zrD _ _ _ _ c3 (by rw[Nat.pow_succ];omega);simp only[Nat.add_zero] at c5;have hdr:vl 1000000000 (zs.drop (k+(ys.length+1)))=0:=zqP zs _ (by omega) (fun j hj=>h.zero j (by omega));have hsp1:=zeI 1000000000 zs k (by omega);have hsp2:=zeI 1000000000 (zs.drop k) (ys.length+1) (by rw[List.length_drop];omega);rw[List.drop_drop,hdr,Nat.mul_zero,Nat.add_zero] at hsp2;refine⟨?_,?_,?_,fun j hj => ?_⟩
 ·rw[List.length_append,List.length_append,List.length_take,List.length_drop,c4];omega
 ·intro z hz
  rcases List.mem_append.1 hz with hz|hz
  ·rcases List.mem_append.1 hz with hz|hz
   ·exact h.lt z (List.mem_of_mem_take hz)
   ·exact c1 z hz
  ·exact h.lt z (List.mem_of_mem_drop hz)
 ·rw[zcj,zcj,hdr,Nat.mul_zero,Nat.add_zero,c5,List.length_take,Nat.min_eq_left (by omega),← hsp2,Nat.mul_add,← Nat.add_assoc,← hsp1,h.val,zaw,Nat.add_mul,Nat.mul_assoc]
 ·rw[List.getD_eq_getElem?_getD,List.getElem?_append_right (by rw[List.length_append,List.length_take,c4];omega),List.getElem?_drop,← List.getD_eq_getElem?_getD]
  apply h.zero
  rw[List.length_append,List.length_take,c4]
  omega
theorem zef.fin {xs ys zs:List Nat}(h:zef xs ys xs.length zs):vl 1000000000 zs=vl 1000000000 xs * vl 1000000000 ys:=by
 have:=h.val;rw[List.take_length] at this;exact this
theorem ztX (vx vy:Value)(xs ys:List Nat)(w:World)(hxb:Blks 0 w vx xs)(hyb:Blks 0 w vy ys)
  (hx:∀ x∈xs,x<1000000000) (hy:∀ y∈ys,y<1000000000) (hnx:xs.length≤10000) (hny:ys.length≤10000) :
  Calls Tryz.prog 258 #[vx,vy] w (zvf (vl 1000000000 xs * vl 1000000000 ys) (xs.length+ys.length) w):=by
 obtain⟨i0,hi,hz0,hz1,hz2⟩:=info_parts zgX;obtain⟨A,capy,hvy,_⟩:=zmL hyb;obtain⟨Ax,capx,hvx,hrx⟩:=zpI hxb;subst hvx;subst hvy;have HX:=zHd hx;have HY:=zHd hy;have HYB:=zHd hyb;have HRX:=zHd hrx;clear hx hy hyb hrx hxb;go_enter Tryz.func258,Tryz.ntmps258;go_wp2_with (at_make;refine wpList_make_full _ rfl _ _ 209 rfl w.heap.size 181 i0 (.int .u64 0) 1 Tryz.underlying209 hi hz0 hz1 _ _ _ _ (xs.length+ys.length) rfl rfl ?c0 ?c1 ?c2 (by unfold maxLen;omega) (Nat.le_refl _) ?_)
 case c0=>omega
 case c1=>omega
 case c2=>first|omega|(rw[hz2];omega)
 intro w1 hown hgr;rw[zdP] at hown;have hc0:=(zav.of_full hown).1;have HG:=zHd hgr;have HC0:=zHd hc0;clear hown hgr hc0;go_wp2
 go_loopw [15] (fun i wr=>∃ (k:Nat) (zs:List Nat),i = .int .i64 k∧k≤xs.length∧zef xs ys k zs∧zav wr w.heap.size (uv zs)∧w.grownBy wr none) (fun i _=>xs.length - (intOf i).toNat)
 case atStart=>exact⟨0,_,rfl,by omega,zef.start xs ys,HC0.out,HG.out⟩
 case round =>
  obtain⟨k,zs,rfl,hk,hinv,hcr,hgr⟩:=hrel;have hzl:=hinv.length
  by_cases hlt:k<xs.length
  ·obtain⟨gx,rfl,hcell⟩:=HRX.out wr (fun i hi=>hgr.block i hi (by simp)) k hlt
   have hyr:Blks 0 wr (.slice A ys.length capy) ys:=HYB.out.grown hgr (by simp);have hstep:=hinv.step hlt HX.out HY.out _ rfl;have hxk:=zaG 1000000000 (by decide) xs HX.out k;have hpl:((zs.drop k).take (ys.length+1)).length=ys.length+1:=by rw[List.length_take,List.length_drop];omega
   have hpr:(uv (zs.take k)).length=k:=by rw[zas,List.length_take];omega
   have hsplit:uv zs=uv (zs.take k)++uv ((zs.drop k).take (ys.length+1))++uv (zs.drop (k+(ys.length+1))):=by
    rw[← zbr,← zbr,← List.drop_drop,List.append_assoc,List.take_append_drop,List.take_append_drop]
   have hcr2:=hcr;rw[hsplit] at hcr2
   have hadd:=zgW (xs.getD k 0) w.heap.size (xs.length+ys.length - k) (uv (zs.take k)) (uv (zs.drop (k+(ys.length+1)))) ((zs.drop k).take (ys.length+1)) ys (.slice A ys.length capy) wr.drew (by omega)
    (fun z hz=>hinv.lt z (List.mem_of_mem_drop (List.mem_of_mem_take hz))) HY.out (by omega) (by omega) (by omega) (by unfold maxLen;omega) hcr2 hyr (fun e=>by have:=(HYB.out.lt w.heap.size e).2;omega)
   rw[hpl,hpr] at hadd;have HADD:=zHd hadd;have HST:=zHd hstep;have HGR:=zHd hgr;have HZL:=zHd hzl;generalize comb (addT (xs.getD k 0)) ((zs.drop k).take (ys.length+1)) ys 0 (ys.length+1)=q at *;generalize xs.getD k 0=x at *;clear hinv hcr hgr hyr hstep hpl hpr hsplit hcr2 hadd hzl;have i1:(0:Int)≤(k:Int):=by omega
   have i2:(k:Int)≤(k:Int)+(ys.length:Int)+1:=by omega
   have i3:(k:Int)+(ys.length:Int)+1≤((xs.length+ys.length:Nat):Int):=by omega
   have i4:(k:Int)<(xs.length:Int):=by omega
   have i5:decide (xs.length+ys.length=k)=false:=by simp;omega
   have i6:¬ (xs.length+ys.length=k):=by omega
   have j1:IntKind.i64.wrap ((k:Int)+(ys.length:Int))=(k:Int)+(ys.length:Int):=IntWalk.i64_in _ (by omega);have j2:IntKind.i64.wrap ((k:Int)+(ys.length:Int)+1)=(k:Int)+(ys.length:Int)+1:=IntWalk.i64_in _ (by omega);have j3:k+ys.length+1 - k=ys.length+1:=by omega
   go_wp2
   go_region_with (go_at_call 268;refine HADD.out.mono ?_;rintro e w' ⟨rfl,hcg,hgg⟩;have HCG:=zHd hcg;have HGG:=zHd hgg;clear hcg hgg)
   all_goals
    clear j1 j2 j3 i5;have hcg:=HCG.out;rw[← zbr,← zbr] at hcg;have HC2:=zHd hcg;clear hcg;go_wp2
    go_roundw
    case rel=>exact⟨k+1,_,by go_num,by omega,HST.out,HC2.out,zai (g:=w.heap.size) HGR.out (zaa (zae wr _) HGG.out) (Nat.le_refl _)⟩
    case measure=>simp[intOf];omega
  ·have e:k=xs.length:=by omega
   subst e;have hf:=hinv.fin;have hl:=hinv.lt;have hb:Blks w.heap.size wr (.slice (some ⟨w.heap.size,0,none⟩) zs.length zs.length) zs:=Blks.of_cells hcr (Nat.le_refl _) (zas _) (by unfold maxLen;omega) (by rw[List.take_of_length_le (by rw[zas];exact Nat.le_refl _)]) (Nat.le_refl _);have HF:=zHd hf;have HL:=zHd hl;have HB:=zHd hb;have HGR:=zHd hgr;have HZL:=zHd hzl;clear hinv hf hl hb hgr hcr hzl;go_wp2;go_ret;exact⟨w.heap.size,zs,by rw[HZL.out];rfl,HB.out,HL.out,HF.out,by rw[HZL.out];exact Nat.le_refl _,HGR.out⟩
open Go.RowKit
open Go.Lib (nDigits)
def badV:Value := .tuple #[.string ⟨#[]⟩,.int .i64 1]
def limV (n:Nat):Value:=if nDigits n≤1000 then .tuple #[.string (decS n),.int .i64 0] else .tuple #[.string ⟨#[]⟩,.int .i64 2]
def addV (a b:ByteArray):Value:=if numB a&&numB b then limV (nv a+nv b) else badV
def mulV (a b:ByteArray):Value:=if numB a&&numB b then limV (nv a * nv b) else badV
def subV (a b:ByteArray):Value:=if numB a&&numB b then (if nv a<nv b then .tuple #[.string ⟨#[]⟩,.int .i64 4] else .tuple #[.string (decS (nv a - nv b)),.int .i64 0]) else badV
theorem zew (u:Nat):∀ k,k+1≤nDigits u→k=0∨10 ^ k≤u:=by
 induction u using Nat.strongRecOn with
 | _ u ih =>
  intro k hk
  by_cases h:u<10
  ·rw[Lib.nDigits_small h] at hk;exact .inl (by omega)
  ·rw[Lib.nDigits_big h] at hk
   cases k with
   | zero=>exact .inl rfl
   | succ k =>
    right
    rcases ih (u / 10) (by omega) k (by omega) with rfl|h1
    ·omega
    ·rw[Nat.pow_succ];omega
def zab (v:Value)(w:World)(e:Ending)(w':World):Prop:=e = .returned v∧w.grownBy w' none
theorem zmN (v:Value)(xs:List Nat)(w:World)(h:Blks 0 w v xs)(hx:∀ x∈xs,x<1000000000)(hn:xs.length≤10000) :
  Calls Tryz.prog 249 #[v] w (zab (limV (vl 1000000000 xs)) w):=by
 have hw:=zfZ v xs w h hx hn;have h2:=zbW (vl 1000000000 xs)
 have hlt:nDigits (vl 1000000000 xs)≤100000:=by
  have:=zyp xs hx;rcases Nat.lt_or_ge 100000 (nDigits (vl 1000000000 xs)) with h'|h'
  ·rcases zew (vl 1000000000 xs) (9 * xs.length+1) (by omega) with h3|h3
   ·omega
   ·have h4:10 ^ (9 * xs.length)≤10 ^ (9 * xs.length+1):=Nat.pow_le_pow_right (by decide) (by omega)
    omega
  ·exact h'
 by_cases hl:nDigits (vl 1000000000 xs)≤1000
 ·have HL:=zHd (show limV (vl 1000000000 xs) = .tuple #[.string (decS (vl 1000000000 xs)),.int .i64 0] by unfold limV;rw[if_pos hl])
  rw[← h2] at hl hlt;obtain⟨S,hS⟩:∃ S,decS (vl 1000000000 xs)=S:=⟨_,rfl⟩;unfold zjL at hw;rw[hS] at hw hl hlt;have HS:=zHd hS;clear hS h2 h hx;have hl1:¬ (1000:Int)<(S.size:Int):=by omega
  go_enter Tryz.func249,Tryz.ntmps249;go_wp2_with (go_at_call 255;refine hw.mono ?_;rintro e w' ⟨rfl,hg⟩)
  go_ret2
  exact⟨by rw[HL.out,HS.out];rfl,‹_›⟩
 ·have HL:=zHd (show limV (vl 1000000000 xs) = .tuple #[.string ⟨#[]⟩,.int .i64 2] by unfold limV;rw[if_neg hl])
  rw[← h2] at hl hlt;obtain⟨S,hS⟩:∃ S,decS (vl 1000000000 xs)=S:=⟨_,rfl⟩;unfold zjL at hw;rw[hS] at hw hl hlt;have HS:=zHd hS;clear hS h2 h hx;have hl1:(1000:Int)<(S.size:Int):=by omega
  go_enter Tryz.func249,Tryz.ntmps249;go_wp2_with (go_at_call 255;refine hw.mono ?_;rintro e w' ⟨rfl,hg⟩)
  go_ret2
  exact⟨by rw[HL.out];rfl,‹_›⟩
theorem zaS {s:ByteArray}(h:numB s=true):s.size≤maxLen:=by have:=(zbs s h).2;unfold maxLen;omega
theorem zrE (n:Nat):∃ S E,limV n = .tuple #[.string S,.int .i64 E]:=by unfold limV;split <;> exact⟨_,_,rfl⟩
theorem zyD (xs ys:List Nat)(hx:∀ x∈xs,x<1000000000)(hyt:zbK ys)(h:vl 1000000000 ys≤vl 1000000000 xs):ys.length≤xs.length:=by
 by_cases h0:ys=[]
 ·subst h0;simp
 ·have h1:=zjF 1000000000 ys h0 hyt
  have h2:=zbm 1000000000 xs hx;rcases Nat.lt_or_ge xs.length ys.length with h3|h3
  ·have h4:(1000000000:Nat) ^ xs.length≤1000000000 ^ (ys.length - 1):=Nat.pow_le_pow_right (by decide) (by omega)
   omega
  ·exact h3
theorem zCa (xs ys:List Nat)(hx:∀ x∈xs,x<1000000000)(hy:∀ y∈ys,y<1000000000)(hyt:zbK ys)(h:vl 1000000000 ys≤vl 1000000000 xs) :
  (∀ z∈(comb (subT 1) xs ys 0 xs.length).1,z<1000000000)∧True∧vl 1000000000 (comb (subT 1) xs ys 0 xs.length).1=vl 1000000000 xs - vl 1000000000 ys:=by
 obtain⟨h1,h2,h3⟩:=ziz 1 xs ys (by decide) hx hy 0 (by decide) xs.length;have hl:=zyD xs ys hx hyt h;rw[List.take_length,List.take_of_length_le hl,Nat.one_mul,Nat.add_zero] at h3;have hz:=zbm 1000000000 _ h1;rw[zaY] at hz;refine⟨h1,trivial,?_⟩;rcases Nat.eq_zero_or_pos (comb (subT 1) xs ys 0 xs.length).2 with e|e
 ·rw[e,Nat.mul_zero] at h3;omega
 ·have:1000000000 ^ xs.length * 1≤1000000000 ^ xs.length * (comb (subT 1) xs ys 0 xs.length).2:=Nat.mul_le_mul_left _ e
  omega
theorem zEU (a b:ByteArray)(w:World)(ha:a.size≤maxLen)(hb:b.size≤maxLen) :
  Calls Tryz.prog 226 #[.string a,.string b] w (zab (addV a b) w):=by
 have va:=fun w=>zbL a w ha;have vb:=fun w=>zbL b w hb;unfold maxLen at ha hb;cases hna:numB a
 ·have HV:=zHd (show addV a b=badV by unfold addV;rw[hna];rfl)
  simp only[hna] at va;clear vb hna;go_enter Tryz.func226,Tryz.ntmps226;go_wp2_with (go_at_call 225;refine(va _).mono ?_;rintro e w' ⟨rfl,rfl⟩)
  go_ret2
  exact⟨by rw[HV.out];rfl,zag _ _⟩
 cases hnb:numB b
 ·have HV:=zHd (show addV a b=badV by unfold addV;rw[hnb,Bool.and_false];rfl)
  simp only[hna] at va;simp only[hnb] at vb;clear hna hnb;go_enter Tryz.func226,Tryz.ntmps226;go_wp2_with fail;refine(va _).mono ?_;rintro e w' ⟨rfl,rfl⟩;go_wp2_with fail;refine(vb _).mono ?_;rintro e w' ⟨rfl,rfl⟩;go_wp2
  go_ret2
  exact⟨by rw[HV.out];rfl,zag _ _⟩
 have HV:=zHd (show addV a b=limV (nv a+nv b) by unfold addV;rw[hna,hnb];rfl);have ra:=fun w=>zcV a w hna;have rb:=fun w=>zcV b w hnb;simp only[hna] at va;simp only[hnb] at vb;clear hna hnb;go_enter Tryz.func226,Tryz.ntmps226;go_wp2_with fail;refine(va _).mono ?_;rintro e w' ⟨rfl,rfl⟩;go_wp2_with fail;refine(vb _).mono ?_;rintro e w' ⟨rfl,rfl⟩;go_wp2_with fail;refine(ra _).mono ?_;rintro e w1 ⟨gx,cx,xs,rfl,hbx,hgx,hxl,hxv,hxt,hxn,hg1⟩;have HBX:=zHd hbx;have HXL:=zHd hxl;have HXV:=zHd hxv;have HG1:=zHd hg1;have HXT:=zHd hxt;clear hbx hxl hxv hxt hg1 ra va vb;go_wp2_with fail;refine(rb _).mono ?_;rintro e w2 ⟨gy,cy,ys,rfl,hby,hgy,hyl,hyv,hyt,hyn,hg2⟩;have hs:=zET gx cx xs ys _ w2 ((HBX.out.grown hg2 (by simp)).base (Nat.zero_le _)) (hby.base (Nat.zero_le _)) HXL.out hyl (by omega) (by omega);rw[HXV.out,hyv] at hs;have HS:=zHd hs;have HG2:=zHd hg2;clear hby hyl hyv hyt hg2 hs rb;go_wp2_with fail;refine HS.out.mono ?_;rintro e w3 ⟨g,zs,rfl,hbz,hzl,hzv,hzn,hg3⟩;have hw:=zmN _ zs w3 (hbz.base (Nat.zero_le _)) hzl (by omega);rw[hzv] at hw;obtain⟨S,E,hE⟩:=zrE (nv a+nv b);rw[hE] at hw;have HE:=zHd hE;have HW:=zHd hw;have HG3:=zHd hg3;clear hbz hzl hzv hg3 hw hE HS;go_wp2_with fail;refine HW.out.mono ?_;rintro e w4 ⟨rfl,hg4⟩;have HG4:=zHd hg4;clear hg4 HW;go_wp2
 go_ret2
 exact⟨by rw[HV.out,HE.out];rfl,zaa HG1.out (zaC (zaa HG2.out (zaC (zaa HG3.out (zaC HG4.out)))))⟩
theorem zEV (a b:ByteArray)(w:World)(ha:a.size≤maxLen)(hb:b.size≤maxLen) :
  Calls Tryz.prog 232 #[.string a,.string b] w (zab (mulV a b) w):=by
 have va:=fun w=>zbL a w ha;have vb:=fun w=>zbL b w hb;unfold maxLen at ha hb;cases hna:numB a
 ·have HV:=zHd (show mulV a b=badV by unfold mulV;rw[hna];rfl)
  simp only[hna] at va;clear vb hna;go_enter Tryz.func232,Tryz.ntmps232;go_wp2_with (go_at_call 225;refine(va _).mono ?_;rintro e w' ⟨rfl,rfl⟩)
  go_ret2
  exact⟨by rw[HV.out];rfl,zag _ _⟩
 cases hnb:numB b
 ·have HV:=zHd (show mulV a b=badV by unfold mulV;rw[hnb,Bool.and_false];rfl)
  simp only[hna] at va;simp only[hnb] at vb;clear hna hnb;go_enter Tryz.func232,Tryz.ntmps232;go_wp2_with fail;refine(va _).mono ?_;rintro e w' ⟨rfl,rfl⟩;go_wp2_with fail;refine(vb _).mono ?_;rintro e w' ⟨rfl,rfl⟩;go_wp2
  go_ret2
  exact⟨by rw[HV.out];rfl,zag _ _⟩
 have HV:=zHd (show mulV a b=limV (nv a * nv b) by unfold mulV;rw[hna,hnb];rfl);have ra:=fun w=>zcV a w hna;have rb:=fun w=>zcV b w hnb;simp only[hna] at va;simp only[hnb] at vb;clear hna hnb;go_enter Tryz.func232,Tryz.ntmps232;go_wp2_with fail;refine(va _).mono ?_;rintro e w' ⟨rfl,rfl⟩;go_wp2_with fail;refine(vb _).mono ?_;rintro e w' ⟨rfl,rfl⟩;go_wp2_with fail;refine(ra _).mono ?_;rintro e w1 ⟨gx,cx,xs,rfl,hbx,hgx,hxl,hxv,hxt,hxn,hg1⟩;have HBX:=zHd hbx;have HXL:=zHd hxl;have HXV:=zHd hxv;have HG1:=zHd hg1;have HXT:=zHd hxt;clear hbx hxl hxv hxt hg1 ra va vb;go_wp2_with fail;refine(rb _).mono ?_;rintro e w2 ⟨gy,cy,ys,rfl,hby,hgy,hyl,hyv,hyt,hyn,hg2⟩;have hs:=ztX _ _ xs ys w2 ((HBX.out.grown hg2 (by simp)).base (Nat.zero_le _)) (hby.base (Nat.zero_le _)) HXL.out hyl (by omega) (by omega);rw[HXV.out,hyv] at hs;have HS:=zHd hs;have HG2:=zHd hg2;clear hby hyl hyv hyt hg2 hs rb;go_wp2_with fail;refine HS.out.mono ?_;rintro e w3 ⟨g,zs,rfl,hbz,hzl,hzv,hzn,hg3⟩;have hw:=zmN _ zs w3 (hbz.base (Nat.zero_le _)) hzl (by omega);rw[hzv] at hw;obtain⟨S,E,hE⟩:=zrE (nv a * nv b);rw[hE] at hw;have HE:=zHd hE;have HW:=zHd hw;have HG3:=zHd hg3;clear hbz hzl hzv hg3 hw hE HS;go_wp2_with fail;refine HW.out.mono ?_;rintro e w4 ⟨rfl,hg4⟩;have HG4:=zHd hg4;clear hg4 HW;go_wp2
 go_ret2
 exact⟨by rw[HV.out,HE.out];rfl,zaa HG1.out (zaC (zaa HG2.out (zaC (zaa HG3.out (zaC HG4.out)))))⟩
theorem zvg (a b:ByteArray)(w:World)(ha:a.size≤maxLen)(hb:b.size≤maxLen) :
  Calls Tryz.prog 228 #[.string a,.string b] w (zab (subV a b) w):=by
 have va:=fun w=>zbL a w ha;have vb:=fun w=>zbL b w hb;unfold maxLen at ha hb;cases hna:numB a
 ·have HV:=zHd (show subV a b=badV by unfold subV;rw[hna];rfl)
  simp only[hna] at va;clear vb hna;go_enter Tryz.func228,Tryz.ntmps228;go_wp2_with (go_at_call 225;refine(va _).mono ?_;rintro e w' ⟨rfl,rfl⟩)
  go_ret2
  exact⟨by rw[HV.out];rfl,zag _ _⟩
 cases hnb:numB b
 ·have HV:=zHd (show subV a b=badV by unfold subV;rw[hnb,Bool.and_false];rfl)
  simp only[hna] at va;simp only[hnb] at vb;clear hna hnb;go_enter Tryz.func228,Tryz.ntmps228;go_wp2_with fail;refine(va _).mono ?_;rintro e w' ⟨rfl,rfl⟩;go_wp2_with fail;refine(vb _).mono ?_;rintro e w' ⟨rfl,rfl⟩;go_wp2
  go_ret2
  exact⟨by rw[HV.out];rfl,zag _ _⟩
 have hcm:=fun w=>zkZ a b w (zaS hna) (zaS hnb);have hce:cmpV a b=cmpN (nv a) (nv b):=by unfold cmpV;rw[hna,hnb];rfl
 simp only[hce] at hcm;clear hce
 by_cases hlt:nv a<nv b
 ·have HV:=zHd (show subV a b = .tuple #[.string ⟨#[]⟩,.int .i64 4] by unfold subV;rw[hna,hnb];simp only[Bool.and_self,if_true];rw[if_pos hlt])
  have hc:cmpN (nv a) (nv b) = -1:=by unfold cmpN;rw[if_pos hlt]
  simp only[hc] at hcm;simp only[hna] at va;simp only[hnb] at vb;clear hna hnb hc hlt;go_enter Tryz.func228,Tryz.ntmps228;go_wp2_with fail;refine(va _).mono ?_;rintro e w' ⟨rfl,rfl⟩;go_wp2_with fail;refine(vb _).mono ?_;rintro e w' ⟨rfl,rfl⟩;go_wp2_with fail;refine(hcm _).mono ?_;rintro e w1 ⟨rfl,hg1⟩;go_wp2
  go_ret2
  exact⟨by rw[HV.out];rfl,hg1⟩
 ·have HV:=zHd (show subV a b = .tuple #[.string (decS (nv a - nv b)),.int .i64 0] by unfold subV;rw[hna,hnb];simp only[Bool.and_self,if_true];rw[if_neg hlt])
  obtain⟨c,hc,hc0⟩:∃ c:Int,cmpN (nv a) (nv b)=c∧0≤c:=⟨_,rfl,by have:=zdC (nv a) (nv b);omega⟩;simp only[hc] at hcm;have HLT:=zHd hlt;clear hc hlt;have ra:=fun w=>zcV a w hna;have rb:=fun w=>zcV b w hnb;simp only[hna] at va;simp only[hnb] at vb;clear hna hnb;go_enter Tryz.func228,Tryz.ntmps228;go_wp2_with fail;refine(va _).mono ?_;rintro e w' ⟨rfl,rfl⟩;go_wp2_with fail;refine(vb _).mono ?_;rintro e w' ⟨rfl,rfl⟩;go_wp2_with fail;refine(hcm _).mono ?_;rintro e w0 ⟨rfl,hg0⟩;have HG0:=zHd hg0;clear hcm va vb hg0;go_wp2_with fail;refine(ra _).mono ?_;rintro e w1 ⟨gx,cx,xs,rfl,hbx,hgx,hxl,hxv,hxt,hxn,hg1⟩;have HBX:=zHd hbx;have HXL:=zHd hxl;have HXV:=zHd hxv;have HG1:=zHd hg1;have HXT:=zHd hxt;clear hbx hxl hxv hxt hg1 ra;go_wp2_with fail;refine(rb _).mono ?_;rintro e w2 ⟨gy,cy,ys,rfl,hby,hgy,hyl,hyv,hyt,hyn,hg2⟩;have hbx2:=HBX.out.grown hg2 (by simp);obtain⟨_,hgB,hcx1,hcx2,post,hcells,hpost⟩:=hbx2.cells;have hst:=zjK 1 gx cx [] post xs ys _ w2 (by decide) HXL.out hyl (by omega) (by simp) (by omega) hcx2 (by simpa using hcells) (hby.base (Nat.zero_le _)) (by simp[Value.ownBlock];have:=(HBX.out.lt gx rfl).2;omega);have hmath:=zCa xs ys HXL.out hyl hyt (by rw[HXV.out,hyv];have:=HLT.out;omega);have hql:=zaY (subT 1) xs ys 0 xs.length;generalize comb (subT 1) xs ys 0 xs.length=q at *;obtain⟨hm1,hm2,hm3⟩:=hmath;rw[HXV.out,hyv] at hm3;have HST:=zHd hst;have HG2:=zHd hg2;have HM1:=zHd hm1;have HM3:=zHd hm3;have HQL:=zHd hql;have HPO:=zHd hpost;have HCX1:=zHd hcx1;have HCX2:=zHd hcx2;clear hby hyl hyv hyt hg2 rb hbx2 hcells hst hm1 hm2 hm3 hql hpost hcx1 hcx2;unfold zht at HST;go_wp2_with fail;refine HST.out.mono ?_;rintro e w3 ⟨rfl,hc3,hg3⟩;have hb3:Blks 0 w3 (.slice (some ⟨gx,0,none⟩) q.1.length cx) q.1:=Blks.of_cells hc3 (Nat.zero_le _) (by have:=HPO.out;have:=HQL.out;have:=HCX1.out;simp only[List.nil_append,List.length_append,zas];omega) HCX2.out (by simp[zas]) (by rw[HQL.out];exact HCX1.out);have hwr:=zfZ _ q.1 w3 hb3 HM1.out (by rw[HQL.out];omega);rw[HM3.out,HQL.out] at hwr;have HWR:=zHd hwr;have HG3:=zHd hg3;clear hc3 hg3 hb3 hwr HST;go_wp2_with fail;refine HWR.out.mono ?_;rintro e w4 ⟨rfl,hg4⟩;have HG4:=zHd hg4;clear hg4 HWR;go_wp2
  go_ret2
  have hz:=HG0.out.size;exact⟨by rw[HV.out];rfl,zaa HG0.out (zaC (zai (g:=gx) (zaa HG1.out (zaC HG2.out)) (zaa HG3.out (zaC HG4.out)) hgx))⟩
open Go.RowKit
theorem zrF (n:Nat)(h:n<18446744073709551616):bits BinOp.and IntKind.u64 (n:Int) 4294967295=((n % 4294967296:Nat):Int):=by
 have:=bits_and_u64_nat n 4294967295 h (by decide);rw[show(4294967295:Nat)=2 ^ 32 - 1 by decide,Nat.and_two_pow_sub_one_eq_mod] at this;exact this
theorem zdQ (n:Nat)(e:Int)(h:e=(n:Int))(hn:n<18446744073709551616):IntKind.u64.wrap e=(n:Int):=by
 rw[h,IntKind.wrap_u64];omega
theorem zlW (y s:Nat):((y * 2 ^ s:Nat):Int)=(y:Int) * 2 ^ s:=by push_cast;rfl
structure D64 (hi lo y s Y c d H L U M m1 m0:Nat):Prop where
 e1:IntKind.u64.wrap ((y:Int) * 2 ^ s)=(Y:Int)
 e2:bits BinOp.and IntKind.u64 (Y:Int) 4294967295=(d:Int)
 e3:(Y:Int) / 4294967296=(c:Int)
 e4:IntKind.u64.wrap ((hi:Int) * 2 ^ s)=(H:Int)
 e5:(lo:Int) / 2 ^ (64 - s)=(L:Int)
 e6:bits BinOp.or IntKind.u64 (H:Int) (L:Int)=(U:Int)
 e7:IntKind.u64.wrap ((lo:Int) * 2 ^ s)=(M:Int)
 e8:(M:Int) / 4294967296=(m1:Int)
 e9:bits BinOp.and IntKind.u64 (M:Int) 4294967295=(m0:Int)
 hY:Y=4294967296 * c+d
 hc:2147483648≤c
 hc2:c<4294967296
 hd:d<4294967296
 hm1:m1<4294967296
 hm0:m0<4294967296
 hM:M=4294967296 * m1+m0
 hU:U<Y
 hq:(18446744073709551616 * hi+lo) / y=(18446744073709551616 * U+(4294967296 * m1+m0)) / Y
theorem D64.mk' (hi lo y s:Nat)(hs:s≤63)(h2:hi<y)(hlo:lo<18446744073709551616)(hY:y * 2 ^ s<18446744073709551616)(hY2:9223372036854775808≤y * 2 ^ s) :
  ∃ Y c d H L U M m1 m0,D64 hi lo y s Y c d H L U M m1 m0:=by
 obtain⟨a1,a2,a3,a4,a5⟩:=zyr hi lo y s hs h2 hlo hY;have hp:2 ^ s≤2 ^ 63:=Nat.pow_le_pow_right (by decide) hs;have hm:lo * 2 ^ s % 18446744073709551616<18446744073709551616:=Nat.mod_lt _ (by decide)
 refine⟨y * 2 ^ s,y * 2 ^ s / 4294967296,y * 2 ^ s % 4294967296,hi * 2 ^ s,lo / 2 ^ (64 - s),hi * 2 ^ s+lo / 2 ^ (64 - s),lo * 2 ^ s % 18446744073709551616,
  lo * 2 ^ s % 18446744073709551616 / 4294967296,lo * 2 ^ s % 18446744073709551616 % 4294967296,?_,zrF _ hY,by omega,?_,by push_cast;rfl,?_,?_,by omega,zrF _ hm,by omega,by omega,by omega,by omega,by omega,by omega,by omega,a4,?_⟩
 ·exact zdQ _ _ (zlW y s).symm hY
 ·exact zdQ _ _ (zlW hi s).symm (by omega)
 ·rw[bits_or_u64_nat _ _ (by omega) (by omega),a3]
 ·rw[← zlW,IntKind.wrap_u64];omega
 ·rw[← Nat.mul_div_mul_right (18446744073709551616 * hi+lo) y (Nat.two_pow_pos s),a5]
  congr 2
  omega
structure D64T (U m1 m0 Y Q1 V Q0 g1 g2 g3 g5 R:Nat):Prop where
 x1:IntKind.u64.wrap ((U:Int) * 4294967296)=(g1:Int)
 x2:IntKind.u64.wrap ((g1:Int)+(m1:Int))=(g2:Int)
 x3:IntKind.u64.wrap ((Q1:Int) * (Y:Int))=(g3:Int)
 x4:IntKind.u64.wrap ((g2:Int) - (g3:Int))=(V:Int)
 x5:IntKind.u64.wrap ((Q1:Int) * 4294967296)=(g5:Int)
 x6:IntKind.u64.wrap ((g5:Int)+(Q0:Int))=(R:Int)
 hV:V<Y
 hR:R=(18446744073709551616 * U+(4294967296 * m1+m0)) / Y
theorem D64T.mk' (U m1 m0 Y:Nat)(hU:U<Y)(hY:Y≤18446744073709551615)(hm1:m1<4294967296)(hm0:m0<4294967296) :
  ∃ Q1 V Q0 g1 g2 g3 g5 R,Q1=(4294967296 * U+m1) / Y∧Q0=(4294967296 * V+m0) / Y∧D64T U m1 m0 Y Q1 V Q0 g1 g2 g3 g5 R:=by
 have hY0:0<Y:=by omega
 have hV:=Nat.mod_lt (4294967296 * U+m1) hY0;have hdm:=Nat.div_add_mod (4294967296 * U+m1) Y;have hq1:=zpD U m1 Y hY0 hU hm1;have hq0:=zpD ((4294967296 * U+m1) % Y) m0 Y hY0 hV hm0;have hR:=zBL U m1 m0 Y hY0;refine⟨_,(4294967296 * U+m1) % Y,_,(4294967296 * U) % 18446744073709551616,((4294967296 * U) % 18446744073709551616+m1) % 18446744073709551616,(Y * ((4294967296 * U+m1) / Y)) % 18446744073709551616,4294967296 * ((4294967296 * U+m1) / Y),_,rfl,rfl,?_,?_,?_,?_,?_,?_,hV,hR.symm⟩
 ·rw[IntKind.wrap_u64,Int.mul_comm,Int.natCast_emod,Int.natCast_mul];rfl
 ·generalize 4294967296 * U % 18446744073709551616=g
  rw[IntKind.wrap_u64,Int.natCast_emod,Int.natCast_add];rfl
 ·rw[IntKind.wrap_u64,Int.mul_comm,← Int.natCast_mul];exact(Int.natCast_emod _ _).symm
 ·rw[IntKind.wrap_u64]
  generalize Y * ((4294967296 * U+m1) / Y)=t at *;generalize (4294967296 * U+m1) % Y=V at *
  omega
 ·refine zdQ _ _ (by rw[Int.mul_comm];exact(Int.natCast_mul 4294967296 _).symm) (by omega)
 ·refine zdQ _ _ ?_ ?_
  ·exact(Int.natCast_add _ _).symm
  ·omega
theorem zyE (hi lo y s:Nat)(h1:1≤hi)(h2:hi<y)(hlo:lo<18446744073709551616)(hs:s≤63)
  (hY:y * 2 ^ s<18446744073709551616) (hY2:9223372036854775808≤y * 2 ^ s)
  (hlz:∀ w,Calls Tryz.prog 294 #[.int .u64 y] w fun e w'=>e = .returned (.int .i64 s)∧w=w') :
  ∃ r,∀ w,Calls Tryz.prog 290 #[.int .u64 hi,.int .u64 lo,.int .u64 y] w fun e w'=>e = .returned (.tuple #[.int .u64 ((18446744073709551616 * hi+lo) / y:Nat),.int .u64 r])∧w=w':=by
 obtain⟨Y,c,d,H,L,U,M,m1,m0,hD⟩:=D64.mk' hi lo y s hs h2 hlo hY hY2;have HD:=zHd hD;have hds:=DInv.start hD.hY hD.hc hD.hd hD.hm1 hD.hU;have hrl:=DInv.rest_lt (U:=U) hD.hc;have e1:=hD.e1;have e2:=hD.e2;have e3:=hD.e3;have e4:=hD.e4;have e5:=hD.e5;have e6:=hD.e6;have e7:=hD.e7;have e8:=hD.e8;have e9:=hD.e9;have hc:=hD.hc;have hc2:=hD.hc2;have hd:=hD.hd;have hm1:=hD.hm1;have hm0:=hD.hm0;have hU:=hD.hU;have hy:y<18446744073709551616:=by have:=hD.hY;have:y * 1≤y * 2 ^ s:=Nat.mul_le_mul_left _ (Nat.two_pow_pos s);omega
 have ea:(U:Int) / (c:Int)=((U / c:Nat):Int):=by push_cast;rfl
 have ep:((U / c:Nat):Int) * (c:Int)=((c * (U / c):Nat):Int):=by push_cast;rw[Int.mul_comm]
 have hpU:c * (U / c)≤U:=Nat.mul_div_le U c;have hYl:Y≤18446744073709551615:=by have:=hD.hY;omega
 have eq:=hD.hq;rw[eq];clear hD eq hY hY2;generalize U / c=a0 at *;generalize c * a0=p0 at *;have ha0:=hds.le;obtain⟨r0,hr0⟩:∃ r0,U - p0=r0:=⟨_,rfl⟩;have er:(U:Int) - (p0:Int)=(r0:Int):=by omega
 rw[hr0] at hds hrl;have HDS:=zHd hds;clear hds hr0;have f1:((hi:Int) == 0)=false:=by simp;omega
 have f2:((y:Int) == 0)=false:=by simp;omega
 have hc1:(1:Int)≤(c:Int):=by omega
 obtain⟨Q1,V,Q0,g1,g2,g3,g5,R,hQ1,hQ0,hT⟩:=D64T.mk' U m1 m0 Y hU hYl hm1 hm0;rw[← hT.hR];have HQ1:=zHd hQ1.symm;have HQ0:=zHd hQ0.symm;have HT:=zHd hT;clear hQ1 hQ0 hT;refine⟨IntKind.u64.wrap (IntKind.u64.wrap (IntKind.u64.wrap ((V:Int) * 4294967296)+(m0:Int)) - IntKind.u64.wrap ((Q0:Int) * (Y:Int))) / 2 ^ (min s 64),fun w => ?_⟩;go_enter Tryz.func290,Tryz.ntmps290
 go_upto_block 0 with(go_at_call 294;refine(hlz _).mono ?_;rintro e w' ⟨rfl,rfl⟩)
 go_cut [15] (fun q wx=>q = .int .u64 Q1∧w=wx)
 case first =>
  go_wp2_with fail;clear e1 e2 e3 e4 e5 e6 e7 e8 e9 ea ep er hpU h1 h2 hlo hs hlz f1 f2 hy ha0
  go_loop [15,16] (fun q rh=>∃ a r:Nat,q = .int .u64 a∧rh = .int .u64 r∧DInv U m1 c Y a r∧r<4294967296) (fun q _=>(intOf q).toNat)
  case atStart=>exact⟨_,_,rfl,rfl,HDS.out,by omega⟩
  case round =>
   obtain⟨a,r,rfl,rfl,hinv,hr⟩:=hrel;have hle:=hinv.le;have hpr:=hinv.prod hd;have epp:(a:Int) * (d:Int)=((d * a:Nat):Int):=by push_cast;rw[Int.mul_comm]
   obtain⟨R,hR⟩:∃ R,4294967296 * r=R:=⟨_,rfl⟩;have eR:IntKind.u64.wrap ((4294967296:Int) * (r:Int))=(R:Int):=zdQ R _ (by omega) (by omega);have hr2:r≤4294967296000:=by omega
   have hRb:R≤18446744069414584320:=by omega
   have HR:=zHd hr;clear hr
   by_cases ht:4294967296≤a∨R+m1<d * a
   ·obtain⟨ha1,hnew⟩:=hinv.down HD.out.hY hc hd hm1 hU (by rw[hR];exact ht)
    have HN:=zHd hnew;clear hinv hnew hR;have hle2:=HN.out.le;generalize d * a=p at *
    by_cases hrr:4294967296≤r+c
    ·have HQ:=zHd (HN.out.out HD.out.hY hc hd (by omega) hrr)
     by_cases hta:4294967296≤a
     ·clear ht
      have g1:¬ ((a:Int)<4294967296):=by omega
      have g1':(4294967296:Int)≤(a:Int):=by omega
      have g3:(4294967296:Int)≤(r:Int)+(c:Int):=by omega
      have g3':¬ ((r:Int)+(c:Int)<4294967296):=by omega
      go_wp2
      go_meet
      case rel=>exact⟨by rw[← HQ1.out,← HQ.out];go_num,rfl⟩
     ·have htb:R+m1<p:=by omega
      clear ht;have g1:(a:Int)<4294967296:=by omega
      have g1':¬ ((4294967296:Int)≤(a:Int)):=by omega
      have g2:(R:Int)+(m1:Int)<(p:Int):=by omega
      have g3:(4294967296:Int)≤(r:Int)+(c:Int):=by omega
      have g3':¬ ((r:Int)+(c:Int)<4294967296):=by omega
      go_wp2
      go_meet
      case rel=>exact⟨by rw[← HQ1.out,← HQ.out];go_num,rfl⟩
    ·by_cases hta:4294967296≤a
     ·clear ht
      have g1:¬ ((a:Int)<4294967296):=by omega
      have g1':(4294967296:Int)≤(a:Int):=by omega
      have g3:¬ ((4294967296:Int)≤(r:Int)+(c:Int)):=by omega
      have g3':(r:Int)+(c:Int)<4294967296:=by omega
      go_wp2
      go_round
      case rel=>exact⟨a - 1,r+c,by go_num,by go_num,HN.out,by omega⟩
      case measure=>simp[intOf];omega
     ·have htb:R+m1<p:=by omega
      clear ht;have g1:(a:Int)<4294967296:=by omega
      have g1':¬ ((4294967296:Int)≤(a:Int)):=by omega
      have g2:(R:Int)+(m1:Int)<(p:Int):=by omega
      have g3:¬ ((4294967296:Int)≤(r:Int)+(c:Int)):=by omega
      have g3':(r:Int)+(c:Int)<4294967296:=by omega
      go_wp2
      go_round
      case rel=>exact⟨a - 1,r+c,by go_num,by go_num,HN.out,by omega⟩
      case measure=>simp[intOf];omega
   ·have hta:a<4294967296:=by omega
    have htb:d * a≤R+m1:=by omega
    have HQ:=zHd (hinv.done HD.out.hY hc (by rw[hR];exact htb));clear ht hinv hR;generalize d * a=p at *;have g1:(a:Int)<4294967296:=by omega
    have g1':¬ ((4294967296:Int)≤(a:Int)):=by omega
    have g2:¬ ((R:Int)+(m1:Int)<(p:Int)):=by omega
    have g2':(p:Int)≤(R:Int)+(m1:Int):=by omega
    go_wp2
    go_meet
    case rel=>exact⟨by rw[← HQ1.out,← HQ.out],rfl⟩
 case rest =>
  obtain⟨rfl,rfl⟩:=hcut;clear e1 e2 e3 e4 e5 e6 e7 e8 e9 ea ep er hpU ha0 HDS hrl hlz f1 f2 hlo hs HQ1;have x1:=HT.out.x1;have x2:=HT.out.x2;have x3:=HT.out.x3;have x4:=HT.out.x4;have hV:=HT.out.hV;have hds:=DInv.start HD.out.hY hc hd hm0 hV;have hrl:=DInv.rest_lt (U:=V) hc;have ea:(V:Int) / (c:Int)=((V / c:Nat):Int):=by push_cast;rfl
  have ep:((V / c:Nat):Int) * (c:Int)=((c * (V / c):Nat):Int):=by push_cast;rw[Int.mul_comm]
  have hpU:c * (V / c)≤V:=Nat.mul_div_le V c;generalize V / c=a1 at *;generalize c * a1=p1 at *;have ha1:=hds.le;obtain⟨r1,hr1⟩:∃ r1,V - p1=r1:=⟨_,rfl⟩;have er:(V:Int) - (p1:Int)=(r1:Int):=by omega
  rw[hr1] at hds hrl;have HDS:=zHd hds;clear hds hr1
  go_upto_block 2 with(fail)
  go_cut [18] (fun q wx=>q = .int .u64 Q0∧w=wx)
  case first =>
   go_wp2_with fail;clear x1 x2 x3 x4 ea ep er hpU ha1
   go_loop [18,16] (fun q rh=>∃ a r:Nat,q = .int .u64 a∧rh = .int .u64 r∧DInv V m0 c Y a r∧r<4294967296) (fun q _=>(intOf q).toNat)
   case atStart=>exact⟨_,_,rfl,rfl,HDS.out,by omega⟩
   case round =>
    obtain⟨a,r,rfl,rfl,hinv,hr⟩:=hrel;have hle:=hinv.le;have hpr:=hinv.prod hd;have epp:(a:Int) * (d:Int)=((d * a:Nat):Int):=by push_cast;rw[Int.mul_comm]
    obtain⟨R,hR⟩:∃ R,4294967296 * r=R:=⟨_,rfl⟩;have eR:IntKind.u64.wrap ((4294967296:Int) * (r:Int))=(R:Int):=zdQ R _ (by omega) (by omega);have hr2:r≤4294967296000:=by omega
    have hRb:R≤18446744069414584320:=by omega
    have HR:=zHd hr;clear hr
    by_cases ht:4294967296≤a∨R+m0<d * a
    ·obtain⟨ha1,hnew⟩:=hinv.down HD.out.hY hc hd hm0 hV (by rw[hR];exact ht)
     have HN:=zHd hnew;clear hinv hnew hR;have hle2:=HN.out.le;generalize d * a=p at *
     by_cases hrr:4294967296≤r+c
     ·have HQ:=zHd (HN.out.out HD.out.hY hc hd (by omega) hrr)
      by_cases hta:4294967296≤a
      ·clear ht
       have g1:¬ ((a:Int)<4294967296):=by omega
       have g1':(4294967296:Int)≤(a:Int):=by omega
       have g3:(4294967296:Int)≤(r:Int)+(c:Int):=by omega
       have g3':¬ ((r:Int)+(c:Int)<4294967296):=by omega
       go_wp2
       go_meet
       case rel=>exact⟨by rw[← HQ0.out,← HQ.out];go_num,rfl⟩
      ·have htb:R+m0<p:=by omega
       clear ht;have g1:(a:Int)<4294967296:=by omega
       have g1':¬ ((4294967296:Int)≤(a:Int)):=by omega
       have g2:(R:Int)+(m0:Int)<(p:Int):=by omega
       have g3:(4294967296:Int)≤(r:Int)+(c:Int):=by omega
       have g3':¬ ((r:Int)+(c:Int)<4294967296):=by omega
       go_wp2
       go_meet
       case rel=>exact⟨by rw[← HQ0.out,← HQ.out];go_num,rfl⟩
     ·by_cases hta:4294967296≤a
      ·clear ht
       have g1:¬ ((a:Int)<4294967296):=by omega
       have g1':(4294967296:Int)≤(a:Int):=by omega
       have g3:¬ ((4294967296:Int)≤(r:Int)+(c:Int)):=by omega
       have g3':(r:Int)+(c:Int)<4294967296:=by omega
       go_wp2
       go_round
       case rel=>exact⟨a - 1,r+c,by go_num,by go_num,HN.out,by omega⟩
       case measure=>simp[intOf];omega
      ·have htb:R+m0<p:=by omega
       clear ht;have g1:(a:Int)<4294967296:=by omega
       have g1':¬ ((4294967296:Int)≤(a:Int)):=by omega
       have g2:(R:Int)+(m0:Int)<(p:Int):=by omega
       have g3:¬ ((4294967296:Int)≤(r:Int)+(c:Int)):=by omega
       have g3':(r:Int)+(c:Int)<4294967296:=by omega
       go_wp2
       go_round
       case rel=>exact⟨a - 1,r+c,by go_num,by go_num,HN.out,by omega⟩
       case measure=>simp[intOf];omega
    ·have hta:a<4294967296:=by omega
     have htb:d * a≤R+m0:=by omega
     have HQ:=zHd (hinv.done HD.out.hY hc (by rw[hR];exact htb));clear ht hinv hR;generalize d * a=p at *;have g1:(a:Int)<4294967296:=by omega
     have g1':¬ ((4294967296:Int)≤(a:Int)):=by omega
     have g2:¬ ((R:Int)+(m0:Int)<(p:Int)):=by omega
     have g2':(p:Int)≤(R:Int)+(m0:Int):=by omega
     go_wp2
     go_meet
     case rel=>exact⟨by rw[← HQ0.out,← HQ.out],rfl⟩
  case rest =>
   obtain⟨rfl,rfl⟩:=hcut;clear x1 x2 x3 x4 ea ep er hpU ha1 HDS hrl HQ0;have x5:=HT.out.x5;have x6:=HT.out.x6;go_wp2
   go_ret2
   exact⟨rfl,rfl⟩
end Go.Proofs.YtaogepcaoogpgaaGreatDoor
