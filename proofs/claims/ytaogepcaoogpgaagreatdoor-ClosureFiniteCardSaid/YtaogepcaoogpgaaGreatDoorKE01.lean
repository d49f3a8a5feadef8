/- WE01 -/
import Derived.Lib.ItoaNum
import Derived.Lib.IndexMore
import Derived.Test.YtaogepcaoogpgaaGreatDoorKE00
set_option linter.unusedVariables false
set_option linter.unusedSimpArgs false
set_option maxRecDepth 100000
set_option maxHeartbeats 16000000
namespace Go.Proofs.YtaogepcaoogpgaaGreatDoor
def vl (B:Nat):List Nat→Nat
 | []=>0
 | x::r=>x+B * vl B r
theorem zcj (B:Nat):∀ (xs ys:List Nat),vl B (xs++ys)=vl B xs+B ^ xs.length * vl B ys
 | [],ys=>by simp[vl]
 | x::xs,ys=>by
  simp only[List.cons_append,vl,zcj B xs ys,List.length_cons,Nat.pow_succ,Nat.mul_add];rw[Nat.add_assoc,Nat.mul_comm (B ^ xs.length) B,Nat.mul_assoc]
theorem zjD (B x:Nat):vl B [x]=x:=by simp[vl]
theorem zea (B:Nat)(xs:List Nat)(x:Nat):vl B (xs++[x])=vl B xs+B ^ xs.length * x:=by rw[zcj,zjD]
theorem zbm (B:Nat):∀ (xs:List Nat),(∀ x∈xs,x<B)→vl B xs<B ^ xs.length
 | [],_=>by simp[vl]
 | x::xs,h=>by
  have h1:=zbm B xs (fun y hy=>h y (List.mem_cons_of_mem _ hy));have h2:=h x (List.mem_cons_self ..);simp only[vl,List.length_cons,Nat.pow_succ];have h3:B * (vl B xs+1)≤B * B ^ xs.length:=Nat.mul_le_mul_left _ h1;rw[Nat.mul_add,Nat.mul_one,Nat.mul_comm B (B ^ xs.length)] at h3
  omega
theorem zeI (B:Nat)(xs:List Nat)(k:Nat)(h:k≤xs.length):vl B xs=vl B (xs.take k)+B ^ k * vl B (xs.drop k):=by
 have:=zcj B (xs.take k) (xs.drop k);rw[List.take_append_drop,List.length_take,Nat.min_eq_left h] at this;exact this
theorem zof (l:List Nat)(k:Nat)(h:k<l.length):l.take (k+1)=l.take k++[l.getD k 0]:=by
 rw[List.take_succ_eq_append_getElem h,List.getD_eq_getElem?_getD,List.getElem?_eq_getElem h];rfl
theorem zjE (l:List Nat)(k:Nat)(h:k<l.length):l.drop k=l.getD k 0::l.drop (k+1):=by
 rw[List.drop_eq_getElem_cons h,List.getD_eq_getElem?_getD,List.getElem?_eq_getElem h];rfl
theorem zgQ (l:List Nat)(k:Nat)(h:¬ k<l.length):l.getD k 0=0:=by
 rw[List.getD_eq_getElem?_getD,List.getElem?_eq_none (by omega)];rfl
theorem zaG (B:Nat)(hB:0<B)(l:List Nat)(h:∀ x∈l,x<B)(k:Nat):l.getD k 0<B:=by
 by_cases hk:k<l.length
 ·rw[List.getD_eq_getElem?_getD,List.getElem?_eq_getElem hk]
  exact h _ (List.getElem_mem hk)
 ·rw[zgQ l k hk];exact hB
theorem zaw (B:Nat)(l:List Nat)(k:Nat):vl B (l.take (k+1))=vl B (l.take k)+B ^ k * l.getD k 0:=by
 by_cases hk:k<l.length
 ·rw[zof l k hk,zea,List.length_take,Nat.min_eq_left (by omega)]
 ·rw[zgQ l k hk,List.take_of_length_le (by omega),List.take_of_length_le (by omega),Nat.mul_zero,Nat.add_zero]
theorem zfv (B:Nat):∀ n,vl B (List.replicate n 0)=0
 | 0=>rfl
 | n+1=>by simp[List.replicate_succ,vl,zfv B n]
def zbK (xs:List Nat):Prop:=∀ h:xs≠[],xs.getLast h≠0
theorem zyn:zbK []:=fun h=>absurd rfl h
theorem zjF (B:Nat)(xs:List Nat)(h0:xs≠[])(ht:zbK xs):B ^ (xs.length - 1)≤vl B xs:=by
 have e:=List.dropLast_concat_getLast h0;have:=ht h0;have hp:B ^ xs.dropLast.length * 1≤B ^ xs.dropLast.length * xs.getLast h0:=Nat.mul_le_mul_left _ (by omega);rw[Nat.mul_one,List.length_dropLast] at hp;rw[← e,zea,e,List.length_dropLast]
 omega
theorem zwl (B:Nat)(hB:0<B)(xs:List Nat)(ht:zbK xs):vl B xs=0↔xs=[]:=by
 constructor
 ·intro h
  by_cases h0:xs=[]
  ·exact h0
  ·have:=zjF B xs h0 ht
   have hp:0<B ^ (xs.length - 1):=Nat.pow_pos hB
   omega
 ·rintro rfl;rfl
theorem zqO (xs:List Nat)(h:xs.getD (xs.length - 1) 0≠0):zbK xs:=by
 intro h0;rw[List.getLast_eq_getElem];have:xs.length - 1<xs.length:=by have:=List.length_pos_iff.2 h0;omega
 rw[List.getD_eq_getElem?_getD,List.getElem?_eq_getElem this] at h;exact h
def comb (T:Nat→Nat→Nat→Nat × Nat)(xs ys:List Nat)(c0:Nat):Nat→List Nat × Nat
 | 0=>([],c0)
 | k+1=>((comb T xs ys c0 k).1++[(T (comb T xs ys c0 k).2 (xs.getD k 0) (ys.getD k 0)).2],(T (comb T xs ys c0 k).2 (xs.getD k 0) (ys.getD k 0)).1)
theorem zaY (T:Nat→Nat→Nat→Nat × Nat)(xs ys:List Nat)(c0:Nat):∀ k,(comb T xs ys c0 k).1.length=k
 | 0=>rfl
 | k+1=>by rw[comb,List.length_append,zaY T xs ys c0 k];rfl
def addT (f c a b:Nat):Nat × Nat:=((c+(a+f * b)) / 1000000000,(c+(a+f * b)) % 1000000000)
def subT (f c a b:Nat):Nat × Nat :=
 if a<(c+f * b) % 1000000000 then ((c+f * b) / 1000000000+1,a+1000000000 - (c+f * b) % 1000000000) else ((c+f * b) / 1000000000,a - (c+f * b) % 1000000000)
theorem zkS (f b:Nat)(hf:f≤1000000000)(hb:b<1000000000):f * b≤999999999000000000:=by
 have h1:f * b≤1000000000 * 999999999:=Nat.mul_le_mul hf (by omega)
 omega
theorem zEy (f c a b:Nat):(addT f c a b).2+1000000000 * (addT f c a b).1=c+a+f * b:=by
 unfold addT;simp only;have:=Nat.div_add_mod (c+(a+f * b)) 1000000000;omega
theorem zEz (f c a b:Nat):(addT f c a b).2<1000000000:=Nat.mod_lt _ (by decide)
theorem zEA (f c a b:Nat)(hf:f≤1000000000)(hc:c≤1000000000)(ha:a<1000000000)(hb:b<1000000000):(addT f c a b).1≤1000000000:=by
 have:=zkS f b hf hb;unfold addT;simp only;omega
theorem zEB (f c a b:Nat):(subT f c a b).2+c+f * b=a+1000000000 * (subT f c a b).1:=by
 unfold subT;have:=Nat.div_add_mod (c+f * b) 1000000000;have:=Nat.mod_lt (c+f * b) (show 1000000000 > 0 by decide)
 split <;> simp only <;> omega
theorem zEC (f c a b:Nat)(ha:a<1000000000):(subT f c a b).2<1000000000:=by
 unfold subT;have:=Nat.mod_lt (c+f * b) (show 1000000000 > 0 by decide)
 split <;> simp only <;> omega
theorem zED (f c a b:Nat)(hf:f≤1000000000)(hc:c≤1000000000)(hb:b<1000000000):(subT f c a b).1≤1000000000:=by
 have:=zkS f b hf hb;unfold subT
 split <;> simp only <;> omega
theorem zgR (f:Nat)(xs ys:List Nat)(hf:f≤1000000000)(hx:∀ x∈xs,x<1000000000)(hy:∀ y∈ys,y<1000000000)(c0:Nat)(hc:c0≤1000000000) :
  ∀ k,(∀ z∈(comb (addT f) xs ys c0 k).1,z<1000000000)∧(comb (addT f) xs ys c0 k).2≤1000000000 ∧
   vl 1000000000 (comb (addT f) xs ys c0 k).1+1000000000 ^ k * (comb (addT f) xs ys c0 k).2=vl 1000000000 (xs.take k)+f * vl 1000000000 (ys.take k)+c0
 | 0=>by simp[comb,vl,hc]
 | k+1=>by
  obtain⟨h1,h2,h3⟩:=zgR f xs ys hf hx hy c0 hc k;have ha:=zaG 1000000000 (by decide) xs hx k;have hb:=zaG 1000000000 (by decide) ys hy k;refine⟨?_,?_,?_⟩
  ·intro z hz
   rw[comb,List.mem_append] at hz;rcases hz with hz|hz
   ·exact h1 z hz
   ·rw[List.mem_singleton] at hz;subst hz;exact zEz _ _ _ _
  ·exact zEA _ _ _ _ hf h2 ha hb
  ·rw[comb]
   simp only;rw[zea,zaY,zaw,zaw,Nat.pow_succ,Nat.mul_assoc,Nat.add_assoc (vl _ _),← Nat.mul_add,zEy,Nat.mul_add,Nat.mul_add,Nat.mul_add];have e:f * (1000000000 ^ k * ys.getD k 0)=1000000000 ^ k * (f * ys.getD k 0):=by rw[← Nat.mul_assoc,Nat.mul_comm f,Nat.mul_assoc]
   rw[e]
   omega
theorem ziz (f:Nat)(xs ys:List Nat)(hf:f≤1000000000)(hx:∀ x∈xs,x<1000000000)(hy:∀ y∈ys,y<1000000000)(c0:Nat)(hc:c0≤1000000000) :
  ∀ k,(∀ z∈(comb (subT f) xs ys c0 k).1,z<1000000000)∧(comb (subT f) xs ys c0 k).2≤1000000000 ∧
   vl 1000000000 (comb (subT f) xs ys c0 k).1+c0+f * vl 1000000000 (ys.take k)=vl 1000000000 (xs.take k)+1000000000 ^ k * (comb (subT f) xs ys c0 k).2
 | 0=>by simp[comb,vl,hc]
 | k+1=>by
  obtain⟨h1,h2,h3⟩:=ziz f xs ys hf hx hy c0 hc k;have ha:=zaG 1000000000 (by decide) xs hx k;have hb:=zaG 1000000000 (by decide) ys hy k;refine⟨?_,?_,?_⟩
  ·intro z hz
   rw[comb,List.mem_append] at hz;rcases hz with hz|hz
   ·exact h1 z hz
   ·rw[List.mem_singleton] at hz;subst hz;exact zEC _ _ _ _ ha
  ·exact zED _ _ _ _ hf h2 hb
  ·rw[comb]
   simp only;rw[zea,zaY,zaw,zaw,Nat.pow_succ,Nat.mul_assoc];have e:f * (1000000000 ^ k * ys.getD k 0)=1000000000 ^ k * (f * ys.getD k 0):=by rw[← Nat.mul_assoc,Nat.mul_comm f,Nat.mul_assoc]
   rw[Nat.mul_add f,e];have q:=congrArg (fun t=>1000000000 ^ k * t) (zEB f (comb (subT f) xs ys c0 k).2 (xs.getD k 0) (ys.getD k 0));simp only[Nat.mul_add] at q
   omega
open Go.Lib
def dval (l:List UInt8):Nat:=l.foldl (fun n c=>n * 10+(c.toNat - 48)) 0
theorem zdn (l:List UInt8)(c:UInt8):dval (l++[c])=dval l * 10+(c.toNat - 48):=by unfold dval;rw[List.foldl_append];rfl
theorem zBJ (n:Nat):dval (decDigits n)=n:=by
 induction n using Nat.strongRecOn with
 | _ n ih =>
  by_cases h:n<10
  ·rw[decDigits_one h]
   simp only[dval,List.foldl_cons,List.foldl_nil,UInt8.toNat_ofNat']
   omega
  ·rw[decDigits,dif_neg h,zdn,ih (n / 10) (by omega)]
   simp only[UInt8.toNat_ofNat']
   omega
def isDg (c:UInt8):Bool:=48≤c.toNat&&c.toNat≤57
def numL (l:List UInt8):Bool:=decide (1≤l.length)&&decide (l.length≤1000)&&l.all isDg&&(decide (l.length=1) || !(l.headD 0 == 48))
def numB (s:ByteArray):Bool:=numL s.data.toList
def decS (n:Nat):ByteArray:=⟨(decDigits n).toArray⟩
def nv (s:ByteArray):Nat:=dval s.data.toList
theorem zEE (c:UInt8)(h:isDg c=true):UInt8.ofNat (48+(c.toNat - 48) % 10)=c:=by
 unfold isDg at h;simp at h
 apply UInt8.toNat_inj.1
 rw[UInt8.toNat_ofNat']
 omega
theorem zrq:∀ (l:List UInt8),l≠[]→l.all isDg=true→(l.length=1∨l.headD 0≠48)→decDigits (dval l)=l:=by
 intro l
 induction h:l.length using Nat.strongRecOn generalizing l with
 | _ n ih =>
  intro h0 ha hh;obtain⟨l',c,rfl⟩:∃ l' c,l=l'++[c]:=⟨l.dropLast,l.getLast h0,(List.dropLast_concat_getLast h0).symm⟩;rw[List.all_append,Bool.and_eq_true] at ha;have hc:isDg c=true:=by simpa using ha.2
  have hcb:=zEE c hc
  by_cases hl:l'=[]
  ·subst hl
   have h10:c.toNat - 48<10:=by unfold isDg at hc;simp at hc;omega
   simp only[List.nil_append,dval,List.foldl_cons,List.foldl_nil,Nat.zero_mul,Nat.zero_add];rw[decDigits_one h10];rw[Nat.mod_eq_of_lt h10] at hcb;rw[hcb]
  ·have hlen:l'.length≠0:=fun e=>hl (List.eq_nil_of_length_eq_zero e)
   have hhd:l'.headD 0≠48:=by
    rcases hh with hh|hh
    ·rw[List.length_append] at h;simp at h;omega
    ·intro e;apply hh
     cases l' with
     | nil=>exact absurd rfl hl
     | cons a b=>simpa using e
   have hi:=ih l'.length (by rw[List.length_append] at h;simp at h;omega) l' rfl hl ha.1 (Or.inr hhd)
   have hz:dval l'≠0:=by
    intro e;rw[e,decDigits_one (by decide)] at hi;rw[← hi] at hhd;exact hhd rfl
   have h10:c.toNat - 48<10:=by unfold isDg at hc;simp at hc;omega
   rw[zdn,decDigits,dif_neg (by omega),show(dval l' * 10+(c.toNat - 48)) / 10=dval l' by omega,hi,
    show(dval l' * 10+(c.toNat - 48)) % 10=(c.toNat - 48) % 10 by omega,hcb]
theorem zgD (n:Nat):(decDigits n).all isDg=true:=by
 rw[decDigits_eq,List.all_eq_true];intro c hc;rw[List.mem_map] at hc;obtain⟨t,_,rfl⟩:=hc;unfold dg isDg;rw[UInt8.toNat_ofNat'];have:n / 10 ^ (nDigits n - 1 - t) % 10<10:=Nat.mod_lt _ (by decide);simp
 omega
theorem zrr (n:Nat)(h:n≠0):(decDigits n).headD 0≠48:=by
 induction n using Nat.strongRecOn with
 | _ n ih =>
  by_cases h10:n<10
  ·rw[decDigits_one h10]
   simp only[List.headD_cons];intro e;have:=congrArg UInt8.toNat e;rw[UInt8.toNat_ofNat'] at this;simp at this
   omega
  ·rw[decDigits,dif_neg h10]
   have:=ih (n / 10) (by omega) (by omega);have hl:(decDigits (n / 10)).length≠0:=by rw[decDigits_length];have:=nDigits_pos (n / 10);omega
   cases hd:decDigits (n / 10) with
   | nil=>rw[hd] at hl;exact absurd rfl hl
   | cons a b=>rw[hd] at this;simpa using this
theorem zbW (n:Nat):(decS n).size=nDigits n:=by
 show(decDigits n).toArray.size=_;rw[List.size_toArray,decDigits_length]
theorem zog (n:Nat):numB (decS n)=decide (nDigits n≤1000):=by
 unfold numB numL decS;simp only[decDigits_length];have h1:=nDigits_pos n;rw[zgD]
 by_cases h0:n=0
 ·subst h0
  rw[nDigits_small (by decide)];rfl
 ·have:=zrr n h0
  have e:(!(decDigits n).headD 0 == 48)=true:=by simpa using this
  rw[e];simp
  omega
theorem zaD (n:Nat):nv (decS n)=n:=zBJ n
theorem zbG (s:ByteArray)(h:numB s=true):s=decS (nv s)∧nDigits (nv s)≤1000:=by
 have h':=h;unfold numB numL at h;simp only[Bool.and_eq_true,Bool.or_eq_true,decide_eq_true_eq,Bool.not_eq_true',beq_eq_false_iff_ne] at h;obtain⟨⟨⟨h1,h2⟩,h3⟩,h4⟩:=h;have e:=zrq s.data.toList (by intro e;rw[e] at h1;simp at h1) h3 h4
 have e2:s=decS (nv s):=by
  unfold decS nv;rw[e]
 refine⟨e2,?_⟩;rw[← zbW,← e2];exact h2
theorem zkT {m n:Nat}(h:decS m=decS n):m=n:=by rw[← zaD m,h,zaD]
theorem zbH {m n:Nat}(h:m≤n):nDigits m≤nDigits n:=by
 induction n using Nat.strongRecOn generalizing m with
 | _ n ih =>
  by_cases hn:n<10
  ·rw[nDigits_small hn,nDigits_small (by omega)];exact Nat.le_refl _
  ·rw[nDigits_big hn]
   by_cases hm:m<10
   ·rw[nDigits_small hm];omega
   ·rw[nDigits_big hm]
    have:=ih (n / 10) (by omega) (show m / 10≤n / 10 by omega)
    omega
theorem zdK (B:Nat)(l:List Nat)(q:Nat):vl B (l.drop q)=l.getD q 0+B * vl B (l.drop (q+1)):=by
 by_cases h:q<l.length
 ·rw[zjE l q h,vl]
 ·rw[zgQ l q h,List.drop_eq_nil_of_le (by omega),List.drop_eq_nil_of_le (by omega)];simp[vl]
structure zfd (len i v:Nat)(xs:List Nat):Prop where
 length:xs.length=(len+8) / 9
 lt:∀ x∈xs,x<1000000000
 zero:∀ j,j<(len - i) / 9→xs.getD j 0=0
 top:xs.getD ((len - i) / 9) 0<10 ^ (9 - (len - i) % 9)
 val:v=xs.getD ((len - i) / 9) 0+10 ^ (9 - (len - i) % 9) * vl 1000000000 (xs.drop ((len - i) / 9+1))
theorem zeb (n k:Nat):(List.replicate n 0).getD k 0=0:=by
 rw[List.getD_eq_getElem?_getD,List.getElem?_replicate];split <;> rfl
theorem zdL (l:List Nat)(i j x:Nat)(h:i<l.length):(l.set i x).getD j 0=if i=j then x else l.getD j 0:=by
 rw[List.getD_eq_getElem?_getD,List.getElem?_set]
 split
 ·rfl
 ·rfl
theorem zfd.start (len:Nat):zfd len 0 0 (List.replicate ((len+8) / 9) 0):=by
 refine⟨by simp,?_,fun j _=>zeb _ _,?_,?_⟩
 ·intro x hx;rw[List.mem_replicate] at hx;rw[hx.2];decide
 ·rw[zeb];exact Nat.pow_pos (by decide)
 ·rw[zeb,List.drop_replicate,zfv];simp
theorem zfd.bound {len i v:Nat}{xs:List Nat}(h:zfd len i v xs)(hi:i<len):xs.getD ((len - 1 - i) / 9) 0≤99999999:=by
 by_cases hr:(len - i) % 9=0
 ·rw[h.zero _ (by omega)];omega
 ·have ht:=h.top
  rw[show(len - 1 - i) / 9=(len - i) / 9 by omega];have:10 ^ (9 - (len - i) % 9)≤10 ^ 8:=Nat.pow_le_pow_right (by decide) (by omega)
  omega
theorem zfd.step {len i v:Nat}{xs:List Nat}(h:zfd len i v xs)(hi:i<len)(d:Nat)(hd:d<10) :
  zfd len (i+1) (v * 10+d) (xs.set ((len - 1 - i) / 9) (xs.getD ((len - 1 - i) / 9) 0 * 10+d)):=by
 have hb:=h.bound hi;have hl:(len - 1 - i) / 9<xs.length:=by rw[h.length];omega
 have hlt:∀ x∈xs.set ((len - 1 - i) / 9) (xs.getD ((len - 1 - i) / 9) 0 * 10+d),x<1000000000:=by
  intro x hx;rcases List.mem_or_eq_of_mem_set hx with hx|rfl
  ·exact h.lt x hx
  ·omega
 by_cases hr:(len - i) % 9=0
 ·have e1:(len - (i+1)) / 9=(len - 1 - i) / 9:=by omega
  have e2:(len - (i+1)) % 9=8:=by omega
  have e3:(len - 1 - i) / 9+1=(len - i) / 9:=by omega
  have hz:xs.getD ((len - 1 - i) / 9) 0=0:=h.zero _ (by omega);refine⟨by rw[List.length_set];exact h.length,hlt,fun j hj => ?_,?_,?_⟩
  ·rw[zdL _ _ _ _ hl,if_neg (by omega)];exact h.zero j (by omega)
  ·rw[e1,e2,zdL _ _ _ _ hl,if_pos rfl,hz];simp;omega
  ·rw[e1,e2,zdL _ _ _ _ hl,if_pos rfl,hz,e3,List.drop_set_of_lt (by omega),zdK,h.val,hr]
   simp only[Nat.sub_zero];rw[show(10:Nat) ^ 9=1000000000 by decide,show 9 - 8=1 by decide,Nat.pow_one]
   omega
 ·have e1:(len - (i+1)) / 9=(len - i) / 9:=by omega
  have e0:(len - 1 - i) / 9=(len - i) / 9:=by omega
  have e2:9 - (len - (i+1)) % 9=9 - (len - i) % 9+1:=by omega
  rw[e0] at hl hb hlt ⊢;have ht:=h.top;refine⟨by rw[List.length_set];exact h.length,hlt,fun j hj => ?_,?_,?_⟩
  ·rw[zdL _ _ _ _ hl,if_neg (by omega)];exact h.zero j (by omega)
  ·rw[e1,e2,zdL _ _ _ _ hl,if_pos rfl,Nat.pow_succ]
   omega
  ·rw[e1,e2,zdL _ _ _ _ hl,if_pos rfl,List.drop_set_of_lt (by omega),h.val,Nat.pow_succ]
   rw[Nat.add_mul,Nat.mul_right_comm _ 10]
   omega
theorem zfd.fin {len v:Nat}{xs:List Nat}(h:zfd len len v xs):v=vl 1000000000 xs:=by
 have:=h.val;rw[Nat.sub_self] at this;have e:=zdK 1000000000 xs 0;rw[List.drop_zero] at e;rw[this,e]
def pad (k v:Nat):List UInt8:=(List.range k).map fun t=>dg v (k - 1 - t)
theorem zmG (k v:Nat):(pad k v).length=k:=by simp[pad]
theorem zkU (v:Nat):decDigits v=pad (nDigits v) v:=decDigits_eq v
theorem zgS (k v:Nat):pad (k+1) v=dg v k::pad k v:=by
 unfold pad;rw[List.range_succ_eq_map,List.map_cons,List.map_map]
 congr 1
 apply List.map_congr_left
 intro t ht;simp only[Function.comp]
 congr 1
 omega
theorem zEF (v k:Nat)(h:v<10 ^ k):dg v k=48:=by
 unfold dg;rw[Nat.div_eq_of_lt h];rfl
theorem zyo (k v:Nat)(h:v<10 ^ k):(pad k v).dropWhile (· == 48)=if v=0 then [] else decDigits v:=by
 induction k with
 | zero =>
  have:v=0:=by simpa using h
  subst this
  rfl
 | succ k ih =>
  rw[zgS]
  by_cases hk:v<10 ^ k
  ·rw[zEF v k hk,List.dropWhile_cons]
   simp only[beq_self_eq_true,if_true];exact ih hk
  ·have hp:0<10 ^ k:=Nat.pow_pos (by decide)
   have hn:nDigits v=k+1:=nDigits_unique k v (by omega) h;rw[if_neg (by omega),zkU,hn,zgS,List.dropWhile_cons];rw[if_neg];have:=zrr v (by omega);rw[zkU,hn,zgS,List.headD_cons] at this
   simpa using this
theorem zBK (xs:List Nat)(i j:Nat)(hx:∀ x∈xs,x<1000000000)(hj:j<9):dg (vl 1000000000 xs) (9 * i+j)=UInt8.ofNat (48+xs.getD i 0 / 10 ^ j % 10):=by
 unfold dg
 congr 2
 by_cases hi:i<xs.length
 ·have h1:=zeI 1000000000 xs i (by omega)
  have h2:=zbm 1000000000 (xs.take i) (fun x h=>hx x (List.mem_of_mem_take h));rw[List.length_take,Nat.min_eq_left (by omega)] at h2;rw[zdK] at h1;have hp:(10:Nat) ^ (9 * i+j)=1000000000 ^ i * 10 ^ j:=by rw[Nat.pow_add,Nat.pow_mul]
  rw[hp,← Nat.div_div_eq_div_mul,h1,Nat.add_mul_div_left _ _ (Nat.pow_pos (by decide)),Nat.div_eq_of_lt h2,Nat.zero_add];have e:(1000000000:Nat)=10 ^ j * 10 ^ (9 - j):=by rw[← Nat.pow_add,show j+(9 - j)=9 by omega]
  generalize vl 1000000000 (xs.drop (i+1))=R;generalize xs.getD i 0=x;rw[e,Nat.mul_assoc,Nat.add_mul_div_left _ _ (Nat.pow_pos (by decide))];obtain⟨r,hr⟩:∃ r,9 - j=r+1:=⟨8 - j,by omega⟩;rw[hr,Nat.pow_succ,Nat.mul_comm (10 ^ r) 10,Nat.mul_assoc]
  omega
 ·rw[zgQ xs i hi,Nat.zero_div,Nat.zero_mod]
  have h2:=zbm 1000000000 xs hx;have h3:1000000000 ^ xs.length≤1000000000 ^ i:=Nat.pow_le_pow_right (by decide) (by omega)
  have h4:(1000000000:Nat) ^ i≤10 ^ (9 * i+j):=by
   rw[Nat.pow_add,Nat.pow_mul];exact Nat.le_mul_of_pos_right _ (Nat.pow_pos (by decide))
  rw[Nat.div_eq_of_lt (by omega)]
theorem zyp (xs:List Nat)(hx:∀ x∈xs,x<1000000000):vl 1000000000 xs<10 ^ (9 * xs.length):=by
 have:=zbm 1000000000 xs hx;rw[Nat.pow_mul];exact this
structure DInv (U m1 c Y a r:Nat):Prop where
 eq:c * a+r=U
 ge:(4294967296 * U+m1) / Y≤a
 le:a≤4294967297
section
variable {U m1 c d Y a r:Nat}
theorem zrs (h:DInv U m1 c Y a r)(hY:Y=4294967296 * c+d):Y * a+4294967296 * r=4294967296 * U+d * a:=by
 have:=h.eq;rw[hY,← this,Nat.add_mul,Nat.mul_assoc,Nat.mul_add]
 omega
theorem DInv.start (hY:Y=4294967296 * c+d)(hc:2147483648≤c)(hd:d<4294967296)(hm:m1<4294967296)(hU:U<Y):DInv U m1 c Y (U / c) (U - c * (U / c)):=by
 have hdm:=Nat.div_add_mod U c;have hlt:=Nat.mod_lt U (show c > 0 by omega);refine⟨by omega,?_,?_⟩
 ·apply Nat.le_of_lt_succ
  rw[Nat.div_lt_iff_lt_mul (by omega)];show 4294967296 * U+m1<(U / c+1) * Y;rw[Nat.add_mul,Nat.one_mul,Nat.mul_comm (U / c) Y];have e:Y * (U / c)=4294967296 * (c * (U / c))+d * (U / c):=by rw[hY,Nat.add_mul,Nat.mul_assoc]
  rw[e]
  omega
 ·apply Nat.le_of_lt_succ
  rw[Nat.div_lt_iff_lt_mul (by omega)]
  omega
theorem DInv.rest_lt (hc:2147483648≤c):U - c * (U / c)<c:=by
 have hdm:=Nat.div_add_mod U c;have hlt:=Nat.mod_lt U (show c > 0 by omega)
 omega
theorem DInv.down (h:DInv U m1 c Y a r)(hY:Y=4294967296 * c+d)(hc:2147483648≤c)(hd:d<4294967296)(hm:m1<4294967296)(hU:U<Y)
  (ht:4294967296≤a∨4294967296 * r+m1<d * a):1≤a∧DInv U m1 c Y (a - 1) (r+c):=by
 have hq:(4294967296 * U+m1) / Y<a:=by
  have hmul:=zrs h hY;rw[Nat.div_lt_iff_lt_mul (by omega),Nat.mul_comm a Y];rcases ht with ht|ht
  ·have h1:4294967296 * Y≤a * Y:=Nat.mul_le_mul_right Y ht
   rw[Nat.mul_comm a Y] at h1;refine Nat.lt_of_lt_of_le ?_ h1;clear h1 hmul ht h
   omega
  ·clear hY hU hc hd h
   omega
 have ha:1≤a:=Nat.lt_of_le_of_lt (Nat.zero_le _) hq;refine⟨ha,?_,Nat.le_sub_one_of_lt hq,by have:=h.le;omega⟩;have:=h.eq;have e:c * a=c * (a - 1)+c:=by rw[← Nat.mul_succ];congr 1;omega
 omega
theorem DInv.done (h:DInv U m1 c Y a r)(hY:Y=4294967296 * c+d)(hc:2147483648≤c)(ht:d * a≤4294967296 * r+m1) :
  a=(4294967296 * U+m1) / Y:=by
 have h2:a≤(4294967296 * U+m1) / Y:=by
  have hmul:=zrs h hY;rw[Nat.le_div_iff_mul_le (by omega),Nat.mul_comm a Y];clear hY hc h
  omega
 exact Nat.le_antisymm h2 h.ge
theorem DInv.prod (h:DInv U m1 c Y a r)(hd:d<4294967296):d * a≤18446744073709551615:=by
 have:d * a≤4294967295 * 4294967297:=Nat.mul_le_mul (by omega) h.le
 omega
theorem DInv.out (h:DInv U m1 c Y a r)(hY:Y=4294967296 * c+d)(hc:2147483648≤c)(hd:d<4294967296)(ha:a≤4294967296)(hr:4294967296≤r) :
  a=(4294967296 * U+m1) / Y:=by
 refine h.done hY hc ?_;have:d * a≤4294967295 * 4294967296:=Nat.mul_le_mul (by omega) ha
 omega
end
theorem zyq (s:Nat)(hs:s≤63):(2:Nat) ^ 64=2 ^ s * 2 ^ (64 - s):=by rw[← Nat.pow_add];congr 1;omega
theorem zyr (hi lo y s:Nat)(hs:s≤63)(h2:hi<y)(hlo:lo<18446744073709551616)(hY:y * 2 ^ s<18446744073709551616) :
  hi * 2 ^ s<y * 2 ^ s∧lo / 2 ^ (64 - s)<2 ^ s∧(hi * 2 ^ s) ||| (lo / 2 ^ (64 - s))=hi * 2 ^ s+lo / 2 ^ (64 - s)∧hi * 2 ^ s+lo / 2 ^ (64 - s)<y * 2 ^ s ∧
  (18446744073709551616 * hi+lo) * 2 ^ s=18446744073709551616 * (hi * 2 ^ s+lo / 2 ^ (64 - s))+lo * 2 ^ s % 18446744073709551616:=by
 have hp:0<2 ^ s:=Nat.two_pow_pos s;have e64:(18446744073709551616:Nat)=2 ^ s * 2 ^ (64 - s):=zyq s hs;have a2:lo / 2 ^ (64 - s)<2 ^ s:=by rw[Nat.div_lt_iff_lt_mul (Nat.two_pow_pos _),← e64];exact hlo
 have a1:hi * 2 ^ s+2 ^ s≤y * 2 ^ s:=by rw[← Nat.succ_mul];exact Nat.mul_le_mul_right _ h2
 refine⟨by omega,a2,?_,by omega,?_⟩
 ·rw[Nat.mul_comm hi,Nat.two_pow_add_eq_or_of_lt a2]
 ·have e:lo * 2 ^ s / 18446744073709551616=lo / 2 ^ (64 - s):=by
   rw[e64,Nat.mul_comm lo,Nat.mul_div_mul_left _ _ hp]
  have h3:=Nat.div_add_mod (lo * 2 ^ s) 18446744073709551616;rw[e] at h3;rw[Nat.add_mul,Nat.mul_add,Nat.add_assoc,h3,Nat.mul_assoc]
theorem zBL (U m1 m0 Y:Nat)(hY:0<Y) :
  (18446744073709551616 * U+(4294967296 * m1+m0)) / Y=4294967296 * ((4294967296 * U+m1) / Y)+(4294967296 * ((4294967296 * U+m1) % Y)+m0) / Y:=by
 have h1:=Nat.div_add_mod (4294967296 * U+m1) Y
 have e:18446744073709551616 * U+(4294967296 * m1+m0)=Y * (4294967296 * ((4294967296 * U+m1) / Y))+(4294967296 * ((4294967296 * U+m1) % Y)+m0):=by
  have h2:Y * (4294967296 * ((4294967296 * U+m1) / Y))=4294967296 * (Y * ((4294967296 * U+m1) / Y)):=by rw[← Nat.mul_assoc,Nat.mul_comm Y,Nat.mul_assoc]
  rw[h2]
  omega
 rw[e,Nat.add_comm,Nat.add_mul_div_left _ _ hY,Nat.add_comm]
theorem zpD (U m Y:Nat)(hY:0<Y)(hU:U<Y)(hm:m<4294967296):(4294967296 * U+m) / Y<4294967296:=by
 rw[Nat.div_lt_iff_lt_mul hY]
 omega
def bAt (xs:List Nat)(i:Int):Nat:=if i<0 then 0 else xs.getD i.toNat 0
structure zEG (xs ys:List Nat)(N Y2:Nat):Prop where
 lo:vl 1000000000 xs / vl 1000000000 ys≤N / Y2
 hi:N / Y2≤vl 1000000000 xs / vl 1000000000 ys+1
 le:N / Y2≤1000000000
 lt:N<1000000001 * Y2
 ge:1000000000≤Y2
theorem zrt (xs ys:List Nat)(m:Nat)(hm:ys.length=m+1)(hl:xs.length=m+2)(hx:∀ x∈xs,x<1000000000)(hy:∀ y∈ys,y<1000000000)(hyt:zbK ys)
  (hlt:vl 1000000000 xs<1000000000 * vl 1000000000 ys) :
  zEG xs ys (1000000000 * (1000000000 * xs.getD (m+1) 0+xs.getD m 0)+bAt xs ((m:Int) - 1)) (1000000000 * ys.getD m 0+bAt ys ((m:Int) - 1)):=by
 have hy0:ys.getD m 0≠0:=by
  have:=hyt (by intro e;rw[e] at hm;simp at hm);rw[List.getLast_eq_getElem] at this;rw[List.getD_eq_getElem?_getD,List.getElem?_eq_getElem (by omega)];simp only[Option.getD_some];have e:ys.length - 1=m:=by omega
  simp only[e] at this;exact this
 have hxs:=zaw 1000000000 xs (m+1);rw[List.take_of_length_le (by omega),zaw] at hxs;have hys:=zaw 1000000000 ys m;rw[List.take_of_length_le (by omega)] at hys;cases m with
 | zero =>
  simp only[List.take_zero,vl,Nat.zero_add,Nat.pow_zero,Nat.one_mul,Nat.pow_one] at hxs hys;have e1:bAt xs (((0:Nat):Int) - 1)=0:=by unfold bAt;rw[if_pos (by omega)]
  have e2:bAt ys (((0:Nat):Int) - 1)=0:=by unfold bAt;rw[if_pos (by omega)]
  rw[e1,e2];simp only[Nat.add_zero,Nat.zero_add] at *;have hN:1000000000 * xs.getD 1 0+xs.getD 0 0=vl 1000000000 xs:=by omega
  rw[hN,← hys];have ed:1000000000 * vl 1000000000 xs / (1000000000 * vl 1000000000 ys)=vl 1000000000 xs / vl 1000000000 ys:=Nat.mul_div_mul_left _ _ (by decide);have hq:vl 1000000000 xs / vl 1000000000 ys<1000000000:=by rw[Nat.div_lt_iff_lt_mul (by omega)];exact hlt
  refine⟨by rw[ed];exact Nat.le_refl _,by rw[ed];omega,by rw[ed];omega,by omega,by omega⟩
 | succ k =>
  have e1:bAt xs (((k+1:Nat):Int) - 1)=xs.getD k 0:=by unfold bAt;rw[if_neg (by omega)];congr 1;omega
  have e2:bAt ys (((k+1:Nat):Int) - 1)=ys.getD k 0:=by unfold bAt;rw[if_neg (by omega)];congr 1;omega
  rw[e1,e2];rw[zaw] at hxs hys;have hp:=zbm 1000000000 (xs.take k) (fun x h=>hx x (List.mem_of_mem_take h));have hp2:=zbm 1000000000 (ys.take k) (fun x h=>hy x (List.mem_of_mem_take h));rw[List.length_take,Nat.min_eq_left (by omega)] at hp hp2;have p1:(1000000000:Nat) ^ (k+1)=1000000000 * 1000000000 ^ k:=by rw[Nat.pow_succ,Nat.mul_comm]
  have p2:(1000000000:Nat) ^ (k+1+1)=1000000000 * (1000000000 * 1000000000 ^ k):=by rw[Nat.pow_succ,Nat.mul_comm,p1]
  rw[p1,p2] at hxs;rw[p1] at hys;have hS:0<(1000000000:Nat) ^ k:=Nat.pow_pos (by decide);generalize (1000000000:Nat) ^ k=S at *;generalize xs.getD (k+1+1) 0=x1 at *;generalize xs.getD (k+1) 0=x2 at *;generalize xs.getD k 0=x3 at *;generalize ys.getD (k+1) 0=y1 at *;have hy2:ys.getD k 0<1000000000:=zaG _ (by decide) ys hy k;generalize ys.getD k 0=y2 at *;generalize vl 1000000000 (xs.take k)=p at *;generalize vl 1000000000 (ys.take k)=p' at *
  have eN:S * (1000000000 * (1000000000 * x1+x2)+x3)=1000000000 * (1000000000 * S) * x1+1000000000 * S * x2+S * x3:=by
   simp only[Nat.mul_add]
   congr 1
   ·congr 1
    ·rw[← Nat.mul_assoc,Nat.mul_comm S 1000000000,← Nat.mul_assoc,Nat.mul_assoc 1000000000 S,Nat.mul_comm S 1000000000]
    ·rw[← Nat.mul_assoc,Nat.mul_comm S]
  have eY:S * (1000000000 * y1+y2)=1000000000 * S * y1+S * y2:=by
   rw[Nat.mul_add,← Nat.mul_assoc,Nat.mul_comm S]
  have hX:vl 1000000000 xs=p+S * (1000000000 * (1000000000 * x1+x2)+x3):=by rw[eN];omega
  have hY:vl 1000000000 ys=p'+S * (1000000000 * y1+y2):=by rw[eY];omega
  have hYb:1000000000≤1000000000 * y1+y2:=by omega
  clear hxs hys eN eY p1 p2 e1 e2 hy0;rw[hX,hY] at hlt;generalize 1000000000 * (1000000000 * x1+x2)+x3=N at *;generalize 1000000000 * y1+y2=Y at *;have hSY:S * 1≤S * Y:=Nat.mul_le_mul_left _ (by omega)
  have hNY:N<1000000001 * Y:=by
   have h1:S * N<S * (1000000000 * (Y+1)):=by
    have:S * (1000000000 * (Y+1))=1000000000 * (S * Y+S):=by rw[← Nat.mul_assoc,Nat.mul_comm S 1000000000,Nat.mul_assoc,Nat.mul_add,Nat.mul_one]
    rw[this]
    omega
   have h2:=Nat.lt_of_mul_lt_mul_left h1
   omega
  have hQ:N / Y≤1000000000:=by
   apply Nat.le_of_lt_succ
   rw[Nat.div_lt_iff_lt_mul (by omega)];exact hNY
  refine⟨?_,?_,hQ,hNY,hYb⟩
  ·rw[hX,hY,Nat.le_div_iff_mul_le (by omega)]
   have h1:=Nat.div_mul_le_self (p+S * N) (p'+S * Y);generalize (p+S * N) / (p'+S * Y)=q at *
   have h2:S * (q * Y)≤q * (p'+S * Y):=by
    rw[Nat.mul_add];have:q * (S * Y)=S * (q * Y):=by rw[← Nat.mul_assoc,Nat.mul_comm q S,Nat.mul_assoc]
    omega
   have h3:S * (q * Y)<S * (N+1):=by rw[Nat.mul_add,Nat.mul_one];omega
   have h4:=Nat.lt_of_mul_lt_mul_left h3
   omega
  ·have h1:=Nat.div_mul_le_self N Y
   generalize N / Y=q at *;rcases Nat.eq_zero_or_pos q with rfl|hq
   ·exact Nat.zero_le _
   obtain⟨t,rfl⟩:∃ t,q=t+1:=⟨q - 1,by omega⟩
   apply Nat.succ_le_succ
   rw[hX,hY,Nat.le_div_iff_mul_le (by omega)];have h2:S * ((t+1) * Y)≤S * N:=Nat.mul_le_mul_left _ h1;rw[Nat.add_mul,Nat.one_mul,Nat.mul_add] at h2
   have h3:t * (p'+S * Y)=t * p'+S * (t * Y):=by
    rw[Nat.mul_add,← Nat.mul_assoc,Nat.mul_comm t S,Nat.mul_assoc]
   have h4:t * p'≤Y * S:=Nat.mul_le_mul (by omega) (by omega);rw[Nat.mul_comm Y S] at h4;rw[h3]
   omega
def zEH (P vy qh:Nat)(part ys p1:List Nat)(c:Nat)(p2:List Nat):Prop :=
 (c=0→qh=P / vy∧vl 1000000000 p1=P % vy)∧(0<c→qh=P / vy+1∧vl 1000000000 p2=P % vy)
theorem zBM (part ys:List Nat)(qh:Nat)(hp:∀ x∈part,x<1000000000)(hy:∀ y∈ys,y<1000000000)(hl:part.length=ys.length+1)(hv:0<vl 1000000000 ys)
  (h1:vl 1000000000 part / vl 1000000000 ys≤qh) (h2:qh≤vl 1000000000 part / vl 1000000000 ys+1) (h3:qh≤1000000000) :
  (∀ z∈(comb (subT qh) part ys 0 (ys.length+1)).1,z<1000000000) ∧
  (∀ z∈(comb (addT 1) (comb (subT qh) part ys 0 (ys.length+1)).1 ys 0 (ys.length+1)).1,z<1000000000) ∧
  zEH (vl 1000000000 part) (vl 1000000000 ys) qh part ys (comb (subT qh) part ys 0 (ys.length+1)).1 (comb (subT qh) part ys 0 (ys.length+1)).2 (comb (addT 1) (comb (subT qh) part ys 0 (ys.length+1)).1 ys 0 (ys.length+1)).1:=by
 obtain⟨a1,a2,a3⟩:=ziz qh part ys h3 hp hy 0 (by decide) (ys.length+1);have a4:=zaY (subT qh) part ys 0 (ys.length+1);have t1:ys.take (ys.length+1)=ys:=List.take_of_length_le (by omega);have t2:part.take (ys.length+1)=part:=List.take_of_length_le (by omega);have t3:(comb (subT qh) part ys 0 (ys.length+1)).1.take (ys.length+1)=(comb (subT qh) part ys 0 (ys.length+1)).1:=List.take_of_length_le (by omega);rw[t1,t2,Nat.add_zero] at a3;obtain⟨b1,b2,b3⟩:=zgR 1 (comb (subT qh) part ys 0 (ys.length+1)).1 ys (by decide) a1 hy 0 (by decide) (ys.length+1);have b4:=zaY (addT 1) (comb (subT qh) part ys 0 (ys.length+1)).1 ys 0 (ys.length+1);rw[t1,t3,Nat.one_mul,Nat.add_zero] at b3;have c1:=zbm 1000000000 _ a1;have c2:=zbm 1000000000 _ b1;have c3:=zbm 1000000000 ys hy;rw[a4] at c1;rw[b4] at c2;have hpow:(1000000000:Nat) ^ ys.length≤1000000000 ^ (ys.length+1):=Nat.pow_le_pow_right (by decide) (by omega);refine⟨a1,b1,?_,?_⟩
 all_goals
  generalize (comb (addT 1) (comb (subT qh) part ys 0 (ys.length+1)).1 ys 0 (ys.length+1))=q2 at *;generalize comb (subT qh) part ys 0 (ys.length+1)=q1 at *;generalize vl 1000000000 part=P at *;generalize vl 1000000000 ys=V at *;generalize (1000000000:Nat) ^ (ys.length+1)=T at *;generalize (1000000000:Nat) ^ ys.length=T0 at *;have hdm:=Nat.div_add_mod P V;have hml:=Nat.mod_lt P hv;generalize P % V=r at *;generalize P / V=d at *;clear a1 b1 hp hy a4 b4 hl t1 t2 t3;intro hc
 ·rw[hc,Nat.mul_zero,Nat.add_zero] at a3
  have hq:qh=d:=by
   rcases Nat.lt_or_ge d qh with h|h
   ·obtain rfl:qh=d+1:=by omega
    rw[Nat.add_mul,Nat.one_mul,Nat.mul_comm d V] at a3
    omega
   ·omega
  refine⟨hq,?_⟩;rw[hq,Nat.mul_comm d V] at a3
  omega
 ·have hT:T * 1≤T * q1.2:=Nat.mul_le_mul_left _ hc
  have hq:qh=d+1:=by
   rcases Nat.lt_or_ge d qh with h|h
   ·omega
   ·obtain rfl:qh=d:=by omega
    rw[Nat.mul_comm qh V] at a3
    omega
  rw[hq,Nat.add_mul,Nat.one_mul,Nat.mul_comm d V] at a3
  have hc1:q1.2=1:=by
   rcases Nat.lt_or_ge 1 q1.2 with h|h
   ·have:T * 2≤T * q1.2:=Nat.mul_le_mul_left _ h
    omega
   ·omega
  rw[hc1,Nat.mul_one] at a3
  have hc2:q2.2=1:=by
   rcases Nat.lt_or_ge 1 q2.2 with h|h
   ·have:T * 2≤T * q2.2:=Nat.mul_le_mul_left _ h
    omega
   ·rcases Nat.eq_zero_or_pos q2.2 with h0|h0
    ·rw[h0,Nat.mul_zero] at b3;omega
    ·omega
  rw[hc2,Nat.mul_one] at b3;exact⟨hq,by omega⟩
structure zdM (xs ys:List Nat)(k:Nat)(zs qs:List Nat):Prop where
 zlen:zs.length=xs.length+1
 qlen:qs.length=xs.length - ys.length+1
 zlt:∀ z∈zs,z<1000000000
 qlt:∀ z∈qs,z<1000000000
 val:vl 1000000000 (qs.drop k) * vl 1000000000 ys * 1000000000 ^ k+vl 1000000000 zs=vl 1000000000 xs
 lt:vl 1000000000 (zs.drop k)<vl 1000000000 ys
section
variable {xs ys zs qs:List Nat} {k:Nat}
theorem zdM.start (hx:∀ x∈xs,x<1000000000)(hyt:zbK ys)(h0:ys≠[])(hle:ys.length≤xs.length) :
  zdM xs ys (xs.length - ys.length+1) (xs++[0]) (List.replicate (xs.length - ys.length+1) 0):=by
 have hyl:0<ys.length:=List.length_pos_iff.2 h0
 have hz:∀ z∈xs++[0],z<1000000000:=by
  intro z hz;rcases List.mem_append.1 hz with h|h
  ·exact hx z h
  ·rw[List.mem_singleton.1 h];decide
 refine⟨by simp,by simp,hz,fun z h=>by rw[(List.mem_replicate.1 h).2];decide,?_,?_⟩
 ·rw[List.drop_eq_nil_of_le (by simp),zea];simp[vl]
 ·have ht:=zjF 1000000000 ys h0 hyt
  have e:(xs++[0]).drop (xs.length - ys.length+1)=xs.drop (xs.length - ys.length+1)++[0]:=by
   rw[List.drop_append_of_le_length (by omega)]
  rw[e,zea,Nat.mul_zero,Nat.add_zero];have h2:=zbm 1000000000 (xs.drop (xs.length - ys.length+1)) (fun x h=>hx x (List.mem_of_mem_drop h));rw[List.length_drop,show xs.length - (xs.length - ys.length+1)=ys.length - 1 by omega] at h2
  omega
theorem zdM.part (h:zdM xs ys (k+1) zs qs)(hk:k+1≤xs.length - ys.length+1)(hle:ys.length≤xs.length)(hy:∀ y∈ys,y<1000000000) :
  vl 1000000000 (zs.drop (k+(ys.length+1)))=0∧((zs.drop k).take (ys.length+1)).length=ys.length+1∧(∀ z∈(zs.drop k).take (ys.length+1),z<1000000000) ∧
  vl 1000000000 ((zs.drop k).take (ys.length+1))<1000000000 * vl 1000000000 ys∧vl 1000000000 (zs.drop k)=vl 1000000000 ((zs.drop k).take (ys.length+1)):=by
 have hl:=h.zlen;have hyv:=zbm 1000000000 ys hy;have h1:=zeI 1000000000 (zs.drop (k+1)) ys.length (by rw[List.length_drop];omega);rw[List.drop_drop] at h1;have hlt:=h.lt
 have hz:vl 1000000000 (zs.drop (k+1+ys.length))=0:=by
  rcases Nat.eq_zero_or_pos (vl 1000000000 (zs.drop (k+1+ys.length))) with e|e
  ·exact e
  ·have:1000000000 ^ ys.length * 1≤1000000000 ^ ys.length * vl 1000000000 (zs.drop (k+1+ys.length)):=Nat.mul_le_mul_left _ e
   omega
 have e1:k+1+ys.length=k+(ys.length+1):=by omega
 rw[e1] at hz;have h2:=zeI 1000000000 (zs.drop k) (ys.length+1) (by rw[List.length_drop];omega);rw[List.drop_drop,hz,Nat.mul_zero,Nat.add_zero] at h2;have h3:=zdK 1000000000 zs k;have hzk:=zaG 1000000000 (by decide) zs h.zlt k;exact⟨hz,by rw[List.length_take,List.length_drop];omega,fun z hm=>h.zlt z (List.mem_of_mem_drop (List.mem_of_mem_take hm)),by omega,h2⟩
theorem zdM.step (h:zdM xs ys (k+1) zs qs)(hk:k+1≤xs.length - ys.length+1)(hle:ys.length≤xs.length)(hy:∀ y∈ys,y<1000000000)(hv:0<vl 1000000000 ys)
  (p:List Nat) (q:Nat) (hpl:p.length=ys.length+1) (hp:∀ z∈p,z<1000000000)
  (hq:q=vl 1000000000 ((zs.drop k).take (ys.length+1)) / vl 1000000000 ys) (hpv:vl 1000000000 p=vl 1000000000 ((zs.drop k).take (ys.length+1)) % vl 1000000000 ys) :
  zdM xs ys k (zs.take k++p++zs.drop (k+(ys.length+1))) (qs.set k q):=by
 obtain⟨a1,a2,a3,a4,a5⟩:=h.part hk hle hy;have hl:=h.zlen;have hql:=h.qlen;have hqb:q<1000000000:=by rw[hq,Nat.div_lt_iff_lt_mul hv];exact a4
 have hdm:=Nat.div_add_mod (vl 1000000000 ((zs.drop k).take (ys.length+1))) (vl 1000000000 ys);have hml:=Nat.mod_lt (vl 1000000000 ((zs.drop k).take (ys.length+1))) hv;rw[← hq,← hpv] at hdm;rw[← hpv] at hml;have htk:(zs.take k).length=k:=by rw[List.length_take];omega
 refine⟨?_,by rw[List.length_set];exact hql,?_,?_,?_,?_⟩
 ·rw[List.length_append,List.length_append,htk,List.length_drop,hpl];omega
 ·intro z hz
  rcases List.mem_append.1 hz with hz|hz
  ·rcases List.mem_append.1 hz with hz|hz
   ·exact h.zlt z (List.mem_of_mem_take hz)
   ·exact hp z hz
  ·exact h.zlt z (List.mem_of_mem_drop hz)
 ·intro z hz
  rcases List.mem_or_eq_of_mem_set hz with hz|rfl
  ·exact h.qlt z hz
  ·exact hqb
 ·have hsp:=zeI 1000000000 zs k (by omega)
  have hqd:=zdK 1000000000 (qs.set k q) k;rw[zdL _ _ _ _ (by omega),if_pos rfl,List.drop_set_of_lt (show k<k+1 by omega)] at hqd;have hval:=h.val;rw[hqd,zcj,zcj,a1,Nat.mul_zero,Nat.add_zero,htk];rw[hsp,a5,← hdm,Nat.pow_succ] at hval;rw[← hval,Nat.add_mul,Nat.add_mul,Nat.mul_add];generalize vl 1000000000 (qs.drop (k+1))=Q;generalize vl 1000000000 ys=V;generalize vl 1000000000 (zs.take k)=A;generalize vl 1000000000 p=R;generalize (1000000000:Nat) ^ k=T;have e1:q * V * T=T * (V * q):=by rw[Nat.mul_comm T,Nat.mul_comm q V]
  have e2:1000000000 * Q * V * T=Q * V * (T * 1000000000):=by
   rw[Nat.mul_comm T,← Nat.mul_assoc,Nat.mul_comm (Q * V) 1000000000,← Nat.mul_assoc]
  rw[e1,e2]
  omega
 ·rw[List.append_assoc,List.drop_append_of_le_length (by omega),List.drop_of_length_le (by omega),List.nil_append,zcj,a1,Nat.mul_zero,Nat.add_zero]
  exact hml
theorem zdM.fin (h:zdM xs ys 0 zs qs):vl 1000000000 qs=vl 1000000000 xs / vl 1000000000 ys∧vl 1000000000 zs=vl 1000000000 xs % vl 1000000000 ys:=by
 have hv:=h.val;have hl:=h.lt;rw[List.drop_zero] at hl;rw[List.drop_zero,Nat.pow_zero,Nat.mul_one,Nat.mul_comm] at hv;have:=(Nat.div_mod_unique (a:=vl 1000000000 xs) (b:=vl 1000000000 ys) (c:=vl 1000000000 zs) (d:=vl 1000000000 qs) (by omega)).2 ⟨by omega,hl⟩;exact⟨this.1.symm,this.2.symm⟩
end
open Go.Lib
def ratL (x:Rat):List UInt8:=(if x.num<0 then [45] else [])++(decDigits x.num.natAbs++(if x.den=1 then [] else 47::decDigits x.den))
def ratS (x:Rat):ByteArray:=⟨(ratL x).toArray⟩
def zbd (x:Rat):Prop:=nDigits x.num.natAbs≤400∧nDigits x.den≤400
instance (x:Rat):Decidable (zbd x):=inferInstanceAs (Decidable (_∧_))
structure zax (a:ByteArray)(x:Rat):Prop where
 short:zbd x
 eq:a=ratS x
theorem zBN (ds:List UInt8)(h:ds.all isDg=true):cut ds [47]=(ds,[],false):=by
 unfold cut;rcases index_spec ds [47] with⟨h1,_⟩|⟨i,h1,h2,h3,_⟩
 ·rw[h1];rfl
 ·exfalso
  unfold occAt at h3;cases hd:ds.drop i with
  | nil=>rw[hd] at h3;simp at h3
  | cons c r =>
   rw[hd] at h3;simp at h3;subst h3;have hm:(47:UInt8)∈ds:=List.mem_of_mem_drop (i:=i) (by rw[hd];simp);have:=List.all_eq_true.1 h _ hm;exact absurd this (by decide)
theorem zBO (ds r:List UInt8)(h:ds.all isDg=true):cut (ds++47::r) [47]=(ds,r,true):=by
 unfold cut;rcases index_spec (ds++47::r) [47] with⟨_,h2⟩|⟨i,h1,h2,h3,h4⟩
 ·exfalso
  have:=h2 ds.length (by simp);unfold occAt at this;simp at this
 ·have hi:i=ds.length:=by
   rcases Nat.lt_trichotomy i ds.length with hl|hl|hl
   ·exfalso
    unfold occAt at h3;rw[List.drop_append_of_le_length (by omega)] at h3;cases hd:ds.drop i with
    | nil=>have:=congrArg List.length hd;simp at this;omega
    | cons c t =>
     rw[hd] at h3;simp at h3;subst h3;have hm:(47:UInt8)∈ds:=List.mem_of_mem_drop (i:=i) (by rw[hd];simp);have:=List.all_eq_true.1 h _ hm;exact absurd this (by decide)
   ·exact hl
   ·exfalso
    have:=h4 ds.length hl;unfold occAt at this;simp at this
  subst hi;rw[h1,if_pos (by omega)];simp
def negA (a:ByteArray):Bool:=hasPrefix a.data.toList [45]
def zbY (a:ByteArray):List UInt8:=trimPrefix a.data.toList [45]
def zcd (a:ByteArray):Bool:=(cut (zbY a) [47]).2.2
def numA (a:ByteArray):ByteArray:=⟨(cut (zbY a) [47]).1.toArray⟩
def tailA (a:ByteArray):ByteArray:=⟨(cut (zbY a) [47]).2.1.toArray⟩
def denA (a:ByteArray):ByteArray:=if zcd a then tailA a else ⟨#[49]⟩
theorem zFZ (n:Nat):∃ c r,decDigits n=c::r∧isDg c=true:=by
 have ha:=zgD n;have hl:(decDigits n).length≠0:=by rw[decDigits_length];have:=nDigits_pos n;omega
 cases h:decDigits n with
 | nil=>rw[h] at hl;exact absurd rfl hl
 | cons c r=>rw[h] at ha;simp at ha;exact⟨c,r,rfl,ha.1⟩
theorem zmH (n:Nat)(t:List UInt8):hasPrefix (decDigits n++t) [45]=false:=by
 obtain⟨c,r,h,hc⟩:=zFZ n;rw[h];unfold hasPrefix;rw[List.cons_append];simp only[List.isPrefixOf_cons_cons,Bool.and_eq_false_iff]
 left
 rw[beq_eq_false_iff_ne];intro e;rw[← e] at hc;exact absurd hc (by decide)
theorem zEI:decDigits 1=[49]:=by rw[decDigits_one (by decide)];rfl
theorem apart (a:ByteArray)(x:Rat)(h:a=ratS x):negA a=decide (x.num<0)∧numA a=decS x.num.natAbs∧denA a=decS x.den∧zcd a=decide (x.den≠1):=by
 subst h
 have hr:zbY (ratS x)=decDigits x.num.natAbs++(if x.den=1 then [] else 47::decDigits x.den):=by
  unfold zbY ratS ratL trimPrefix
  by_cases hn:x.num<0
  ·simp only[if_pos hn,List.singleton_append]
   rw[if_pos (by unfold hasPrefix;simp)]
   rfl
  ·simp only[if_neg hn,List.nil_append]
   rw[if_neg (by rw[zmH];simp)]
 have hs:negA (ratS x)=decide (x.num<0):=by
  unfold negA ratS ratL
  by_cases hn:x.num<0
  ·simp only[if_pos hn,List.singleton_append,hn,decide_true]
   unfold hasPrefix;simp
  ·simp only[if_neg hn,List.nil_append,hn,decide_false]
   exact zmH _ _
 refine⟨hs,?_⟩;unfold numA denA zcd tailA;rw[hr]
 by_cases hd:x.den=1
 ·rw[if_pos hd,List.append_nil,zBN _ (zgD _)]
  simp only[hd,decS,zEI,Bool.false_eq_true,if_false,ne_eq,not_true,decide_false,and_self]
 ·rw[if_neg hd,zBO _ _ (zgD _)]
  simp only[decS,if_true,ne_eq,hd,not_false_eq_true,decide_true,and_self]
def sg (neg:Bool)(n:Nat):Int:=if neg then -(n:Int) else n
theorem zib (neg:Bool)(n:Nat):(sg neg n).natAbs=n:=by unfold sg;split <;> omega
theorem zGa (neg:Bool)(n:Nat):(sg neg n<0)↔(neg=true∧n≠0):=by unfold sg;split <;> simp_all <;> omega
theorem zru (x:Rat):sg (decide (x.num<0)) x.num.natAbs=x.num:=by
 by_cases h:x.num<0
 ·rw[sg,if_pos (by simpa using h)];omega
 ·rw[sg,if_neg (by simpa using h)];omega
theorem zoh (x:Rat):mkRat (sg (decide (x.num<0)) x.num.natAbs) x.den=x:=by rw[zru,Rat.mkRat_self]
theorem zrv (neg:Bool)(n d:Nat)(hd:d≠0):(mkRat (sg neg n) d).num.natAbs=n / Nat.gcd n d:=by
 rw[Rat.num_mkRat,if_neg hd,zib,Nat.gcd_comm d n];unfold sg
 split
 ·rw[Int.natAbs_ediv_of_dvd (by rw[Int.dvd_neg];exact Int.ofNat_dvd.2 (Nat.gcd_dvd_left n d))];simp
 ·rw[Int.natAbs_ediv_of_dvd (Int.ofNat_dvd.2 (Nat.gcd_dvd_left n d))];simp
theorem zrw (neg:Bool)(n d:Nat)(hd:d≠0):(mkRat (sg neg n) d).den=d / Nat.gcd n d:=by
 rw[Rat.den_mkRat,if_neg hd,zib,Nat.gcd_comm d n]
theorem zys (neg:Bool)(n d:Nat)(hd:d≠0):((mkRat (sg neg n) d).num<0)↔(neg=true∧n≠0):=by
 rw[← zGa];have e:=Rat.num_mkRat (sg neg n) d;rw[if_neg hd,zib,Nat.gcd_comm d n] at e;have hg:0<Nat.gcd n d:=Nat.gcd_pos_of_pos_right _ (Nat.pos_of_ne_zero hd)
 have hdv:((Nat.gcd n d:Nat):Int) ∣ sg neg n:=by
  unfold sg
  split
  ·rw[Int.dvd_neg];exact Int.ofNat_dvd.2 (Nat.gcd_dvd_left n d)
  ·exact Int.ofNat_dvd.2 (Nat.gcd_dvd_left n d)
 obtain⟨k,hk⟩:=hdv;rw[e,hk,Int.mul_ediv_cancel_left _ (by omega)]
 constructor
 ·intro h;exact Int.mul_neg_of_pos_of_neg (by omega) h
 ·intro h
  rcases Int.lt_or_le k 0 with h1|h1
  ·exact h1
  ·have:=Int.mul_nonneg (show(0:Int)≤(Nat.gcd n d:Nat) by omega) h1
   omega
def finV (x:Rat):Value:=if zbd x then .tuple #[.string (ratS x),.int .i64 0] else .tuple #[.string ⟨#[]⟩,.int .i64 2]
def zhq (neg:Bool)(num den:ByteArray):Value :=
 if numB num&&numB den && !decide (nv den=0) then finV (mkRat (sg neg (nv num)) (nv den)) else .tuple #[.string ⟨#[]⟩,.int .i64 1]
def ratV (x:Rat):Value := .agg #[.bool (decide (x.num<0)),.string (decS x.num.natAbs),.string (decS x.den)]
theorem zaM (n:Nat)(h:nDigits n≤1000):numB (decS n)=true:=by rw[zog];simpa using h
theorem zax.uniq {a:ByteArray}{x y:Rat}(h:zax a x)(k:zax a y):x=y:=by
 obtain⟨h1,h2,h3,_⟩:=apart a x h.eq;obtain⟨k1,k2,k3,_⟩:=apart a y k.eq;have e1:decide (x.num<0)=decide (y.num<0):=h1.symm.trans k1;have e2:=zkT (h2.symm.trans k2);have e3:=zkT (h3.symm.trans k3);rw[← zoh x,← zoh y,e1,e2,e3]
theorem zkV {x:Rat}(h:zbd x):finV x = .tuple #[.string (ratS x),.int .i64 0]:=if_pos h
theorem zhr {x:Rat}(h:¬ zbd x):finV x = .tuple #[.string ⟨#[]⟩,.int .i64 2]:=if_neg h
theorem zgT {a:ByteArray}{x:Rat}(h:zax a x):finV x = .tuple #[.string a,.int .i64 0]:=by rw[zkV h.short,h.eq]
theorem zmI (x:Rat):(∃ S,finV x = .tuple #[.string S,.int .i64 0]∧zax S x)∨(finV x = .tuple #[.string ⟨#[]⟩,.int .i64 2]∧¬ zbd x):=by
 by_cases h:zbd x
 ·exact .inl ⟨ratS x,zkV h,h,rfl⟩
 ·exact .inr ⟨zhr h,h⟩
theorem zyt {a:ByteArray}{x:Rat}(h:zax a x):zhq (negA a) (numA a) (denA a) = .tuple #[.string a,.int .i64 0]:=by
 obtain⟨h1,h2,h3,_⟩:=apart a x h.eq;have:=h.short.1;have:=h.short.2;unfold zhq;rw[h1,h2,h3,zaD,zaD,zaM _ (by omega),zaM _ (by omega),zoh];simp only[Bool.and_self,Bool.true_and,x.den_nz,decide_false,Bool.not_false,if_true];exact zgT h
theorem ztR (neg:Bool)(num den:ByteArray):(∃ S x,zhq neg num den = .tuple #[.string S,.int .i64 0]∧zax S x)∨(∃ E:Int,zhq neg num den = .tuple #[.string ⟨#[]⟩,.int .i64 E]∧(E=1∨E=2)):=by
 unfold zhq
 split
 ·rcases zmI (mkRat (sg neg (nv num)) (nv den)) with⟨S,h,k⟩|⟨h,_⟩
  ·exact .inl ⟨S,_,h,k⟩
  ·exact .inr ⟨2,h,.inr rfl⟩
 ·exact .inr ⟨1,rfl,.inl rfl⟩
theorem zEJ (neg:Bool)(n d:Nat)(hd:d≠0) :
  ratV (mkRat (sg neg n) d) = .agg #[.bool (neg && !decide (n=0)),.string (decS (n / Nat.gcd n d)),.string (decS (d / Nat.gcd n d))]:=by
 unfold ratV
 rw[zrv neg n d hd,zrw neg n d hd,show decide ((mkRat (sg neg n) d).num<0)=(neg && !decide (n=0)) by
  rw[Bool.eq_iff_iff,decide_eq_true_eq,zys neg n d hd];simp]
open Go.Lib
theorem zBP (s:List UInt8):s=(cut s [47]).1++(if (cut s [47]).2.2 then 47::(cut s [47]).2.1 else []):=by
 unfold cut;rcases index_spec s [47] with⟨h1,_⟩|⟨i,h1,h2,h3,_⟩
 ·rw[h1];simp
 ·rw[h1,if_pos (by omega)]
  simp only[if_true,Int.toNat_natCast,List.length_singleton];have hc:=occAt_head (s:=s) (sub:=[47]) rfl h3;obtain⟨hi,e⟩:=List.getElem?_eq_some_iff.1 hc;have:s.drop i=47::s.drop (i+1):=by rw[List.drop_eq_getElem_cons hi,e]
  rw[← this,List.take_append_drop]
theorem zBQ (a:List UInt8):a=(if hasPrefix a [45] then [45] else [])++trimPrefix a [45]:=by
 unfold trimPrefix;cases h:hasPrefix a [45]
 ·simp
 ·unfold hasPrefix at h
  cases a with
  | nil=>simp at h
  | cons c r=>simp at h;subst h;simp
theorem zEK (a:ByteArray):a.data.toList=(if negA a then [45] else [])++((numA a).data.toList++(if zcd a then 47::(tailA a).data.toList else [])):=by
 conv=>lhs;rw[zBQ a.data.toList]
 unfold negA numA zcd tailA
 congr 1
 show zbY a=_
 conv=>lhs;rw[zBP (zbY a)]
structure zdc (a:ByteArray):Prop where
 n:numB (numA a)=true
 d:numB (denA a)=true
 sn:(numA a).size≤400
 sd:(denA a).size≤400
 d0:nv (denA a)≠0
 z:nv (numA a)=0→negA a=false∧zcd a=false
 one:nv (denA a)=1→zcd a=false
 g:Nat.gcd (nv (numA a)) (nv (denA a))=1∨nv (denA a)=1
theorem zdc.gcd {a:ByteArray}(h:zdc a):Nat.gcd (nv (numA a)) (nv (denA a))=1:=by
 rcases h.g with k|k
 ·exact k
 ·rw[k,Nat.gcd_one_right]
theorem zyu {a:ByteArray}(h:zdc a):zax a (mkRat (sg (negA a) (nv (numA a))) (nv (denA a))):=by
 have e1:=zrv (negA a) (nv (numA a)) (nv (denA a)) h.d0;have e2:=zrw (negA a) (nv (numA a)) (nv (denA a)) h.d0;have e3:=zys (negA a) (nv (numA a)) (nv (denA a)) h.d0;rw[h.gcd,Nat.div_one] at e1 e2;obtain⟨n1,n2⟩:=zbG _ h.n;obtain⟨d1,d2⟩:=zbG _ h.d;refine⟨⟨?_,?_⟩,?_⟩
 ·rw[e1,← zbW,← n1];exact h.sn
 ·rw[e2,← zbW,← d1];exact h.sd
 ·apply ByteArray.ext
  apply Array.ext'
  rw[zEK a];unfold ratS ratL;rw[e1,e2]
  have en:(numA a).data.toList=decDigits (nv (numA a)):=by conv=>lhs;rw[n1]
                                                           simp[decS]
  rw[en];show _=_++(_++_)
  have hs:((mkRat (sg (negA a) (nv (numA a))) (nv (denA a))).num<0)↔negA a=true:=by
   rw[e3]
   constructor
   ·exact fun k=>k.1
   ·intro k
    refine⟨k,fun z => ?_⟩;have:=(h.z z).1;rw[k] at this;cases this
  congr 1
  ·by_cases k:negA a=true
   ·rw[if_pos k,if_pos (hs.2 k)]
   ·rw[if_neg k,if_neg (fun q=>k (hs.1 q))]
  ·congr 1
   by_cases k:nv (denA a)=1
   ·rw[if_pos k,h.one k];simp
   ·rw[if_neg k]
    cases hk:zcd a
    ·exfalso
     apply k
     unfold denA;rw[hk];simp only[Bool.false_eq_true,if_false]
     decide +kernel
    ·have ed:denA a=tailA a:=by unfold denA;rw[hk];simp
     rw[if_pos rfl,← ed]
     congr 1
     conv=>lhs;rw[d1]
     simp[decS]
theorem zhs {a:ByteArray}{x:Rat}(h:zax a x):zdc a:=by
 obtain⟨h1,h2,h3,h4⟩:=apart a x h.eq;have s1:=h.short.1;have s2:=h.short.2;have hd:=x.den_nz;have hr:=x.reduced;refine⟨?_,?_,?_,?_,?_,?_,?_,?_⟩
 ·rw[h2];exact zaM _ (by omega)
 ·rw[h3];exact zaM _ (by omega)
 ·rw[h2,zbW];exact s1
 ·rw[h3,zbW];exact s2
 ·rw[h3,zaD];exact hd
 ·rw[h2,zaD,h1,h4]
  intro z
  have hx:x.den=1:=by
   have:Nat.gcd x.num.natAbs x.den=1:=hr;rw[z,Nat.gcd_zero_left] at this;exact this
  have hz:x.num=0:=by omega
  rw[hx,hz]
  decide
 ·rw[h3,zaD,h4]
  intro z;simp[z]
 ·rw[h2,h3,zaD,zaD]
  exact .inl hr
open Go.Lib
end Go.Proofs.YtaogepcaoogpgaaGreatDoor
