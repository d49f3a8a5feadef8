/- Part. -/
import Derived.Lib.ItoaNum
import Derived.Shelf.Strings.Trim
import Derived.Shelf.Small.Utf8
import Derived.Shelf.Small.Bits
import Derived.Shelf.Small.Wraps
import Derived.Shelf.Strings.Shaped
import Derived.Shelf.Strings.IndexAnyAll
import Derived.Shelf.Strings.Repeat
import Derived.Shelf.Unicode.DecodeSlow
import Derived.Shelf.Spec.BitsCarry
import Derived.Test.YtadgpgofcjpnjaaGreatDoorProg
import Derived.Test.YtadgpgofcjpnjaaGreatDoorZK00
set_option linter.unusedVariables false
set_option linter.defProp false
set_option linter.unusedSimpArgs false
set_option maxRecDepth 100000
set_option maxHeartbeats 16000000
namespace Go.Proofs.YtadgpgofcjpnjaaGreatDoor
open Go.Proofs.Tryz
def vl (B:Nat):List Nat->Nat
 | []=>0
 | x::r=>x+B*vl B r
def zdJ (B:Nat):∀ (xs ys:List Nat),vl B (xs++ys)=vl B xs+B ^ xs.length*vl B ys
 | [],ys=>by simp[vl]
 | x::xs,ys=>by
  simp only[List.cons_append,vl,zdJ B xs ys,zqbu,zqbp,zqbh];rw[Nat.add_assoc,zqbc (B ^ xs.length) B,zqav]
def zlS (B x:Nat):vl B [x]=x:=by simp[vl]
def zgk (B:Nat)(xs:List Nat)(x:Nat):vl B (xs++[x])=vl B xs+B ^ xs.length*x:=by rw[zdJ,zlS]
def zcv (B:Nat):∀ (xs:List Nat),(∀ x∈xs,x<B)->vl B xs<B ^ xs.length
 | [],_=>by simp[vl]
 | x::xs,h=>by
  have h1:=zcv B xs (fun y hy=>h y (zqao _ hy));have h2:=h x (zqbm ..);simp only[vl,zqbu,zqbp];have h3:B*(vl B xs+1)<=B*B ^ xs.length:=zqbd _ h1;rw[zqbh,Nat.mul_one,zqbc B (B ^ xs.length)] at h3;omega
def zgN (B:Nat)(xs:List Nat)(k:Nat)(h:k<=xs.length):vl B xs=vl B (xs.take k)+B ^ k*vl B (xs.drop k):=by
 have:=zdJ B (xs.take k) (xs.drop k);rw[List.take_append_drop,zqan,Nat.min_eq_left h] at this;exact this
def zqA (l:List Nat)(k:Nat)(h:k<l.length):l.take (k+1)=l.take k++[l.getD k 0]:=by
 rw[List.take_succ_eq_append_getElem h,zqaa,zqac h];rfl
def zlT (l:List Nat)(k:Nat)(h:k<l.length):l.drop k=l.getD k 0::l.drop (k+1):=by
 rw[List.drop_eq_getElem_cons h,zqaa,zqac h];rfl
def zjm (l:List Nat)(k:Nat)(h:¬ k<l.length):l.getD k 0=0:=by
 rw[zqaa,zqas (by omega)];rfl
def zbl (B:Nat)(hB:0<B)(l:List Nat)(h:∀ x∈l,x<B)(k:Nat):l.getD k 0<B:=by
 by_cases hk:k<l.length
 ·rw[zqaa,zqac hk]
  exact h _ (List.getElem_mem hk)
 rw[zjm l k hk];exact hB
def zaU (B:Nat)(l:List Nat)(k:Nat):vl B (l.take (k+1))=vl B (l.take k)+B ^ k*l.getD k 0:=by
 by_cases hk:k<l.length
 rw[zqA l k hk,zgk,zqan,Nat.min_eq_left (by omega)];rw[zjm l k hk,zqaf (by omega),zqaf (by omega),Nat.mul_zero,Nat.add_zero]
def zhQ (B:Nat):∀ n,vl B (List.replicate n 0)=0
 | 0=>rfl
 | n+1=>by simp[List.replicate_succ,vl,zhQ B n]
def zcZ (xs:List Nat):Prop:=∀ h:xs≠[],xs.getLast h≠0
def zyL:zcZ []:=fun h=>absurd rfl h
def zlU (B:Nat)(xs:List Nat)(h0:xs≠[])(ht:zcZ xs):B ^ (xs.length-1)<=vl B xs:=by
 have e:=List.dropLast_concat_getLast h0;have:=ht h0;have hp:B ^ xs.dropLast.length*1<=B ^ xs.dropLast.length*xs.getLast h0:=zqbd _ (by omega);rw[Nat.mul_one,List.length_dropLast] at hp;rw[<- e,zgk,e,List.length_dropLast];omega
def zwA (B:Nat)(hB:0<B)(xs:List Nat)(ht:zcZ xs):vl B xs=0↔xs=[]:=by
 constructor
 ·intro h
  by_cases h0:xs=[]
  exact h0;have:=zlU B xs h0 ht;have hp:0<B ^ (xs.length-1):=Nat.pow_pos hB;omega
 rintro rfl;rfl
def zsp (xs:List Nat)(h:xs.getD (xs.length-1) 0≠0):zcZ xs:=by
 intro h0;rw[List.getLast_eq_getElem];have:xs.length-1<xs.length:=by have:=List.length_pos_iff.2 h0;omega
 rw[zqaa,zqac this] at h;exact h
def zaL (T:Nat->Nat->Nat->Nat×Nat)(xs ys:List Nat)(c0:Nat):Nat->List Nat×Nat
 | 0=>([],c0)
 | k+1=>((zaL T xs ys c0 k).1++[(T (zaL T xs ys c0 k).2 (xs.getD k 0) (ys.getD k 0)).2],(T (zaL T xs ys c0 k).2 (xs.getD k 0) (ys.getD k 0)).1)
def zbR (T:Nat->Nat->Nat->Nat×Nat)(xs ys:List Nat)(c0:Nat):∀ k,(zaL T xs ys c0 k).1.length=k
 | 0=>rfl
 | k+1=>by rw[zaL,zqag,zbR T xs ys c0 k];rfl
def zbC (f c a b:Nat):Nat×Nat:=((c+(a+f*b))/1000000000,(c+(a+f*b))%1000000000)
def zbg (f c a b:Nat):Nat×Nat :=
 if a<(c+f*b)%1000000000 then ((c+f*b)/1000000000+1,a+1000000000-(c+f*b)%1000000000) else ((c+f*b)/1000000000,a-(c+f*b)%1000000000)
def znl (f b:Nat)(hf:f<=1000000000)(hb:b<1000000000):f*b<=999999999000000000:=by
 have h1:f*b<=1000000000*999999999:=Nat.mul_le_mul hf (by omega);omega
def zEW (f c a b:Nat):(zbC f c a b).2+1000000000*(zbC f c a b).1=c+a+f*b:=by
 unfold zbC;simp only;have:=zqbt (c+(a+f*b)) 1000000000;omega
def zEX (f c a b:Nat):(zbC f c a b).2<1000000000:=Nat.mod_lt _ (by decide)
def zEY (f c a b:Nat)(hf:f<=1000000000)(hc:c<=1000000000)(ha:a<1000000000)(hb:b<1000000000):(zbC f c a b).1<=1000000000:=by
 have:=znl f b hf hb;unfold zbC;simp only;omega
def zEZ (f c a b:Nat):(zbg f c a b).2+c+f*b=a+1000000000*(zbg f c a b).1:=by
 unfold zbg;have:=zqbt (c+f*b) 1000000000;exact zQbY
def zFa (f c a b:Nat)(ha:a<1000000000):(zbg f c a b).2<1000000000:=by
 unfold zbg;exact zQbY
def zFb (f c a b:Nat)(hf:f<=1000000000)(hc:c<=1000000000)(hb:b<1000000000):(zbg f c a b).1<=1000000000:=by
 have:=znl f b hf hb;unfold zbg;split <;> simp only <;> omega
def zjn (f:Nat)(xs ys:List Nat)(hf:f<=1000000000)(hx:∀ x∈xs,x<1000000000)(hy:∀ y∈ys,y<1000000000)(c0:Nat)(hc:c0<=1000000000) :
  ∀ k,(∀ z∈(zaL (zbC f) xs ys c0 k).1,z<1000000000)/\(zaL (zbC f) xs ys c0 k).2<=1000000000 /\
   vl 1000000000 (zaL (zbC f) xs ys c0 k).1+1000000000 ^ k*(zaL (zbC f) xs ys c0 k).2=vl 1000000000 (xs.take k)+f*vl 1000000000 (ys.take k)+c0
 | 0=>by simp[zaL,vl,hc]
 | k+1=>by
  obtain⟨h1,h2,h3⟩:=zjn f xs ys hf hx hy c0 hc k;have ha:=zbl 1000000000 (by decide) xs hx k;have hb:=zbl 1000000000 (by decide) ys hy k;refine⟨?_,?_,?_⟩
  ·intro z hz
   rw[zaL,zqbo] at hz;rcases hz with hz|hz
   exact h1 z hz;rw[zqbk] at hz;subst hz;exact zEX _ _ _ _
  exact zEY _ _ _ _ hf h2 ha hb;rw[zaL];simp only;rw[zgk,zbR,zaU,zaU,zqbp,zqav,Nat.add_assoc (vl _ _),<- zqbh,zEW,zqbh,zqbh,zqbh];have e:f*(1000000000 ^ k*ys.getD k 0)=1000000000 ^ k*(f*ys.getD k 0):=by rw[<- zqav,zqbc f,zqav]
  rw[e];omega
def zkQ (f:Nat)(xs ys:List Nat)(hf:f<=1000000000)(hx:∀ x∈xs,x<1000000000)(hy:∀ y∈ys,y<1000000000)(c0:Nat)(hc:c0<=1000000000) :
  ∀ k,(∀ z∈(zaL (zbg f) xs ys c0 k).1,z<1000000000)/\(zaL (zbg f) xs ys c0 k).2<=1000000000 /\
   vl 1000000000 (zaL (zbg f) xs ys c0 k).1+c0+f*vl 1000000000 (ys.take k)=vl 1000000000 (xs.take k)+1000000000 ^ k*(zaL (zbg f) xs ys c0 k).2
 | 0=>by simp[zaL,vl,hc]
 | k+1=>by
  obtain⟨h1,h2,h3⟩:=zkQ f xs ys hf hx hy c0 hc k;have ha:=zbl 1000000000 (by decide) xs hx k;have hb:=zbl 1000000000 (by decide) ys hy k;refine⟨?_,?_,?_⟩
  ·intro z hz
   rw[zaL,zqbo] at hz;rcases hz with hz|hz
   exact h1 z hz;rw[zqbk] at hz;subst hz;exact zFa _ _ _ _ ha
  exact zFb _ _ _ _ hf h2 hb;rw[zaL];simp only;rw[zgk,zbR,zaU,zaU,zqbp,zqav];have e:f*(1000000000 ^ k*ys.getD k 0)=1000000000 ^ k*(f*ys.getD k 0):=by rw[<- zqav,zqbc f,zqav]
  rw[zqbh f,e];have q:=zqbz (fun t=>1000000000 ^ k*t) (zEZ f (zaL (zbg f) xs ys c0 k).2 (xs.getD k 0) (ys.getD k 0));simp only[zqbh] at q;omega
open Go.Lib
def zdn (l:List UInt8):Nat:=l.foldl (fun n c=>n*10+(c.toNat-48)) 0
def zfp (l:List UInt8)(c:UInt8):zdn (l++[c])=zdn l*10+(c.toNat-48):=by unfold zdn;rw[List.foldl_append];rfl
def zBR (n:Nat):zdn (decDigits n)=n:=by
 induction n using Nat.strongRecOn with
 | _ n ih =>
  by_cases h:n<10
  ·rw[decDigits_one h]
   simp only[zdn,List.foldl_cons,List.foldl_nil,UInt8.toNat_ofNat'];omega
  rw[decDigits,dif_neg h,zfp,ih (n/10) (by omega)];simp only[UInt8.toNat_ofNat'];omega
def zdo (c:UInt8):Bool:=48<=c.toNat&&c.toNat<=57
def zlV (l:List UInt8):Bool:=decide (1<=l.length)&&decide (l.length<=1000)&&l.all zdo&&(decide (l.length=1) || !(l.headD 0==48))
def zas (s:ByteArray):Bool:=zlV s.data.toList
def zal (n:Nat):ByteArray:=⟨(decDigits n).toArray⟩
def nv (s:ByteArray):Nat:=zdn s.data.toList
def zFc (c:UInt8)(h:zdo c=true):UInt8.ofNat (48+(c.toNat-48)%10)=c:=by
 unfold zdo at h;simp at h;apply UInt8.toNat_inj.1;rw[UInt8.toNat_ofNat'];omega
def zsI:∀ (l:List UInt8),l≠[]->l.all zdo=true->(l.length=1∨l.headD 0≠48)->decDigits (zdn l)=l:=by
 intro l
 induction h:l.length using Nat.strongRecOn generalizing l with
 | _ n ih =>
  intro h0 ha hh;obtain⟨l',c,rfl⟩:∃ l' c,l=l'++[c]:=⟨l.dropLast,l.getLast h0,(List.dropLast_concat_getLast h0).symm⟩;rw[List.all_append,zqbb] at ha;have hc:zdo c=true:=by simpa using ha.2
  have hcb:=zFc c hc
  by_cases hl:l'=[]
  ·subst hl
   have h10:c.toNat-48<10:=by unfold zdo at hc;simp at hc;omega
   simp only[List.nil_append,zdn,List.foldl_cons,List.foldl_nil,Nat.zero_mul,zqat];rw[decDigits_one h10];rw[Nat.mod_eq_of_lt h10] at hcb;rw[hcb]
  have zN:l'.length≠0:=fun e=>hl (List.eq_nil_of_length_eq_zero e)
  have hhd:l'.headD 0≠48:=by
   rcases hh with hh|hh;rw[zqag] at h;simp at h;omega;intro e;apply hh;cases l' with
   | nil=>exact absurd rfl hl
   | cons a b=>simpa using e
  have hi:=ih l'.length (by rw[zqag] at h;simp at h;omega) l' rfl hl ha.1 (Or.inr hhd)
  have hz:zdn l'≠0:=by
   intro e;rw[e,decDigits_one (by decide)] at hi;rw[<- hi] at hhd;exact hhd rfl
  have h10:c.toNat-48<10:=by unfold zdo at hc;simp at hc;omega
  rw[zfp,decDigits,dif_neg (by omega),show(zdn l'*10+(c.toNat-48))/10=zdn l' by omega,hi,
   show(zdn l'*10+(c.toNat-48))%10=(c.toNat-48)%10 by omega,hcb]
def znm (n:Nat):(decDigits n).all zdo=true:=by
 rw[decDigits_eq,List.all_eq_true];intro c hc;rw[zqbf] at hc;obtain⟨t,_,rfl⟩:=hc;unfold dg zdo;rw[UInt8.toNat_ofNat'];have:n/10 ^ (nDigits n-1-t)%10<10:=Nat.mod_lt _ (by decide);simp;omega
def zsJ (n:Nat)(h:n≠0):(decDigits n).headD 0≠48:=by
 induction n using Nat.strongRecOn with
 | _ n ih =>
  by_cases h10:n<10
  ·rw[decDigits_one h10]
   simp only[List.headD_cons];intro e;have:=zqbz UInt8.toNat e;rw[UInt8.toNat_ofNat'] at this;simp at this;omega
  rw[decDigits,dif_neg h10];have:=ih (n/10) (by omega) (by omega);have hl:(decDigits (n/10)).length≠0:=by rw[decDigits_length];have:=nDigits_pos (n/10);omega
  cases hd:decDigits (n/10) with
  | nil=>rw[hd] at hl;exact absurd rfl hl
  | cons a b=>rw[hd] at this;simpa using this
def zcQ (n:Nat):(zal n).size=nDigits n:=by
 show(decDigits n).toArray.size=_;rw[List.size_toArray,decDigits_length]
def zqB (n:Nat):zas (zal n)=decide (nDigits n<=1000):=by
 unfold zas zlV zal;simp only[decDigits_length];have h1:=nDigits_pos n;rw[znm]
 by_cases h0:n=0
 ·subst h0
  rw[nDigits_small (by decide)];rfl
 have:=zsJ n h0;have e:(!(decDigits n).headD 0==48)=true:=by simpa using this
 rw[e];simp;omega
def zbc (n:Nat):nv (zal n)=n:=zBR n
def zcE (s:ByteArray)(h:zas s=true):s=zal (nv s)/\nDigits (nv s)<=1000:=by
 have h':=h;unfold zas zlV at h;simp only[zqbb,Bool.or_eq_true,zqca,Bool.not_eq_true',beq_eq_false_iff_ne] at h;obtain⟨⟨⟨h1,h2⟩,h3⟩,h4⟩:=h;have e:=zsI s.data.toList (by intro e;rw[e] at h1;simp at h1) h3 h4
 have e2:s=zal (nv s):=by
  unfold zal nv;rw[e]
 refine⟨e2,?_⟩;rw[<- zcQ,<- e2];exact h2
def znn {m n:Nat}(h:zal m=zal n):m=n:=by rw[<- zbc m,h,zbc]
def zbZ {m n:Nat}(h:m<=n):nDigits m<=nDigits n:=by
 induction n using Nat.strongRecOn generalizing m with
 | _ n ih =>
  by_cases hn:n<10
  rw[nDigits_small hn,nDigits_small (by omega)];exact zqab _;rw[nDigits_big hn]
  by_cases hm:m<10
  rw[nDigits_small hm];omega;rw[nDigits_big hm];have:=ih (n/10) (by omega) (show m/10<=n/10 by omega);omega
def zfT (B:Nat)(l:List Nat)(q:Nat):vl B (l.drop q)=l.getD q 0+B*vl B (l.drop (q+1)):=by
 by_cases h:q<l.length
 rw[zlT l q h,vl];rw[zjm l q h,List.drop_eq_nil_of_le (by omega),List.drop_eq_nil_of_le (by omega)];simp[vl]
structure zhq (len i v:Nat)(xs:List Nat):Prop where
 length:xs.length=(len+8)/9
 lt:∀ x∈xs,x<1000000000
 zero:∀ j,j<(len-i)/9->xs.getD j 0=0
 top:xs.getD ((len-i)/9) 0<10 ^ (9-(len-i)%9)
 val:v=xs.getD ((len-i)/9) 0+10 ^ (9-(len-i)%9)*vl 1000000000 (xs.drop ((len-i)/9+1))
def zgl (n k:Nat):(List.replicate n 0).getD k 0=0:=by
 rw[zqaa,zqbg];split <;> rfl
def zfU (l:List Nat)(i j x:Nat)(h:i<l.length):(l.set i x).getD j 0=if i=j then x else l.getD j 0:=by
 rw[zqaa,List.getElem?_set];split;rfl;rfl
def zhq.start (len:Nat):zhq len 0 0 (List.replicate ((len+8)/9) 0):=by
 refine⟨by simp,?_,fun j _=>zgl _ _,?_,?_⟩
 ·intro x hx;rw[List.mem_replicate] at hx;rw[hx.2];decide
 rw[zgl];exact Nat.pow_pos (by decide);rw[zgl,List.drop_replicate,zhQ];simp
def zhq.bound {len i v:Nat}{xs:List Nat}(h:zhq len i v xs)(hi:i<len):xs.getD ((len-1-i)/9) 0<=99999999:=by
 by_cases hr:(len-i)%9=0
 rw[h.zero _ (by omega)];omega;have ht:=h.top;rw[show(len-1-i)/9=(len-i)/9 by omega];have:10 ^ (9-(len-i)%9)<=10 ^ 8:=zqay (by decide) (by omega);omega
def zhq.step {len i v:Nat}{xs:List Nat}(h:zhq len i v xs)(hi:i<len)(d:Nat)(hd:d<10) :
  zhq len (i+1) (v*10+d) (xs.set ((len-1-i)/9) (xs.getD ((len-1-i)/9) 0*10+d)):=by
 have hb:=h.bound hi;have hl:(len-1-i)/9<xs.length:=by rw[h.length];omega
 have hlt:∀ x∈xs.set ((len-1-i)/9) (xs.getD ((len-1-i)/9) 0*10+d),x<1000000000:=by
  intro x hx;rcases List.mem_or_eq_of_mem_set hx with hx|rfl
  exact h.lt x hx;omega
 by_cases hr:(len-i)%9=0
 ·have e1:(len-(i+1))/9=(len-1-i)/9:=by omega
  have e2:(len-(i+1))%9=8:=by omega
  have e3:(len-1-i)/9+1=(len-i)/9:=by omega
  have hz:xs.getD ((len-1-i)/9) 0=0:=h.zero _ (by omega);refine⟨by rw[List.length_set];exact h.length,hlt,fun j hj=>?_,?_,?_⟩;rw[zfU _ _ _ _ hl,if_neg (by omega)];exact h.zero j (by omega);rw[e1,e2,zfU _ _ _ _ hl,if_pos rfl,hz];simp;omega;rw[e1,e2,zfU _ _ _ _ hl,if_pos rfl,hz,e3,List.drop_set_of_lt (by omega),zfT,h.val,hr];simp only[Nat.sub_zero];rw[show(10:Nat) ^ 9=1000000000 by decide,show 9-8=1 by decide,Nat.pow_one];omega
 have e1:(len-(i+1))/9=(len-i)/9:=by omega
 have e0:(len-1-i)/9=(len-i)/9:=by omega
 have e2:9-(len-(i+1))%9=9-(len-i)%9+1:=by omega
 rw[e0] at hl hb hlt ⊢;have ht:=h.top;refine⟨by rw[List.length_set];exact h.length,hlt,fun j hj=>?_,?_,?_⟩;rw[zfU _ _ _ _ hl,if_neg (by omega)];exact h.zero j (by omega)
 ·rw[e1,e2,zfU _ _ _ _ hl,if_pos rfl,zqbp]
  omega
 rw[e1,e2,zfU _ _ _ _ hl,if_pos rfl,List.drop_set_of_lt (by omega),h.val,zqbp];rw[Nat.add_mul,Nat.mul_right_comm _ 10];omega
def zhq.fin {len v:Nat}{xs:List Nat}(h:zhq len len v xs):v=vl 1000000000 xs:=by
 have:=h.val;rw[zqbr] at this;have e:=zfT 1000000000 xs 0;rw[List.drop_zero] at e;rw[this,e]
def pad (k v:Nat):List UInt8:=(List.range k).map fun t=>dg v (k-1-t)
def zpd (k v:Nat):(pad k v).length=k:=by simp[pad]
def zno (v:Nat):decDigits v=pad (nDigits v) v:=decDigits_eq v
def zjo (k v:Nat):pad (k+1) v=dg v k::pad k v:=by
 unfold pad;rw[List.range_succ_eq_map,List.map_cons,List.map_map];congr 1;apply List.map_congr_left;intro t ht;simp only[Function.comp];congr 1;omega
def zFd (v k:Nat)(h:v<10 ^ k):dg v k=48:=by
 unfold dg;rw[Nat.div_eq_of_lt h];rfl
def zyM (k v:Nat)(h:v<10 ^ k):(pad k v).dropWhile (· == 48)=if v=0 then [] else decDigits v:=by
 induction k with
 | zero =>
  have:v=0:=by simpa using h
  subst this;rfl
 | succ k ih =>
  rw[zjo]
  by_cases hk:v<10 ^ k
  ·rw[zFd v k hk,List.dropWhile_cons]
   simp only[beq_self_eq_true,if_true];exact ih hk
  have hp:0<10 ^ k:=Nat.pow_pos (by decide);have hn:nDigits v=k+1:=nDigits_unique k v (by omega) h;rw[if_neg (by omega),zno,hn,zjo,List.dropWhile_cons];rw[if_neg];have:=zsJ v (by omega);rw[zno,hn,zjo,List.headD_cons] at this;simpa using this
def zBS (xs:List Nat)(i j:Nat)(hx:∀ x∈xs,x<1000000000)(hj:j<9):dg (vl 1000000000 xs) (9*i+j)=UInt8.ofNat (48+xs.getD i 0/10 ^ j%10):=by
 unfold dg;congr 2
 by_cases hi:i<xs.length
 ·have h1:=zgN 1000000000 xs i (by omega)
  have h2:=zcv 1000000000 (xs.take i) (fun x h=>hx x (zqau h));rw[zqan,Nat.min_eq_left (by omega)] at h2;rw[zfT] at h1;have hp:(10:Nat) ^ (9*i+j)=1000000000 ^ i*10 ^ j:=by rw[Nat.pow_add,Nat.pow_mul]
  rw[hp,<- Nat.div_div_eq_div_mul,h1,Nat.add_mul_div_left _ _ (Nat.pow_pos (by decide)),Nat.div_eq_of_lt h2,zqat];have e:(1000000000:Nat)=10 ^ j*10 ^ (9-j):=by rw[<- Nat.pow_add,show j+(9-j)=9 by omega]
  generalize vl 1000000000 (xs.drop (i+1))=R;generalize xs.getD i 0=x;rw[e,zqav,Nat.add_mul_div_left _ _ (Nat.pow_pos (by decide))];obtain⟨r,hr⟩:∃ r,9-j=r+1:=⟨8-j,by omega⟩;rw[hr,zqbp,zqbc (10 ^ r) 10,zqav];omega
 rw[zjm xs i hi,Nat.zero_div,Nat.zero_mod];have h2:=zcv 1000000000 xs hx;have h3:1000000000 ^ xs.length<=1000000000 ^ i:=zqay (by decide) (by omega)
 have h4:(1000000000:Nat) ^ i<=10 ^ (9*i+j):=by
  rw[Nat.pow_add,Nat.pow_mul];exact Nat.le_mul_of_pos_right _ (Nat.pow_pos (by decide))
 rw[Nat.div_eq_of_lt (by omega)]
def zyN (xs:List Nat)(hx:∀ x∈xs,x<1000000000):vl 1000000000 xs<10 ^ (9*xs.length):=by
 have:=zcv 1000000000 xs hx;rw[Nat.pow_mul];exact this
structure zfx (U m1 c Y a r:Nat):Prop where
 eq:c*a+r=U
 ge:(4294967296*U+m1)/Y<=a
 le:a<=4294967297
section
variable {U m1 c d Y a r:Nat}
def zsK (h:zfx U m1 c Y a r)(hY:Y=4294967296*c+d):Y*a+4294967296*r=4294967296*U+d*a:=by
 have:=h.eq;rw[hY,<- this,Nat.add_mul,zqav,zqbh];omega
def zfx.start (hY:Y=4294967296*c+d)(hc:2147483648<=c)(hd:d<4294967296)(hm:m1<4294967296)(hU:U<Y):zfx U m1 c Y (U/c) (U-c*(U/c)):=by
 have hdm:=zqbt U c;have hlt:=Nat.mod_lt U (show c > 0 by omega);refine⟨by omega,?_,?_⟩
 ·apply Nat.le_of_lt_succ
  rw[Nat.div_lt_iff_lt_mul (by omega)];show 4294967296*U+m1<(U/c+1)*Y;rw[Nat.add_mul,Nat.one_mul,zqbc (U/c) Y];have e:Y*(U/c)=4294967296*(c*(U/c))+d*(U/c):=by rw[hY,Nat.add_mul,zqav]
  rw[e];omega
 apply Nat.le_of_lt_succ;rw[Nat.div_lt_iff_lt_mul (by omega)];omega
def zfx.rest_lt (hc:2147483648<=c):U-c*(U/c)<c:=by
 have hdm:=zqbt U c;have hlt:=Nat.mod_lt U (show c > 0 by omega);omega
def zfx.down (h:zfx U m1 c Y a r)(hY:Y=4294967296*c+d)(hc:2147483648<=c)(hd:d<4294967296)(hm:m1<4294967296)(hU:U<Y)
  (ht:4294967296<=a∨4294967296*r+m1<d*a):1<=a/\zfx U m1 c Y (a-1) (r+c):=by
 have hq:(4294967296*U+m1)/Y<a:=by
  have hmul:=zsK h hY;rw[Nat.div_lt_iff_lt_mul (by omega),zqbc a Y];rcases ht with ht|ht
  ·have h1:4294967296*Y<=a*Y:=Nat.mul_le_mul_right Y ht
   rw[zqbc a Y] at h1;refine zqba ?_ h1;clear h1 hmul ht h;omega
  clear hY hU hc hd h;omega
 have ha:1<=a:=Nat.lt_of_le_of_lt (zqaw _) hq;refine⟨ha,?_,Nat.le_sub_one_of_lt hq,by have:=h.le;omega⟩;have:=h.eq;have e:c*a=c*(a-1)+c:=by rw[<- Nat.mul_succ];congr 1;omega
 omega
def zfx.done (h:zfx U m1 c Y a r)(hY:Y=4294967296*c+d)(hc:2147483648<=c)(ht:d*a<=4294967296*r+m1) :
  a=(4294967296*U+m1)/Y:=by
 have h2:a<=(4294967296*U+m1)/Y:=by
  have hmul:=zsK h hY;rw[Nat.le_div_iff_mul_le (by omega),zqbc a Y];clear hY hc h;omega
 exact Nat.le_antisymm h2 h.ge
def zfx.prod (h:zfx U m1 c Y a r)(hd:d<4294967296):d*a<=18446744073709551615:=by
 have:d*a<=4294967295*4294967297:=Nat.mul_le_mul (by omega) h.le;omega
def zfx.out (h:zfx U m1 c Y a r)(hY:Y=4294967296*c+d)(hc:2147483648<=c)(hd:d<4294967296)(ha:a<=4294967296)(hr:4294967296<=r) :
  a=(4294967296*U+m1)/Y:=by
 refine h.done hY hc ?_;have:d*a<=4294967295*4294967296:=Nat.mul_le_mul (by omega) ha;omega
end
def zyO (s:Nat)(hs:s<=63):(2:Nat) ^ 64=2 ^ s*2 ^ (64-s):=by rw[<- Nat.pow_add];congr 1;omega
def zyP (hi lo y s:Nat)(hs:s<=63)(h2:hi<y)(hlo:lo<18446744073709551616)(hY:y*2 ^ s<18446744073709551616) :
  hi*2 ^ s<y*2 ^ s/\lo/2 ^ (64-s)<2 ^ s/\(hi*2 ^ s) ||| (lo/2 ^ (64-s))=hi*2 ^ s+lo/2 ^ (64-s)/\hi*2 ^ s+lo/2 ^ (64-s)<y*2 ^ s /\
  (18446744073709551616*hi+lo)*2 ^ s=18446744073709551616*(hi*2 ^ s+lo/2 ^ (64-s))+lo*2 ^ s%18446744073709551616:=by
 have hp:0<2 ^ s:=Nat.two_pow_pos s;have e64:(18446744073709551616:Nat)=2 ^ s*2 ^ (64-s):=zyO s hs;have a2:lo/2 ^ (64-s)<2 ^ s:=by rw[Nat.div_lt_iff_lt_mul (Nat.two_pow_pos _),<- e64];exact hlo
 have a1:hi*2 ^ s+2 ^ s<=y*2 ^ s:=by rw[<- Nat.succ_mul];exact Nat.mul_le_mul_right _ h2
 refine⟨by omega,a2,?_,by omega,?_⟩;rw[zqbc hi,Nat.two_pow_add_eq_or_of_lt a2]
 have e:lo*2 ^ s/18446744073709551616=lo/2 ^ (64-s):=by
  rw[e64,zqbc lo,Nat.mul_div_mul_left _ _ hp]
 have h3:=zqbt (lo*2 ^ s) 18446744073709551616;rw[e] at h3;rw[Nat.add_mul,zqbh,Nat.add_assoc,h3,zqav]
def zBT (U m1 m0 Y:Nat)(hY:0<Y) :
  (18446744073709551616*U+(4294967296*m1+m0))/Y=4294967296*((4294967296*U+m1)/Y)+(4294967296*((4294967296*U+m1)%Y)+m0)/Y:=by
 have h1:=zqbt (4294967296*U+m1) Y
 have e:18446744073709551616*U+(4294967296*m1+m0)=Y*(4294967296*((4294967296*U+m1)/Y))+(4294967296*((4294967296*U+m1)%Y)+m0):=by
  have h2:Y*(4294967296*((4294967296*U+m1)/Y))=4294967296*(Y*((4294967296*U+m1)/Y)):=by rw[<- zqav,zqbc Y,zqav]
  rw[h2];omega
 rw[e,Nat.add_comm,Nat.add_mul_div_left _ _ hY,Nat.add_comm]
def zrC (U m Y:Nat)(hY:0<Y)(hU:U<Y)(hm:m<4294967296):(4294967296*U+m)/Y<4294967296:=by
 rw[Nat.div_lt_iff_lt_mul hY];omega
def bAt (xs:List Nat)(i:Int):Nat:=if i<0 then 0 else xs.getD i.toNat 0
structure zFe (xs ys:List Nat)(N Y2:Nat):Prop where
 lo:vl 1000000000 xs/vl 1000000000 ys<=N/Y2
 hi:N/Y2<=vl 1000000000 xs/vl 1000000000 ys+1
 le:N/Y2<=1000000000
 lt:N<1000000001*Y2
 ge:1000000000<=Y2
def zsL (xs ys:List Nat)(m:Nat)(hm:ys.length=m+1)(hl:xs.length=m+2)(hx:∀ x∈xs,x<1000000000)(hy:∀ y∈ys,y<1000000000)(hyt:zcZ ys)
  (hlt:vl 1000000000 xs<1000000000*vl 1000000000 ys) :
  zFe xs ys (1000000000*(1000000000*xs.getD (m+1) 0+xs.getD m 0)+bAt xs ((m:Int)-1)) (1000000000*ys.getD m 0+bAt ys ((m:Int)-1)):=by
 have hy0:ys.getD m 0≠0:=by
  have:=hyt (by intro e;rw[e] at hm;simp at hm);rw[List.getLast_eq_getElem] at this;rw[zqaa,zqac (by omega)];simp only[Option.getD_some];have e:ys.length-1=m:=by omega
  simp only[e] at this;exact this
 have hxs:=zaU 1000000000 xs (m+1);rw[zqaf (by omega),zaU] at hxs;have hys:=zaU 1000000000 ys m;rw[zqaf (by omega)] at hys;cases m with
 | zero =>
  simp only[List.take_zero,vl,zqat,Nat.pow_zero,Nat.one_mul,Nat.pow_one] at hxs hys;have e1:bAt xs (((0:Nat):Int)-1)=0:=by unfold bAt;rw[if_pos (by omega)]
  have e2:bAt ys (((0:Nat):Int)-1)=0:=by unfold bAt;rw[if_pos (by omega)]
  rw[e1,e2];simp only[Nat.add_zero,zqat] at *;have hN:1000000000*xs.getD 1 0+xs.getD 0 0=vl 1000000000 xs:=by omega
  rw[hN,<- hys];have ed:1000000000*vl 1000000000 xs/(1000000000*vl 1000000000 ys)=vl 1000000000 xs/vl 1000000000 ys:=Nat.mul_div_mul_left _ _ (by decide);have hq:vl 1000000000 xs/vl 1000000000 ys<1000000000:=by rw[Nat.div_lt_iff_lt_mul (by omega)];exact hlt
  refine⟨by rw[ed];exact zqab _,by rw[ed];omega,by rw[ed];omega,by omega,by omega⟩
 | succ k =>
  have e1:bAt xs (((k+1:Nat):Int)-1)=xs.getD k 0:=by unfold bAt;rw[if_neg (by omega)];congr 1;omega
  have e2:bAt ys (((k+1:Nat):Int)-1)=ys.getD k 0:=by unfold bAt;rw[if_neg (by omega)];congr 1;omega
  rw[e1,e2];rw[zaU] at hxs hys;have hp:=zcv 1000000000 (xs.take k) (fun x h=>hx x (zqau h));have hp2:=zcv 1000000000 (ys.take k) (fun x h=>hy x (zqau h));rw[zqan,Nat.min_eq_left (by omega)] at hp hp2;have p1:(1000000000:Nat) ^ (k+1)=1000000000*1000000000 ^ k:=by rw[zqbp,zqbc]
  have p2:(1000000000:Nat) ^ (k+1+1)=1000000000*(1000000000*1000000000 ^ k):=by rw[zqbp,zqbc,p1]
  rw[p1,p2] at hxs;rw[p1] at hys;have hS:0<(1000000000:Nat) ^ k:=Nat.pow_pos (by decide);generalize (1000000000:Nat) ^ k=S at *;generalize xs.getD (k+1+1) 0=x1 at *;generalize xs.getD (k+1) 0=x2 at *;generalize xs.getD k 0=x3 at *;generalize ys.getD (k+1) 0=y1 at *;have hy2:ys.getD k 0<1000000000:=zbl _ (by decide) ys hy k;generalize ys.getD k 0=y2 at *;generalize vl 1000000000 (xs.take k)=p at *;generalize vl 1000000000 (ys.take k)=p' at *
  have eN:S*(1000000000*(1000000000*x1+x2)+x3)=1000000000*(1000000000*S)*x1+1000000000*S*x2+S*x3:=by
   simp only[zqbh];congr 1;congr 1
   ·rw[<- zqav,zqbc S 1000000000,<- zqav,zqav 1000000000 S,zqbc S 1000000000]
   rw[<- zqav,zqbc S]
  have eY:S*(1000000000*y1+y2)=1000000000*S*y1+S*y2:=by
   rw[zqbh,<- zqav,zqbc S]
  have hX:vl 1000000000 xs=p+S*(1000000000*(1000000000*x1+x2)+x3):=by rw[eN];omega
  have hY:vl 1000000000 ys=p'+S*(1000000000*y1+y2):=by rw[eY];omega
  have hYb:1000000000<=1000000000*y1+y2:=by omega
  clear hxs hys eN eY p1 p2 e1 e2 hy0;rw[hX,hY] at hlt;generalize 1000000000*(1000000000*x1+x2)+x3=N at *;generalize 1000000000*y1+y2=Y at *;have hSY:S*1<=S*Y:=zqbd _ (by omega)
  have hNY:N<1000000001*Y:=by
   have h1:S*N<S*(1000000000*(Y+1)):=by
    have:S*(1000000000*(Y+1))=1000000000*(S*Y+S):=by rw[<- zqav,zqbc S 1000000000,zqav,zqbh,Nat.mul_one]
    rw[this];omega
   have h2:=Nat.lt_of_mul_lt_mul_left h1;omega
  have hQ:N/Y<=1000000000:=by
   apply Nat.le_of_lt_succ;rw[Nat.div_lt_iff_lt_mul (by omega)];exact hNY
  refine⟨?_,?_,hQ,hNY,hYb⟩
  ·rw[hX,hY,Nat.le_div_iff_mul_le (by omega)]
   have h1:=Nat.div_mul_le_self (p+S*N) (p'+S*Y);generalize (p+S*N)/(p'+S*Y)=q at *
   have h2:S*(q*Y)<=q*(p'+S*Y):=by
    rw[zqbh];have:q*(S*Y)=S*(q*Y):=by rw[<- zqav,zqbc q S,zqav]
    omega
   have h3:S*(q*Y)<S*(N+1):=by rw[zqbh,Nat.mul_one];omega
   have h4:=Nat.lt_of_mul_lt_mul_left h3;omega
  have h1:=Nat.div_mul_le_self N Y;generalize N/Y=q at *;rcases Nat.eq_zero_or_pos q with rfl|hq
  exact zqaw _;obtain⟨t,rfl⟩:∃ t,q=t+1:=⟨q-1,by omega⟩;apply Nat.succ_le_succ;rw[hX,hY,Nat.le_div_iff_mul_le (by omega)];have h2:S*((t+1)*Y)<=S*N:=zqbd _ h1;rw[Nat.add_mul,Nat.one_mul,zqbh] at h2
  have h3:t*(p'+S*Y)=t*p'+S*(t*Y):=by
   rw[zqbh,<- zqav,zqbc t S,zqav]
  have h4:t*p'<=Y*S:=Nat.mul_le_mul (by omega) (by omega);rw[zqbc Y S] at h4;rw[h3];omega
def zFf (P vy qh:Nat)(part ys p1:List Nat)(c:Nat)(p2:List Nat):Prop :=
 (c=0->qh=P/vy/\vl 1000000000 p1=P%vy)/\(0<c->qh=P/vy+1/\vl 1000000000 p2=P%vy)
def zBU (part ys:List Nat)(qh:Nat)(hp:∀ x∈part,x<1000000000)(hy:∀ y∈ys,y<1000000000)(hl:part.length=ys.length+1)(hv:0<vl 1000000000 ys)
  (h1:vl 1000000000 part/vl 1000000000 ys<=qh) (h2:qh<=vl 1000000000 part/vl 1000000000 ys+1) (h3:qh<=1000000000) :
  (∀ z∈(zaL (zbg qh) part ys 0 (ys.length+1)).1,z<1000000000) /\
  (∀ z∈(zaL (zbC 1) (zaL (zbg qh) part ys 0 (ys.length+1)).1 ys 0 (ys.length+1)).1,z<1000000000) /\
  zFf (vl 1000000000 part) (vl 1000000000 ys) qh part ys (zaL (zbg qh) part ys 0 (ys.length+1)).1 (zaL (zbg qh) part ys 0 (ys.length+1)).2 (zaL (zbC 1) (zaL (zbg qh) part ys 0 (ys.length+1)).1 ys 0 (ys.length+1)).1:=by
 obtain⟨a1,a2,a3⟩:=zkQ qh part ys h3 hp hy 0 (by decide) (ys.length+1);have a4:=zbR (zbg qh) part ys 0 (ys.length+1);have t1:ys.take (ys.length+1)=ys:=zqaf (by omega);have t2:part.take (ys.length+1)=part:=zqaf (by omega);have t3:(zaL (zbg qh) part ys 0 (ys.length+1)).1.take (ys.length+1)=(zaL (zbg qh) part ys 0 (ys.length+1)).1:=zqaf (by omega);rw[t1,t2,Nat.add_zero] at a3;obtain⟨b1,b2,b3⟩:=zjn 1 (zaL (zbg qh) part ys 0 (ys.length+1)).1 ys (by decide) a1 hy 0 (by decide) (ys.length+1);have b4:=zbR (zbC 1) (zaL (zbg qh) part ys 0 (ys.length+1)).1 ys 0 (ys.length+1);rw[t1,t3,Nat.one_mul,Nat.add_zero] at b3;have c1:=zcv 1000000000 _ a1;have c2:=zcv 1000000000 _ b1;have c3:=zcv 1000000000 ys hy;rw[a4] at c1;rw[b4] at c2;have hpow:(1000000000:Nat) ^ ys.length<=1000000000 ^ (ys.length+1):=zqay (by decide) (by omega);refine⟨a1,b1,?_,?_⟩
 all_goals
  generalize (zaL (zbC 1) (zaL (zbg qh) part ys 0 (ys.length+1)).1 ys 0 (ys.length+1))=q2 at *;generalize zaL (zbg qh) part ys 0 (ys.length+1)=q1 at *;generalize vl 1000000000 part=P at *;generalize vl 1000000000 ys=V at *;generalize (1000000000:Nat) ^ (ys.length+1)=T at *;generalize (1000000000:Nat) ^ ys.length=T0 at *;have hdm:=zqbt P V;have hml:=Nat.mod_lt P hv;generalize P%V=r at *;generalize P/V=d at *;clear a1 b1 hp hy a4 b4 hl t1 t2 t3;intro hc
 ·rw[hc,Nat.mul_zero,Nat.add_zero] at a3
  have hq:qh=d:=by
   rcases Nat.lt_or_ge d qh with h|h
   ·obtain rfl:qh=d+1:=by omega
    rw[Nat.add_mul,Nat.one_mul,zqbc d V] at a3;omega
   omega
  refine⟨hq,?_⟩;rw[hq,zqbc d V] at a3;omega
 have hT:T*1<=T*q1.2:=zqbd _ hc
 have hq:qh=d+1:=by
  rcases Nat.lt_or_ge d qh with h|h;omega;obtain rfl:qh=d:=by omega
  rw[zqbc qh V] at a3;omega
 rw[hq,Nat.add_mul,Nat.one_mul,zqbc d V] at a3
 have hc1:q1.2=1:=by
  rcases Nat.lt_or_ge 1 q1.2 with h|h
  ·have:T*2<=T*q1.2:=zqbd _ h
   omega
  omega
 rw[hc1,Nat.mul_one] at a3
 have hc2:q2.2=1:=by
  rcases Nat.lt_or_ge 1 q2.2 with h|h
  ·have:T*2<=T*q2.2:=zqbd _ h
   omega
  rcases Nat.eq_zero_or_pos q2.2 with h0|h0
  ·rw[h0,Nat.mul_zero] at b3;omega
  omega
 rw[hc2,Nat.mul_one] at b3;exact⟨hq,by omega⟩
structure zfV (xs ys:List Nat)(k:Nat)(zs qs:List Nat):Prop where
 zlen:zs.length=xs.length+1
 qlen:qs.length=xs.length-ys.length+1
 zlt:∀ z∈zs,z<1000000000
 qlt:∀ z∈qs,z<1000000000
 val:vl 1000000000 (qs.drop k)*vl 1000000000 ys*1000000000 ^ k+vl 1000000000 zs=vl 1000000000 xs
 lt:vl 1000000000 (zs.drop k)<vl 1000000000 ys
section
variable {xs ys zs qs:List Nat} {k:Nat}
def zfV.start (hx:∀ x∈xs,x<1000000000)(hyt:zcZ ys)(h0:ys≠[])(hle:ys.length<=xs.length) :
  zfV xs ys (xs.length-ys.length+1) (xs++[0]) (List.replicate (xs.length-ys.length+1) 0):=by
 have hyl:0<ys.length:=List.length_pos_iff.2 h0
 have hz:∀ z∈xs++[0],z<1000000000:=by
  intro z hz;rcases zqbo.1 hz with h|h
  exact hx z h;rw[zqbk.1 h];decide
 refine⟨by simp,by simp,hz,fun z h=>by rw[(List.mem_replicate.1 h).2];decide,?_,?_⟩;rw[List.drop_eq_nil_of_le (by simp),zgk];simp[vl];have ht:=zlU 1000000000 ys h0 hyt
 have e:(xs++[0]).drop (xs.length-ys.length+1)=xs.drop (xs.length-ys.length+1)++[0]:=by
  rw[List.drop_append_of_le_length (by omega)]
 rw[e,zgk,Nat.mul_zero,Nat.add_zero];have h2:=zcv 1000000000 (xs.drop (xs.length-ys.length+1)) (fun x h=>hx x (List.mem_of_mem_drop h));rw[List.length_drop,show xs.length-(xs.length-ys.length+1)=ys.length-1 by omega] at h2;omega
def zfV.part (h:zfV xs ys (k+1) zs qs)(hk:k+1<=xs.length-ys.length+1)(hle:ys.length<=xs.length)(hy:∀ y∈ys,y<1000000000) :
  vl 1000000000 (zs.drop (k+(ys.length+1)))=0/\((zs.drop k).take (ys.length+1)).length=ys.length+1/\(∀ z∈(zs.drop k).take (ys.length+1),z<1000000000) /\
  vl 1000000000 ((zs.drop k).take (ys.length+1))<1000000000*vl 1000000000 ys/\vl 1000000000 (zs.drop k)=vl 1000000000 ((zs.drop k).take (ys.length+1)):=by
 have hl:=h.zlen;have hyv:=zcv 1000000000 ys hy;have h1:=zgN 1000000000 (zs.drop (k+1)) ys.length (by rw[List.length_drop];omega);rw[List.drop_drop] at h1;have hlt:=h.lt
 have hz:vl 1000000000 (zs.drop (k+1+ys.length))=0:=by
  rcases Nat.eq_zero_or_pos (vl 1000000000 (zs.drop (k+1+ys.length))) with e|e;exact e;have:1000000000 ^ ys.length*1<=1000000000 ^ ys.length*vl 1000000000 (zs.drop (k+1+ys.length)):=zqbd _ e;omega
 have e1:k+1+ys.length=k+(ys.length+1):=by omega
 rw[e1] at hz;have h2:=zgN 1000000000 (zs.drop k) (ys.length+1) (by rw[List.length_drop];omega);rw[List.drop_drop,hz,Nat.mul_zero,Nat.add_zero] at h2;have h3:=zfT 1000000000 zs k;have hzk:=zbl 1000000000 (by decide) zs h.zlt k;exact⟨hz,by rw[zqan,List.length_drop];omega,fun z hm=>h.zlt z (List.mem_of_mem_drop (zqau hm)),by omega,h2⟩
def zfV.step (h:zfV xs ys (k+1) zs qs)(hk:k+1<=xs.length-ys.length+1)(hle:ys.length<=xs.length)(hy:∀ y∈ys,y<1000000000)(hv:0<vl 1000000000 ys)
  (p:List Nat) (q:Nat) (hpl:p.length=ys.length+1) (hp:∀ z∈p,z<1000000000)
  (hq:q=vl 1000000000 ((zs.drop k).take (ys.length+1))/vl 1000000000 ys) (hpv:vl 1000000000 p=vl 1000000000 ((zs.drop k).take (ys.length+1))%vl 1000000000 ys) :
  zfV xs ys k (zs.take k++p++zs.drop (k+(ys.length+1))) (qs.set k q):=by
 obtain⟨a1,a2,a3,a4,a5⟩:=h.part hk hle hy;have hl:=h.zlen;have hql:=h.qlen;have hqb:q<1000000000:=by rw[hq,Nat.div_lt_iff_lt_mul hv];exact a4
 have hdm:=zqbt (vl 1000000000 ((zs.drop k).take (ys.length+1))) (vl 1000000000 ys);have hml:=Nat.mod_lt (vl 1000000000 ((zs.drop k).take (ys.length+1))) hv;rw[<- hq,<- hpv] at hdm;rw[<- hpv] at hml;have htk:(zs.take k).length=k:=by rw[zqan];omega
 refine⟨?_,by rw[List.length_set];exact hql,?_,?_,?_,?_⟩;rw[zqag,zqag,htk,List.length_drop,hpl];omega
 ·intro z hz
  rcases zqbo.1 hz with hz|hz
  ·rcases zqbo.1 hz with hz|hz
   ·exact h.zlt z (zqau hz)
   exact hp z hz
  exact h.zlt z (List.mem_of_mem_drop hz)
 ·intro z hz
  rcases List.mem_or_eq_of_mem_set hz with hz|rfl;exact h.qlt z hz;exact hqb
 ·have hsp:=zgN 1000000000 zs k (by omega)
  have hqd:=zfT 1000000000 (qs.set k q) k;rw[zfU _ _ _ _ (by omega),if_pos rfl,List.drop_set_of_lt (show k<k+1 by omega)] at hqd;have zV:=h.val;rw[hqd,zdJ,zdJ,a1,Nat.mul_zero,Nat.add_zero,htk];rw[hsp,a5,<- hdm,zqbp] at zV;rw[<- zV,Nat.add_mul,Nat.add_mul,zqbh];generalize vl 1000000000 (qs.drop (k+1))=Q;generalize vl 1000000000 ys=V;generalize vl 1000000000 (zs.take k)=A;generalize vl 1000000000 p=R;generalize (1000000000:Nat) ^ k=T;have e1:q*V*T=T*(V*q):=by rw[zqbc T,zqbc q V]
  have e2:1000000000*Q*V*T=Q*V*(T*1000000000):=by
   rw[zqbc T,<- zqav,zqbc (Q*V) 1000000000,<- zqav]
  rw[e1,e2];omega
 rw[zqbj,List.drop_append_of_le_length (by omega),List.drop_of_length_le (by omega),List.nil_append,zdJ,a1,Nat.mul_zero,Nat.add_zero];exact hml
def zfV.fin (h:zfV xs ys 0 zs qs):vl 1000000000 qs=vl 1000000000 xs/vl 1000000000 ys/\vl 1000000000 zs=vl 1000000000 xs%vl 1000000000 ys:=by
 have hv:=h.val;have hl:=h.lt;rw[List.drop_zero] at hl;rw[List.drop_zero,Nat.pow_zero,Nat.mul_one,zqbc] at hv;have:=(Nat.div_mod_unique (a:=vl 1000000000 xs) (b:=vl 1000000000 ys) (c:=vl 1000000000 zs) (d:=vl 1000000000 qs) (by omega)).2 ⟨by omega,hl⟩;exact⟨this.1.symm,this.2.symm⟩
end
open Go.Lib
def zjp (x:Rat):List UInt8:=(if x.num<0 then [45] else [])++(decDigits x.num.natAbs++(if x.den=1 then [] else 47::decDigits x.den))
def zfW (x:Rat):ByteArray:=⟨(zjp x).toArray⟩
def zcd (x:Rat):Prop:=nDigits x.num.natAbs<=400/\nDigits x.den<=400
instance (x:Rat):Decidable (zcd x):=inferInstanceAs (Decidable (_/\_))
structure zaM (a:ByteArray)(x:Rat):Prop where
 short:zcd x
 eq:a=zfW x
def zBV (ds:List UInt8)(h:ds.all zdo=true):cut ds [47]=(ds,[],false):=by
 unfold cut;rcases index_spec ds [47] with⟨h1,_⟩|⟨i,h1,h2,h3,_⟩
 rw[h1];rfl;exfalso;unfold occAt at h3;cases hd:ds.drop i with
 | nil=>rw[hd] at h3;simp at h3
 | cons c r =>
  exact zQbt
def zBW (ds r:List UInt8)(h:ds.all zdo=true):cut (ds++47::r) [47]=(ds,r,true):=by
 unfold cut;rcases index_spec (ds++47::r) [47] with⟨_,h2⟩|⟨i,h1,h2,h3,h4⟩
 ·exfalso
  have:=h2 ds.length (by simp);unfold occAt at this;simp at this
 have hi:i=ds.length:=by
  rcases Nat.lt_trichotomy i ds.length with hl|hl|hl
  ·exfalso
   unfold occAt at h3;rw[List.drop_append_of_le_length (by omega)] at h3;cases hd:ds.drop i with
   | nil=>have:=zqbz List.length hd;simp at this;omega
   | cons c t =>
    exact zQbt
  exact hl;exfalso;have:=h4 ds.length hl;unfold occAt at this;simp at this
 subst hi;rw[h1,if_pos (by omega)];simp
def zdp (a:ByteArray):Bool:=hasPrefix a.data.toList [45]
def zdy (a:ByteArray):List UInt8:=trimPrefix a.data.toList [45]
def zdC (a:ByteArray):Bool:=(cut (zdy a) [47]).2.2
def zdq (a:ByteArray):ByteArray:=⟨(cut (zdy a) [47]).1.toArray⟩
def tailA (a:ByteArray):ByteArray:=⟨(cut (zdy a) [47]).2.1.toArray⟩
def zdd (a:ByteArray):ByteArray:=if zdC a then tailA a else ⟨#[49]⟩
def zGK (n:Nat):∃ c r,decDigits n=c::r/\zdo c=true:=by
 have ha:=znm n;have hl:(decDigits n).length≠0:=by rw[decDigits_length];have:=nDigits_pos n;omega
 cases h:decDigits n with
 | nil=>rw[h] at hl;exact absurd rfl hl
 | cons c r=>rw[h] at ha;simp at ha;exact⟨c,r,rfl,ha.1⟩
def zpe (n:Nat)(t:List UInt8):hasPrefix (decDigits n++t) [45]=false:=by
 obtain⟨c,r,h,hc⟩:=zGK n;rw[h];unfold hasPrefix;rw[List.cons_append];simp only[List.isPrefixOf_cons_cons,Bool.and_eq_false_iff];left;rw[beq_eq_false_iff_ne];intro e;rw[<- e] at hc;exact absurd hc (by decide)
def zFg:decDigits 1=[49]:=by rw[decDigits_one (by decide)];rfl
def apart (a:ByteArray)(x:Rat)(h:a=zfW x):zdp a=decide (x.num<0)/\zdq a=zal x.num.natAbs/\zdd a=zal x.den/\zdC a=decide (x.den≠1):=by
 subst h
 have hr:zdy (zfW x)=decDigits x.num.natAbs++(if x.den=1 then [] else 47::decDigits x.den):=by
  unfold zdy zfW zjp trimPrefix
  by_cases hn:x.num<0
  ·simp only[if_pos hn,List.singleton_append]
   rw[if_pos (by unfold hasPrefix;simp)];rfl
  simp only[if_neg hn,List.nil_append];rw[if_neg (by rw[zpe];simp)]
 have hs:zdp (zfW x)=decide (x.num<0):=by
  unfold zdp zfW zjp
  by_cases hn:x.num<0
  ·simp only[if_pos hn,List.singleton_append,hn,decide_true]
   unfold hasPrefix;simp
  simp only[if_neg hn,List.nil_append,hn,decide_false];exact zpe _ _
 refine⟨hs,?_⟩;unfold zdq zdd zdC tailA;rw[hr]
 by_cases hd:x.den=1
 ·rw[if_pos hd,List.append_nil,zBV _ (znm _)]
  simp only[hd,zal,zFg,Bool.false_eq_true,if_false,ne_eq,not_true,decide_false,and_self]
 rw[if_neg hd,zBW _ _ (znm _)];simp only[zal,if_true,ne_eq,hd,not_false_eq_true,decide_true,and_self]
def sg (neg:Bool)(n:Nat):Int:=if neg then -(n:Int) else n
def zkC (neg:Bool)(n:Nat):(sg neg n).natAbs=n:=by unfold sg;split <;> omega
def zGL (neg:Bool)(n:Nat):(sg neg n<0)↔(neg=true/\n≠0):=by unfold sg;split <;> simp_all <;> omega
def zsM (x:Rat):sg (decide (x.num<0)) x.num.natAbs=x.num:=by
 by_cases h:x.num<0
 rw[sg,if_pos (by simpa using h)];omega;rw[sg,if_neg (by simpa using h)];omega
def zqC (x:Rat):mkRat (sg (decide (x.num<0)) x.num.natAbs) x.den=x:=by rw[zsM,Rat.mkRat_self]
def zpf (neg:Bool)(n d:Nat)(hd:d≠0):(mkRat (sg neg n) d).num.natAbs=n/Nat.gcd n d:=by
 rw[Rat.num_mkRat,if_neg hd,zkC,Nat.gcd_comm d n];unfold sg;split;rw[Int.natAbs_ediv_of_dvd (by rw[Int.dvd_neg];exact Int.ofNat_dvd.2 (Nat.gcd_dvd_left n d))];simp;rw[Int.natAbs_ediv_of_dvd (Int.ofNat_dvd.2 (Nat.gcd_dvd_left n d))];simp
def zpg (neg:Bool)(n d:Nat)(hd:d≠0):(mkRat (sg neg n) d).den=d/Nat.gcd n d:=by
 rw[Rat.den_mkRat,if_neg hd,zkC,Nat.gcd_comm d n]
def zsN (neg:Bool)(n d:Nat)(hd:d≠0):((mkRat (sg neg n) d).num<0)↔(neg=true/\n≠0):=by
 rw[<- zGL];have e:=Rat.num_mkRat (sg neg n) d;rw[if_neg hd,zkC,Nat.gcd_comm d n] at e;have hg:0<Nat.gcd n d:=Nat.gcd_pos_of_pos_right _ (Nat.pos_of_ne_zero hd)
 have hdv:((Nat.gcd n d:Nat):Int) ∣ sg neg n:=by
  unfold sg;split;rw[Int.dvd_neg];exact Int.ofNat_dvd.2 (Nat.gcd_dvd_left n d);exact Int.ofNat_dvd.2 (Nat.gcd_dvd_left n d)
 obtain⟨k,hk⟩:=hdv;rw[e,hk,Int.mul_ediv_cancel_left _ (by omega)];constructor
 ·intro h;exact Int.mul_neg_of_pos_of_neg (by omega) h
 intro h;rcases Int.lt_or_le k 0 with h1|h1;exact h1;have:=Int.mul_nonneg (show(0:Int)<=(Nat.gcd n d:Nat) by omega) h1;omega
def zec (x:Rat):Value:=if zcd x then .tuple #[.string (zfW x),.int .i64 0] else .tuple #[.string ⟨#[]⟩,.int .i64 2]
def zhr (neg:Bool)(num den:ByteArray):Value :=
 if zas num&&zas den && !decide (nv den=0) then zec (mkRat (sg neg (nv num)) (nv den)) else .tuple #[.string ⟨#[]⟩,.int .i64 1]
def zfy (x:Rat):Value:=.agg #[.bool (decide (x.num<0)),.string (zal x.num.natAbs),.string (zal x.den)]
def zbn (n:Nat)(h:nDigits n<=1000):zas (zal n)=true:=by rw[zqB];simpa using h
def zaM.uniq {a:ByteArray}{x y:Rat}(h:zaM a x)(k:zaM a y):x=y:=by
 obtain⟨h1,h2,h3,_⟩:=apart a x h.eq;obtain⟨k1,k2,k3,_⟩:=apart a y k.eq;have e1:decide (x.num<0)=decide (y.num<0):=h1.symm.trans k1;have e2:=znn (h2.symm.trans k2);have e3:=znn (h3.symm.trans k3);rw[<- zqC x,<- zqC y,e1,e2,e3]
def zjf {x:Rat}(h:zcd x):zec x=.tuple #[.string (zfW x),.int .i64 0]:=if_pos h
def zgU {x:Rat}(h:¬ zcd x):zec x=.tuple #[.string ⟨#[]⟩,.int .i64 2]:=if_neg h
def zjq {a:ByteArray}{x:Rat}(h:zaM a x):zec x=.tuple #[.string a,.int .i64 0]:=by rw[zjf h.short,h.eq]
def zph (x:Rat):(∃ S,zec x=.tuple #[.string S,.int .i64 0]/\zaM S x)∨(zec x=.tuple #[.string ⟨#[]⟩,.int .i64 2]/\¬ zcd x):=by
 by_cases h:zcd x
 exact .inl ⟨zfW x,zjf h,h,rfl⟩;exact .inr ⟨zgU h,h⟩
def zyQ {a:ByteArray}{x:Rat}(h:zaM a x):zhr (zdp a) (zdq a) (zdd a)=.tuple #[.string a,.int .i64 0]:=by
 obtain⟨h1,h2,h3,_⟩:=apart a x h.eq;have:=h.short.1;have:=h.short.2;unfold zhr;rw[h1,h2,h3,zbc,zbc,zbn _ (by omega),zbn _ (by omega),zqC];simp only[Bool.and_self,Bool.true_and,x.den_nz,decide_false,Bool.not_false,if_true];exact zjq h
def zuS (neg:Bool)(num den:ByteArray):(∃ S x,zhr neg num den=.tuple #[.string S,.int .i64 0]/\zaM S x)∨(∃ E:Int,zhr neg num den=.tuple #[.string ⟨#[]⟩,.int .i64 E]/\(E=1∨E=2)):=by
 unfold zhr;split
 ·rcases zph (mkRat (sg neg (nv num)) (nv den)) with⟨S,h,k⟩|⟨h,_⟩
  ·exact .inl ⟨S,_,h,k⟩
  exact .inr ⟨2,h,.inr rfl⟩
 exact .inr ⟨1,rfl,.inl rfl⟩
def zFh (neg:Bool)(n d:Nat)(hd:d≠0) :
  zfy (mkRat (sg neg n) d)=.agg #[.bool (neg && !decide (n=0)),.string (zal (n/Nat.gcd n d)),.string (zal (d/Nat.gcd n d))]:=by
 unfold zfy
 rw[zpf neg n d hd,zpg neg n d hd,show decide ((mkRat (sg neg n) d).num<0)=(neg && !decide (n=0)) by
  rw[Bool.eq_iff_iff,zqca,zsN neg n d hd];simp]
open Go.Lib
def zBX (s:List UInt8):s=(cut s [47]).1++(if (cut s [47]).2.2 then 47::(cut s [47]).2.1 else []):=by
 unfold cut;rcases index_spec s [47] with⟨h1,_⟩|⟨i,h1,h2,h3,_⟩
 rw[h1];simp;rw[h1,if_pos (by omega)];simp only[if_true,Int.toNat_natCast,zqbq];have hc:=occAt_head (s:=s) (sub:=[47]) rfl h3;obtain⟨hi,e⟩:=zqae.1 hc;have:s.drop i=47::s.drop (i+1):=by rw[List.drop_eq_getElem_cons hi,e]
 rw[<- this,List.take_append_drop]
def zBY (a:List UInt8):a=(if hasPrefix a [45] then [45] else [])++trimPrefix a [45]:=by
 unfold trimPrefix;cases h:hasPrefix a [45];simp;unfold hasPrefix at h;cases a with
 | nil=>simp at h
 | cons c r=>simp at h;subst h;simp
def zFi (a:ByteArray):a.data.toList=(if zdp a then [45] else [])++((zdq a).data.toList++(if zdC a then 47::(tailA a).data.toList else [])):=by
 conv=>lhs;rw[zBY a.data.toList]
 unfold zdp zdq zdC tailA;congr 1;show zdy a=_
 conv=>lhs;rw[zBX (zdy a)]
structure zfe (a:ByteArray):Prop where
 n:zas (zdq a)=true
 d:zas (zdd a)=true
 sn:(zdq a).size<=400
 sd:(zdd a).size<=400
 d0:nv (zdd a)≠0
 z:nv (zdq a)=0->zdp a=false/\zdC a=false
 one:nv (zdd a)=1->zdC a=false
 g:Nat.gcd (nv (zdq a)) (nv (zdd a))=1∨nv (zdd a)=1
def zfe.gcd {a:ByteArray}(h:zfe a):Nat.gcd (nv (zdq a)) (nv (zdd a))=1:=by
 rcases h.g with k|k;exact k;rw[k,Nat.gcd_one_right]
def zyR {a:ByteArray}(h:zfe a):zaM a (mkRat (sg (zdp a) (nv (zdq a))) (nv (zdd a))):=by
 have e1:=zpf (zdp a) (nv (zdq a)) (nv (zdd a)) h.d0;have e2:=zpg (zdp a) (nv (zdq a)) (nv (zdd a)) h.d0;have e3:=zsN (zdp a) (nv (zdq a)) (nv (zdd a)) h.d0;rw[h.gcd,Nat.div_one] at e1 e2;obtain⟨n1,n2⟩:=zcE _ h.n;obtain⟨d1,d2⟩:=zcE _ h.d;refine⟨⟨?_,?_⟩,?_⟩;rw[e1,<- zcQ,<- n1];exact h.sn;rw[e2,<- zcQ,<- d1];exact h.sd;apply ByteArray.ext;apply Array.ext';rw[zFi a];unfold zfW zjp;rw[e1,e2]
 have en:(zdq a).data.toList=decDigits (nv (zdq a)):=by
                                                          conv=>lhs;rw[n1]
                                                          simp[zal]
 rw[en];show _=_++(_++_)
 have hs:((mkRat (sg (zdp a) (nv (zdq a))) (nv (zdd a))).num<0)↔zdp a=true:=by
  rw[e3];constructor;exact fun k=>k.1;intro k;refine⟨k,fun z=>?_⟩;have:=(h.z z).1;rw[k] at this;cases this
 congr 1
 ·by_cases k:zdp a=true
  ·rw[if_pos k,if_pos (hs.2 k)]
  rw[if_neg k,if_neg (fun q=>k (hs.1 q))]
 congr 1
 by_cases k:nv (zdd a)=1
 rw[if_pos k,h.one k];simp;rw[if_neg k];cases hk:zdC a
 ·exfalso
  apply k;unfold zdd;rw[hk];simp only[Bool.false_eq_true,if_false];decide +kernel
 have ed:zdd a=tailA a:=by unfold zdd;rw[hk];simp
 rw[if_pos rfl,<- ed];congr 1
 conv=>lhs;rw[d1]
 simp[zal]
def zlW {a:ByteArray}{x:Rat}(h:zaM a x):zfe a:=by
 obtain⟨h1,h2,h3,h4⟩:=apart a x h.eq;have s1:=h.short.1;have s2:=h.short.2;have hd:=x.den_nz;have hr:=x.reduced;refine⟨?_,?_,?_,?_,?_,?_,?_,?_⟩;rw[h2];exact zbn _ (by omega);rw[h3];exact zbn _ (by omega);rw[h2,zcQ];exact s1;rw[h3,zcQ];exact s2;rw[h3,zbc];exact hd
 ·rw[h2,zbc,h1,h4]
  intro z
  have hx:x.den=1:=by
   have:Nat.gcd x.num.natAbs x.den=1:=hr;rw[z,Nat.gcd_zero_left] at this;exact this
  have hz:x.num=0:=by omega
  rw[hx,hz];decide
 ·rw[h3,zbc,h4]
  intro z;simp[z]
 rw[h2,h3,zbc,zbc];exact .inl hr
open Go.Lib
end Go.Proofs.YtadgpgofcjpnjaaGreatDoor
namespace Go.Proofs
open Go.Shelf
def Tryz.lays161_ren:Go.Shelf.Ren:=⟨fun|161=>200|231=>209|227=>210|233=>211|235=>212|228=>218|197=>219|151=>220|260=>222|152=>223|137=>225|119=>226|224=>193|225=>192|217=>191|266=>204|n=>n,fun|9=>9|4=>4|3=>3|5=>5|117=>189|116=>188|0=>0|124=>192|105=>201|21=>21|119=>208|46=>113|139=>211|138=>210|n=>n,fun|3=>3|4=>4|n=>n⟩
def Tryz.lays161:Go.Proofs.Lays.n161 prog Tryz.lays161_ren := {
 mixed:=by kernel_rfl
 f119:=func226.trans (zqbz some (by kernel_rfl))
 f137:=func225.trans (zqbz some (by kernel_rfl))
 f151:=func220.trans (zqbz some (by kernel_rfl))
 f152:=func223.trans (zqbz some (by kernel_rfl))
 f161:=func200.trans (zqbz some (by kernel_rfl))
 f197:=func219.trans (zqbz some (by kernel_rfl))
 f217:=func191.trans (zqbz some (by kernel_rfl))
 f224:=func193.trans (zqbz some (by kernel_rfl))
 f225:=func192.trans (zqbz some (by kernel_rfl))
 f227:=func210.trans (zqbz some (by kernel_rfl))
 f228:=func218.trans (zqbz some (by kernel_rfl))
 f231:=func209.trans (zqbz some (by kernel_rfl))
 f233:=func211.trans (zqbz some (by kernel_rfl))
 f235:=func212.trans (zqbz some (by kernel_rfl))
 f260:=func222.trans (zqbz some (by kernel_rfl))
 f266:=func204.trans (zqbz some (by kernel_rfl))
 t0:=underlying0
 a0:=isAgg0
 z0:=sizeOf0
 v0:=zeroValue0
 t3:=underlying3
 a3:=isAgg3
 z3:=sizeOf3
 v3:=zeroValue3
 t4:=underlying4
 a4:=isAgg4
 z4:=sizeOf4
 v4:=zeroValue4
 t5:=underlying5
 a5:=isAgg5
 z5:=sizeOf5
 v5:=zeroValue5
 t9:=underlying9
 a9:=isAgg9
 z9:=sizeOf9
 v9:=zeroValue9
 t21:=underlying21
 a21:=isAgg21
 z21:=sizeOf21
 v21:=zeroValue21
 t46:=underlying113
 a46:=isAgg113
 z46:=sizeOf113
 v46:=zeroValue113
 t105:=underlying201
 a105:=isAgg201
 z105:=sizeOf201
 v105:=zeroValue201
 t116:=underlying188
 a116:=isAgg188
 z116:=sizeOf188
 t117:=underlying189
 a117:=isAgg189
 z117:=sizeOf189
 v117:=zeroValue189
 t119:=underlying208
 a119:=isAgg208
 z119:=sizeOf208
 t124:=underlying192
 a124:=isAgg192
 z124:=sizeOf192
 v124:=zeroValue192
 t138:=underlying210
 a138:=isAgg210
 z138:=sizeOf210
 v138:=zeroValue210
 t139:=underlying211
 a139:=isAgg211
 z139:=sizeOf211
 v139:=zeroValue211
 g3:=by kernel_rfl
 g4:=by kernel_rfl }
open Go.RowKit in
def Tryz.strings_TrimLeft_one (s:ByteArray)(c:UInt8)(hc:c.toNat<128)(w:World) :
  Calls prog 200 #[.string s,.string ⟨#[c]⟩] w fun e w'=>e=.returned (.string ⟨(Lib.trimLeftB s.data.toList c).toArray⟩)/\w'=w:=Any.strings_TrimLeft_one Tryz.lays161 s c hc w
def Tryz.lays134_ren:Go.Shelf.Ren:=⟨fun|134=>221|129=>224|n=>n,fun|53=>173|3=>3|4=>4|46=>113|5=>5|9=>9|n=>n,fun|n=>n⟩
def Tryz.lays134:Go.Proofs.Lays.n134 prog Tryz.lays134_ren := {
 mixed:=by kernel_rfl
 f129:=func224.trans (zqbz some (by kernel_rfl))
 f134:=func221.trans (zqbz some (by kernel_rfl))
 t3:=underlying3
 a3:=isAgg3
 z3:=sizeOf3
 v3:=zeroValue3
 t4:=underlying4
 a4:=isAgg4
 z4:=sizeOf4
 v4:=zeroValue4
 t5:=underlying5
 a5:=isAgg5
 z5:=sizeOf5
 v5:=zeroValue5
 t9:=underlying9
 a9:=isAgg9
 z9:=sizeOf9
 v9:=zeroValue9
 t46:=underlying113
 a46:=isAgg113
 z46:=sizeOf113
 v46:=zeroValue113
 t53:=underlying173
 a53:=isAgg173
 z53:=sizeOf173
 v53:=zeroValue173 }
def Tryz.bits_LeadingZeros64 (x:Int)(w:World)(h0:0<=x)(h1:x<=18446744073709551615) :
  Calls prog 221 #[.int .u64 x] w fun e w'=>e=.returned (.int .i64 (64-(Lib.bitLen x.toNat:Int)))/\w'=w:=Any.bits_LeadingZeros64 Tryz.lays134 x w h0 h1
def Tryz.lays106_ren:Go.Shelf.Ren:=⟨fun|106=>185|213=>197|265=>207|n=>n,fun|9=>9|3=>3|n=>n,fun|n=>n⟩
def Tryz.lays106:Go.Proofs.Lays.n106 prog Tryz.lays106_ren := {
 mixed:=by kernel_rfl
 f106:=func185.trans (zqbz some (by kernel_rfl))
 f213:=func197.trans (zqbz some (by kernel_rfl))
 f265:=func207.trans (zqbz some (by kernel_rfl))
 t3:=underlying3
 a3:=isAgg3
 z3:=sizeOf3
 v3:=zeroValue3
 t9:=underlying9
 a9:=isAgg9
 z9:=sizeOf9
 v9:=zeroValue9 }
open Go.RowKit in
def Tryz.strings_Compare (a b:ByteArray)(w:World) :
  Calls prog 185 #[.string a,.string b] w fun e w'=>e=.returned (.int .i64 (Lib.compareBytes a.data.toList b.data.toList))/\w'=w:=Any.strings_Compare Tryz.lays106 a b w
def Tryz.lays103_ren:Go.Shelf.Ren:=⟨fun|103=>145|210=>168|206=>179|n=>n,fun|9=>9|4=>4|24=>152|3=>3|n=>n,fun|n=>n⟩
def Tryz.lays103:Go.Proofs.Lays.n103 prog Tryz.lays103_ren := {
 mixed:=by kernel_rfl
 f103:=func145.trans (zqbz some (by kernel_rfl))
 f206:=func179.trans (zqbz some (by kernel_rfl))
 f210:=func168.trans (zqbz some (by kernel_rfl))
 t3:=underlying3
 a3:=isAgg3
 z3:=sizeOf3
 v3:=zeroValue3
 t4:=underlying4
 a4:=isAgg4
 z4:=sizeOf4
 v4:=zeroValue4
 t9:=underlying9
 a9:=isAgg9
 z9:=sizeOf9
 v9:=zeroValue9
 t24:=underlying152
 a24:=isAgg152
 z24:=sizeOf152
 v24:=zeroValue152 }
open Go.RowKit in
def Tryz.strings_CutPrefix (s p:ByteArray)(w:World) :
  Calls prog 145 #[.string s,.string p] w fun e w'=>e=.returned (.tuple #[.string ⟨(Lib.trimPrefix s.data.toList p.data.toList).toArray⟩,.bool (Lib.hasPrefix s.data.toList p.data.toList)])/\w'=w:=Any.strings_CutPrefix Tryz.lays103 s p w
def Tryz.lays122_ren:Go.Shelf.Ren:=⟨fun|122=>127|215=>151|n=>n,fun|3=>3|4=>4|n=>n,fun|n=>n⟩
def Tryz.lays122:Go.Proofs.Lays.n122 prog Tryz.lays122_ren := {
 mixed:=by kernel_rfl
 f122:=func127.trans (zqbz some (by kernel_rfl))
 f215:=func151.trans (zqbz some (by kernel_rfl))
 t3:=underlying3
 a3:=isAgg3
 z3:=sizeOf3
 v3:=zeroValue3
 t4:=underlying4
 a4:=isAgg4
 z4:=sizeOf4
 v4:=zeroValue4 }
open Go.RowKit in
def Tryz.cmp_Compare_int (x y:Int)(w:World) :
  Calls prog 127 #[.int .i64 x,.int .i64 y] w fun e w'=>e=.returned (.int .i64 (Lib.compareInt x y))/\w'=w:=Any.cmp_Compare_int Tryz.lays122 x y w
open Go.RowKit in
open Go.RowKit in
open Go.RowKit in
open Go.RowKit in
def Tryz.lays219_ren:Go.Shelf.Ren:=⟨fun|219=>180|217=>191|225=>192|224=>193|267=>194|266=>204|314=>205|n=>n,fun|9=>9|3=>3|4=>4|5=>5|46=>113|146=>184|51=>183|n=>n,fun|1=>0|n=>n⟩
def Tryz.lays219:Go.Proofs.Lays.n219 prog Tryz.lays219_ren := {
 mixed:=by kernel_rfl
 f217:=func191.trans (zqbz some (by kernel_rfl))
 f219:=func180.trans (zqbz some (by kernel_rfl))
 f224:=func193.trans (zqbz some (by kernel_rfl))
 f225:=func192.trans (zqbz some (by kernel_rfl))
 f266:=func204.trans (zqbz some (by kernel_rfl))
 f267:=func194.trans (zqbz some (by kernel_rfl))
 f314:=func205.trans (zqbz some (by kernel_rfl))
 t3:=underlying3
 a3:=isAgg3
 z3:=sizeOf3
 v3:=zeroValue3
 t4:=underlying4
 a4:=isAgg4
 z4:=sizeOf4
 v4:=zeroValue4
 t5:=underlying5
 a5:=isAgg5
 z5:=sizeOf5
 v5:=zeroValue5
 t9:=underlying9
 a9:=isAgg9
 z9:=sizeOf9
 v9:=zeroValue9
 t46:=underlying113
 a46:=isAgg113
 z46:=sizeOf113
 v46:=zeroValue113
 t51:=underlying183
 a51:=isAgg183
 z51:=sizeOf183
 v51:=zeroValue183
 t146:=underlying184
 a146:=isAgg184
 z146:=sizeOf184
 v146:=zeroValue184
 g1:=by kernel_rfl }
open Go.RowKit Go.Lib in
def Tryz.stringslite_Index_one (s:ByteArray)(c:UInt8)(w:World) :
  Calls prog 180 #[.string s,.string ⟨#[c]⟩] w fun e w'=>e=.returned (.int .i64 (Lib.indexByte s.data.toList c))/\w'=w:=Any.stringslite_Index_one Tryz.lays219 s c w
open Go.RowKit Go.Lib in
def Tryz.lays264_ren:Go.Shelf.Ren:=⟨fun|264=>215|n=>n,fun|53=>173|46=>113|n=>n,fun|n=>n⟩
def Tryz.lays264:Go.Proofs.Lays.n264 prog Tryz.lays264_ren := {
 mixed:=by kernel_rfl
 f264:=func215.trans (zqbz some (by kernel_rfl))
 t46:=underlying113
 a46:=isAgg113
 z46:=sizeOf113
 v46:=zeroValue113
 t53:=underlying173
 a53:=isAgg173
 z53:=sizeOf173
 v53:=zeroValue173 }
open Go.RowKit Go.Lib in
def Tryz.bits_Mul64 (x y:Nat)(hx:x<18446744073709551616)(hy:y<18446744073709551616)(w:World) :
  Calls prog 215 #[.int .u64 x,.int .u64 y] w fun e w'=>e=.returned (.tuple #[.int .u64 ((x*y/18446744073709551616:Nat):Int),.int .u64 ((x*y%18446744073709551616:Nat):Int)])/\w'=w:=Any.bits_Mul64 Tryz.lays264 x y hx hy w
def Tryz.lays7_25_ren:Go.Shelf.Ren:=⟨fun|25=>216|n=>n,fun|22=>173|n=>n,fun|n=>n⟩
def Tryz.lays7_25:Go.Proofs.Lays7.n25 prog Tryz.lays7_25_ren := {
 mixed:=by kernel_rfl
 f25:=func216.trans (zqbz some (by kernel_rfl))
 t22:=underlying173
 a22:=isAgg173
 z22:=sizeOf173
 v22:=zeroValue173
 i22:=by kernel_rfl }
def Tryz.bits_Add64 (x y:Nat)(w:World) :
  (callFunc 216 #[.int .u64 x,.int .u64 y,.int .u64 0]).run prog w =
   .ok (.value (.tuple #[.int .u64 (((x+y)%18446744073709551616:Nat):Int),.int .u64 (((x+y)/18446744073709551616:Nat):Int)])) w :=
 Any7.bits_Add64 Tryz.lays7_25 x y 0 (by decide) w
end Go.Proofs
namespace Go.Proofs.YtadgpgofcjpnjaaGreatDoor
open Go.Proofs.Tryz
structure Sr (α:Type) where
 add:α->α->α
 mul:α->α->α
 zero:α
 one:α
 star:α->α
 le:α->α->Prop
 add_comm:∀ a b,add a b=add b a
 add_assoc:∀ a b c,add (add a b) c=add a (add b c)
 add_zero:∀ a,add a zero=a
 mul_comm:∀ a b,mul a b=mul b a
 mul_assoc:∀ a b c,mul (mul a b) c=mul a (mul b c)
 mul_add:∀ a b c,mul a (add b c)=add (mul a b) (mul a c)
 mul_one:∀ a,mul a one=a
 mul_zero:∀ a,mul a zero=zero
 star_law:∀ a,add one (mul a (star a))=star a
 le_refl:∀ a,le a a
 le_trans:∀ a b c,le a b->le b c->le a c
 le_anti:∀ a b,le a b->le b a->a=b
 add_mono:∀ a b c d,le a b->le c d->le (add a c) (add b d)
 mul_mono:∀ a b c,le a b->le (mul c a) (mul c b)
 zero_le:∀ a,le zero a
 star_least:∀ a b x,le (add b (mul a x)) x->le (mul (star a) b) x
variable {α:Type}
instance (S:Sr α):Std.Associative S.add:=⟨S.add_assoc⟩
instance (S:Sr α):Std.Commutative S.add:=⟨S.add_comm⟩
instance (S:Sr α):Std.Associative S.mul:=⟨S.mul_assoc⟩
instance (S:Sr α):Std.Commutative S.mul:=⟨S.mul_comm⟩
def Sr.zero_add (S:Sr α)(a:α):S.add S.zero a=a:=by rw[S.add_comm,S.add_zero]
def Sr.one_mul (S:Sr α)(a:α):S.mul S.one a=a:=by rw[S.mul_comm,S.mul_one]
def Sr.zero_mul (S:Sr α)(a:α):S.mul S.zero a=S.zero:=by rw[S.mul_comm,S.mul_zero]
def Sr.add_mul (S:Sr α)(a b c:α):S.mul (S.add a b) c=S.add (S.mul a c) (S.mul b c):=by rw[S.mul_comm,S.mul_add,S.mul_comm c a,S.mul_comm c b]
def Sr.le_add (S:Sr α)(a b:α):S.le a (S.add a b):=by
 have h:=S.add_mono a a S.zero b (S.le_refl a) (S.zero_le b)
 rwa [S.add_zero] at h
def Sr.le_add2 (S:Sr α)(a b:α):S.le a (S.add b a):=by rw[S.add_comm];exact S.le_add a b
def Sr.star_mul (S:Sr α)(a b:α):S.add b (S.mul (S.mul a (S.star a)) b)=S.mul (S.star a) b:=by
 conv=>rhs;rw[<- S.star_law a]
 rw[S.add_mul,S.one_mul]
def sm (S:Sr α):Nat->(Nat->α)->α
 | 0,_=>S.zero
 | n+1,f=>S.add (sm S n f) (f n)
def zar (S:Sr α){f g:Nat->α}:∀ {n:Nat},(∀ m,m<n->f m=g m)->sm S n f=sm S n g
 | 0,_=>rfl
 | n+1,h=>by unfold sm;rw[zar S (fun m hm=>h m (by omega)),h n (by omega)]
def zdY (S:Sr α)(f g:Nat->α):∀ n,sm S n (fun m=>S.add (f m) (g m))=S.add (sm S n f) (sm S n g)
 | 0=>(S.add_zero _).symm
 | n+1=>by unfold sm;rw[zdY S f g n];dsimp only;ac_rfl
def zkD (S:Sr α)(c:α)(f:Nat->α):∀ n,S.mul c (sm S n f)=sm S n (fun m=>S.mul c (f m))
 | 0=>S.mul_zero c
 | n+1=>by unfold sm;rw[S.mul_add,zkD S c f n]
def zir (S:Sr α)(c:α)(f:Nat->α)(n:Nat):S.mul (sm S n f) c=sm S n (fun m=>S.mul (f m) c):=by
 rw[S.mul_comm,zkD];exact zar S (fun m _=>S.mul_comm _ _)
def znp (S:Sr α):∀ n,sm S n (fun _=>S.zero)=S.zero
 | 0=>rfl
 | n+1=>by unfold sm;rw[znp S n,S.add_zero]
def zdf (S:Sr α){f:Nat->α}{n:Nat}(h:∀ m,m<n->f m=S.zero):sm S n f=S.zero:=by rw[zar S h,znp]
def znq (S:Sr α)(f:Nat->Nat->α)(n:Nat):∀ k,sm S n (fun i=>sm S k (fun j=>f i j))=sm S k (fun j=>sm S n (fun i=>f i j))
 | 0=>znp S n
 | k+1=>by
  show sm S n (fun i=>S.add (sm S k (fun j=>f i j)) (f i k))=S.add (sm S k (fun j=>sm S n (fun i=>f i j))) (sm S n (fun i=>f i k));rw[zdY,znq S f n k]
def znr (S:Sr α){f g:Nat->α}:∀ {n:Nat},(∀ m,m<n->S.le (f m) (g m))->S.le (sm S n f) (sm S n g)
 | 0,_=>S.le_refl _
 | n+1,h=>S.add_mono _ _ _ _ (znr S (fun m hm=>h m (by omega))) (h n (by omega))
def sx (S:Sr α)(n k:Nat)(f:Nat->α):α:=sm S n (fun m=>if m=k then S.zero else f m)
def zBZ (S:Sr α){f g:Nat->α}{n k:Nat}(h:∀ m,m<n->m≠k->f m=g m):sx S n k f=sx S n k g:=by
 refine zar S (fun m hm=>?_)
 by_cases e:m=k
 rw[if_pos e,if_pos e];rw[if_neg e,if_neg e];exact h m hm e
def zjr (S:Sr α)(f:Nat->α){k:Nat}:∀ {n:Nat},k<n->sm S n f=S.add (f k) (sx S n k f)
 | n+1,h=>by
  unfold sx sm;dsimp only
  by_cases e:k=n
  ·subst e
   rw[if_pos rfl,S.add_zero,S.add_comm];congr 1;exact zar S (fun m hm=>(if_neg (by omega)).symm)
  rw[if_neg (Ne.symm e),zjr S f (show k<n by omega)];unfold sx;ac_rfl
def zGM (S:Sr α)(n k:Nat)(f g:Nat->α):sx S n k (fun m=>S.add (f m) (g m))=S.add (sx S n k f) (sx S n k g):=by
 unfold sx;rw[<- zdY];refine zar S (fun m _=>?_)
 by_cases e:m=k
 simp only[e,if_true];rw[S.add_zero];simp only[e,if_false]
def zGN (S:Sr α)(c:α)(n k:Nat)(f:Nat->α):S.mul c (sx S n k f)=sx S n k (fun m=>S.mul c (f m)):=by
 unfold sx;rw[zkD];refine zar S (fun m _=>?_)
 by_cases e:m=k
 simp only[e,if_true];rw[S.mul_zero];simp only[e,if_false]
def zwB (S:Sr α)(f:Nat->α){k n:Nat}(h:k<n):S.le (f k) (sm S n f):=by rw[zjr S f h];exact S.le_add _ _
def idm (S:Sr α)(i j:Nat):α:=if i=j then S.one else S.zero
def zpi (S:Sr α)(f:Nat->α){n j:Nat}(h:j<n):sm S n (fun m=>S.mul (f m) (idm S m j))=f j:=by
 rw[zjr S _ h];unfold idm sx
 rw[if_pos rfl,S.mul_one,zdf S (fun m _=>by
  by_cases e:m=j
  rw[if_pos e];rw[if_neg e];dsimp only;rw[if_neg e,S.mul_zero]),S.add_zero]
def zpj (S:Sr α)(f:Nat->α){n i:Nat}(h:i<n):sm S n (fun m=>S.mul (idm S i m) (f m))=f i:=by
 have h2:=zpi S f h;rw[<- h2];refine zar S (fun m _=>?_);rw[S.mul_comm];unfold idm
 by_cases e:i=m
 subst e;rfl;rw[if_neg e,if_neg (Ne.symm e)]
def el (S:Sr α)(A:Nat->Nat->α):Nat->Nat->Nat->α
 | 0,i,j=>A i j
 | k+1,i,j=>S.add (el S A k i j) (S.mul (S.mul (el S A k i k) (S.star (el S A k k k))) (el S A k k j))
def stM (S:Sr α)(A:Nat->Nat->α)(n i j:Nat):α:=S.add (idm S i j) (el S A n i j)
def zGO (S:Sr α)(A:Nat->Nat->α)(k j:Nat):el S A (k+1) k j=S.mul (S.star (el S A k k k)) (el S A k k j):=S.star_mul _ _
def zgm (S:Sr α)(A:Nat->Nat->α):∀ k i j,el S A k i j=S.add (A i j) (sm S k (fun m=>S.mul (A i m) (el S A k m j)))
 | 0,i,j=>(S.add_zero _).symm
 | k+1,i,j=>by
  have h1:=zgm S A k i j;have h2:=zgm S A k i k
  have e:sm S k (fun m=>S.mul (A i m) (el S A (k+1) m j))=S.add (sm S k (fun m=>S.mul (A i m) (el S A k m j))) (S.mul (sm S k (fun m=>S.mul (A i m) (el S A k m k))) (S.mul (S.star (el S A k k k)) (el S A k k j))):=by
   rw[zir,<- zdY];refine zar S (fun m _=>?_);show S.mul (A i m) (S.add (el S A k m j) (S.mul (S.mul (el S A k m k) (S.star (el S A k k k))) (el S A k k j)))=_;rw[S.mul_add];congr 1;ac_rfl
  show S.add (el S A k i j) (S.mul (S.mul (el S A k i k) (S.star (el S A k k k))) (el S A k k j))=S.add (A i j) (S.add (sm S k (fun m=>S.mul (A i m) (el S A (k+1) m j))) (S.mul (A i k) (el S A (k+1) k j)));rw[e,zGO];generalize hx:S.mul (S.star (el S A k k k)) (el S A k k j)=x;rw[S.mul_assoc,hx];generalize sm S k (fun m=>S.mul (A i m) (el S A k m j))=p at *;generalize sm S k (fun m=>S.mul (A i m) (el S A k m k))=q at *;rw[h1,h2,S.add_mul];ac_rfl
def zjg (S:Sr α)(A:Nat->Nat->α):∀ k i j,el S (fun a b=>A b a) k i j=el S A k j i
 | 0,i,j=>rfl
 | k+1,i,j=>by
  unfold el;rw[zjg S A k i j,zjg S A k i k,zjg S A k k k,zjg S A k k j];congr 1;ac_rfl
def zCa (S:Sr α)(A:Nat->Nat->α)(k i j:Nat):el S A k i j=S.add (A i j) (sm S k (fun m=>S.mul (el S A k i m) (A m j))):=by
 rw[<- zjg S A k j i,zgm S (fun a b=>A b a) k j i];congr 1;refine zar S (fun m _=>?_);rw[zjg S A k m i,S.mul_comm]
def zrD (S:Sr α)(A:Nat->Nat->α){n i j:Nat}(hj:j<n):stM S A n i j=S.add (idm S i j) (sm S n (fun m=>S.mul (A i m) (stM S A n m j))):=by
 have e:sm S n (fun m=>S.mul (A i m) (stM S A n m j))=S.add (sm S n (fun m=>S.mul (A i m) (idm S m j))) (sm S n (fun m=>S.mul (A i m) (el S A n m j))):=by
  rw[<- zdY];exact zar S (fun m _=>S.mul_add _ _ _)
 rw[e,zpi S _ hj,<- zgm];rfl
def zjs (S:Sr α)(A:Nat->Nat->α)(b X:Nat->α){n:Nat}(h:∀ i,i<n->S.le (S.add (b i) (sm S n (fun m=>S.mul (A i m) (X m)))) (X i)) :
  ∀ k,k<=n->∀ i,i<n->S.le (S.add (b i) (sm S n (fun m=>S.mul (el S A k i m) (if m<k then b m else X m)))) (X i)
 | 0,_,i,hi=>by
  refine S.le_trans _ _ _ ?_ (h i hi);rw[zar S (g:=fun m=>S.mul (A i m) (X m)) (fun m _=>by simp[el])];exact S.le_refl _
 | k+1,hk,i,hi=>by
  have ih:=zjs S A b X h k (by omega);have hkn:k<n:=by omega
  have zW:=ih k hkn;rw[zjr S _ hkn] at zW;have hrow2:=ih i hi;rw[zjr S _ hkn] at hrow2;simp only[Nat.lt_irrefl,if_false] at zW hrow2
  have hst:S.le (S.mul (S.star (el S A k k k)) (S.add (b k) (sx S n k (fun m=>S.mul (el S A k k m) (if m<k then b m else X m))))) (X k):=by
   refine S.star_least _ _ _ ?_;refine S.le_trans _ _ _ ?_ zW;rw[show S.add (S.add (b k) (sx S n k (fun m=>S.mul (el S A k k m) (if m<k then b m else X m)))) (S.mul (el S A k k k) (X k))=S.add (b k) (S.add (S.mul (el S A k k k) (X k)) (sx S n k (fun m=>S.mul (el S A k k m) (if m<k then b m else X m)))) by ac_rfl];exact S.le_refl _
  refine S.le_trans _ _ _ ?_ hrow2;rw[zjr S _ hkn];simp only[Nat.lt_succ_self,if_true]
  have e1:el S A (k+1) i k=S.mul (el S A k i k) (S.star (el S A k k k)):=by
   show S.add (el S A k i k) (S.mul (S.mul (el S A k i k) (S.star (el S A k k k))) (el S A k k k))=_;rw[show S.mul (S.mul (el S A k i k) (S.star (el S A k k k))) (el S A k k k)=S.mul (S.mul (el S A k k k) (S.star (el S A k k k))) (el S A k i k) by ac_rfl,S.star_mul,S.mul_comm]
  have e2:sx S n k (fun m=>S.mul (el S A (k+1) i m) (if m<k+1 then b m else X m))=S.add (sx S n k (fun m=>S.mul (el S A k i m) (if m<k then b m else X m))) (S.mul (S.mul (el S A k i k) (S.star (el S A k k k))) (sx S n k (fun m=>S.mul (el S A k k m) (if m<k then b m else X m)))):=by
   rw[zGN,<- zGM];refine zBZ S (fun m _ hm=>?_)
   have e3:(if m<k+1 then b m else X m)=(if m<k then b m else X m):=by
    by_cases e:m<k
    rw[if_pos e,if_pos (by omega)];rw[if_neg e,if_neg (by omega)]
   rw[e3];show S.mul (S.add (el S A k i m) (S.mul (S.mul (el S A k i k) (S.star (el S A k k k))) (el S A k k m))) _=_;rw[S.add_mul];congr 1;ac_rfl
  rw[e1,e2];have hmm:=S.mul_mono _ _ (el S A k i k) hst;generalize hT:sx S n k (fun m=>S.mul (el S A k i m) (if m<k then b m else X m))=T;generalize hU:sx S n k (fun m=>S.mul (el S A k k m) (if m<k then b m else X m))=U at *
  have e4:S.add (b i) (S.add (S.mul (S.mul (el S A k i k) (S.star (el S A k k k))) (b k)) (S.add T (S.mul (S.mul (el S A k i k) (S.star (el S A k k k))) U)))=S.add (b i) (S.add (S.mul (el S A k i k) (S.mul (S.star (el S A k k k)) (S.add (b k) U))) T):=by
   rw[S.mul_add,S.mul_add,<- S.mul_assoc,<- S.mul_assoc];ac_rfl
  rw[e4];exact S.add_mono _ _ _ _ (S.le_refl _) (S.add_mono _ _ _ _ hmm (S.le_refl _))
def star_least (S:Sr α)(A:Nat->Nat->α)(X:Nat->α){n j:Nat}(hj:j<n)(h:∀ i,i<n->S.le (S.add (idm S i j) (sm S n (fun m=>S.mul (A i m) (X m)))) (X i)){i:Nat}(hi:i<n):S.le (stM S A n i j) (X i):=by
 have hl:=zjs S A (fun i=>idm S i j) X h n (zqab n) i hi;rw[zar S (g:=fun m=>S.mul (el S A n i m) (idm S m j)) (fun m hm=>by rw[if_pos hm]),zpi S _ hj] at hl;exact hl
variable {α:Type}
def sw (p q i:Nat):Nat:=if i=p then q else if i=q then p else i
def zcJ (S:Sr α)(A:Nat->Nat->α):List Nat->α
 | []=>S.one
 | [_]=>S.one
 | x::y::l=>S.mul (A x y) (zcJ S A (y::l))
variable {α:Type}
def Sr.zero_of_le (S:Sr α){a:α}(h:S.le a S.zero):a=S.zero:=S.le_anti _ _ h (S.zero_le a)
def Sr.zero_left (S:Sr α){a b:α}(h:S.add a b=S.zero):a=S.zero:=S.zero_of_le (h▸S.le_add a b)
variable {α:Type}
def zjt (S:Sr α)(A:Nat->Nat->α)(n:Nat)(F:Nat->α)(i:Nat):α:=sm S n (fun m=>S.mul (stM S A n i m) (F m))
def zFj (S:Sr α)(A:Nat->Nat->α)(n:Nat)(F:Nat->α){i:Nat}(hi:i<n):zjt S A n F i=S.add (F i) (sm S n (fun m=>S.mul (el S A n i m) (F m))):=by
 unfold zjt;rw[<- zpj S F hi,<- zdY];refine zar S (fun m _=>?_);unfold stM;rw[S.add_mul]
def zvK (S:Sr α)(A:Nat->Nat->α)(n:Nat)(F:Nat->α){i:Nat}(hi:i<n):zjt S A n F i=S.add (F i) (sm S n (fun m=>S.mul (A i m) (zjt S A n F m))):=by
 have e:sm S n (fun m=>S.mul (A i m) (zjt S A n F m))=sm S n (fun j=>sm S n (fun m=>S.mul (S.mul (A i m) (stM S A n m j)) (F j))):=by
  rw[<- znq];refine zar S (fun m _=>?_);unfold zjt;rw[zkD];exact zar S (fun j _=>(S.mul_assoc _ _ _).symm)
 rw[e]
 conv=>rhs;lhs;rw[<- zpj S F hi]
 rw[<- zdY];unfold zjt;refine zar S (fun j hj=>?_);rw[<- zir,<- S.add_mul,<- zrD S A hj]
def zwC (S:Sr α)(A:Nat->Nat->α){n:Nat}(F Z:Nat->α)(h:∀ i,i<n->S.le (S.add (F i) (sm S n (fun m=>S.mul (A i m) (Z m)))) (Z i)){i:Nat}(hi:i<n):S.le (zjt S A n F i) (Z i):=by
 have hl:=zjs S A F Z h n (zqab n) i hi;rw[zar S (g:=fun m=>S.mul (el S A n i m) (F m)) (fun m hm=>by rw[if_pos hm])] at hl;rw[zFj S A n F hi];exact hl
variable {α:Type}
end Go.Proofs.YtadgpgofcjpnjaaGreatDoor
