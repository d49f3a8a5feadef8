/- Part. -/
import Derived.Lib.ItoaNum
import Derived.Shelf.Strings.Trim
import Derived.Shelf.Small.Utf8
import Derived.Shelf.Small.Bits
import Derived.Shelf.Small.Wraps
import Derived.Shelf.Strings.Shaped
import Derived.Shelf.Strings.IndexAnyAll
import Derived.Shelf.Strings.Repeat
import Derived.Shelf.Unicode.DecodeSlow
import Derived.Shelf.Spec.BitsCarry
import Derived.Test.YtiblmbpfcmcccaaGreatDoorProg
import Derived.Test.YtiblmbpfcmcccaaGreatDoorKX00
set_option linter.unusedVariables false
set_option linter.defProp false
set_option linter.unusedSimpArgs false
set_option maxRecDepth 100000
set_option maxHeartbeats 16000000
namespace Go.Proofs.YtiblmbpfcmcccaaGreatDoor
open Go.Proofs.Tryz
def vl (B:Nat):List Nat->Nat
 | []=>0
 | x::r=>x+B*vl B r
def zdp (B:Nat):∀ (xs ys:List Nat),vl B (xs++ys)=vl B xs+B ^ xs.length*vl B ys
 | [],ys=>by simp[vl]
 | x::xs,ys=>by
  simp only[List.cons_append,vl,zdp B xs ys,zqbu,zqbp,zqbh];rw[Nat.add_assoc,zqbc (B ^ xs.length) B,zqav]
def zmp (B x:Nat):vl B [x]=x:=by simp[vl]
def zfR (B:Nat)(xs:List Nat)(x:Nat):vl B (xs++[x])=vl B xs+B ^ xs.length*x:=by rw[zdp,zmp]
def zbP (B:Nat):∀ (xs:List Nat),(∀ x∈xs,x<B)->vl B xs<B ^ xs.length
 | [],_=>by simp[vl]
 | x::xs,h=>by
  have h1:=zbP B xs (fun y hy=>h y (zqao _ hy));have h2:=h x (zqbm ..);simp only[vl,zqbu,zqbp];have h3:B*(vl B xs+1)<=B*B ^ xs.length:=zqbd _ h1;rw[zqbh,Nat.mul_one,zqbc B (B ^ xs.length)] at h3;omega
def zgu (B:Nat)(xs:List Nat)(k:Nat)(h:k<=xs.length):vl B xs=vl B (xs.take k)+B ^ k*vl B (xs.drop k):=by
 have:=zdp B (xs.take k) (xs.drop k);rw[List.take_append_drop,zqan,Nat.min_eq_left h] at this;exact this
def zrF (l:List Nat)(k:Nat)(h:k<l.length):l.take (k+1)=l.take k++[l.getD k 0]:=by
 rw[List.take_succ_eq_append_getElem h,zqaa,zqac h];rfl
def zmq (l:List Nat)(k:Nat)(h:k<l.length):l.drop k=l.getD k 0::l.drop (k+1):=by
 rw[List.drop_eq_getElem_cons h,zqaa,zqac h];rfl
def zjh (l:List Nat)(k:Nat)(h:¬ k<l.length):l.getD k 0=0:=by
 rw[zqaa,zqas (by omega)];rfl
def zaY (B:Nat)(hB:0<B)(l:List Nat)(h:∀ x∈l,x<B)(k:Nat):l.getD k 0<B:=by
 by_cases hk:k<l.length
 ·rw[zqaa,zqac hk]
  exact h _ (List.getElem_mem hk)
 rw[zjh l k hk];exact hB
def zaM (B:Nat)(l:List Nat)(k:Nat):vl B (l.take (k+1))=vl B (l.take k)+B ^ k*l.getD k 0:=by
 by_cases hk:k<l.length
 rw[zrF l k hk,zfR,zqan,Nat.min_eq_left (by omega)];rw[zjh l k hk,zqaf (by omega),zqaf (by omega),Nat.mul_zero,Nat.add_zero]
def zhz (B:Nat):∀ n,vl B (List.replicate n 0)=0
 | 0=>rfl
 | n+1=>by simp[List.replicate_succ,vl,zhz B n]
def zcx (xs:List Nat):Prop:=∀ h:xs≠[],xs.getLast h≠0
def zCr:zcx []:=fun h=>absurd rfl h
def zmr (B:Nat)(xs:List Nat)(h0:xs≠[])(ht:zcx xs):B ^ (xs.length-1)<=vl B xs:=by
 have e:=List.dropLast_concat_getLast h0;have:=ht h0;have hp:B ^ xs.dropLast.length*1<=B ^ xs.dropLast.length*xs.getLast h0:=zqbd _ (by omega);rw[Nat.mul_one,List.length_dropLast] at hp;rw[<- e,zfR,e,List.length_dropLast];omega
def zzY (B:Nat)(hB:0<B)(xs:List Nat)(ht:zcx xs):vl B xs=0↔xs=[]:=by
 constructor
 ·intro h
  by_cases h0:xs=[]
  exact h0;have:=zmr B xs h0 ht;have hp:0<B ^ (xs.length-1):=Nat.pow_pos hB;omega
 rintro rfl;rfl
def zuq (xs:List Nat)(h:xs.getD (xs.length-1) 0≠0):zcx xs:=by
 intro h0;rw[List.getLast_eq_getElem];have:xs.length-1<xs.length:=by have:=List.length_pos_iff.2 h0;omega
 rw[zqaa,zqac this] at h;exact h
def zaz (T:Nat->Nat->Nat->Nat×Nat)(xs ys:List Nat)(c0:Nat):Nat->List Nat×Nat
 | 0=>([],c0)
 | k+1=>((zaz T xs ys c0 k).1++[(T (zaz T xs ys c0 k).2 (xs.getD k 0) (ys.getD k 0)).2],(T (zaz T xs ys c0 k).2 (xs.getD k 0) (ys.getD k 0)).1)
def zbw (T:Nat->Nat->Nat->Nat×Nat)(xs ys:List Nat)(c0:Nat):∀ k,(zaz T xs ys c0 k).1.length=k
 | 0=>rfl
 | k+1=>by rw[zaz,zqag,zbw T xs ys c0 k];rfl
def zbp (f c a b:Nat):Nat×Nat:=((c+(a+f*b))/1000000000,(c+(a+f*b))%1000000000)
def zaU (f c a b:Nat):Nat×Nat :=
 if a<(c+f*b)%1000000000 then ((c+f*b)/1000000000+1,a+1000000000-(c+f*b)%1000000000) else ((c+f*b)/1000000000,a-(c+f*b)%1000000000)
def znQ (f b:Nat)(hf:f<=1000000000)(hb:b<1000000000):f*b<=999999999000000000:=by
 have h1:f*b<=1000000000*999999999:=Nat.mul_le_mul hf (by omega);omega
def zJt (f c a b:Nat):(zbp f c a b).2+1000000000*(zbp f c a b).1=c+a+f*b:=by
 unfold zbp;simp only;have:=zqbt (c+(a+f*b)) 1000000000;omega
def zJu (f c a b:Nat):(zbp f c a b).2<1000000000:=Nat.mod_lt _ (by decide)
def zJv (f c a b:Nat)(hf:f<=1000000000)(hc:c<=1000000000)(ha:a<1000000000)(hb:b<1000000000):(zbp f c a b).1<=1000000000:=by
 have:=znQ f b hf hb;unfold zbp;simp only;omega
def zJw (f c a b:Nat):(zaU f c a b).2+c+f*b=a+1000000000*(zaU f c a b).1:=by
 unfold zaU;have:=zqbt (c+f*b) 1000000000;exact zQbA
def zJx (f c a b:Nat)(ha:a<1000000000):(zaU f c a b).2<1000000000:=by
 unfold zaU;exact zQbA
def zJy (f c a b:Nat)(hf:f<=1000000000)(hc:c<=1000000000)(hb:b<1000000000):(zaU f c a b).1<=1000000000:=by
 have:=znQ f b hf hb;unfold zaU;split <;> simp only <;> omega
def zji (f:Nat)(xs ys:List Nat)(hf:f<=1000000000)(hx:∀ x∈xs,x<1000000000)(hy:∀ y∈ys,y<1000000000)(c0:Nat)(hc:c0<=1000000000) :
  ∀ k,(∀ z∈(zaz (zbp f) xs ys c0 k).1,z<1000000000)/\(zaz (zbp f) xs ys c0 k).2<=1000000000 /\
   vl 1000000000 (zaz (zbp f) xs ys c0 k).1+1000000000 ^ k*(zaz (zbp f) xs ys c0 k).2=vl 1000000000 (xs.take k)+f*vl 1000000000 (ys.take k)+c0
 | 0=>by simp[zaz,vl,hc]
 | k+1=>by
  obtain⟨h1,h2,h3⟩:=zji f xs ys hf hx hy c0 hc k;have ha:=zaY 1000000000 (by decide) xs hx k;have hb:=zaY 1000000000 (by decide) ys hy k;refine⟨?_,?_,?_⟩
  ·intro z hz
   rw[zaz,zqbo] at hz;rcases hz with hz|hz
   exact h1 z hz;rw[zqbk] at hz;subst hz;exact zJu _ _ _ _
  exact zJv _ _ _ _ hf h2 ha hb;rw[zaz];simp only;rw[zfR,zbw,zaM,zaM,zqbp,zqav,Nat.add_assoc (vl _ _),<- zqbh,zJt,zqbh,zqbh,zqbh];have e:f*(1000000000 ^ k*ys.getD k 0)=1000000000 ^ k*(f*ys.getD k 0):=by rw[<- zqav,zqbc f,zqav]
  rw[e];omega
def zlc (f:Nat)(xs ys:List Nat)(hf:f<=1000000000)(hx:∀ x∈xs,x<1000000000)(hy:∀ y∈ys,y<1000000000)(c0:Nat)(hc:c0<=1000000000) :
  ∀ k,(∀ z∈(zaz (zaU f) xs ys c0 k).1,z<1000000000)/\(zaz (zaU f) xs ys c0 k).2<=1000000000 /\
   vl 1000000000 (zaz (zaU f) xs ys c0 k).1+c0+f*vl 1000000000 (ys.take k)=vl 1000000000 (xs.take k)+1000000000 ^ k*(zaz (zaU f) xs ys c0 k).2
 | 0=>by simp[zaz,vl,hc]
 | k+1=>by
  obtain⟨h1,h2,h3⟩:=zlc f xs ys hf hx hy c0 hc k;have ha:=zaY 1000000000 (by decide) xs hx k;have hb:=zaY 1000000000 (by decide) ys hy k;refine⟨?_,?_,?_⟩
  ·intro z hz
   rw[zaz,zqbo] at hz;rcases hz with hz|hz
   exact h1 z hz;rw[zqbk] at hz;subst hz;exact zJx _ _ _ _ ha
  exact zJy _ _ _ _ hf h2 hb;rw[zaz];simp only;rw[zfR,zbw,zaM,zaM,zqbp,zqav];have e:f*(1000000000 ^ k*ys.getD k 0)=1000000000 ^ k*(f*ys.getD k 0):=by rw[<- zqav,zqbc f,zqav]
  rw[zqbh f,e];have q:=zqbz (fun t=>1000000000 ^ k*t) (zJw f (zaz (zaU f) xs ys c0 k).2 (xs.getD k 0) (ys.getD k 0));simp only[zqbh] at q;omega
open Go.Lib
def zcK (l:List UInt8):Nat:=l.foldl (fun n c=>n*10+(c.toNat-48)) 0
def zeR (l:List UInt8)(c:UInt8):zcK (l++[c])=zcK l*10+(c.toNat-48):=by unfold zcK;rw[List.foldl_append];rfl
def zGf (n:Nat):zcK (decDigits n)=n:=by
 induction n using Nat.strongRecOn with
 | _ n ih =>
  by_cases h:n<10
  ·rw[decDigits_one h]
   simp only[zcK,List.foldl_cons,List.foldl_nil,UInt8.toNat_ofNat'];omega
  rw[decDigits,dif_neg h,zeR,ih (n/10) (by omega)];simp only[UInt8.toNat_ofNat'];omega
def zck (c:UInt8):Bool:=48<=c.toNat&&c.toNat<=57
def zms (l:List UInt8):Bool:=decide (1<=l.length)&&decide (l.length<=1000)&&l.all zck&&(decide (l.length=1) || !(l.headD 0==48))
def zao (s:ByteArray):Bool:=zms s.data.toList
def zai (n:Nat):ByteArray:=⟨(decDigits n).toArray⟩
def nv (s:ByteArray):Nat:=zcK s.data.toList
def zJz (c:UInt8)(h:zck c=true):UInt8.ofNat (48+(c.toNat-48)%10)=c:=by
 unfold zck at h;simp at h;apply UInt8.toNat_inj.1;rw[UInt8.toNat_ofNat'];omega
def zuU:∀ (l:List UInt8),l≠[]->l.all zck=true->(l.length=1∨l.headD 0≠48)->decDigits (zcK l)=l:=by
 intro l
 induction h:l.length using Nat.strongRecOn generalizing l with
 | _ n ih =>
  intro h0 ha hh;obtain⟨l',c,rfl⟩:∃ l' c,l=l'++[c]:=⟨l.dropLast,l.getLast h0,(List.dropLast_concat_getLast h0).symm⟩;rw[List.all_append,zqbb] at ha;have hc:zck c=true:=by simpa using ha.2
  have hcb:=zJz c hc
  by_cases hl:l'=[]
  ·subst hl
   have h10:c.toNat-48<10:=by unfold zck at hc;simp at hc;omega
   simp only[List.nil_append,zcK,List.foldl_cons,List.foldl_nil,Nat.zero_mul,zqat];rw[decDigits_one h10];rw[Nat.mod_eq_of_lt h10] at hcb;rw[hcb]
  have zN:l'.length≠0:=fun e=>hl (List.eq_nil_of_length_eq_zero e)
  have hhd:l'.headD 0≠48:=by
   rcases hh with hh|hh;rw[zqag] at h;simp at h;omega;intro e;apply hh;cases l' with
   | nil=>exact absurd rfl hl
   | cons a b=>simpa using e
  have hi:=ih l'.length (by rw[zqag] at h;simp at h;omega) l' rfl hl ha.1 (Or.inr hhd)
  have hz:zcK l'≠0:=by
   intro e;rw[e,decDigits_one (by decide)] at hi;rw[<- hi] at hhd;exact hhd rfl
  have h10:c.toNat-48<10:=by unfold zck at hc;simp at hc;omega
  rw[zeR,decDigits,dif_neg (by omega),show(zcK l'*10+(c.toNat-48))/10=zcK l' by omega,hi,
   show(zcK l'*10+(c.toNat-48))%10=(c.toNat-48)%10 by omega,hcb]
def ziW (n:Nat):(decDigits n).all zck=true:=by
 rw[decDigits_eq,List.all_eq_true];intro c hc;rw[zqbf] at hc;obtain⟨t,_,rfl⟩:=hc;unfold dg zck;rw[UInt8.toNat_ofNat'];have:n/10 ^ (nDigits n-1-t)%10<10:=Nat.mod_lt _ (by decide);simp;omega
def zuV (n:Nat)(h:n≠0):(decDigits n).headD 0≠48:=by
 induction n using Nat.strongRecOn with
 | _ n ih =>
  by_cases h10:n<10
  ·rw[decDigits_one h10]
   simp only[List.headD_cons];intro e;have:=zqbz UInt8.toNat e;rw[UInt8.toNat_ofNat'] at this;simp at this;omega
  rw[decDigits,dif_neg h10];have:=ih (n/10) (by omega) (by omega);have hl:(decDigits (n/10)).length≠0:=by rw[decDigits_length];have:=nDigits_pos (n/10);omega
  cases hd:decDigits (n/10) with
  | nil=>rw[hd] at hl;exact absurd rfl hl
  | cons a b=>rw[hd] at this;simpa using this
def zcs (n:Nat):(zai n).size=nDigits n:=by
 show(decDigits n).toArray.size=_;rw[List.size_toArray,decDigits_length]
def zrG (n:Nat):zao (zai n)=decide (nDigits n<=1000):=by
 unfold zao zms zai;simp only[decDigits_length];have h1:=nDigits_pos n;rw[ziW]
 by_cases h0:n=0
 ·subst h0
  rw[nDigits_small (by decide)];rfl
 have:=zuV n h0;have e:(!(decDigits n).headD 0==48)=true:=by simpa using this
 rw[e];simp;omega
def zaS (n:Nat):nv (zai n)=n:=zGf n
def zbZ (s:ByteArray)(h:zao s=true):s=zai (nv s)/\nDigits (nv s)<=1000:=by
 have h':=h;unfold zao zms at h;simp only[zqbb,Bool.or_eq_true,zqca,Bool.not_eq_true',beq_eq_false_iff_ne] at h;obtain⟨⟨⟨h1,h2⟩,h3⟩,h4⟩:=h;have e:=zuU s.data.toList (by intro e;rw[e] at h1;simp at h1) h3 h4
 have e2:s=zai (nv s):=by
  unfold zai nv;rw[e]
 refine⟨e2,?_⟩;rw[<- zcs,<- e2];exact h2
def znR {m n:Nat}(h:zai m=zai n):m=n:=by rw[<- zaS m,h,zaS]
def zbA {m n:Nat}(h:m<=n):nDigits m<=nDigits n:=by
 induction n using Nat.strongRecOn generalizing m with
 | _ n ih =>
  by_cases hn:n<10
  rw[nDigits_small hn,nDigits_small (by omega)];exact zqab _;rw[nDigits_big hn]
  by_cases hm:m<10
  rw[nDigits_small hm];omega;rw[nDigits_big hm];have:=ih (n/10) (by omega) (show m/10<=n/10 by omega);omega
def zfy (B:Nat)(l:List Nat)(q:Nat):vl B (l.drop q)=l.getD q 0+B*vl B (l.drop (q+1)):=by
 by_cases h:q<l.length
 rw[zmq l q h,vl];rw[zjh l q h,List.drop_eq_nil_of_le (by omega),List.drop_eq_nil_of_le (by omega)];simp[vl]
structure zhb (len i v:Nat)(xs:List Nat):Prop where
 length:xs.length=(len+8)/9
 lt:∀ x∈xs,x<1000000000
 zero:∀ j,j<(len-i)/9->xs.getD j 0=0
 top:xs.getD ((len-i)/9) 0<10 ^ (9-(len-i)%9)
 val:v=xs.getD ((len-i)/9) 0+10 ^ (9-(len-i)%9)*vl 1000000000 (xs.drop ((len-i)/9+1))
def zfS (n k:Nat):(List.replicate n 0).getD k 0=0:=by
 rw[zqaa,zqbg];split <;> rfl
def zfz (l:List Nat)(i j x:Nat)(h:i<l.length):(l.set i x).getD j 0=if i=j then x else l.getD j 0:=by
 rw[zqaa,List.getElem?_set];split;rfl;rfl
def zhb.start (len:Nat):zhb len 0 0 (List.replicate ((len+8)/9) 0):=by
 refine⟨by simp,?_,fun j _=>zfS _ _,?_,?_⟩
 ·intro x hx;rw[List.mem_replicate] at hx;rw[hx.2];decide
 rw[zfS];exact Nat.pow_pos (by decide);rw[zfS,List.drop_replicate,zhz];simp
def zhb.bound {len i v:Nat}{xs:List Nat}(h:zhb len i v xs)(hi:i<len):xs.getD ((len-1-i)/9) 0<=99999999:=by
 by_cases hr:(len-i)%9=0
 rw[h.zero _ (by omega)];omega;have ht:=h.top;rw[show(len-1-i)/9=(len-i)/9 by omega];have:10 ^ (9-(len-i)%9)<=10 ^ 8:=zqay (by decide) (by omega);omega
def zhb.step {len i v:Nat}{xs:List Nat}(h:zhb len i v xs)(hi:i<len)(d:Nat)(hd:d<10) :
  zhb len (i+1) (v*10+d) (xs.set ((len-1-i)/9) (xs.getD ((len-1-i)/9) 0*10+d)):=by
 have hb:=h.bound hi;have hl:(len-1-i)/9<xs.length:=by rw[h.length];omega
 have hlt:∀ x∈xs.set ((len-1-i)/9) (xs.getD ((len-1-i)/9) 0*10+d),x<1000000000:=by
  intro x hx;rcases List.mem_or_eq_of_mem_set hx with hx|rfl
  exact h.lt x hx;omega
 by_cases hr:(len-i)%9=0
 ·have e1:(len-(i+1))/9=(len-1-i)/9:=by omega
  have e2:(len-(i+1))%9=8:=by omega
  have e3:(len-1-i)/9+1=(len-i)/9:=by omega
  have hz:xs.getD ((len-1-i)/9) 0=0:=h.zero _ (by omega);refine⟨by rw[List.length_set];exact h.length,hlt,fun j hj=>?_,?_,?_⟩;rw[zfz _ _ _ _ hl,if_neg (by omega)];exact h.zero j (by omega);rw[e1,e2,zfz _ _ _ _ hl,if_pos rfl,hz];simp;omega;rw[e1,e2,zfz _ _ _ _ hl,if_pos rfl,hz,e3,List.drop_set_of_lt (by omega),zfy,h.val,hr];simp only[Nat.sub_zero];rw[show(10:Nat) ^ 9=1000000000 by decide,show 9-8=1 by decide,Nat.pow_one];omega
 have e1:(len-(i+1))/9=(len-i)/9:=by omega
 have e0:(len-1-i)/9=(len-i)/9:=by omega
 have e2:9-(len-(i+1))%9=9-(len-i)%9+1:=by omega
 rw[e0] at hl hb hlt ⊢;have ht:=h.top;refine⟨by rw[List.length_set];exact h.length,hlt,fun j hj=>?_,?_,?_⟩;rw[zfz _ _ _ _ hl,if_neg (by omega)];exact h.zero j (by omega)
 ·rw[e1,e2,zfz _ _ _ _ hl,if_pos rfl,zqbp]
  omega
 rw[e1,e2,zfz _ _ _ _ hl,if_pos rfl,List.drop_set_of_lt (by omega),h.val,zqbp];rw[Nat.add_mul,Nat.mul_right_comm _ 10];omega
def zhb.fin {len v:Nat}{xs:List Nat}(h:zhb len len v xs):v=vl 1000000000 xs:=by
 have:=h.val;rw[zqbr] at this;have e:=zfy 1000000000 xs 0;rw[List.drop_zero] at e;rw[this,e]
def pad (k v:Nat):List UInt8:=(List.range k).map fun t=>dg v (k-1-t)
def zpS (k v:Nat):(pad k v).length=k:=by simp[pad]
def znS (v:Nat):decDigits v=pad (nDigits v) v:=decDigits_eq v
def zjj (k v:Nat):pad (k+1) v=dg v k::pad k v:=by
 unfold pad;rw[List.range_succ_eq_map,List.map_cons,List.map_map];congr 1;apply List.map_congr_left;intro t ht;simp only[Function.comp];congr 1;omega
def zJA (v k:Nat)(h:v<10 ^ k):dg v k=48:=by
 unfold dg;rw[Nat.div_eq_of_lt h];rfl
def zCs (k v:Nat)(h:v<10 ^ k):(pad k v).dropWhile (· == 48)=if v=0 then [] else decDigits v:=by
 induction k with
 | zero =>
  have:v=0:=by simpa using h
  subst this;rfl
 | succ k ih =>
  rw[zjj]
  by_cases hk:v<10 ^ k
  ·rw[zJA v k hk,List.dropWhile_cons]
   simp only[beq_self_eq_true,if_true];exact ih hk
  have hp:0<10 ^ k:=Nat.pow_pos (by decide);have hn:nDigits v=k+1:=nDigits_unique k v (by omega) h;rw[if_neg (by omega),znS,hn,zjj,List.dropWhile_cons];rw[if_neg];have:=zuV v (by omega);rw[znS,hn,zjj,List.headD_cons] at this;simpa using this
def zGg (xs:List Nat)(i j:Nat)(hx:∀ x∈xs,x<1000000000)(hj:j<9):dg (vl 1000000000 xs) (9*i+j)=UInt8.ofNat (48+xs.getD i 0/10 ^ j%10):=by
 unfold dg;congr 2
 by_cases hi:i<xs.length
 ·have h1:=zgu 1000000000 xs i (by omega)
  have h2:=zbP 1000000000 (xs.take i) (fun x h=>hx x (zqau h));rw[zqan,Nat.min_eq_left (by omega)] at h2;rw[zfy] at h1;have hp:(10:Nat) ^ (9*i+j)=1000000000 ^ i*10 ^ j:=by rw[Nat.pow_add,Nat.pow_mul]
  rw[hp,<- Nat.div_div_eq_div_mul,h1,Nat.add_mul_div_left _ _ (Nat.pow_pos (by decide)),Nat.div_eq_of_lt h2,zqat];have e:(1000000000:Nat)=10 ^ j*10 ^ (9-j):=by rw[<- Nat.pow_add,show j+(9-j)=9 by omega]
  generalize vl 1000000000 (xs.drop (i+1))=R;generalize xs.getD i 0=x;rw[e,zqav,Nat.add_mul_div_left _ _ (Nat.pow_pos (by decide))];obtain⟨r,hr⟩:∃ r,9-j=r+1:=⟨8-j,by omega⟩;rw[hr,zqbp,zqbc (10 ^ r) 10,zqav];omega
 rw[zjh xs i hi,Nat.zero_div,Nat.zero_mod];have h2:=zbP 1000000000 xs hx;have h3:1000000000 ^ xs.length<=1000000000 ^ i:=zqay (by decide) (by omega)
 have h4:(1000000000:Nat) ^ i<=10 ^ (9*i+j):=by
  rw[Nat.pow_add,Nat.pow_mul];exact Nat.le_mul_of_pos_right _ (Nat.pow_pos (by decide))
 rw[Nat.div_eq_of_lt (by omega)]
def zCt (xs:List Nat)(hx:∀ x∈xs,x<1000000000):vl 1000000000 xs<10 ^ (9*xs.length):=by
 have:=zbP 1000000000 xs hx;rw[Nat.pow_mul];exact this
structure zeW (U m1 c Y a r:Nat):Prop where
 eq:c*a+r=U
 ge:(4294967296*U+m1)/Y<=a
 le:a<=4294967297
section
variable {U m1 c d Y a r:Nat}
def zuW (h:zeW U m1 c Y a r)(hY:Y=4294967296*c+d):Y*a+4294967296*r=4294967296*U+d*a:=by
 have:=h.eq;rw[hY,<- this,Nat.add_mul,zqav,zqbh];omega
def zeW.start (hY:Y=4294967296*c+d)(hc:2147483648<=c)(hd:d<4294967296)(hm:m1<4294967296)(hU:U<Y):zeW U m1 c Y (U/c) (U-c*(U/c)):=by
 have hdm:=zqbt U c;have hlt:=Nat.mod_lt U (show c > 0 by omega);refine⟨by omega,?_,?_⟩
 ·apply Nat.le_of_lt_succ
  rw[Nat.div_lt_iff_lt_mul (by omega)];show 4294967296*U+m1<(U/c+1)*Y;rw[Nat.add_mul,Nat.one_mul,zqbc (U/c) Y];have e:Y*(U/c)=4294967296*(c*(U/c))+d*(U/c):=by rw[hY,Nat.add_mul,zqav]
  rw[e];omega
 apply Nat.le_of_lt_succ;rw[Nat.div_lt_iff_lt_mul (by omega)];omega
def zeW.rest_lt (hc:2147483648<=c):U-c*(U/c)<c:=by
 have hdm:=zqbt U c;have hlt:=Nat.mod_lt U (show c > 0 by omega);omega
def zeW.down (h:zeW U m1 c Y a r)(hY:Y=4294967296*c+d)(hc:2147483648<=c)(hd:d<4294967296)(hm:m1<4294967296)(hU:U<Y)
  (ht:4294967296<=a∨4294967296*r+m1<d*a):1<=a/\zeW U m1 c Y (a-1) (r+c):=by
 have hq:(4294967296*U+m1)/Y<a:=by
  have hmul:=zuW h hY;rw[Nat.div_lt_iff_lt_mul (by omega),zqbc a Y];rcases ht with ht|ht
  ·have h1:4294967296*Y<=a*Y:=Nat.mul_le_mul_right Y ht
   rw[zqbc a Y] at h1;refine zqba ?_ h1;clear h1 hmul ht h;omega
  clear hY hU hc hd h;omega
 have ha:1<=a:=Nat.lt_of_le_of_lt (zqaw _) hq;refine⟨ha,?_,Nat.le_sub_one_of_lt hq,by have:=h.le;omega⟩;have:=h.eq;have e:c*a=c*(a-1)+c:=by rw[<- Nat.mul_succ];congr 1;omega
 omega
def zeW.done (h:zeW U m1 c Y a r)(hY:Y=4294967296*c+d)(hc:2147483648<=c)(ht:d*a<=4294967296*r+m1) :
  a=(4294967296*U+m1)/Y:=by
 have h2:a<=(4294967296*U+m1)/Y:=by
  have hmul:=zuW h hY;rw[Nat.le_div_iff_mul_le (by omega),zqbc a Y];clear hY hc h;omega
 exact Nat.le_antisymm h2 h.ge
def zeW.prod (h:zeW U m1 c Y a r)(hd:d<4294967296):d*a<=18446744073709551615:=by
 have:d*a<=4294967295*4294967297:=Nat.mul_le_mul (by omega) h.le;omega
def zeW.out (h:zeW U m1 c Y a r)(hY:Y=4294967296*c+d)(hc:2147483648<=c)(hd:d<4294967296)(ha:a<=4294967296)(hr:4294967296<=r) :
  a=(4294967296*U+m1)/Y:=by
 refine h.done hY hc ?_;have:d*a<=4294967295*4294967296:=Nat.mul_le_mul (by omega) ha;omega
end
def zCu (s:Nat)(hs:s<=63):(2:Nat) ^ 64=2 ^ s*2 ^ (64-s):=by rw[<- Nat.pow_add];congr 1;omega
def zCv (hi lo y s:Nat)(hs:s<=63)(h2:hi<y)(hlo:lo<18446744073709551616)(hY:y*2 ^ s<18446744073709551616) :
  hi*2 ^ s<y*2 ^ s/\lo/2 ^ (64-s)<2 ^ s/\(hi*2 ^ s) ||| (lo/2 ^ (64-s))=hi*2 ^ s+lo/2 ^ (64-s)/\hi*2 ^ s+lo/2 ^ (64-s)<y*2 ^ s /\
  (18446744073709551616*hi+lo)*2 ^ s=18446744073709551616*(hi*2 ^ s+lo/2 ^ (64-s))+lo*2 ^ s%18446744073709551616:=by
 have hp:0<2 ^ s:=Nat.two_pow_pos s;have e64:(18446744073709551616:Nat)=2 ^ s*2 ^ (64-s):=zCu s hs;have a2:lo/2 ^ (64-s)<2 ^ s:=by rw[Nat.div_lt_iff_lt_mul (Nat.two_pow_pos _),<- e64];exact hlo
 have a1:hi*2 ^ s+2 ^ s<=y*2 ^ s:=by rw[<- Nat.succ_mul];exact Nat.mul_le_mul_right _ h2
 refine⟨by omega,a2,?_,by omega,?_⟩;rw[zqbc hi,Nat.two_pow_add_eq_or_of_lt a2]
 have e:lo*2 ^ s/18446744073709551616=lo/2 ^ (64-s):=by
  rw[e64,zqbc lo,Nat.mul_div_mul_left _ _ hp]
 have h3:=zqbt (lo*2 ^ s) 18446744073709551616;rw[e] at h3;rw[Nat.add_mul,zqbh,Nat.add_assoc,h3,zqav]
def zGh (U m1 m0 Y:Nat)(hY:0<Y) :
  (18446744073709551616*U+(4294967296*m1+m0))/Y=4294967296*((4294967296*U+m1)/Y)+(4294967296*((4294967296*U+m1)%Y)+m0)/Y:=by
 have h1:=zqbt (4294967296*U+m1) Y
 have e:18446744073709551616*U+(4294967296*m1+m0)=Y*(4294967296*((4294967296*U+m1)/Y))+(4294967296*((4294967296*U+m1)%Y)+m0):=by
  have h2:Y*(4294967296*((4294967296*U+m1)/Y))=4294967296*(Y*((4294967296*U+m1)/Y)):=by rw[<- zqav,zqbc Y,zqav]
  rw[h2];omega
 rw[e,Nat.add_comm,Nat.add_mul_div_left _ _ hY,Nat.add_comm]
def zth (U m Y:Nat)(hY:0<Y)(hU:U<Y)(hm:m<4294967296):(4294967296*U+m)/Y<4294967296:=by
 rw[Nat.div_lt_iff_lt_mul hY];omega
def bAt (xs:List Nat)(i:Int):Nat:=if i<0 then 0 else xs.getD i.toNat 0
structure zJB (xs ys:List Nat)(N Y2:Nat):Prop where
 lo:vl 1000000000 xs/vl 1000000000 ys<=N/Y2
 hi:N/Y2<=vl 1000000000 xs/vl 1000000000 ys+1
 le:N/Y2<=1000000000
 lt:N<1000000001*Y2
 ge:1000000000<=Y2
def zuX (xs ys:List Nat)(m:Nat)(hm:ys.length=m+1)(hl:xs.length=m+2)(hx:∀ x∈xs,x<1000000000)(hy:∀ y∈ys,y<1000000000)(hyt:zcx ys)
  (hlt:vl 1000000000 xs<1000000000*vl 1000000000 ys) :
  zJB xs ys (1000000000*(1000000000*xs.getD (m+1) 0+xs.getD m 0)+bAt xs ((m:Int)-1)) (1000000000*ys.getD m 0+bAt ys ((m:Int)-1)):=by
 have hy0:ys.getD m 0≠0:=by
  have:=hyt (by intro e;rw[e] at hm;simp at hm);rw[List.getLast_eq_getElem] at this;rw[zqaa,zqac (by omega)];simp only[Option.getD_some];have e:ys.length-1=m:=by omega
  simp only[e] at this;exact this
 have hxs:=zaM 1000000000 xs (m+1);rw[zqaf (by omega),zaM] at hxs;have hys:=zaM 1000000000 ys m;rw[zqaf (by omega)] at hys;cases m with
 | zero =>
  simp only[List.take_zero,vl,zqat,Nat.pow_zero,Nat.one_mul,Nat.pow_one] at hxs hys;have e1:bAt xs (((0:Nat):Int)-1)=0:=by unfold bAt;rw[if_pos (by omega)]
  have e2:bAt ys (((0:Nat):Int)-1)=0:=by unfold bAt;rw[if_pos (by omega)]
  rw[e1,e2];simp only[Nat.add_zero,zqat] at *;have hN:1000000000*xs.getD 1 0+xs.getD 0 0=vl 1000000000 xs:=by omega
  rw[hN,<- hys];have ed:1000000000*vl 1000000000 xs/(1000000000*vl 1000000000 ys)=vl 1000000000 xs/vl 1000000000 ys:=Nat.mul_div_mul_left _ _ (by decide);have hq:vl 1000000000 xs/vl 1000000000 ys<1000000000:=by rw[Nat.div_lt_iff_lt_mul (by omega)];exact hlt
  refine⟨by rw[ed];exact zqab _,by rw[ed];omega,by rw[ed];omega,by omega,by omega⟩
 | succ k =>
  have e1:bAt xs (((k+1:Nat):Int)-1)=xs.getD k 0:=by unfold bAt;rw[if_neg (by omega)];congr 1;omega
  have e2:bAt ys (((k+1:Nat):Int)-1)=ys.getD k 0:=by unfold bAt;rw[if_neg (by omega)];congr 1;omega
  rw[e1,e2];rw[zaM] at hxs hys;have hp:=zbP 1000000000 (xs.take k) (fun x h=>hx x (zqau h));have hp2:=zbP 1000000000 (ys.take k) (fun x h=>hy x (zqau h));rw[zqan,Nat.min_eq_left (by omega)] at hp hp2;have p1:(1000000000:Nat) ^ (k+1)=1000000000*1000000000 ^ k:=by rw[zqbp,zqbc]
  have p2:(1000000000:Nat) ^ (k+1+1)=1000000000*(1000000000*1000000000 ^ k):=by rw[zqbp,zqbc,p1]
  rw[p1,p2] at hxs;rw[p1] at hys;have hS:0<(1000000000:Nat) ^ k:=Nat.pow_pos (by decide);generalize (1000000000:Nat) ^ k=S at *;generalize xs.getD (k+1+1) 0=x1 at *;generalize xs.getD (k+1) 0=x2 at *;generalize xs.getD k 0=x3 at *;generalize ys.getD (k+1) 0=y1 at *;have hy2:ys.getD k 0<1000000000:=zaY _ (by decide) ys hy k;generalize ys.getD k 0=y2 at *;generalize vl 1000000000 (xs.take k)=p at *;generalize vl 1000000000 (ys.take k)=p' at *
  have eN:S*(1000000000*(1000000000*x1+x2)+x3)=1000000000*(1000000000*S)*x1+1000000000*S*x2+S*x3:=by
   simp only[zqbh];congr 1;congr 1
   ·rw[<- zqav,zqbc S 1000000000,<- zqav,zqav 1000000000 S,zqbc S 1000000000]
   rw[<- zqav,zqbc S]
  have eY:S*(1000000000*y1+y2)=1000000000*S*y1+S*y2:=by
   rw[zqbh,<- zqav,zqbc S]
  have hX:vl 1000000000 xs=p+S*(1000000000*(1000000000*x1+x2)+x3):=by rw[eN];omega
  have hY:vl 1000000000 ys=p'+S*(1000000000*y1+y2):=by rw[eY];omega
  have hYb:1000000000<=1000000000*y1+y2:=by omega
  clear hxs hys eN eY p1 p2 e1 e2 hy0;rw[hX,hY] at hlt;generalize 1000000000*(1000000000*x1+x2)+x3=N at *;generalize 1000000000*y1+y2=Y at *;have hSY:S*1<=S*Y:=zqbd _ (by omega)
  have hNY:N<1000000001*Y:=by
   have h1:S*N<S*(1000000000*(Y+1)):=by
    have:S*(1000000000*(Y+1))=1000000000*(S*Y+S):=by rw[<- zqav,zqbc S 1000000000,zqav,zqbh,Nat.mul_one]
    rw[this];omega
   have h2:=Nat.lt_of_mul_lt_mul_left h1;omega
  have hQ:N/Y<=1000000000:=by
   apply Nat.le_of_lt_succ;rw[Nat.div_lt_iff_lt_mul (by omega)];exact hNY
  refine⟨?_,?_,hQ,hNY,hYb⟩
  ·rw[hX,hY,Nat.le_div_iff_mul_le (by omega)]
   have h1:=Nat.div_mul_le_self (p+S*N) (p'+S*Y);generalize (p+S*N)/(p'+S*Y)=q at *
   have h2:S*(q*Y)<=q*(p'+S*Y):=by
    rw[zqbh];have:q*(S*Y)=S*(q*Y):=by rw[<- zqav,zqbc q S,zqav]
    omega
   have h3:S*(q*Y)<S*(N+1):=by rw[zqbh,Nat.mul_one];omega
   have h4:=Nat.lt_of_mul_lt_mul_left h3;omega
  have h1:=Nat.div_mul_le_self N Y;generalize N/Y=q at *;rcases Nat.eq_zero_or_pos q with rfl|hq
  exact zqaw _;obtain⟨t,rfl⟩:∃ t,q=t+1:=⟨q-1,by omega⟩;apply Nat.succ_le_succ;rw[hX,hY,Nat.le_div_iff_mul_le (by omega)];have h2:S*((t+1)*Y)<=S*N:=zqbd _ h1;rw[Nat.add_mul,Nat.one_mul,zqbh] at h2
  have h3:t*(p'+S*Y)=t*p'+S*(t*Y):=by
   rw[zqbh,<- zqav,zqbc t S,zqav]
  have h4:t*p'<=Y*S:=Nat.mul_le_mul (by omega) (by omega);rw[zqbc Y S] at h4;rw[h3];omega
def zJC (P vy qh:Nat)(part ys p1:List Nat)(c:Nat)(p2:List Nat):Prop :=
 (c=0->qh=P/vy/\vl 1000000000 p1=P%vy)/\(0<c->qh=P/vy+1/\vl 1000000000 p2=P%vy)
def zGi (part ys:List Nat)(qh:Nat)(hp:∀ x∈part,x<1000000000)(hy:∀ y∈ys,y<1000000000)(hl:part.length=ys.length+1)(hv:0<vl 1000000000 ys)
  (h1:vl 1000000000 part/vl 1000000000 ys<=qh) (h2:qh<=vl 1000000000 part/vl 1000000000 ys+1) (h3:qh<=1000000000) :
  (∀ z∈(zaz (zaU qh) part ys 0 (ys.length+1)).1,z<1000000000) /\
  (∀ z∈(zaz (zbp 1) (zaz (zaU qh) part ys 0 (ys.length+1)).1 ys 0 (ys.length+1)).1,z<1000000000) /\
  zJC (vl 1000000000 part) (vl 1000000000 ys) qh part ys (zaz (zaU qh) part ys 0 (ys.length+1)).1 (zaz (zaU qh) part ys 0 (ys.length+1)).2 (zaz (zbp 1) (zaz (zaU qh) part ys 0 (ys.length+1)).1 ys 0 (ys.length+1)).1:=by
 obtain⟨a1,a2,a3⟩:=zlc qh part ys h3 hp hy 0 (by decide) (ys.length+1);have a4:=zbw (zaU qh) part ys 0 (ys.length+1);have t1:ys.take (ys.length+1)=ys:=zqaf (by omega);have t2:part.take (ys.length+1)=part:=zqaf (by omega);have t3:(zaz (zaU qh) part ys 0 (ys.length+1)).1.take (ys.length+1)=(zaz (zaU qh) part ys 0 (ys.length+1)).1:=zqaf (by omega);rw[t1,t2,Nat.add_zero] at a3;obtain⟨b1,b2,b3⟩:=zji 1 (zaz (zaU qh) part ys 0 (ys.length+1)).1 ys (by decide) a1 hy 0 (by decide) (ys.length+1);have b4:=zbw (zbp 1) (zaz (zaU qh) part ys 0 (ys.length+1)).1 ys 0 (ys.length+1);rw[t1,t3,Nat.one_mul,Nat.add_zero] at b3;have c1:=zbP 1000000000 _ a1;have c2:=zbP 1000000000 _ b1;have c3:=zbP 1000000000 ys hy;rw[a4] at c1;rw[b4] at c2;have hpow:(1000000000:Nat) ^ ys.length<=1000000000 ^ (ys.length+1):=zqay (by decide) (by omega);refine⟨a1,b1,?_,?_⟩
 all_goals
  generalize (zaz (zbp 1) (zaz (zaU qh) part ys 0 (ys.length+1)).1 ys 0 (ys.length+1))=q2 at *;generalize zaz (zaU qh) part ys 0 (ys.length+1)=q1 at *;generalize vl 1000000000 part=P at *;generalize vl 1000000000 ys=V at *;generalize (1000000000:Nat) ^ (ys.length+1)=T at *;generalize (1000000000:Nat) ^ ys.length=T0 at *;have hdm:=zqbt P V;have hml:=Nat.mod_lt P hv;generalize P%V=r at *;generalize P/V=d at *;clear a1 b1 hp hy a4 b4 hl t1 t2 t3;intro hc
 ·rw[hc,Nat.mul_zero,Nat.add_zero] at a3
  have hq:qh=d:=by
   rcases Nat.lt_or_ge d qh with h|h
   ·obtain rfl:qh=d+1:=by omega
    rw[Nat.add_mul,Nat.one_mul,zqbc d V] at a3;omega
   omega
  refine⟨hq,?_⟩;rw[hq,zqbc d V] at a3;omega
 have hT:T*1<=T*q1.2:=zqbd _ hc
 have hq:qh=d+1:=by
  rcases Nat.lt_or_ge d qh with h|h;omega;obtain rfl:qh=d:=by omega
  rw[zqbc qh V] at a3;omega
 rw[hq,Nat.add_mul,Nat.one_mul,zqbc d V] at a3
 have hc1:q1.2=1:=by
  rcases Nat.lt_or_ge 1 q1.2 with h|h
  ·have:T*2<=T*q1.2:=zqbd _ h
   omega
  omega
 rw[hc1,Nat.mul_one] at a3
 have hc2:q2.2=1:=by
  rcases Nat.lt_or_ge 1 q2.2 with h|h
  ·have:T*2<=T*q2.2:=zqbd _ h
   omega
  rcases Nat.eq_zero_or_pos q2.2 with h0|h0
  ·rw[h0,Nat.mul_zero] at b3;omega
  omega
 rw[hc2,Nat.mul_one] at b3;exact⟨hq,by omega⟩
structure zfA (xs ys:List Nat)(k:Nat)(zs qs:List Nat):Prop where
 zlen:zs.length=xs.length+1
 qlen:qs.length=xs.length-ys.length+1
 zlt:∀ z∈zs,z<1000000000
 qlt:∀ z∈qs,z<1000000000
 val:vl 1000000000 (qs.drop k)*vl 1000000000 ys*1000000000 ^ k+vl 1000000000 zs=vl 1000000000 xs
 lt:vl 1000000000 (zs.drop k)<vl 1000000000 ys
section
variable {xs ys zs qs:List Nat} {k:Nat}
def zfA.start (hx:∀ x∈xs,x<1000000000)(hyt:zcx ys)(h0:ys≠[])(hle:ys.length<=xs.length) :
  zfA xs ys (xs.length-ys.length+1) (xs++[0]) (List.replicate (xs.length-ys.length+1) 0):=by
 have hyl:0<ys.length:=List.length_pos_iff.2 h0
 have hz:∀ z∈xs++[0],z<1000000000:=by
  intro z hz;rcases zqbo.1 hz with h|h
  exact hx z h;rw[zqbk.1 h];decide
 refine⟨by simp,by simp,hz,fun z h=>by rw[(List.mem_replicate.1 h).2];decide,?_,?_⟩;rw[List.drop_eq_nil_of_le (by simp),zfR];simp[vl];have ht:=zmr 1000000000 ys h0 hyt
 have e:(xs++[0]).drop (xs.length-ys.length+1)=xs.drop (xs.length-ys.length+1)++[0]:=by
  rw[List.drop_append_of_le_length (by omega)]
 rw[e,zfR,Nat.mul_zero,Nat.add_zero];have h2:=zbP 1000000000 (xs.drop (xs.length-ys.length+1)) (fun x h=>hx x (List.mem_of_mem_drop h));rw[List.length_drop,show xs.length-(xs.length-ys.length+1)=ys.length-1 by omega] at h2;omega
def zfA.part (h:zfA xs ys (k+1) zs qs)(hk:k+1<=xs.length-ys.length+1)(hle:ys.length<=xs.length)(hy:∀ y∈ys,y<1000000000) :
  vl 1000000000 (zs.drop (k+(ys.length+1)))=0/\((zs.drop k).take (ys.length+1)).length=ys.length+1/\(∀ z∈(zs.drop k).take (ys.length+1),z<1000000000) /\
  vl 1000000000 ((zs.drop k).take (ys.length+1))<1000000000*vl 1000000000 ys/\vl 1000000000 (zs.drop k)=vl 1000000000 ((zs.drop k).take (ys.length+1)):=by
 have hl:=h.zlen;have hyv:=zbP 1000000000 ys hy;have h1:=zgu 1000000000 (zs.drop (k+1)) ys.length (by rw[List.length_drop];omega);rw[List.drop_drop] at h1;have hlt:=h.lt
 have hz:vl 1000000000 (zs.drop (k+1+ys.length))=0:=by
  rcases Nat.eq_zero_or_pos (vl 1000000000 (zs.drop (k+1+ys.length))) with e|e;exact e;have:1000000000 ^ ys.length*1<=1000000000 ^ ys.length*vl 1000000000 (zs.drop (k+1+ys.length)):=zqbd _ e;omega
 have e1:k+1+ys.length=k+(ys.length+1):=by omega
 rw[e1] at hz;have h2:=zgu 1000000000 (zs.drop k) (ys.length+1) (by rw[List.length_drop];omega);rw[List.drop_drop,hz,Nat.mul_zero,Nat.add_zero] at h2;have h3:=zfy 1000000000 zs k;have hzk:=zaY 1000000000 (by decide) zs h.zlt k;exact⟨hz,by rw[zqan,List.length_drop];omega,fun z hm=>h.zlt z (List.mem_of_mem_drop (zqau hm)),by omega,h2⟩
def zfA.step (h:zfA xs ys (k+1) zs qs)(hk:k+1<=xs.length-ys.length+1)(hle:ys.length<=xs.length)(hy:∀ y∈ys,y<1000000000)(hv:0<vl 1000000000 ys)
  (p:List Nat) (q:Nat) (hpl:p.length=ys.length+1) (hp:∀ z∈p,z<1000000000)
  (hq:q=vl 1000000000 ((zs.drop k).take (ys.length+1))/vl 1000000000 ys) (hpv:vl 1000000000 p=vl 1000000000 ((zs.drop k).take (ys.length+1))%vl 1000000000 ys) :
  zfA xs ys k (zs.take k++p++zs.drop (k+(ys.length+1))) (qs.set k q):=by
 obtain⟨a1,a2,a3,a4,a5⟩:=h.part hk hle hy;have hl:=h.zlen;have hql:=h.qlen;have hqb:q<1000000000:=by rw[hq,Nat.div_lt_iff_lt_mul hv];exact a4
 have hdm:=zqbt (vl 1000000000 ((zs.drop k).take (ys.length+1))) (vl 1000000000 ys);have hml:=Nat.mod_lt (vl 1000000000 ((zs.drop k).take (ys.length+1))) hv;rw[<- hq,<- hpv] at hdm;rw[<- hpv] at hml;have htk:(zs.take k).length=k:=by rw[zqan];omega
 refine⟨?_,by rw[List.length_set];exact hql,?_,?_,?_,?_⟩;rw[zqag,zqag,htk,List.length_drop,hpl];omega
 ·intro z hz
  rcases zqbo.1 hz with hz|hz
  ·rcases zqbo.1 hz with hz|hz
   ·exact h.zlt z (zqau hz)
   exact hp z hz
  exact h.zlt z (List.mem_of_mem_drop hz)
 ·intro z hz
  rcases List.mem_or_eq_of_mem_set hz with hz|rfl;exact h.qlt z hz;exact hqb
 ·have hsp:=zgu 1000000000 zs k (by omega)
  have hqd:=zfy 1000000000 (qs.set k q) k;rw[zfz _ _ _ _ (by omega),if_pos rfl,List.drop_set_of_lt (show k<k+1 by omega)] at hqd;have zV:=h.val;rw[hqd,zdp,zdp,a1,Nat.mul_zero,Nat.add_zero,htk];rw[hsp,a5,<- hdm,zqbp] at zV;rw[<- zV,Nat.add_mul,Nat.add_mul,zqbh];generalize vl 1000000000 (qs.drop (k+1))=Q;generalize vl 1000000000 ys=V;generalize vl 1000000000 (zs.take k)=A;generalize vl 1000000000 p=R;generalize (1000000000:Nat) ^ k=T;have e1:q*V*T=T*(V*q):=by rw[zqbc T,zqbc q V]
  have e2:1000000000*Q*V*T=Q*V*(T*1000000000):=by
   rw[zqbc T,<- zqav,zqbc (Q*V) 1000000000,<- zqav]
  rw[e1,e2];omega
 rw[zqbj,List.drop_append_of_le_length (by omega),List.drop_of_length_le (by omega),List.nil_append,zdp,a1,Nat.mul_zero,Nat.add_zero];exact hml
def zfA.fin (h:zfA xs ys 0 zs qs):vl 1000000000 qs=vl 1000000000 xs/vl 1000000000 ys/\vl 1000000000 zs=vl 1000000000 xs%vl 1000000000 ys:=by
 have hv:=h.val;have hl:=h.lt;rw[List.drop_zero] at hl;rw[List.drop_zero,Nat.pow_zero,Nat.mul_one,zqbc] at hv;have:=(Nat.div_mod_unique (a:=vl 1000000000 xs) (b:=vl 1000000000 ys) (c:=vl 1000000000 zs) (d:=vl 1000000000 qs) (by omega)).2 ⟨by omega,hl⟩;exact⟨this.1.symm,this.2.symm⟩
end
open Go.Lib
def zhc (x:Rat):List UInt8:=(if x.num<0 then [45] else [])++(decDigits x.num.natAbs++(if x.den=1 then [] else 47::decDigits x.den))
def zeE (x:Rat):ByteArray:=⟨(zhc x).toArray⟩
def zbr (x:Rat):Prop:=nDigits x.num.natAbs<=400/\nDigits x.den<=400
instance (x:Rat):Decidable (zbr x):=inferInstanceAs (Decidable (_/\_))
structure zaA (a:ByteArray)(x:Rat):Prop where
 short:zbr x
 eq:a=zeE x
def zGj (ds:List UInt8)(h:ds.all zck=true):cut ds [47]=(ds,[],false):=by
 unfold cut;rcases index_spec ds [47] with⟨h1,_⟩|⟨i,h1,h2,h3,_⟩
 rw[h1];rfl;exfalso;unfold occAt at h3;cases hd:ds.drop i with
 | nil=>rw[hd] at h3;simp at h3
 | cons c r =>
  exact zQba
def zGk (ds r:List UInt8)(h:ds.all zck=true):cut (ds++47::r) [47]=(ds,r,true):=by
 unfold cut;rcases index_spec (ds++47::r) [47] with⟨_,h2⟩|⟨i,h1,h2,h3,h4⟩
 ·exfalso
  have:=h2 ds.length (by simp);unfold occAt at this;simp at this
 have hi:i=ds.length:=by
  rcases Nat.lt_trichotomy i ds.length with hl|hl|hl
  ·exfalso
   unfold occAt at h3;rw[List.drop_append_of_le_length (by omega)] at h3;cases hd:ds.drop i with
   | nil=>have:=zqbz List.length hd;simp at this;omega
   | cons c t =>
    exact zQba
  exact hl;exfalso;have:=h4 ds.length hl;unfold occAt at this;simp at this
 subst hi;rw[h1,if_pos (by omega)];simp
def zcL (a:ByteArray):Bool:=hasPrefix a.data.toList [45]
def zcW (a:ByteArray):List UInt8:=trimPrefix a.data.toList [45]
def zdd (a:ByteArray):Bool:=(cut (zcW a) [47]).2.2
def zcM (a:ByteArray):ByteArray:=⟨(cut (zcW a) [47]).1.toArray⟩
def tailA (a:ByteArray):ByteArray:=⟨(cut (zcW a) [47]).2.1.toArray⟩
def zcy (a:ByteArray):ByteArray:=if zdd a then tailA a else ⟨#[49]⟩
def zLc (n:Nat):∃ c r,decDigits n=c::r/\zck c=true:=by
 have ha:=ziW n;have hl:(decDigits n).length≠0:=by rw[decDigits_length];have:=nDigits_pos n;omega
 cases h:decDigits n with
 | nil=>rw[h] at hl;exact absurd rfl hl
 | cons c r=>rw[h] at ha;simp at ha;exact⟨c,r,rfl,ha.1⟩
def zpT (n:Nat)(t:List UInt8):hasPrefix (decDigits n++t) [45]=false:=by
 obtain⟨c,r,h,hc⟩:=zLc n;rw[h];unfold hasPrefix;rw[List.cons_append];simp only[List.isPrefixOf_cons_cons,Bool.and_eq_false_iff];left;rw[beq_eq_false_iff_ne];intro e;rw[<- e] at hc;exact absurd hc (by decide)
def zJD:decDigits 1=[49]:=by rw[decDigits_one (by decide)];rfl
def apart (a:ByteArray)(x:Rat)(h:a=zeE x):zcL a=decide (x.num<0)/\zcM a=zai x.num.natAbs/\zcy a=zai x.den/\zdd a=decide (x.den≠1):=by
 subst h
 have hr:zcW (zeE x)=decDigits x.num.natAbs++(if x.den=1 then [] else 47::decDigits x.den):=by
  unfold zcW zeE zhc trimPrefix
  by_cases hn:x.num<0
  ·simp only[if_pos hn,List.singleton_append]
   rw[if_pos (by unfold hasPrefix;simp)];rfl
  simp only[if_neg hn,List.nil_append];rw[if_neg (by rw[zpT];simp)]
 have hs:zcL (zeE x)=decide (x.num<0):=by
  unfold zcL zeE zhc
  by_cases hn:x.num<0
  ·simp only[if_pos hn,List.singleton_append,hn,decide_true]
   unfold hasPrefix;simp
  simp only[if_neg hn,List.nil_append,hn,decide_false];exact zpT _ _
 refine⟨hs,?_⟩;unfold zcM zcy zdd tailA;rw[hr]
 by_cases hd:x.den=1
 ·rw[if_pos hd,List.append_nil,zGj _ (ziW _)]
  simp only[hd,zai,zJD,Bool.false_eq_true,if_false,ne_eq,not_true,decide_false,and_self]
 rw[if_neg hd,zGk _ _ (ziW _)];simp only[zai,if_true,ne_eq,hd,not_false_eq_true,decide_true,and_self]
def sg (neg:Bool)(n:Nat):Int:=if neg then -(n:Int) else n
def zjk (neg:Bool)(n:Nat):(sg neg n).natAbs=n:=by unfold sg;split <;> omega
def zLd (neg:Bool)(n:Nat):(sg neg n<0)↔(neg=true/\n≠0):=by unfold sg;split <;> simp_all <;> omega
def zuY (x:Rat):sg (decide (x.num<0)) x.num.natAbs=x.num:=by
 by_cases h:x.num<0
 rw[sg,if_pos (by simpa using h)];omega;rw[sg,if_neg (by simpa using h)];omega
def zrH (x:Rat):mkRat (sg (decide (x.num<0)) x.num.natAbs) x.den=x:=by rw[zuY,Rat.mkRat_self]
def zpU (neg:Bool)(n d:Nat)(hd:d≠0):(mkRat (sg neg n) d).num.natAbs=n/Nat.gcd n d:=by
 rw[Rat.num_mkRat,if_neg hd,zjk,Nat.gcd_comm d n];unfold sg;split;rw[Int.natAbs_ediv_of_dvd (by rw[Int.dvd_neg];exact Int.ofNat_dvd.2 (Nat.gcd_dvd_left n d))];simp;rw[Int.natAbs_ediv_of_dvd (Int.ofNat_dvd.2 (Nat.gcd_dvd_left n d))];simp
def zpV (neg:Bool)(n d:Nat)(hd:d≠0):(mkRat (sg neg n) d).den=d/Nat.gcd n d:=by
 rw[Rat.den_mkRat,if_neg hd,zjk,Nat.gcd_comm d n]
def zuZ (neg:Bool)(n d:Nat)(hd:d≠0):((mkRat (sg neg n) d).num<0)↔(neg=true/\n≠0):=by
 rw[<- zLd];have e:=Rat.num_mkRat (sg neg n) d;rw[if_neg hd,zjk,Nat.gcd_comm d n] at e;have hg:0<Nat.gcd n d:=Nat.gcd_pos_of_pos_right _ (Nat.pos_of_ne_zero hd)
 have hdv:((Nat.gcd n d:Nat):Int) ∣ sg neg n:=by
  unfold sg;split;rw[Int.dvd_neg];exact Int.ofNat_dvd.2 (Nat.gcd_dvd_left n d);exact Int.ofNat_dvd.2 (Nat.gcd_dvd_left n d)
 obtain⟨k,hk⟩:=hdv;rw[e,hk,Int.mul_ediv_cancel_left _ (by omega)];constructor
 ·intro h;exact Int.mul_neg_of_pos_of_neg (by omega) h
 intro h;rcases Int.lt_or_le k 0 with h1|h1;exact h1;have:=Int.mul_nonneg (show(0:Int)<=(Nat.gcd n d:Nat) by omega) h1;omega
def zcV (x:Rat):Value:=if zbr x then .tuple #[.string (zeE x),.int .i64 0] else .tuple #[.string ⟨#[]⟩,.int .i64 2]
def zhd (neg:Bool)(num den:ByteArray):Value :=
 if zao num&&zao den && !decide (nv den=0) then zcV (mkRat (sg neg (nv num)) (nv den)) else .tuple #[.string ⟨#[]⟩,.int .i64 1]
def zdW (x:Rat):Value:=.agg #[.bool (decide (x.num<0)),.string (zai x.num.natAbs),.string (zai x.den)]
def zaZ (n:Nat)(h:nDigits n<=1000):zao (zai n)=true:=by rw[zrG];simpa using h
def zaA.uniq {a:ByteArray}{x y:Rat}(h:zaA a x)(k:zaA a y):x=y:=by
 obtain⟨h1,h2,h3,_⟩:=apart a x h.eq;obtain⟨k1,k2,k3,_⟩:=apart a y k.eq;have e1:decide (x.num<0)=decide (y.num<0):=h1.symm.trans k1;have e2:=znR (h2.symm.trans k2);have e3:=znR (h3.symm.trans k3);rw[<- zrH x,<- zrH y,e1,e2,e3]
def ziX {x:Rat}(h:zbr x):zcV x=.tuple #[.string (zeE x),.int .i64 0]:=if_pos h
def zgE {x:Rat}(h:¬ zbr x):zcV x=.tuple #[.string ⟨#[]⟩,.int .i64 2]:=if_neg h
def zhA {a:ByteArray}{x:Rat}(h:zaA a x):zcV x=.tuple #[.string a,.int .i64 0]:=by rw[ziX h.short,h.eq]
def zpW (x:Rat):(∃ S,zcV x=.tuple #[.string S,.int .i64 0]/\zaA S x)∨(zcV x=.tuple #[.string ⟨#[]⟩,.int .i64 2]/\¬ zbr x):=by
 by_cases h:zbr x
 exact .inl ⟨zeE x,ziX h,h,rfl⟩;exact .inr ⟨zgE h,h⟩
def zCw {a:ByteArray}{x:Rat}(h:zaA a x):zhd (zcL a) (zcM a) (zcy a)=.tuple #[.string a,.int .i64 0]:=by
 obtain⟨h1,h2,h3,_⟩:=apart a x h.eq;have:=h.short.1;have:=h.short.2;unfold zhd;rw[h1,h2,h3,zaS,zaS,zaZ _ (by omega),zaZ _ (by omega),zrH];simp only[Bool.and_self,Bool.true_and,x.den_nz,decide_false,Bool.not_false,if_true];exact zhA h
def zxB (neg:Bool)(num den:ByteArray):(∃ S x,zhd neg num den=.tuple #[.string S,.int .i64 0]/\zaA S x)∨(∃ E:Int,zhd neg num den=.tuple #[.string ⟨#[]⟩,.int .i64 E]/\(E=1∨E=2)):=by
 unfold zhd;split
 ·rcases zpW (mkRat (sg neg (nv num)) (nv den)) with⟨S,h,k⟩|⟨h,_⟩
  ·exact .inl ⟨S,_,h,k⟩
  exact .inr ⟨2,h,.inr rfl⟩
 exact .inr ⟨1,rfl,.inl rfl⟩
def zJE (neg:Bool)(n d:Nat)(hd:d≠0) :
  zdW (mkRat (sg neg n) d)=.agg #[.bool (neg && !decide (n=0)),.string (zai (n/Nat.gcd n d)),.string (zai (d/Nat.gcd n d))]:=by
 unfold zdW
 rw[zpU neg n d hd,zpV neg n d hd,show decide ((mkRat (sg neg n) d).num<0)=(neg && !decide (n=0)) by
  rw[Bool.eq_iff_iff,zqca,zuZ neg n d hd];simp]
open Go.Lib
def zGl (s:List UInt8):s=(cut s [47]).1++(if (cut s [47]).2.2 then 47::(cut s [47]).2.1 else []):=by
 unfold cut;rcases index_spec s [47] with⟨h1,_⟩|⟨i,h1,h2,h3,_⟩
 rw[h1];simp;rw[h1,if_pos (by omega)];simp only[if_true,Int.toNat_natCast,zqbq];have hc:=occAt_head (s:=s) (sub:=[47]) rfl h3;obtain⟨hi,e⟩:=zqae.1 hc;have:s.drop i=47::s.drop (i+1):=by rw[List.drop_eq_getElem_cons hi,e]
 rw[<- this,List.take_append_drop]
def zGm (a:List UInt8):a=(if hasPrefix a [45] then [45] else [])++trimPrefix a [45]:=by
 unfold trimPrefix;cases h:hasPrefix a [45];simp;unfold hasPrefix at h;cases a with
 | nil=>simp at h
 | cons c r=>simp at h;subst h;simp
def zJF (a:ByteArray):a.data.toList=(if zcL a then [45] else [])++((zcM a).data.toList++(if zdd a then 47::(tailA a).data.toList else [])):=by
 conv=>lhs;rw[zGm a.data.toList]
 unfold zcL zcM zdd tailA;congr 1;show zcW a=_
 conv=>lhs;rw[zGl (zcW a)]
structure zeF (a:ByteArray):Prop where
 n:zao (zcM a)=true
 d:zao (zcy a)=true
 sn:(zcM a).size<=400
 sd:(zcy a).size<=400
 d0:nv (zcy a)≠0
 z:nv (zcM a)=0->zcL a=false/\zdd a=false
 one:nv (zcy a)=1->zdd a=false
 g:Nat.gcd (nv (zcM a)) (nv (zcy a))=1∨nv (zcy a)=1
def zeF.gcd {a:ByteArray}(h:zeF a):Nat.gcd (nv (zcM a)) (nv (zcy a))=1:=by
 rcases h.g with k|k;exact k;rw[k,Nat.gcd_one_right]
def zCx {a:ByteArray}(h:zeF a):zaA a (mkRat (sg (zcL a) (nv (zcM a))) (nv (zcy a))):=by
 have e1:=zpU (zcL a) (nv (zcM a)) (nv (zcy a)) h.d0;have e2:=zpV (zcL a) (nv (zcM a)) (nv (zcy a)) h.d0;have e3:=zuZ (zcL a) (nv (zcM a)) (nv (zcy a)) h.d0;rw[h.gcd,Nat.div_one] at e1 e2;obtain⟨n1,n2⟩:=zbZ _ h.n;obtain⟨d1,d2⟩:=zbZ _ h.d;refine⟨⟨?_,?_⟩,?_⟩;rw[e1,<- zcs,<- n1];exact h.sn;rw[e2,<- zcs,<- d1];exact h.sd;apply ByteArray.ext;apply Array.ext';rw[zJF a];unfold zeE zhc;rw[e1,e2]
 have en:(zcM a).data.toList=decDigits (nv (zcM a)):=by
                                                          conv=>lhs;rw[n1]
                                                          simp[zai]
 rw[en];show _=_++(_++_)
 have hs:((mkRat (sg (zcL a) (nv (zcM a))) (nv (zcy a))).num<0)↔zcL a=true:=by
  rw[e3];constructor;exact fun k=>k.1;intro k;refine⟨k,fun z=>?_⟩;have:=(h.z z).1;rw[k] at this;cases this
 congr 1
 ·by_cases k:zcL a=true
  ·rw[if_pos k,if_pos (hs.2 k)]
  rw[if_neg k,if_neg (fun q=>k (hs.1 q))]
 congr 1
 by_cases k:nv (zcy a)=1
 rw[if_pos k,h.one k];simp;rw[if_neg k];cases hk:zdd a
 ·exfalso
  apply k;unfold zcy;rw[hk];simp only[Bool.false_eq_true,if_false];decide +kernel
 have ed:zcy a=tailA a:=by unfold zcy;rw[hk];simp
 rw[if_pos rfl,<- ed];congr 1
 conv=>lhs;rw[d1]
 simp[zai]
def zmt {a:ByteArray}{x:Rat}(h:zaA a x):zeF a:=by
 obtain⟨h1,h2,h3,h4⟩:=apart a x h.eq;have s1:=h.short.1;have s2:=h.short.2;have hd:=x.den_nz;have hr:=x.reduced;refine⟨?_,?_,?_,?_,?_,?_,?_,?_⟩;rw[h2];exact zaZ _ (by omega);rw[h3];exact zaZ _ (by omega);rw[h2,zcs];exact s1;rw[h3,zcs];exact s2;rw[h3,zaS];exact hd
 ·rw[h2,zaS,h1,h4]
  intro z
  have hx:x.den=1:=by
   have:Nat.gcd x.num.natAbs x.den=1:=hr;rw[z,Nat.gcd_zero_left] at this;exact this
  have hz:x.num=0:=by omega
  rw[hx,hz];decide
 ·rw[h3,zaS,h4]
  intro z;simp[z]
 rw[h2,h3,zaS,zaS];exact .inl hr
open Go.Lib
end Go.Proofs.YtiblmbpfcmcccaaGreatDoor
namespace Go.Proofs
open Go.Shelf
def Tryz.lays161_ren:Go.Shelf.Ren:=⟨fun|161=>255|231=>264|227=>265|233=>266|235=>267|228=>272|197=>273|151=>274|260=>276|152=>277|137=>278|119=>279|224=>248|225=>247|217=>246|266=>259|n=>n,fun|9=>9|4=>4|3=>3|5=>5|117=>230|116=>229|0=>0|124=>233|105=>240|21=>21|119=>244|46=>129|139=>247|138=>246|n=>n,fun|3=>3|4=>4|n=>n⟩
def Tryz.lays161:Go.Proofs.Lays.n161 prog Tryz.lays161_ren := {
 mixed:=by kernel_rfl
 f119:=func279.trans (zqbz some (by kernel_rfl))
 f137:=func278.trans (zqbz some (by kernel_rfl))
 f151:=func274.trans (zqbz some (by kernel_rfl))
 f152:=func277.trans (zqbz some (by kernel_rfl))
 f161:=func255.trans (zqbz some (by kernel_rfl))
 f197:=func273.trans (zqbz some (by kernel_rfl))
 f217:=func246.trans (zqbz some (by kernel_rfl))
 f224:=func248.trans (zqbz some (by kernel_rfl))
 f225:=func247.trans (zqbz some (by kernel_rfl))
 f227:=func265.trans (zqbz some (by kernel_rfl))
 f228:=func272.trans (zqbz some (by kernel_rfl))
 f231:=func264.trans (zqbz some (by kernel_rfl))
 f233:=func266.trans (zqbz some (by kernel_rfl))
 f235:=func267.trans (zqbz some (by kernel_rfl))
 f260:=func276.trans (zqbz some (by kernel_rfl))
 f266:=func259.trans (zqbz some (by kernel_rfl))
 t0:=underlying0
 a0:=isAgg0
 z0:=sizeOf0
 v0:=zeroValue0
 t3:=underlying3
 a3:=isAgg3
 z3:=sizeOf3
 v3:=zeroValue3
 t4:=underlying4
 a4:=isAgg4
 z4:=sizeOf4
 v4:=zeroValue4
 t5:=underlying5
 a5:=isAgg5
 z5:=sizeOf5
 v5:=zeroValue5
 t9:=underlying9
 a9:=isAgg9
 z9:=sizeOf9
 v9:=zeroValue9
 t21:=underlying21
 a21:=isAgg21
 z21:=sizeOf21
 v21:=zeroValue21
 t46:=underlying129
 a46:=isAgg129
 z46:=sizeOf129
 v46:=zeroValue129
 t105:=underlying240
 a105:=isAgg240
 z105:=sizeOf240
 v105:=zeroValue240
 t116:=underlying229
 a116:=isAgg229
 z116:=sizeOf229
 t117:=underlying230
 a117:=isAgg230
 z117:=sizeOf230
 v117:=zeroValue230
 t119:=underlying244
 a119:=isAgg244
 z119:=sizeOf244
 t124:=underlying233
 a124:=isAgg233
 z124:=sizeOf233
 v124:=zeroValue233
 t138:=underlying246
 a138:=isAgg246
 z138:=sizeOf246
 v138:=zeroValue246
 t139:=underlying247
 a139:=isAgg247
 z139:=sizeOf247
 v139:=zeroValue247
 g3:=by kernel_rfl
 g4:=by kernel_rfl }
open Go.RowKit in
def Tryz.strings_TrimLeft_one (s:ByteArray)(c:UInt8)(hc:c.toNat<128)(w:World) :
  Calls prog 255 #[.string s,.string ⟨#[c]⟩] w fun e w'=>e=.returned (.string ⟨(Lib.trimLeftB s.data.toList c).toArray⟩)/\w'=w:=Any.strings_TrimLeft_one Tryz.lays161 s c hc w
def Tryz.lays134_ren:Go.Shelf.Ren:=⟨fun|134=>275|129=>195|n=>n,fun|53=>158|3=>3|4=>4|46=>129|5=>5|9=>9|n=>n,fun|n=>n⟩
def Tryz.lays134:Go.Proofs.Lays.n134 prog Tryz.lays134_ren := {
 mixed:=by kernel_rfl
 f129:=func195.trans (zqbz some (by kernel_rfl))
 f134:=func275.trans (zqbz some (by kernel_rfl))
 t3:=underlying3
 a3:=isAgg3
 z3:=sizeOf3
 v3:=zeroValue3
 t4:=underlying4
 a4:=isAgg4
 z4:=sizeOf4
 v4:=zeroValue4
 t5:=underlying5
 a5:=isAgg5
 z5:=sizeOf5
 v5:=zeroValue5
 t9:=underlying9
 a9:=isAgg9
 z9:=sizeOf9
 v9:=zeroValue9
 t46:=underlying129
 a46:=isAgg129
 z46:=sizeOf129
 v46:=zeroValue129
 t53:=underlying158
 a53:=isAgg158
 z53:=sizeOf158
 v53:=zeroValue158 }
def Tryz.bits_LeadingZeros64 (x:Int)(w:World)(h0:0<=x)(h1:x<=18446744073709551615) :
  Calls prog 275 #[.int .u64 x] w fun e w'=>e=.returned (.int .i64 (64-(Lib.bitLen x.toNat:Int)))/\w'=w:=Any.bits_LeadingZeros64 Tryz.lays134 x w h0 h1
def Tryz.lays106_ren:Go.Shelf.Ren:=⟨fun|106=>240|213=>252|265=>262|n=>n,fun|9=>9|3=>3|n=>n,fun|n=>n⟩
def Tryz.lays106:Go.Proofs.Lays.n106 prog Tryz.lays106_ren := {
 mixed:=by kernel_rfl
 f106:=func240.trans (zqbz some (by kernel_rfl))
 f213:=func252.trans (zqbz some (by kernel_rfl))
 f265:=func262.trans (zqbz some (by kernel_rfl))
 t3:=underlying3
 a3:=isAgg3
 z3:=sizeOf3
 v3:=zeroValue3
 t9:=underlying9
 a9:=isAgg9
 z9:=sizeOf9
 v9:=zeroValue9 }
open Go.RowKit in
def Tryz.strings_Compare (a b:ByteArray)(w:World) :
  Calls prog 240 #[.string a,.string b] w fun e w'=>e=.returned (.int .i64 (Lib.compareBytes a.data.toList b.data.toList))/\w'=w:=Any.strings_Compare Tryz.lays106 a b w
def Tryz.lays103_ren:Go.Shelf.Ren:=⟨fun|103=>196|210=>223|206=>234|n=>n,fun|9=>9|4=>4|24=>186|3=>3|n=>n,fun|n=>n⟩
def Tryz.lays103:Go.Proofs.Lays.n103 prog Tryz.lays103_ren := {
 mixed:=by kernel_rfl
 f103:=func196.trans (zqbz some (by kernel_rfl))
 f206:=func234.trans (zqbz some (by kernel_rfl))
 f210:=func223.trans (zqbz some (by kernel_rfl))
 t3:=underlying3
 a3:=isAgg3
 z3:=sizeOf3
 v3:=zeroValue3
 t4:=underlying4
 a4:=isAgg4
 z4:=sizeOf4
 v4:=zeroValue4
 t9:=underlying9
 a9:=isAgg9
 z9:=sizeOf9
 v9:=zeroValue9
 t24:=underlying186
 a24:=isAgg186
 z24:=sizeOf186
 v24:=zeroValue186 }
open Go.RowKit in
def Tryz.strings_CutPrefix (s p:ByteArray)(w:World) :
  Calls prog 196 #[.string s,.string p] w fun e w'=>e=.returned (.tuple #[.string ⟨(Lib.trimPrefix s.data.toList p.data.toList).toArray⟩,.bool (Lib.hasPrefix s.data.toList p.data.toList)])/\w'=w:=Any.strings_CutPrefix Tryz.lays103 s p w
def Tryz.lays122_ren:Go.Shelf.Ren:=⟨fun|122=>164|215=>202|n=>n,fun|3=>3|4=>4|n=>n,fun|n=>n⟩
def Tryz.lays122:Go.Proofs.Lays.n122 prog Tryz.lays122_ren := {
 mixed:=by kernel_rfl
 f122:=func164.trans (zqbz some (by kernel_rfl))
 f215:=func202.trans (zqbz some (by kernel_rfl))
 t3:=underlying3
 a3:=isAgg3
 z3:=sizeOf3
 v3:=zeroValue3
 t4:=underlying4
 a4:=isAgg4
 z4:=sizeOf4
 v4:=zeroValue4 }
open Go.RowKit in
def Tryz.cmp_Compare_int (x y:Int)(w:World) :
  Calls prog 164 #[.int .i64 x,.int .i64 y] w fun e w'=>e=.returned (.int .i64 (Lib.compareInt x y))/\w'=w:=Any.cmp_Compare_int Tryz.lays122 x y w
open Go.RowKit in
open Go.RowKit in
open Go.RowKit in
open Go.RowKit in
def Tryz.lays219_ren:Go.Shelf.Ren:=⟨fun|219=>235|217=>246|225=>247|224=>248|267=>249|266=>259|314=>260|n=>n,fun|9=>9|3=>3|4=>4|5=>5|46=>129|146=>156|51=>155|n=>n,fun|1=>0|n=>n⟩
def Tryz.lays219:Go.Proofs.Lays.n219 prog Tryz.lays219_ren := {
 mixed:=by kernel_rfl
 f217:=func246.trans (zqbz some (by kernel_rfl))
 f219:=func235.trans (zqbz some (by kernel_rfl))
 f224:=func248.trans (zqbz some (by kernel_rfl))
 f225:=func247.trans (zqbz some (by kernel_rfl))
 f266:=func259.trans (zqbz some (by kernel_rfl))
 f267:=func249.trans (zqbz some (by kernel_rfl))
 f314:=func260.trans (zqbz some (by kernel_rfl))
 t3:=underlying3
 a3:=isAgg3
 z3:=sizeOf3
 v3:=zeroValue3
 t4:=underlying4
 a4:=isAgg4
 z4:=sizeOf4
 v4:=zeroValue4
 t5:=underlying5
 a5:=isAgg5
 z5:=sizeOf5
 v5:=zeroValue5
 t9:=underlying9
 a9:=isAgg9
 z9:=sizeOf9
 v9:=zeroValue9
 t46:=underlying129
 a46:=isAgg129
 z46:=sizeOf129
 v46:=zeroValue129
 t51:=underlying155
 a51:=isAgg155
 z51:=sizeOf155
 v51:=zeroValue155
 t146:=underlying156
 a146:=isAgg156
 z146:=sizeOf156
 v146:=zeroValue156
 g1:=by kernel_rfl }
open Go.RowKit Go.Lib in
def Tryz.stringslite_Index_one (s:ByteArray)(c:UInt8)(w:World) :
  Calls prog 235 #[.string s,.string ⟨#[c]⟩] w fun e w'=>e=.returned (.int .i64 (Lib.indexByte s.data.toList c))/\w'=w:=Any.stringslite_Index_one Tryz.lays219 s c w
open Go.RowKit Go.Lib in
def Tryz.lays264_ren:Go.Shelf.Ren:=⟨fun|264=>153|n=>n,fun|53=>158|46=>129|n=>n,fun|n=>n⟩
def Tryz.lays264:Go.Proofs.Lays.n264 prog Tryz.lays264_ren := {
 mixed:=by kernel_rfl
 f264:=func153.trans (zqbz some (by kernel_rfl))
 t46:=underlying129
 a46:=isAgg129
 z46:=sizeOf129
 v46:=zeroValue129
 t53:=underlying158
 a53:=isAgg158
 z53:=sizeOf158
 v53:=zeroValue158 }
open Go.RowKit Go.Lib in
def Tryz.bits_Mul64 (x y:Nat)(hx:x<18446744073709551616)(hy:y<18446744073709551616)(w:World) :
  Calls prog 153 #[.int .u64 x,.int .u64 y] w fun e w'=>e=.returned (.tuple #[.int .u64 ((x*y/18446744073709551616:Nat):Int),.int .u64 ((x*y%18446744073709551616:Nat):Int)])/\w'=w:=Any.bits_Mul64 Tryz.lays264 x y hx hy w
def Tryz.lays7_25_ren:Go.Shelf.Ren:=⟨fun|25=>270|n=>n,fun|22=>158|n=>n,fun|n=>n⟩
def Tryz.lays7_25:Go.Proofs.Lays7.n25 prog Tryz.lays7_25_ren := {
 mixed:=by kernel_rfl
 f25:=func270.trans (zqbz some (by kernel_rfl))
 t22:=underlying158
 a22:=isAgg158
 z22:=sizeOf158
 v22:=zeroValue158
 i22:=by kernel_rfl }
def Tryz.bits_Add64 (x y:Nat)(w:World) :
  (callFunc 270 #[.int .u64 x,.int .u64 y,.int .u64 0]).run prog w =
   .ok (.value (.tuple #[.int .u64 (((x+y)%18446744073709551616:Nat):Int),.int .u64 (((x+y)/18446744073709551616:Nat):Int)])) w :=
 Any7.bits_Add64 Tryz.lays7_25 x y 0 (by decide) w
end Go.Proofs
namespace Go.Proofs.YtiblmbpfcmcccaaGreatDoor
open Go.Proofs.Tryz
def sgL (sw:Bool):Int:=if sw then 1 else -1
def zhB (sw:Bool):sgL (!sw) = -sgL sw:=by cases sw <;> rfl
def zCy (sw:Bool):sgL sw*sgL sw=1:=by cases sw <;> rfl
structure ziC (hx hy x y a b c d e f:Nat)(sw:Bool):Prop where
 vx:(x:Int)=sgL sw*(b*hx-d*hy)
 vy:(y:Int)=sgL sw*(f*hy-e*hx)
 det:(b:Int)*f-d*e=sgL sw
 ef:e<=f
 bd:b+e<=d+f
 f1:1<=f
 fh:f<=1000000000000000000
 al:a<1000000000
 bl:b<1000000000
 cl:c<1000000000
 dl:d<1000000000
 det2:c=0∨(b:Int)*c-a*d=sgL sw
 first:(b=1/\d=0/\e=0/\f=1/\sw=true)∨∀ P X Y:Nat,0<P->X/P=hx->Y/P=hy->sgL sw*(b*X-d*Y)<=(Y:Int)
 good:c=0∨∀ P X Y:Nat,0<P->X/P=hx->Y/P=hy->0<sgL sw*(b*X-d*Y)/\sgL sw*(b*X-d*Y) < -sgL sw*(a*X-c*Y) /\ -sgL sw*(a*X-c*Y)<=(Y:Int)
def zzZ (hx hy:Nat):ziC hx hy hx hy 0 1 0 0 0 1 true where
 vx:=by simp[sgL]
 vy:=by simp[sgL]
 det:=by simp[sgL]
 ef:=by omega
 bd:=by omega
 f1:=by omega
 fh:=by omega
 al:=by omega
 bl:=by omega
 cl:=by omega
 dl:=by omega
 det2:=.inl rfl
 first:=.inl ⟨rfl,rfl,rfl,rfl,rfl⟩
 good:=.inl rfl
section
variable {hx hy x y a b c d e f:Nat} {sw:Bool}
def ziC.whole (h:ziC hx hy x y a b c d e f sw):f*x+d*y=hx:=by
 have hz:((f:Int)*x+d*y)=hx:=by
  rw[h.vx,h.vy];have hd:=h.det;have hs:=zCy sw;generalize sgL sw=s at *;have:(f:Int)*(s*(b*hx-d*hy))+d*(s*(f*hy-e*hx))=s*((b:Int)*f-d*e)*hx:=by grind
  rw[this,hd,hs];simp
 exact_mod_cast hz
def zti {P X Y hx hy:Nat}(hP:0<P)(h1:X/P=hx)(h2:Y/P=hy)(s:Int)(hs:s=1∨s = -1)(u v n:Nat)(m:Int)(huv:u<=n)(hvn:v<=n)(hm:m=s*(u*hx-v*hy))(hn:(n:Int)<=m)(h0:0<n) :
  0<s*(u*X-v*Y):=by
 have e1:X=P*hx+X%P:=by rw[<- h1];exact(zqbt X P).symm
 have e2:Y=P*hy+Y%P:=by rw[<- h2];exact(zqbt Y P).symm
 have l1:=Nat.mod_lt X hP;have l2:=Nat.mod_lt Y hP;generalize X%P=X' at *;generalize Y%P=Y' at *;subst e1;subst e2;have k1:u*X'<=n*(P-1):=Nat.mul_le_mul huv (by omega);have k2:v*Y'<=n*(P-1):=Nat.mul_le_mul hvn (by omega);have k3:(n:Int)*P<=m*P:=Int.mul_le_mul_of_nonneg_right hn (by omega)
 have k4:n*(P-1)+n=n*P:=by
  obtain⟨p,rfl⟩:∃ p,P=p+1:=⟨P-1,by omega⟩;simp[zqbh]
 have e3:s*((u:Int)*((P*hx+X':Nat):Int)-v*((P*hy+Y':Nat):Int))=m*P+s*((u*X':Nat)-(v*Y':Nat):Int):=by
  rw[hm];push_cast;grind
 rw[e3];have k5:(n:Int)*P=((n*P:Nat):Int):=by push_cast;rfl
 rw[k5] at k3;generalize u*X'=p1 at *;generalize v*Y'=p2 at *;generalize n*(P-1)=p3 at *;generalize n*P=p4 at *;generalize m*(P:Int)=p5 at *;rcases hs with rfl|rfl <;> omega
def zCz (sw:Bool):sgL sw=1∨sgL sw = -1:=by cases sw <;> simp[sgL]
def ziC.step (h:ziC hx hy x y a b c d e f sw)(hx18:hx<1000000000000000000)(h1:f<=y)(h2:y+d+f<=x) :
  ziC hx hy y (x%y) b e d f (b+x/y*e) (d+x/y*f) (!sw)/\x%y<y/\f<1000000000:=by
 have hf1:=h.f1;have hq:1<=x/y:=(Nat.one_le_div_iff (by omega)).2 (by omega);have hdm:y*(x/y)+x%y=x:=zqbt x y;have hml:x%y<y:=Nat.mod_lt _ (by omega);have hw:=h.whole
 have hff:f*f<1000000000000000000:=by
  have:f*f<=f*x:=zqbd _ (by omega);omega
 have hfb:f<1000000000:=by
  rcases Nat.lt_or_ge f 1000000000 with g|g;exact g;have:=Nat.mul_le_mul g g;omega
 generalize hqq:x/y=q at *;generalize hrr:x%y=r at *
 have hgood:∀ P X Y:Nat,0<P->X/P=hx->Y/P=hy->0<sgL sw*(f*Y-e*X)/\sgL sw*(f*Y-e*X)<sgL sw*(b*X-d*Y):=by
  intro P X Y hP e1 e2;constructor
  ·have:=zti (u:=e) (v:=f) (n:=f) hP e1 e2 (-sgL sw) (by rcases zCz sw with g|g <;> simp[g]) (y:Int) h.ef (zqab _) (by rw[h.vy];grind) (by omega) (by omega)
   have e3 : -sgL sw*((e:Int)*X-f*Y)=sgL sw*(f*Y-e*X):=by grind
   rwa [e3] at this
  have:=zti (u:=b+e) (v:=d+f) (n:=d+f) hP e1 e2 (sgL sw) (zCz sw) ((x:Int)-y) h.bd (zqab _) (by rw[h.vx,h.vy];push_cast;grind) (by omega) (by omega);have e3:sgL sw*(((b+e:Nat):Int)*X-((d+f:Nat):Int)*Y)=sgL sw*(b*X-d*Y)-sgL sw*(f*Y-e*X):=by push_cast;grind
  rw[e3] at this;omega
 have hel:e<1000000000:=Nat.lt_of_le_of_lt h.ef hfb;have hnext:ziC hx hy y r b e d f (b+q*e) (d+q*f) (!sw)->ziC hx hy y r b e d f (b+q*e) (d+q*f) (!sw)/\r<y/\f<1000000000:=fun g=>⟨g,hml,hfb⟩;apply hnext;have vy':(y:Int)=sgL (!sw)*(e*hx-f*hy):=by rw[zhB,h.vy];grind
 have vr':(r:Int)=sgL (!sw)*((d+q*f:Nat)*hy-(b+q*e:Nat)*hx):=by
  have e1:(r:Int)=x-y*q:=by have:=zqbz (Nat.cast (R:=Int)) hdm;push_cast at this;omega
  rw[e1,zhB,h.vx,h.vy];push_cast;grind
 have det':(e:Int)*(d+q*f:Nat)-f*(b+q*e:Nat)=sgL (!sw):=by
  rw[zhB,<- h.det];push_cast;grind
 have hqe:q*e<=q*f:=zqbd _ h.ef;have hqe1:(q-1)*e<=(q-1)*f:=zqbd _ h.ef
 have hq1:∀ z:Nat,q*z=(q-1)*z+z:=fun z=>by
  obtain⟨p,rfl⟩:∃ p,q=p+1:=⟨q-1,by omega⟩;simp[Nat.add_mul]
 have ef':b+q*e<=d+q*f:=by rw[hq1 e,hq1 f];have:=h.bd;omega
 have fh':d+q*f<=1000000000000000000:=by
  have e1:((d+q*f:Nat):Int)*y+f*r=hx:=by
   have e2:(r:Int)=x-y*q:=by have:=zqbz (Nat.cast (R:=Int)) hdm;push_cast at this;omega
   have e3:(f:Int)*x+d*y=hx:=by exact_mod_cast hw
   rw[e2,<- e3];push_cast;grind
  have e4:(d+q*f)*y+f*r=hx:=by exact_mod_cast e1
  have e5:(d+q*f)*1<=(d+q*f)*y:=zqbd _ (by omega);omega
 exact {
  vx:=vy',vy:=vr',det:=det',ef:=ef',bd:=by have:=h.ef;omega,f1:=by have:=Nat.mul_le_mul hq hf1;omega,fh:=fh'
  al:=h.bl,bl:=hel,cl:=h.dl,dl:=hfb
  det2:=.inr (by rw[zhB,<- h.det];grind)
  first:=.inr (fun P X Y hP e1 e2=>by
   have g:=hgood P X Y hP e1 e2;have e3:sgL (!sw)*((e:Int)*X-f*Y)=sgL sw*(f*Y-e*X):=by rw[zhB];grind
   rw[e3];rcases h.first with⟨rfl,rfl,rfl,rfl,rfl⟩|k
   simp[sgL];have:=k P X Y hP e1 e2;omega)
  good:=by
   rcases h.first with⟨rfl,rfl,rfl,rfl,rfl⟩|k;exact .inl rfl;refine .inr (fun P X Y hP e1 e2=>?_);have g:=hgood P X Y hP e1 e2;have g2:=k P X Y hP e1 e2;have e3:sgL (!sw)*((e:Int)*X-f*Y)=sgL sw*(f*Y-e*X):=(by rw[zhB];grind);have e4 : -sgL (!sw)*((b:Int)*X-d*Y)=sgL sw*(b*X-d*Y):=(by rw[zhB];grind);rw[e3,e4];exact⟨g.1,g.2,g2⟩ }
structure Later (a b c d:Nat)(sw:Bool)(X Y A B:Nat):Prop where
 t1:sw=true->A+a*X=c*Y/\B+d*Y=b*X
 t2:sw=false->A+c*Y=a*X/\B+b*X=d*Y
 pos:0<B
 lt:B<A
 le:A<=Y
 g:Nat.gcd A B=Nat.gcd X Y
def ziC.out (h:ziC hx hy x y a b c d e f sw)(h0:c≠0){P X Y:Nat}(hP:0<P)(h1:X/P=hx)(h2:Y/P=hy):∃ A B,Later a b c d sw X Y A B:=by
 obtain⟨g1,g2,g3⟩:=h.good.resolve_left h0 P X Y hP h1 h2;have hd:=h.det2.resolve_left h0;have hs:=zCy sw;obtain⟨A,hA⟩:∃ A:Nat,(A:Int) = -sgL sw*(a*X-c*Y):=⟨(-sgL sw*(a*X-c*Y)).toNat,Int.toNat_of_nonneg (by omega)⟩;obtain⟨B,hB⟩:∃ B:Nat,(B:Int)=sgL sw*(b*X-d*Y):=⟨(sgL sw*(b*X-d*Y)).toNat,Int.toNat_of_nonneg (by omega)⟩;rw[<- hA,<- hB] at g2;rw[<- hA] at g3;rw[<- hB] at g1;refine⟨A,B,⟨?_,?_,by omega,by omega,by omega,?_⟩⟩
 ·rintro rfl
  simp only[sgL,if_true] at hA hB;constructor
  ·have:((A+a*X:Nat):Int)=((c*Y:Nat):Int):=by push_cast;rw[hA];grind
   exact_mod_cast this
  have:((B+d*Y:Nat):Int)=((b*X:Nat):Int):=by push_cast;rw[hB];grind
  exact_mod_cast this
 ·rintro rfl
  simp only[sgL] at hA hB;constructor
  ·have:((A+c*Y:Nat):Int)=((a*X:Nat):Int):=by push_cast;rw[hA];simp <;> grind
   exact_mod_cast this
  have:((B+b*X:Nat):Int)=((d*Y:Nat):Int):=by push_cast;rw[hB];simp <;> grind
  exact_mod_cast this
 have eX:d*A+c*B=X:=by
  have:((d:Int)*A+c*B)=X:=by
   rw[hA,hB];generalize sgL sw=s at *;have e:(d:Int)*(-s*(a*X-c*Y))+c*(s*(b*X-d*Y))=s*((b:Int)*c-a*d)*X:=(by grind);rw[e,hd,hs];simp
  exact_mod_cast this
 have eY:b*A+a*B=Y:=by
  have:((b:Int)*A+a*B)=Y:=by
   rw[hA,hB];generalize sgL sw=s at *;have e:(b:Int)*(-s*(a*X-c*Y))+a*(s*(b*X-d*Y))=s*((b:Int)*c-a*d)*Y:=(by grind);rw[e,hd,hs];simp
  exact_mod_cast this
 refine Nat.dvd_antisymm (Nat.dvd_gcd ?_ ?_) (Nat.dvd_gcd ?_ ?_);rw[<- eX];exact Nat.dvd_add (Nat.dvd_mul_left_of_dvd (Nat.gcd_dvd_left A B) _) (Nat.dvd_mul_left_of_dvd (Nat.gcd_dvd_right A B) _);rw[<- eY];exact Nat.dvd_add (Nat.dvd_mul_left_of_dvd (Nat.gcd_dvd_left A B) _) (Nat.dvd_mul_left_of_dvd (Nat.gcd_dvd_right A B) _)
 ·have hx':((Nat.gcd X Y:Nat):Int) ∣ X:=Int.natCast_dvd_natCast.2 (Nat.gcd_dvd_left X Y)
  have hy':((Nat.gcd X Y:Nat):Int) ∣ Y:=Int.natCast_dvd_natCast.2 (Nat.gcd_dvd_right X Y);apply Int.natCast_dvd_natCast.1;rw[hA];exact zQbl
 have hx':((Nat.gcd X Y:Nat):Int) ∣ X:=Int.natCast_dvd_natCast.2 (Nat.gcd_dvd_left X Y);have hy':((Nat.gcd X Y:Nat):Int) ∣ Y:=Int.natCast_dvd_natCast.2 (Nat.gcd_dvd_right X Y);apply Int.natCast_dvd_natCast.1;rw[hB];exact zQbl
end
def zed (f g:Nat)(xs ys:List Nat)(i:Nat)(c:Int):Int:=c+(((f*xs.getD i 0:Nat):Int)-((g*ys.getD i 0:Nat):Int))
def dif (f g:Nat)(xs ys:List Nat):Nat->List Nat×Int
 | 0=>([],0)
 | k+1=>((dif f g xs ys k).1++[(zed f g xs ys k (dif f g xs ys k).2%1000000000).toNat],zed f g xs ys k (dif f g xs ys k).2/1000000000)
structure zMd (f g:Nat)(xs ys:List Nat)(k:Nat)(zs:List Nat)(c:Int):Prop where
 len:zs.length=k
 lt:∀ z∈zs,z<1000000000
 lo : -1000000000<=c
 hi:c<=1000000000
 val:((vl 1000000000 zs:Nat):Int)+((1000000000 ^ k:Nat):Int)*c=f*(vl 1000000000 (xs.take k):Nat)-g*(vl 1000000000 (ys.take k):Nat)
def zpX {f g:Nat}{xs ys:List Nat}(hf:f<=1000000000)(hg:g<=1000000000)(hx:∀ x∈xs,x<1000000000)(hy:∀ y∈ys,y<1000000000)(i:Nat){c:Int}(h1 : -1000000000<=c)(h2:c<=1000000000) :
  f*xs.getD i 0<=999999999000000000/\g*ys.getD i 0<=999999999000000000 /\ -1000000000000000000<=zed f g xs ys i c/\zed f g xs ys i c<=1000000000000000000:=by
 have a1:=zaY 1000000000 (by decide) xs hx i;have a2:=zaY 1000000000 (by decide) ys hy i;have b1:=znQ f _ hf a1;have b2:=znQ g _ hg a2;unfold zed;omega
def zva {f g:Nat}{xs ys:List Nat}(hf:f<=1000000000)(hg:g<=1000000000)(hx:∀ x∈xs,x<1000000000)(hy:∀ y∈ys,y<1000000000):∀ k,zMd f g xs ys k (dif f g xs ys k).1 (dif f g xs ys k).2
 | 0=>⟨rfl,by simp[dif],by simp[dif],by simp[dif],by simp[dif,vl]⟩
 | k+1=>by
  have ih:=zva hf hg hx hy k;obtain⟨r1,r2,r3,r4⟩:=zpX hf hg hx hy k ih.lo ih.hi;have hdm:=Int.mul_ediv_add_emod (zed f g xs ys k (dif f g xs ys k).2) 1000000000;have hm0:=Int.emod_nonneg (zed f g xs ys k (dif f g xs ys k).2) (show(1000000000:Int)≠0 by decide);have hm1:=Int.emod_lt_of_pos (zed f g xs ys k (dif f g xs ys k).2) (show(0:Int)<1000000000 by decide);have hS:zed f g xs ys k (dif f g xs ys k).2=(dif f g xs ys k).2+(((f*xs.getD k 0:Nat):Int)-((g*ys.getD k 0:Nat):Int)):=rfl;have hv:=ih.val;have hl:=ih.len;refine⟨?_,?_,?_,?_,?_⟩;simp[dif,hl]
  ·intro z hz
   simp only[dif,zqbo,zqbk] at hz;rcases hz with hz|rfl
   exact ih.lt z hz;omega
  ·show -1000000000<=zed f g xs ys k (dif f g xs ys k).2/1000000000
   omega
  ·show zed f g xs ys k (dif f g xs ys k).2/1000000000<=1000000000
   omega
  show((vl 1000000000 ((dif f g xs ys k).1++[(zed f g xs ys k (dif f g xs ys k).2%1000000000).toNat]):Nat):Int)+((1000000000 ^ (k+1):Nat):Int)*(zed f g xs ys k (dif f g xs ys k).2/1000000000)=_;rw[zfR,hl,zaM,zaM];generalize zed f g xs ys k (dif f g xs ys k).2/1000000000=q at *;generalize hr:zed f g xs ys k (dif f g xs ys k).2%1000000000=r at *;have hr2:((r.toNat:Nat):Int)=r:=Int.toNat_of_nonneg hm0;have e1:(r:Int)=(dif f g xs ys k).2+(((f*xs.getD k 0:Nat):Int)-((g*ys.getD k 0:Nat):Int))-1000000000*q:=by omega
  generalize (dif f g xs ys k).2=c at *;generalize vl 1000000000 (dif f g xs ys k).1=z at *;rw[zqbp];generalize (1000000000:Nat) ^ k=P at *;simp only[Int.natCast_add,Int.natCast_mul] at hv e1 ⊢;rw[hr2,e1];have e9:((1000000000:Nat):Int)=1000000000:=rfl;rw[e9];grind
def zJG {f g:Nat}{xs ys:List Nat}(hf:f<=1000000000)(hg:g<=1000000000)(hx:∀ x∈xs,x<1000000000)(hy:∀ y∈ys,y<1000000000){n R:Nat}(hxn:xs.length<=n)(hyn:ys.length<=n)
  (hR:R+g*vl 1000000000 ys=f*vl 1000000000 xs) (hlt:R<1000000000 ^ n):vl 1000000000 (dif f g xs ys n).1=R:=by
 have h:=zva hf hg hx hy n;have hv:=h.val;rw[zqaf hxn,zqaf hyn] at hv;have hz:=zbP 1000000000 _ h.lt;rw[h.len] at hz;have hR2:(R:Int)+g*(vl 1000000000 ys:Nat)=f*(vl 1000000000 xs:Nat):=by exact_mod_cast hR
 have hv2:((vl 1000000000 (dif f g xs ys n).1:Nat):Int)+((1000000000 ^ n:Nat):Int)*(dif f g xs ys n).2=R:=by omega
 generalize vl 1000000000 (dif f g xs ys n).1=z at *;generalize (dif f g xs ys n).2=c at *;generalize (1000000000:Nat) ^ n=P at *
 have hc:c=0:=by
  rcases Int.lt_trichotomy c 0 with k|k|k
  ·have:(P:Int)*c<=(P:Int)*(-1):=Int.mul_le_mul_of_nonneg_left (by omega) (by omega)
   omega
  exact k;have:(P:Int)*1<=(P:Int)*c:=Int.mul_le_mul_of_nonneg_left (by omega) (by omega);omega
 subst hc;omega
def zCA (c:Int):(Int.tmod c 1000000000<0/\c%1000000000=Int.tmod c 1000000000+1000000000/\c/1000000000=Int.tdiv c 1000000000-1) ∨
  (0<=Int.tmod c 1000000000/\c%1000000000=Int.tmod c 1000000000/\c/1000000000=Int.tdiv c 1000000000):=by
 have h1:=Int.mul_tdiv_add_tmod c 1000000000;have h2:=Int.tmod_lt_of_pos c (show(0:Int)<1000000000 by decide);have h3:=Int.tmod_lt_of_pos (-c) (show(0:Int)<1000000000 by decide);rw[Int.neg_tmod] at h3;generalize Int.tmod c 1000000000=t at *;generalize Int.tdiv c 1000000000=q at *
 by_cases h:t<0
 left;omega;right;omega
structure Sr (α:Type) where
 add:α->α->α
 mul:α->α->α
 zero:α
 one:α
 star:α->α
 le:α->α->Prop
 add_comm:∀ a b,add a b=add b a
 add_assoc:∀ a b c,add (add a b) c=add a (add b c)
 add_zero:∀ a,add a zero=a
 mul_comm:∀ a b,mul a b=mul b a
 mul_assoc:∀ a b c,mul (mul a b) c=mul a (mul b c)
 mul_add:∀ a b c,mul a (add b c)=add (mul a b) (mul a c)
 mul_one:∀ a,mul a one=a
 mul_zero:∀ a,mul a zero=zero
 star_law:∀ a,add one (mul a (star a))=star a
 le_refl:∀ a,le a a
 le_trans:∀ a b c,le a b->le b c->le a c
 le_anti:∀ a b,le a b->le b a->a=b
 add_mono:∀ a b c d,le a b->le c d->le (add a c) (add b d)
 mul_mono:∀ a b c,le a b->le (mul c a) (mul c b)
 zero_le:∀ a,le zero a
 star_least:∀ a b x,le (add b (mul a x)) x->le (mul (star a) b) x
variable {α:Type}
instance (S:Sr α):Std.Associative S.add:=⟨S.add_assoc⟩
instance (S:Sr α):Std.Commutative S.add:=⟨S.add_comm⟩
instance (S:Sr α):Std.Associative S.mul:=⟨S.mul_assoc⟩
instance (S:Sr α):Std.Commutative S.mul:=⟨S.mul_comm⟩
def Sr.zero_add (S:Sr α)(a:α):S.add S.zero a=a:=by rw[S.add_comm,S.add_zero]
def Sr.one_mul (S:Sr α)(a:α):S.mul S.one a=a:=by rw[S.mul_comm,S.mul_one]
def Sr.zero_mul (S:Sr α)(a:α):S.mul S.zero a=S.zero:=by rw[S.mul_comm,S.mul_zero]
def Sr.add_mul (S:Sr α)(a b c:α):S.mul (S.add a b) c=S.add (S.mul a c) (S.mul b c):=by rw[S.mul_comm,S.mul_add,S.mul_comm c a,S.mul_comm c b]
def Sr.le_add (S:Sr α)(a b:α):S.le a (S.add a b):=by
 have h:=S.add_mono a a S.zero b (S.le_refl a) (S.zero_le b)
 rwa [S.add_zero] at h
def Sr.le_add2 (S:Sr α)(a b:α):S.le a (S.add b a):=by rw[S.add_comm];exact S.le_add a b
def Sr.star_mul (S:Sr α)(a b:α):S.add b (S.mul (S.mul a (S.star a)) b)=S.mul (S.star a) b:=by
 conv=>rhs;rw[<- S.star_law a]
 rw[S.add_mul,S.one_mul]
def sm (S:Sr α):Nat->(Nat->α)->α
 | 0,_=>S.zero
 | n+1,f=>S.add (sm S n f) (f n)
def zat (S:Sr α){f g:Nat->α}:∀ {n:Nat},(∀ m,m<n->f m=g m)->sm S n f=sm S n g
 | 0,_=>rfl
 | n+1,h=>by unfold sm;rw[zat S (fun m hm=>h m (by omega)),h n (by omega)]
def zfj (S:Sr α)(f g:Nat->α):∀ n,sm S n (fun m=>S.add (f m) (g m))=S.add (sm S n f) (sm S n g)
 | 0=>(S.add_zero _).symm
 | n+1=>by unfold sm;rw[zfj S f g n];dsimp only;ac_rfl
def zpY (S:Sr α)(c:α)(f:Nat->α):∀ n,S.mul c (sm S n f)=sm S n (fun m=>S.mul c (f m))
 | 0=>S.mul_zero c
 | n+1=>by unfold sm;rw[S.mul_add,zpY S c f n]
def zpZ (S:Sr α)(c:α)(f:Nat->α)(n:Nat):S.mul (sm S n f) c=sm S n (fun m=>S.mul (f m) c):=by
 rw[S.mul_comm,zpY];exact zat S (fun m _=>S.mul_comm _ _)
def zrI (S:Sr α):∀ n,sm S n (fun _=>S.zero)=S.zero
 | 0=>rfl
 | n+1=>by unfold sm;rw[zrI S n,S.add_zero]
def zkK (S:Sr α){f:Nat->α}{n:Nat}(h:∀ m,m<n->f m=S.zero):sm S n f=S.zero:=by rw[zat S h,zrI]
def zrJ (S:Sr α)(f:Nat->Nat->α)(n:Nat):∀ k,sm S n (fun i=>sm S k (fun j=>f i j))=sm S k (fun j=>sm S n (fun i=>f i j))
 | 0=>zrI S n
 | k+1=>by
  show sm S n (fun i=>S.add (sm S k (fun j=>f i j)) (f i k))=S.add (sm S k (fun j=>sm S n (fun i=>f i j))) (sm S n (fun i=>f i k));rw[zfj,zrJ S f n k]
def ziY (S:Sr α){f g:Nat->α}:∀ {n:Nat},(∀ m,m<n->S.le (f m) (g m))->S.le (sm S n f) (sm S n g)
 | 0,_=>S.le_refl _
 | n+1,h=>S.add_mono _ _ _ _ (ziY S (fun m hm=>h m (by omega))) (h n (by omega))
def sx (S:Sr α)(n k:Nat)(f:Nat->α):α:=sm S n (fun m=>if m=k then S.zero else f m)
def zGn (S:Sr α){f g:Nat->α}{n k:Nat}(h:∀ m,m<n->m≠k->f m=g m):sx S n k f=sx S n k g:=by
 refine zat S (fun m hm=>?_)
 by_cases e:m=k
 rw[if_pos e,if_pos e];rw[if_neg e,if_neg e];exact h m hm e
def zjl (S:Sr α)(f:Nat->α){k:Nat}:∀ {n:Nat},k<n->sm S n f=S.add (f k) (sx S n k f)
 | n+1,h=>by
  unfold sx sm;dsimp only
  by_cases e:k=n
  ·subst e
   rw[if_pos rfl,S.add_zero,S.add_comm];congr 1;exact zat S (fun m hm=>(if_neg (by omega)).symm)
  rw[if_neg (Ne.symm e),zjl S f (show k<n by omega)];unfold sx;ac_rfl
def zLe (S:Sr α)(n k:Nat)(f g:Nat->α):sx S n k (fun m=>S.add (f m) (g m))=S.add (sx S n k f) (sx S n k g):=by
 unfold sx;rw[<- zfj];refine zat S (fun m _=>?_)
 by_cases e:m=k
 simp only[e,if_true];rw[S.add_zero];simp only[e,if_false]
def zLf (S:Sr α)(c:α)(n k:Nat)(f:Nat->α):S.mul c (sx S n k f)=sx S n k (fun m=>S.mul c (f m)):=by
 unfold sx;rw[zpY];refine zat S (fun m _=>?_)
 by_cases e:m=k
 simp only[e,if_true];rw[S.mul_zero];simp only[e,if_false]
def zAa (S:Sr α)(f:Nat->α){k n:Nat}(h:k<n):S.le (f k) (sm S n f):=by rw[zjl S f h];exact S.le_add _ _
def idm (S:Sr α)(i j:Nat):α:=if i=j then S.one else S.zero
def zqa (S:Sr α)(f:Nat->α){n j:Nat}(h:j<n):sm S n (fun m=>S.mul (f m) (idm S m j))=f j:=by
 rw[zjl S _ h];unfold idm sx
 rw[if_pos rfl,S.mul_one,zkK S (fun m _=>by
  by_cases e:m=j
  rw[if_pos e];rw[if_neg e];dsimp only;rw[if_neg e,S.mul_zero]),S.add_zero]
def zmu (S:Sr α)(f:Nat->α){n i:Nat}(h:i<n):sm S n (fun m=>S.mul (idm S i m) (f m))=f i:=by
 have h2:=zqa S f h;rw[<- h2];refine zat S (fun m _=>?_);rw[S.mul_comm];unfold idm
 by_cases e:i=m
 subst e;rfl;rw[if_neg e,if_neg (Ne.symm e)]
def el (S:Sr α)(A:Nat->Nat->α):Nat->Nat->Nat->α
 | 0,i,j=>A i j
 | k+1,i,j=>S.add (el S A k i j) (S.mul (S.mul (el S A k i k) (S.star (el S A k k k))) (el S A k k j))
def stM (S:Sr α)(A:Nat->Nat->α)(n i j:Nat):α:=S.add (idm S i j) (el S A n i j)
def zmv (S:Sr α)(A:Nat->Nat->α)(k j:Nat):el S A (k+1) k j=S.mul (S.star (el S A k k k)) (el S A k k j):=S.star_mul _ _
def zcu (S:Sr α)(A:Nat->Nat->α):∀ k i j,el S A k i j=S.add (A i j) (sm S k (fun m=>S.mul (A i m) (el S A k m j)))
 | 0,i,j=>(S.add_zero _).symm
 | k+1,i,j=>by
  have h1:=zcu S A k i j;have h2:=zcu S A k i k
  have e:sm S k (fun m=>S.mul (A i m) (el S A (k+1) m j))=S.add (sm S k (fun m=>S.mul (A i m) (el S A k m j))) (S.mul (sm S k (fun m=>S.mul (A i m) (el S A k m k))) (S.mul (S.star (el S A k k k)) (el S A k k j))):=by
   rw[zpZ,<- zfj];refine zat S (fun m _=>?_);show S.mul (A i m) (S.add (el S A k m j) (S.mul (S.mul (el S A k m k) (S.star (el S A k k k))) (el S A k k j)))=_;rw[S.mul_add];congr 1;ac_rfl
  show S.add (el S A k i j) (S.mul (S.mul (el S A k i k) (S.star (el S A k k k))) (el S A k k j))=S.add (A i j) (S.add (sm S k (fun m=>S.mul (A i m) (el S A (k+1) m j))) (S.mul (A i k) (el S A (k+1) k j)));rw[e,zmv];generalize hx:S.mul (S.star (el S A k k k)) (el S A k k j)=x;rw[S.mul_assoc,hx];generalize sm S k (fun m=>S.mul (A i m) (el S A k m j))=p at *;generalize sm S k (fun m=>S.mul (A i m) (el S A k m k))=q at *;rw[h1,h2,S.add_mul];ac_rfl
def zfm (S:Sr α)(A:Nat->Nat->α):∀ k i j,el S (fun a b=>A b a) k i j=el S A k j i
 | 0,i,j=>rfl
 | k+1,i,j=>by
  unfold el;rw[zfm S A k i j,zfm S A k i k,zfm S A k k k,zfm S A k k j];congr 1;ac_rfl
def zgv (S:Sr α)(A:Nat->Nat->α)(k i j:Nat):el S A k i j=S.add (A i j) (sm S k (fun m=>S.mul (el S A k i m) (A m j))):=by
 rw[<- zfm S A k j i,zcu S (fun a b=>A b a) k j i];congr 1;refine zat S (fun m _=>?_);rw[zfm S A k m i,S.mul_comm]
def zCB (S:Sr α)(A:Nat->Nat->α){n i j:Nat}(hj:j<n):stM S A n i j=S.add (idm S i j) (sm S n (fun m=>S.mul (A i m) (stM S A n m j))):=by
 have e:sm S n (fun m=>S.mul (A i m) (stM S A n m j))=S.add (sm S n (fun m=>S.mul (A i m) (idm S m j))) (sm S n (fun m=>S.mul (A i m) (el S A n m j))):=by
  rw[<- zfj];exact zat S (fun m _=>S.mul_add _ _ _)
 rw[e,zqa S _ hj,<- zcu];rfl
def zhC (S:Sr α)(A:Nat->Nat->α)(b X:Nat->α){n:Nat}(h:∀ i,i<n->S.le (S.add (b i) (sm S n (fun m=>S.mul (A i m) (X m)))) (X i)) :
  ∀ k,k<=n->∀ i,i<n->S.le (S.add (b i) (sm S n (fun m=>S.mul (el S A k i m) (if m<k then b m else X m)))) (X i)
 | 0,_,i,hi=>by
  refine S.le_trans _ _ _ ?_ (h i hi);rw[zat S (g:=fun m=>S.mul (A i m) (X m)) (fun m _=>by simp[el])];exact S.le_refl _
 | k+1,hk,i,hi=>by
  have ih:=zhC S A b X h k (by omega);have hkn:k<n:=by omega
  have zW:=ih k hkn;rw[zjl S _ hkn] at zW;have hrow2:=ih i hi;rw[zjl S _ hkn] at hrow2;simp only[Nat.lt_irrefl,if_false] at zW hrow2
  have hst:S.le (S.mul (S.star (el S A k k k)) (S.add (b k) (sx S n k (fun m=>S.mul (el S A k k m) (if m<k then b m else X m))))) (X k):=by
   refine S.star_least _ _ _ ?_;refine S.le_trans _ _ _ ?_ zW;rw[show S.add (S.add (b k) (sx S n k (fun m=>S.mul (el S A k k m) (if m<k then b m else X m)))) (S.mul (el S A k k k) (X k))=S.add (b k) (S.add (S.mul (el S A k k k) (X k)) (sx S n k (fun m=>S.mul (el S A k k m) (if m<k then b m else X m)))) by ac_rfl];exact S.le_refl _
  refine S.le_trans _ _ _ ?_ hrow2;rw[zjl S _ hkn];simp only[Nat.lt_succ_self,if_true]
  have e1:el S A (k+1) i k=S.mul (el S A k i k) (S.star (el S A k k k)):=by
   show S.add (el S A k i k) (S.mul (S.mul (el S A k i k) (S.star (el S A k k k))) (el S A k k k))=_;rw[show S.mul (S.mul (el S A k i k) (S.star (el S A k k k))) (el S A k k k)=S.mul (S.mul (el S A k k k) (S.star (el S A k k k))) (el S A k i k) by ac_rfl,S.star_mul,S.mul_comm]
  have e2:sx S n k (fun m=>S.mul (el S A (k+1) i m) (if m<k+1 then b m else X m))=S.add (sx S n k (fun m=>S.mul (el S A k i m) (if m<k then b m else X m))) (S.mul (S.mul (el S A k i k) (S.star (el S A k k k))) (sx S n k (fun m=>S.mul (el S A k k m) (if m<k then b m else X m)))):=by
   rw[zLf,<- zLe];refine zGn S (fun m _ hm=>?_)
   have e3:(if m<k+1 then b m else X m)=(if m<k then b m else X m):=by
    by_cases e:m<k
    rw[if_pos e,if_pos (by omega)];rw[if_neg e,if_neg (by omega)]
   rw[e3];show S.mul (S.add (el S A k i m) (S.mul (S.mul (el S A k i k) (S.star (el S A k k k))) (el S A k k m))) _=_;rw[S.add_mul];congr 1;ac_rfl
  rw[e1,e2];have hmm:=S.mul_mono _ _ (el S A k i k) hst;generalize hT:sx S n k (fun m=>S.mul (el S A k i m) (if m<k then b m else X m))=T;generalize hU:sx S n k (fun m=>S.mul (el S A k k m) (if m<k then b m else X m))=U at *
  have e4:S.add (b i) (S.add (S.mul (S.mul (el S A k i k) (S.star (el S A k k k))) (b k)) (S.add T (S.mul (S.mul (el S A k i k) (S.star (el S A k k k))) U)))=S.add (b i) (S.add (S.mul (el S A k i k) (S.mul (S.star (el S A k k k)) (S.add (b k) U))) T):=by
   rw[S.mul_add,S.mul_add,<- S.mul_assoc,<- S.mul_assoc];ac_rfl
  rw[e4];exact S.add_mono _ _ _ _ (S.le_refl _) (S.add_mono _ _ _ _ hmm (S.le_refl _))
def star_least (S:Sr α)(A:Nat->Nat->α)(X:Nat->α){n j:Nat}(hj:j<n)(h:∀ i,i<n->S.le (S.add (idm S i j) (sm S n (fun m=>S.mul (A i m) (X m)))) (X i)){i:Nat}(hi:i<n):S.le (stM S A n i j) (X i):=by
 have hl:=zhC S A (fun i=>idm S i j) X h n (zqab n) i hi;rw[zat S (g:=fun m=>S.mul (el S A n i m) (idm S m j)) (fun m hm=>by rw[if_pos hm]),zqa S _ hj] at hl;exact hl
variable {α:Type}
def sw (p q i:Nat):Nat:=if i=p then q else if i=q then p else i
def zoX (S:Sr α){A B:Nat->Nat->α}{n:Nat}(h:∀ i j,i<n->j<n->A i j=B i j):∀ k,k<=n->∀ i j,i<n->j<n->el S A k i j=el S B k i j
 | 0,_,i,j,hi,hj=>h i j hi hj
 | k+1,hk,i,j,hi,hj=>by
  have ih:=zoX S h k (by omega);unfold el;rw[ih i j hi hj,ih i k hi (by omega),ih k k (by omega) (by omega),ih k j (by omega) hj]
def ztj (S:Sr α){A B:Nat->Nat->α}{n:Nat}(h:∀ i j,i<n->j<n->A i j=B i j){i j:Nat}(hi:i<n)(hj:j<n):stM S A n i j=stM S B n i j:=by
 unfold stM;rw[zoX S h n (zqab n) i j hi hj]
def mm (S:Sr α)(n:Nat)(a b:Nat->Nat->α)(i j:Nat):α:=sm S n (fun m=>S.mul (a i m) (b m j))
def pwM (S:Sr α)(n:Nat)(u:Nat->Nat->α):Nat->Nat->Nat->α
 | 0=>idm S
 | k+1=>mm S n (pwM S n u k) u
def zcl (S:Sr α)(A:Nat->Nat->α):List Nat->α
 | []=>S.one
 | [_]=>S.one
 | x::y::l=>S.mul (A x y) (zcl S A (y::l))
variable {α:Type}
def Sr.zero_of_le (S:Sr α){a:α}(h:S.le a S.zero):a=S.zero:=S.le_anti _ _ h (S.zero_le a)
def Sr.zero_left (S:Sr α){a b:α}(h:S.add a b=S.zero):a=S.zero:=S.zero_of_le (h▸S.le_add a b)
def Sr.zero_right (S:Sr α){a b:α}(h:S.add a b=S.zero):b=S.zero:=S.zero_of_le (h▸S.le_add2 b a)
def zAb (S:Sr α){f:Nat->α}{n k:Nat}(h:sm S n f=S.zero)(hk:k<n):f k=S.zero:=S.zero_of_le (h▸zAa S f hk)
def zrK (S:Sr α)(f:Nat->α)(p:Nat->Bool):∀ k,sm S ((List.range k).filter p).length (fun x=>f (((List.range k).filter p).getD x 0))=sm S k (fun m=>if p m=true then f m else S.zero)
 | 0=>rfl
 | k+1=>by
  have ih:=zrK S f p k;show _=S.add (sm S k (fun m=>if p m=true then f m else S.zero)) (if p k=true then f k else S.zero);rw[<- ih,List.range_succ,List.filter_append]
  by_cases hk:p k=true
  ·rw[if_pos hk]
   have e1:[k].filter p=[k]:=by simp[hk]
   rw[e1,zqag,zqbq];show S.add (sm S ((List.range k).filter p).length (fun x=>f ((((List.range k).filter p)++[k]).getD x 0))) (f ((((List.range k).filter p)++[k]).getD ((List.range k).filter p).length 0))=_
   have e2:(((List.range k).filter p)++[k]).getD ((List.range k).filter p).length 0=k:=by
    exact zQbS
   rw[e2];congr 1;refine zat S (fun m hm=>?_);rw[zqaa,zqaa,zqal hm]
  rw[if_neg hk,S.add_zero];have e1:[k].filter p=[]:=by simp[hk]
  rw[e1,List.append_nil]
inductive Rch (S:Sr α) (A:Nat->Nat->α) (k:Nat):Nat->Nat->Prop
 | one {i m:Nat}:A i m≠S.zero->Rch S A k i m
 | more {i l m:Nat}:l<k->A i l≠S.zero->Rch S A k l m->Rch S A k i m
def Rch.mono {S:Sr α}{A:Nat->Nat->α}{k k' i m:Nat}(h:Rch S A k i m)(hk:k<=k'):Rch S A k' i m:=by
 induction h with
 | one h=>exact .one h
 | more hl h _ ih=>exact .more (by omega) h ih
def Rch.trans {S:Sr α}{A:Nat->Nat->α}{k i l m:Nat}(h:Rch S A k i l)(hl:l<k)(h2:Rch S A k l m):Rch S A k i m:=by
 induction h with
 | one h=>exact .more hl h h2
 | more hl' h _ ih=>exact .more hl' h (ih hl h2)
def zhe (S:Sr α)(A:Nat->Nat->α):∀ k i m,el S A k i m≠S.zero->Rch S A k i m
 | 0,i,m,h=>.one h
 | k+1,i,m,h=>by
  by_cases h1:el S A k i m=S.zero
  ·by_cases h2:el S A k i k=S.zero
   ·exact absurd (by unfold el;rw[h1,h2,S.zero_mul,S.zero_mul,S.add_zero]) h
   by_cases h3:el S A k k m=S.zero
   ·exact absurd (by unfold el;rw[h1,h3,S.mul_zero,S.add_zero]) h
   exact((zhe S A k i k h2).mono (Nat.le_succ k)).trans (Nat.lt_succ_self k) ((zhe S A k k m h3).mono (Nat.le_succ k))
  exact(zhe S A k i m h1).mono (Nat.le_succ k)
def zkL (S:Sr α)(hm:∀ a b:α,a≠S.zero->b≠S.zero->S.mul a b≠S.zero)(A:Nat->Nat->α){k i m:Nat}(h:Rch S A k i m):el S A k i m≠S.zero:=by
 induction h with
 | one h=>exact fun e=>h (S.zero_left ((zcu S A k _ _).symm.trans e))
 | more hl h _ ih=>exact fun e=>hm _ _ h ih (zAb S (S.zero_right ((zcu S A k _ _).symm.trans e)) hl)
def zgw (S:Sr α)(A:Nat->Nat->α):∀ t x y,el S (fun x y=>el S A 1 (x+1) (y+1)) t x y=el S A (t+1) (x+1) (y+1)
 | 0,x,y=>rfl
 | t+1,x,y=>by
  show S.add (el S (fun x y=>el S A 1 (x+1) (y+1)) t x y) (S.mul (S.mul (el S (fun x y=>el S A 1 (x+1) (y+1)) t x t) (S.star (el S (fun x y=>el S A 1 (x+1) (y+1)) t t t))) (el S (fun x y=>el S A 1 (x+1) (y+1)) t t y))=_;rw[zgw S A t x y,zgw S A t x t,zgw S A t t t,zgw S A t t y];rfl
def zrL (S:Sr α)(A:Nat->Nat->α)(i j:Nat):∀ d k,S.le (el S A k i j) (el S A (k+d) i j)
 | 0,k=>S.le_refl _
 | d+1,k=>S.le_trans _ _ _ (zrL S A i j d k) (S.le_add _ _)
variable {α:Type}
def zCC (S:Sr α)(A:Nat->Nat->α)(σ τ:Nat->Nat):∀ t,(∀ m,m<t->σ m=m+1/\τ m=m+1)->∀ x y,el S (fun x y=>el S A 1 (σ x) (τ y)) t x y=el S A (t+1) (σ x) (τ y)
 | 0,_,x,y=>rfl
 | t+1,h,x,y=>by
  have ih:=zCC S A σ τ t (fun m hm=>h m (by omega));have ht:=h t (Nat.lt_succ_self t);show S.add (el S (fun x y=>el S A 1 (σ x) (τ y)) t x y) (S.mul (S.mul (el S (fun x y=>el S A 1 (σ x) (τ y)) t x t) (S.star (el S (fun x y=>el S A 1 (σ x) (τ y)) t t t))) (el S (fun x y=>el S A 1 (σ x) (τ y)) t t y))=_;rw[ih x y,ih x t,ih t t,ih t y,ht.1,ht.2];rfl
def zGo (S:Sr α)(A:Nat->Nat->α)(n j:Nat):el S A (n+1) 0 (j+1)=S.add (el S A 1 0 (j+1)) (sm S n (fun l=>S.mul (el S A 1 0 (l+1)) (el S A (n+1) (l+1) (j+1)))):=by
 have hm:=zCC S A (fun x=>if x<n then x+1 else 0) (fun y=>y+1) n (fun m hm=>⟨if_pos hm,rfl⟩);have hl:=zcu S (fun x y=>el S A 1 ((fun x=>if x<n then x+1 else 0) x) ((fun y=>y+1) y)) n n j;rw[hm n j] at hl;simp only[Nat.lt_irrefl,if_false] at hl;rw[hl];congr 1;refine zat S (fun m hmn=>?_);have:=hm m j;simp only[if_pos hmn] at this;rw[<- this]
def zbN (S:Sr α)(A:Nat->Nat->α)(n:Nat)(F:Nat->α)(i:Nat):α:=sm S n (fun m=>S.mul (stM S A n i m) (F m))
def zyI (S:Sr α)(A:Nat->Nat->α)(n:Nat)(F:Nat->α){i:Nat}(hi:i<n):zbN S A n F i=S.add (F i) (sm S n (fun m=>S.mul (el S A n i m) (F m))):=by
 unfold zbN;rw[<- zmu S F hi,<- zfj];refine zat S (fun m _=>?_);unfold stM;rw[S.add_mul]
def zgF (S:Sr α)(A:Nat->Nat->α)(n:Nat)(F:Nat->α){i:Nat}(hi:i<n):zbN S A n F i=S.add (F i) (sm S n (fun m=>S.mul (A i m) (zbN S A n F m))):=by
 have e:sm S n (fun m=>S.mul (A i m) (zbN S A n F m))=sm S n (fun j=>sm S n (fun m=>S.mul (S.mul (A i m) (stM S A n m j)) (F j))):=by
  rw[<- zrJ];refine zat S (fun m _=>?_);unfold zbN;rw[zpY];exact zat S (fun j _=>(S.mul_assoc _ _ _).symm)
 rw[e]
 conv=>rhs;lhs;rw[<- zmu S F hi]
 rw[<- zfj];unfold zbN;refine zat S (fun j hj=>?_);rw[<- zpZ,<- S.add_mul,<- zCB S A hj]
def zfT (S:Sr α)(A:Nat->Nat->α){n:Nat}(F Z:Nat->α)(h:∀ i,i<n->S.le (S.add (F i) (sm S n (fun m=>S.mul (A i m) (Z m)))) (Z i)){i:Nat}(hi:i<n):S.le (zbN S A n F i) (Z i):=by
 have hl:=zhC S A F Z h n (zqab n) i hi;rw[zat S (g:=fun m=>S.mul (el S A n i m) (F m)) (fun m hm=>by rw[if_pos hm])] at hl;rw[zyI S A n F hi];exact hl
def zld (S:Sr α){A B:Nat->Nat->α}{F G:Nat->α}{n:Nat}(h:∀ i j,i<n->j<n->A i j=B i j)(hf:∀ i,i<n->F i=G i){i:Nat}(hi:i<n):zbN S A n F i=zbN S B n G i :=
 zat S (fun m hm=>by rw[ztj S h hi hm,hf m hm])
def zbS (A b:Nat->Nat->α)(n x y:Nat):α:=if y<n then A x y else b x (y-n)
def zrM (S:Sr α)(A b:Nat->Nat->α){n t:Nat}(ht:t<=n){j:Nat}(hj:j<n):∀ i,el S (zbS A b n) t i j=el S A t i j:=by
 have:∀ t,t<=n->∀ i j,j<n->el S (zbS A b n) t i j=el S A t i j:=by
  intro t
  induction t with
  | zero=>intro _ i j hj;show zbS A b n i j=A i j;unfold zbS;rw[if_pos hj]
  | succ t ih =>
   intro ht i j hj;unfold el;rw[ih (by omega) i j hj,ih (by omega) i t (by omega),ih (by omega) t t (by omega),ih (by omega) t j hj]
 exact fun i=>this t ht i j hj
def zxC (S:Sr α)(A b:Nat->Nat->α)(n t:Nat)(ht:t<=n)(i J:Nat):el S (zbS A b n) t i (n+J)=S.add (b i J) (sm S t (fun m=>S.mul (el S A t i m) (b m J))):=by
 rw[zgv];have e:∀ x,zbS A b n x (n+J)=b x J:=fun x=>by unfold zbS;rw[if_neg (by omega),Nat.add_sub_cancel_left]
 rw[e];congr 1;refine zat S (fun m hm=>?_);rw[zrM S A b ht (by omega),e]
def zyJ (S:Sr α)(A b:Nat->Nat->α){n i:Nat}(hi:i<n)(J:Nat):el S (zbS A b n) n i (n+J)=zbN S A n (fun m=>b m J) i:=by
 rw[zxC S A b n n (zqab n),zyI S A n _ hi]
def zGp (S:Sr α)(A:Nat->Nat->α){n J:Nat}(i:Nat)(hJ:J<n):zbN S A n (fun m=>idm S m J) i=stM S A n i J:=zqa S _ hJ
def zyK (S:Sr α)(f:Nat->α){k d:Nat}(h:d<k):sm S k (fun e=>if d=e then f e else S.zero)=f d:=by
 rw[zjl S _ h];unfold sx;simp only[if_true]
 rw[zkK S (fun m _=>by
  by_cases e:m=d
  rw[if_pos e];rw[if_neg e,if_neg (Ne.symm e)]),S.add_zero]
def mrg (S:Sr α)(n:Nat)(f:Nat->α)(κ:Nat->Nat)(d:Nat):α:=sm S n (fun j=>if κ j=d then f j else S.zero)
def zJH (S:Sr α){n k:Nat}(f y:Nat->α)(κ:Nat->Nat)(hk:∀ j,j<n->κ j<k):sm S k (fun d=>S.mul (mrg S n f κ d) (y d))=sm S n (fun j=>S.mul (f j) (y (κ j))):=by
 have e:sm S k (fun d=>S.mul (mrg S n f κ d) (y d))=sm S n (fun j=>sm S k (fun d=>S.mul (if κ j=d then f j else S.zero) (y d))):=by
  rw[<- zrJ];exact zat S (fun d _=>by unfold mrg;rw[zpZ])
 rw[e];refine zat S (fun j hj=>?_);rw[<- zyK S (fun d=>S.mul (f j) (y d)) (hk j hj)];refine zat S (fun d _=>?_)
 by_cases h:κ j=d
 rw[if_pos h,if_pos h];rw[if_neg h,if_neg h,S.zero_mul]
def zxD (S:Sr α)(A:Nat->Nat->α){n k:Nat}(F:Nat->α)(κ ρ:Nat->Nat)(hκ:∀ j,j<n->κ j<k)(hρ:∀ c,c<k->ρ c<n)(hκρ:∀ c,c<k->κ (ρ c)=c)
  (he:∀ i j,i<n->j<n->A (ρ (κ i)) j=A i j) {i:Nat} (hi:i<n) :
  zbN S A n F i=S.add (F i) (zbN S (fun c d=>mrg S n (A (ρ c)) κ d) k (fun c=>sm S n (fun j=>S.mul (A (ρ c) j) (F j))) (κ i)):=by
 generalize hA':(fun c d=>mrg S n (A (ρ c)) κ d)=A';generalize hb':(fun c=>sm S n (fun j=>S.mul (A (ρ c) j) (F j)))=b'
 have eA:∀ c (y:Nat->α),sm S k (fun d=>S.mul (A' c d) (y d))=sm S n (fun j=>S.mul (A (ρ c) j) (y (κ j))):=fun c y=>by
  rw[<- hA'];exact zJH S _ y κ hκ
 have eb:∀ c,b' c=sm S n (fun j=>S.mul (A (ρ c) j) (F j)):=fun c=>by rw[<- hb']
 have hy:∀ c,c<k->S.le (zbN S A' k b' c) (sm S n (fun j=>S.mul (A (ρ c) j) (zbN S A n F j))):=by
  intro c hc;refine zfT S A' b' (fun c=>sm S n (fun j=>S.mul (A (ρ c) j) (zbN S A n F j))) (fun c hc=>?_) hc;rw[eA,eb,<- zfj];rw[zat S (g:=fun j=>S.mul (A (ρ c) j) (zbN S A n F j)) (fun j hj=>?_)];exact S.le_refl _;rw[<- S.mul_add];congr 1
  conv=>rhs;rw[zgF S A n F hj]
  congr 1;exact zat S (fun m hm=>by rw[he j m hj hm])
 refine S.le_anti _ _ ?_ ?_
 ·refine zfT S A F (fun i=>S.add (F i) (zbN S A' k b' (κ i))) (fun i hi=>?_) hi
  try dsimp only
  have hκi:=hκ i hi;rw[zgF S A' k b' hκi,eA,eb,<- zfj];rw[zat S (g:=fun j=>S.add (S.mul (A (ρ (κ i)) j) (F j)) (S.mul (A (ρ (κ i)) j) (zbN S A' k b' (κ j)))) (fun j hj=>?_)];exact S.le_refl _;rw[he i j hi hj,S.mul_add]
 conv=>rhs;rw[zgF S A n F hi]
 refine S.add_mono _ _ _ _ (S.le_refl _) ?_;refine S.le_trans _ _ _ (hy (κ i) (hκ i hi)) ?_;rw[zat S (g:=fun j=>S.mul (A i j) (zbN S A n F j)) (fun j hj=>by rw[he i j hi hj])];exact S.le_refl _
def zCD (S:Sr α)(A A':Nat->Nat->α){n k:Nat}(F F':Nat->α)(ρ:Nat->Nat)(hρ:∀ c,c<k->ρ c<n)
  (hs:∀ c,c<k->∀ X:Nat->α,(∀ j,j<n->(∀ d,d<k->ρ d≠j)->S.mul (A (ρ c) j) (X j)=S.zero)->sm S n (fun j=>S.mul (A (ρ c) j) (X j))=sm S k (fun d=>S.mul (A' c d) (X (ρ d))))
  (hF:∀ c,c<k->F' c=F (ρ c)) (hdead:∀ c,c<k->∀ j,j<n->(∀ d,d<k->ρ d≠j)->S.mul (A (ρ c) j) (zbN S A n F j)=S.zero) (hinj:∀ c d,c<k->d<k->ρ c=ρ d->c=d)
  {c:Nat} (hc:c<k):zbN S A' k F' c=zbN S A n F (ρ c):=by
 refine S.le_anti _ _ ?_ ?_
 ·refine zfT S A' F' (fun c=>zbN S A n F (ρ c)) (fun c hc=>?_) hc
  try dsimp only
  exact zQbs
 have key:=zfT S A F (fun j=>if h:∃ d,d<k/\ρ d=j then zbN S A' k F' h.choose else zbN S A n F j) (fun j hj=>?_) (hρ c hc)
 ·have h:∃ d,d<k/\ρ d=ρ c:=⟨c,hc,rfl⟩
  rw[dif_pos h] at key;have:=hinj _ _ h.choose_spec.1 hc h.choose_spec.2
  rwa [this] at key
 by_cases h:∃ d,d<k/\ρ d=j
 ·rw[dif_pos h]
  obtain⟨hd,e⟩:=h.choose_spec;generalize h.choose=d at *;subst e;rw[hs d hd _ (fun j hj hno=>?_)]
  ·rw[zat S (g:=fun e=>S.mul (A' d e) (zbN S A' k F' e)) (fun e he=>?_),<- hF d hd,<- zgF S A' k F' hd]
   ·exact S.le_refl _
   have h2:∃ d,d<k/\ρ d=ρ e:=⟨e,he,rfl⟩;rw[dif_pos h2];have:=hinj _ _ h2.choose_spec.1 he h2.choose_spec.2;rw[this]
  rw[dif_neg (fun⟨d,hd,e⟩=>hno d hd e)];exact hdead d hd j hj hno
 rw[dif_neg h]
 conv=>rhs;rw[zgF S A n F hj]
 refine S.add_mono _ _ _ _ (S.le_refl _) (ziY S (fun m hm=>?_))
 by_cases h2:∃ d,d<k/\ρ d=m
 ·rw[dif_pos h2]
  obtain⟨hd,e⟩:=h2.choose_spec;generalize h2.choose=d at *;subst e;refine S.mul_mono _ _ _ ?_;refine zfT S A' F' (fun c=>zbN S A n F (ρ c)) (fun c hc=>?_) hd
  try dsimp only
  exact zQbs
 rw[dif_neg h2];exact S.le_refl _
variable {α:Type}
def zbk (S:Sr α)(row f:Nat->α)(R:Nat->Nat->α)(n j:Nat):α:=S.add (row j) (sm S n (fun s=>S.mul (f s) (R s j)))
def zeh (S:Sr α)(Fit:α->Prop)(n m:Nat)(row f:Nat->α)(R:Nat->Nat->α):Prop :=
 ∀ t,t<n->∀ j,j<m->Fit (S.mul (f t) (R t j))/\Fit (zbk S row f R (t+1) j)
def zeu (S:Sr α)(A:Nat->Nat->α)(j:Nat):α:=S.mul (S.star (A 0 0)) (A 0 (j+1))
def zeX (S:Sr α)(A:Nat->Nat->α)(i j:Nat):α:=zbk S (fun j=>A (i+1) (j+1)) (fun _=>A (i+1) 0) (fun _=>zeu S A) 1 j
def zeY (S:Sr α):Nat->(Nat->Nat->α)->Nat->Nat->α
 | 0,_,_,_=>S.zero
 | n+1,A,0,J=>zbk S (fun J=>zeu S A (n+J)) (zeu S A) (zeY S n (zeX S A)) n J
 | n+1,A,i+1,J=>zeY S n (zeX S A) i J
def zfB (S:Sr α)(Fit:α->Prop):Nat->Nat->(Nat->Nat->α)->Prop
 | 0,_,_=>True
 | n+1,m,A=>Fit (S.star (A 0 0))/\(∀ j,j<n+m->Fit (zeu S A j))/\(∀ i,i<n->zeh S Fit 1 (n+m) (fun j=>A (i+1) (j+1)) (fun _=>A (i+1) 0) (fun _=>zeu S A)) /\
  zfB S Fit n m (zeX S A)/\zeh S Fit n m (fun J=>zeu S A (n+J)) (zeu S A) (zeY S n (zeX S A))
def zrN (S:Sr α)(A:Nat->Nat->α)(j:Nat):zeu S A j=el S A 1 0 (j+1):=(zmv S A 0 (j+1)).symm
def zJI (S:Sr α)(A:Nat->Nat->α)(i j:Nat):zeX S A i j=el S A 1 (i+1) (j+1):=by
 unfold zeX zbk zeu;show S.add (A (i+1) (j+1)) (S.add S.zero (S.mul (A (i+1) 0) (S.mul (S.star (A 0 0)) (A 0 (j+1)))))=S.add (A (i+1) (j+1)) (S.mul (S.mul (A (i+1) 0) (S.star (A 0 0))) (A 0 (j+1)));rw[S.zero_add,S.mul_assoc]
def zrO (S:Sr α)(A:Nat->Nat->α):zeX S A=fun x y=>el S A 1 (x+1) (y+1):=funext fun i=>funext fun j=>zJI S A i j
def zle (S:Sr α):∀ (n:Nat) (A:Nat->Nat->α) (i J:Nat),i<n->zeY S n A i J=el S A n i (n+J)
 | n+1,A,0,J,_=>by
  have e:n+1+J=(n+J)+1:=by omega
  rw[e,zGo];show zbk S (fun J=>zeu S A (n+J)) (zeu S A) (zeY S n (zeX S A)) n J=_;unfold zbk
  try dsimp only
  rw[zrN];congr 1;refine zat S (fun l hl=>?_);rw[zrN,zle S n (zeX S A) l J hl,zrO,zgw]
 | n+1,A,i+1,J,h=>by
  show zeY S n (zeX S A) i J=_;rw[zle S n (zeX S A) i J (by omega),zrO,zgw];congr 1;omega
def zgG (S:Sr α)(A:Nat->Nat->α)(t:Nat):∀ s x y,el S (fun x y=>el S A t (x+t) (y+t)) s x y=el S A (t+s) (x+t) (y+t)
 | 0,x,y=>rfl
 | s+1,x,y=>by
  show S.add (el S (fun x y=>el S A t (x+t) (y+t)) s x y) (S.mul (S.mul (el S (fun x y=>el S A t (x+t) (y+t)) s x s) (S.star (el S (fun x y=>el S A t (x+t) (y+t)) s s s))) (el S (fun x y=>el S A t (x+t) (y+t)) s s y))=_;rw[zgG S A t s x y,zgG S A t s x s,zgG S A t s s s,zgG S A t s s y,Nat.add_comm s t];rfl
structure zhD (S:Sr α)(Fit:α->Prop)(n m:Nat)(A:Nat->Nat->α):Prop where
 st:∀ t,t<n->Fit (S.star (el S A t t t))
 row:∀ t,t<n->∀ j,t<j->j<n+m->Fit (el S A (t+1) t j)
 pr:∀ t,t<n->∀ i,t<i->i<n->∀ j,t<j->j<n+m->Fit (S.mul (el S A t i t) (el S A (t+1) t j))
 en:∀ t,t<n->∀ i,t<i->i<n->∀ j,t<j->j<n+m->Fit (el S A (t+1) i j)
 bp:∀ t,t<n->∀ l,t+1+l<n->∀ J,J<m->Fit (S.mul (el S A (t+1) t (t+1+l)) (el S A n (t+1+l) (n+J)))
 bs:∀ t,t<n->∀ l,t+1+l<n->∀ J,J<m->Fit (S.add (el S A (t+1) t (n+J)) (sm S (l+1) (fun l=>S.mul (el S A (t+1) t (t+1+l)) (el S A n (t+1+l) (n+J)))))
def zhD.fits (S:Sr α){Fit:α->Prop}{n m:Nat}{A:Nat->Nat->α}(h:zhD S Fit n m A):∀ d t,t+d=n->zfB S Fit d m (fun x y=>el S A t (x+t) (y+t))
 | 0,_,_=>trivial
 | d+1,t,htd=>by
  have e1:∀ x y,el S (fun x y=>el S A t (x+t) (y+t)) 1 x y=el S A (t+1) (x+t) (y+t):=fun x y=>zgG S A t 1 x y;have efst:∀ j,zeu S (fun x y=>el S A t (x+t) (y+t)) j=el S A (t+1) t (j+1+t):=fun j=>by rw[zrN,e1,zqat]
  have eput:zeX S (fun x y=>el S A t (x+t) (y+t))=fun x y=>el S A (t+1) (x+(t+1)) (y+(t+1)):=by
   rw[zrO];funext x y;rw[e1,Nat.add_assoc x 1 t,Nat.add_assoc y 1 t,Nat.add_comm 1 t]
  have erest:∀ l J,l<d->zeY S d (zeX S (fun x y=>el S A t (x+t) (y+t))) l J=el S A n (t+1+l) (n+J):=fun l J hl=>by
   rw[zle S d _ l J hl,eput,zgG,show t+1+d=n by omega,show l+(t+1)=t+1+l by omega,show d+J+(t+1)=n+J by omega]
  refine⟨?_,?_,?_,?_,?_⟩
  ·have:=h.st t (by omega)
   simpa using this
  ·intro j hj
   rw[efst];exact h.row t (by omega) _ (by omega) (by omega)
  ·intro i hi s hs j hj
   obtain rfl:s=0:=by omega
   constructor
   ·show Fit (S.mul (el S A t (i+1+t) (0+t)) (zeu S (fun x y=>el S A t (x+t) (y+t)) j))
    rw[efst,zqat];exact h.pr t (by omega) _ (by omega) (by omega) _ (by omega) (by omega)
   show Fit (zeX S (fun x y=>el S A t (x+t) (y+t)) i j);rw[eput];exact h.en t (by omega) _ (by omega) (by omega) _ (by omega) (by omega)
  ·rw[eput]
   exact zhD.fits S h d (t+1) (by omega)
  intro l hl J hJ;constructor
  ·rw[efst,erest l J hl,show l+1+t=t+1+l by omega]
   exact h.bp t (by omega) l (by omega) J hJ
  unfold zbk
  try dsimp only
  rw[efst,show d+J+1+t=n+J by omega,zat S (g:=fun l=>S.mul (el S A (t+1) t (t+1+l)) (el S A n (t+1+l) (n+J))) (fun s hs=>by
   rw[efst,erest s J (by omega),show s+1+t=t+1+s by omega])]
  exact h.bs t (by omega) l (by omega) J hJ
def zhD.all (S:Sr α){Fit:α->Prop}{n m:Nat}{A:Nat->Nat->α}(h:zhD S Fit n m A):zfB S Fit n m A:=zhD.fits S h n 0 (by omega)
def zaQ (eq:Nat->Nat->Bool):Nat->List Nat×List Nat
 | 0=>([],[])
 | i+1=>match (zaQ eq i).1.findIdx? (fun j=>eq j i) with
  | some k=>((zaQ eq i).1,(zaQ eq i).2++[k])
  | none=>((zaQ eq i).1++[i],(zaQ eq i).2++[(zaQ eq i).1.length])
structure zCE (eq:Nat->Nat->Bool)(i:Nat)(r c:List Nat):Prop where
 len:c.length=i
 cl:∀ j,j<i->c.getD j 0<r.length/\eq (r.getD (c.getD j 0) 0) j=true
 rl:∀ x,x<r.length->r.getD x 0<i
 rc:∀ x,x<r.length->c.getD (r.getD x 0) 0=x
 le:r.length<=i
 up:r.Pairwise (· < ·)
def zca {l m:List Nat}{j:Nat}(h:j<l.length):(l++m).getD j 0=l.getD j 0:=by
 rw[zqaa,zqaa,zqal h]
def zde {l:List Nat}{x:Nat}:(l++[x]).getD l.length 0=x:=by
 exact zQbS
def zkM {eq:Nat->Nat->Bool}(hr:∀ i,eq i i=true):∀ i,zCE eq i (zaQ eq i).1 (zaQ eq i).2
 | 0=>⟨rfl,fun j h=>absurd h (by omega),fun x h=>absurd h (by simp[zaQ]),fun x h=>absurd h (by simp[zaQ]),zqab _,List.Pairwise.nil⟩
 | i+1=>by
  have ih:=zkM hr i;unfold zaQ;split
  ·next k hk =>
   obtain⟨hk1,hk2,_⟩:=List.findIdx?_eq_some_iff_getElem.1 hk;have hkd:(zaQ eq i).1.getD k 0=(zaQ eq i).1[k]:=by rw[zqaa,zqac hk1];rfl
   refine⟨by simp[ih.len],fun j hj=>?_,fun x hx=>Nat.lt_succ_of_lt (ih.rl x hx),fun x hx=>?_,Nat.le_succ_of_le ih.le,ih.up⟩
   ·try dsimp only
    by_cases e:j<i
    rw[zca (by rw[ih.len];exact e)];exact ih.cl j e;obtain rfl:j=i:=by omega
    have:((zaQ eq j).2++[k]).getD j 0=k:=by
                                             conv=>lhs;arg 2;rw[<- ih.len]
                                             exact zde
    rw[this];exact⟨hk1,by rw[hkd];exact hk2⟩
   dsimp only at hx ⊢;rw[zca (by rw[ih.len];exact ih.rl x hx)];exact ih.rc x hx
  next hk =>
  refine⟨by simp[ih.len],fun j hj=>?_,fun x hx=>?_,fun x hx=>?_,by simp;exact ih.le,?_⟩
  ·try dsimp only
   by_cases e:j<i
   ·rw[zca (by rw[ih.len];exact e),zca (ih.cl j e).1]
    exact⟨by simp;exact Nat.lt_succ_of_lt (ih.cl j e).1,(ih.cl j e).2⟩
   obtain rfl:j=i:=by omega
   have:((zaQ eq j).2++[(zaQ eq j).1.length]).getD j 0=(zaQ eq j).1.length:=by
                                                                                  conv=>lhs;arg 2;rw[<- ih.len]
                                                                                  exact zde
   rw[this];exact⟨by simp,by rw[zde];exact hr j⟩
  ·dsimp only at hx ⊢
   by_cases e:x<(zaQ eq i).1.length
   rw[zca e];exact Nat.lt_succ_of_lt (ih.rl x e);obtain rfl:x=(zaQ eq i).1.length:=by simp at hx;omega
   rw[zde];omega
  ·dsimp only at hx ⊢
   by_cases e:x<(zaQ eq i).1.length
   rw[zca e,zca (by rw[ih.len];exact ih.rl x e)];exact ih.rc x e;obtain rfl:x=(zaQ eq i).1.length:=by simp at hx;omega
   rw[zde]
   conv=>lhs;arg 2;rw[<- ih.len]
   exact zde
  try dsimp only
  refine List.pairwise_append.2 ⟨ih.up,List.pairwise_singleton _ _,fun a ha b hb=>?_⟩;obtain⟨x,hx,rfl⟩:=List.getElem_of_mem ha;have:=ih.rl x hx;rw[zqaa,zqac hx] at this;simp at hb;subst hb;exact this
noncomputable def eqR (n:Nat)(A:Nat->Nat->α)(i j:Nat):Bool := @decide (∀ l,l<n->A i l=A j l) (Classical.propDecidable _)
def zhE {n:Nat}{A:Nat->Nat->α}{i j:Nat}:eqR n A i j=true↔∀ l,l<n->A i l=A j l:=by unfold eqR;exact @decide_eq_true_iff _ (Classical.propDecidable _)
noncomputable def repR (n:Nat)(A:Nat->Nat->α):List Nat:=(zaQ (eqR n A) n).1
noncomputable def clsR (n:Nat)(A:Nat->Nat->α):List Nat:=(zaQ (eqR n A) n).2
def zqb (n:Nat)(A:Nat->Nat->α):zCE (eqR n A) n (repR n A) (clsR n A):=zkM (fun i=>zhE.2 (fun _ _=>rfl)) n
noncomputable def mrgA (S:Sr α)(n:Nat)(A:Nat->Nat->α)(c d:Nat):α:=mrg S n (A ((repR n A).getD c 0)) (fun j=>(clsR n A).getD j 0) d
noncomputable def mrgB (S:Sr α)(n:Nat)(A b:Nat->Nat->α)(c J:Nat):α:=zbk S (fun _=>S.zero) (A ((repR n A).getD c 0)) b n J
noncomputable def solveF (S:Sr α):Nat->Nat->(Nat->Nat->α)->(Nat->Nat->α)->Nat->Nat->α
 | 0,_,_,_,_,_=>S.zero
 | s+1,n,A,b,i,J=>if (repR n A).length=n then zeY S n (zbS A b n) i J
  else S.add (b i J) (solveF S s (repR n A).length (mrgA S n A) (mrgB S n A b) ((clsR n A).getD i 0) J)
def znT (S:Sr α)(Fit:α->Prop)(n:Nat)(f:Nat->α)(κ:Nat->Nat):Prop:=∀ t,t<n->Fit (sm S (t+1) (fun j=>if κ j=κ t then f j else S.zero))
noncomputable def SolveFits (S:Sr α)(Fit:α->Prop):Nat->Nat->Nat->(Nat->Nat->α)->(Nat->Nat->α)->Prop
 | 0,_,_,_,_=>True
 | s+1,n,m,A,b=>if (repR n A).length=n then zfB S Fit n m (zbS A b n)
  else (∀ c,c<(repR n A).length->znT S Fit n (A ((repR n A).getD c 0)) (fun j=>(clsR n A).getD j 0)) /\
   (∀ c,c<(repR n A).length->zeh S Fit n m (fun _=>S.zero) (A ((repR n A).getD c 0)) b) /\
   SolveFits S Fit s (repR n A).length m (mrgA S n A) (mrgB S n A b) /\
   ∀ i,i<n->∀ J,J<m->Fit (S.add (b i J) (solveF S s (repR n A).length (mrgA S n A) (mrgB S n A b) ((clsR n A).getD i 0) J))
def zgH (S:Sr α):∀ (s n:Nat) (A b:Nat->Nat->α),n<=s->∀ i J,i<n->solveF S s n A b i J=zbN S A n (fun m=>b m J) i
 | 0,n,A,b,h,i,J,hi=>absurd hi (by omega)
 | s+1,n,A,b,h,i,J,hi=>by
  have hs:=zqb n A;unfold solveF
  by_cases hk:(repR n A).length=n
  rw[if_pos hk,zle S n _ i J hi,zyJ S A b hi];have hlt:(repR n A).length<n:=by have:=hs.le;omega
  rw[if_neg hk,zgH S s _ _ _ (by omega) _ J (hs.cl i hi).1];rw[zxD S A (k:=(repR n A).length) (fun m=>b m J) (fun j=>(clsR n A).getD j 0) (fun c=>(repR n A).getD c 0) (fun j hj=>(hs.cl j hj).1) hs.rl hs.rc (fun i j hi hj=>zhE.1 (hs.cl i hi).2 j hj) hi];congr 1;refine zld S (fun c d _ _=>rfl) (fun c _=>?_) (hs.cl i hi).1;unfold mrgB zbk;rw[S.zero_add]
end Go.Proofs.YtiblmbpfcmcccaaGreatDoor
