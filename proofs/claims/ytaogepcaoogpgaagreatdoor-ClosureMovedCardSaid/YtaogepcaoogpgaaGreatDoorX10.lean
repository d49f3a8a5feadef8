/- W63 -/
import Derived.Test.YtaogepcaoogpgaaGreatDoorX09
set_option linter.unusedVariables false
set_option linter.unusedSimpArgs false
set_option maxRecDepth 100000
set_option maxHeartbeats 16000000
namespace Go.Proofs.YtaogepcaoogpgaaGreatDoor
open Go.RowKit
def natE (k:Int)(u v:Ext):Prop:=zbq k v u≤0
theorem zDB {u v t s:Ext}(hu:hasE 2 u=true)(hv:hasE 2 v=true)(ht:hasE 2 t=true)(hs:hasE 2 s=true)(h:leE u v)(k:leE t s):leE (sumE u t) (sumE v s):=by
 rcases zat v hv with rfl|⟨y,rfl,hy⟩
 ·rw[zbg];exact zbQ _
 rcases zat s hs with rfl|⟨z,rfl,hz⟩
 ·rw[zaT];exact zbQ _
 rcases zat u hu with rfl|⟨x,rfl,hx⟩
 ·exact absurd h (zbA _)
 rcases zat t ht with rfl|⟨w,rfl,hw⟩
 ·exact absurd k (zbA _)
 rw[zbr,zbr];refine(zbi _ _).2 ?_;have h1:=(zbi _ _).1 h;have h2:=(zbi _ _).1 k;exact Rat.le_trans ((Rat.add_le_add_right (c:=w)).2 h1) ((Rat.add_le_add_left (c:=y)).2 h2)
theorem znv (a b x:Ext)(h:leE x (zbH b (zbI a x))):leE x (zbI (zcM 1 a) b):=by
 obtain⟨h1,h2⟩:=(zfG x b (zbI a x)).1 h;show leE x (zbI (if cmpE a (.inr 0)<0 then .inl false else .inr 0) b)
 by_cases ha:cmpE a (.inr 0)<0
 ·rw[if_pos ha]
  rcases b with(_|_)|y
  ·
   show leE x (.inl false);rcases x with(_|_)|q
   ·exact zbU _
   ·exact absurd h1 zig
   ·exact absurd h1 (zey q)
  ·exact zbQ x
  ·show leE x (.inl false)
   rcases x with(_|_)|q
   ·exact zbU _
   ·exact absurd h1 (zbA y)
   ·rcases a with(_|_)|r
    ·exact absurd h2 (zey q)
    ·exact absurd (show(1:Int)<0 from ha) (by decide)
    ·have h3:q≤r+q:=(zbi _ _).1 h2
     have h4:r<0:=(zeJ r 0).1 ha;have h5:r+q<0+q:=(Rat.add_lt_add_right (c:=q)).2 h4;rw[Rat.zero_add] at h5;exact absurd h3 (Rat.not_le.2 h5)
 ·rw[if_neg ha,zkk,zkl]
  exact h1
theorem zlZ {r q:Rat}(hr:1<r)(hq:0<q):q<r * q:=by
 have h:=Rat.mul_lt_mul_of_pos_right hr hq
 rwa [Rat.one_mul] at h
theorem znw (a b x:Ext)(ha:hasE 2 a=true)(hb:hasE 2 b=true)(hx:hasE 2 x=true)(h:leE (zbD b (zaB a x)) x):leE (zaB (zcM 3 a) b) x:=by
 obtain⟨h1,h2⟩:=(zfH x b (zaB a x)).1 h;show leE (zaB (if 0<cmpE a (.inr 1) then .inl true else .inr 1) b) x
 by_cases hs:0<cmpE a (.inr 1)
 ·rw[if_pos hs]
  rcases zat x hx with rfl|⟨q,rfl,hq⟩
  ·exact zbQ _
  rcases zat b hb with rfl|⟨y,rfl,hy⟩
  ·exact absurd h1 (zbA q)
  by_cases zy:y=0
  ·subst zy;rw[zaz];exact(zbi _ _).2 hq
  ·have hyq:y≤q:=(zbi _ _).1 h1
   have hy0:0<y:=by
    rcases Rat.le_iff_lt_or_eq.1 hy with h|h
    ·exact h
    ·exact absurd h.symm zy
   have hq0:0<q:=Rat.not_le.1 (fun e=>Rat.not_le.2 hy0 (Rat.le_trans hyq e));have hqn:q≠0:=fun e=>by rw[e] at hq0;exact Rat.lt_irrefl hq0
   rcases zat a ha with rfl|⟨r,rfl,hr⟩
   ·rw[zaC hqn] at h2;exact absurd h2 (zbA q)
   ·rw[zaU] at h2
    have h3:r * q≤q:=(zbi _ _).1 h2
    have h4:1<r:=by
     have hc:0<cmpQ r 1:=hs;have:=zkj r 1;exact(zeJ 1 r).1 (by omega)
    exact absurd h3 (Rat.not_le.2 (zlZ h4 hq0))
 ·rw[if_neg hs,zkn _ _ (by decide +kernel) hb,zja b hb]
  exact h1
theorem zoT (a b x:Ext)(ha:hasE 2 a=true)(hb:hasE 2 b=true)(hx:hasE 2 x=true)(h:leE (sumE b (zaB a x)) x):leE (zaB (zcM 2 a) b) x:=by
 rcases zat x hx with rfl|⟨q,rfl,hq⟩
 ·exact zbQ _
 rcases zat b hb with rfl|⟨y,rfl,hy⟩
 ·rw[zbg] at h;exact absurd h (zbA q)
 rcases zat a ha with rfl|⟨r,rfl,hr⟩
 ·
  by_cases zq:q=0
  ·subst zq
   rw[zaz,zbr,Rat.add_zero] at h;have h1:y≤0:=(zbi _ _).1 h;have h2:y=0:=Rat.le_antisymm h1 hy;subst h2;rw[zaz];exact zbU _
  ·rw[zaC zq,zaT] at h;exact absurd h (zbA q)
 ·rw[zaU,zbr] at h
  have h1:y+r * q≤q:=(zbi _ _).1 h;show leE (zaB (if r<1 then .inr (1 / (1 - r)) else .inl true) (.inr y)) (.inr q)
  by_cases hr1:r<1
  ·rw[if_pos hr1,zaU]
   refine(zbi _ _).2 ?_;have h0:0<1 - r:=(Rat.lt_iff_sub_pos r 1).1 hr1
   have h2:y≤q * (1 - r):=by
    rw[Rat.sub_eq_add_neg,Rat.mul_add,Rat.mul_one,Rat.mul_neg,Rat.mul_comm q r];have h3:=(Rat.add_le_add_right (c := -(r * q))).2 h1
    rwa [Rat.add_assoc,Rat.add_neg_cancel,Rat.add_zero] at h3
   have h4:=Rat.mul_le_mul_of_nonneg_left h2 (zlY hr1)
   have h5:1 / (1 - r) * (q * (1 - r))=q:=by
    rw[Rat.mul_comm q,← Rat.mul_assoc,Rat.div_mul_cancel (fun e=>by rw[e] at h0;exact Rat.lt_irrefl h0),Rat.one_mul]
   rwa [h5] at h4
  ·rw[if_neg hr1]
   have h2:1≤r:=Rat.not_lt.1 hr1
   have h3:q≤r * q:=by
    have:=Rat.mul_le_mul_of_nonneg_right h2 hq
    rwa [Rat.one_mul] at this
   have h4:y≤0:=by
    have h5:y+q≤y+r * q:=(Rat.add_le_add_left (c:=y)).2 h3;have h6:=Rat.le_trans h5 h1;have h7:=(Rat.add_le_add_right (c := -q)).2 h6
    rwa [Rat.add_assoc,Rat.add_neg_cancel,Rat.add_zero] at h7
   have h8:y=0:=Rat.le_antisymm h4 hy;subst h8;rw[zaz];exact(zbi _ _).2 hq
def El (k:Int):Type := { v:Ext // hasE k v=true }
def srE (k:Int)(hk:zad k):Sr (El k) where
 add u v:=⟨zcp k u.1 v.1,zDx hk u.2 v.2⟩
 mul u v:=⟨zaZ k u.1 v.1,zAe hk u.2 v.2⟩
 zero:=⟨zfT k,zAf hk⟩
 one:=⟨zgh k,zDy hk⟩
 star u:=⟨zcM k u.1,zDA hk u.1 u.2⟩
 le u v:=natE k u.1 v.1
 add_comm u v:=Subtype.ext (zAg hk u.2 v.2)
 add_assoc u v t:=Subtype.ext (zxu hk u.2 v.2 t.2)
 add_zero u:=Subtype.ext (zAh hk u.2)
 mul_comm u v:=Subtype.ext (zfk hk u.2 v.2)
 mul_assoc u v t:=Subtype.ext (zuG hk u.2 v.2 t.2)
 mul_add u v t:=Subtype.ext (zxv hk u.2 v.2 t.2)
 mul_one u:=Subtype.ext (zAi hk u.2)
 mul_zero u:=Subtype.ext (zxw hk u.1)
 star_law u:=Subtype.ext (star_law hk u.1 u.2)
 le_refl u:=by show zbq k u.1 u.1≤0;rw[(zlX k u.1 u.1).2 rfl];exact Int.le_refl 0
 le_trans u v t h j:=zsC k t.1 v.1 u.1 j h
 le_anti u v h j:=Subtype.ext ((zlX k u.1 v.1).1 (by
  have h1:zbq k v.1 u.1≤0:=h;have h2:zbq k u.1 v.1≤0:=j;have:=zlW k u.1 v.1
  omega))
 add_mono u v t s h j:=by
  rcases hk with rfl|rfl|rfl
  ·have h1:leE v.1 u.1:=h
   have h2:leE s.1 t.1:=j;show leE (zbH v.1 s.1) (zbH u.1 t.1);refine(zfG _ _ _).2 ⟨?_,?_⟩
   ·exact zdt ((zfG _ _ _).1 (zbU (zbH v.1 s.1))).1 h1
   ·exact zdt ((zfG _ _ _).1 (zbU (zbH v.1 s.1))).2 h2
  ·exact zDB u.2 v.2 t.2 s.2 h j
  ·have h1:leE u.1 v.1:=h
   have h2:leE t.1 s.1:=j;show leE (zbD u.1 t.1) (zbD v.1 s.1);refine(zfH _ _ _).2 ⟨?_,?_⟩
   ·exact zdt h1 ((zfH _ _ _).1 (zbU (zbD v.1 s.1))).1
   ·exact zdt h2 ((zfH _ _ _).1 (zbU (zbD v.1 s.1))).2
 mul_mono u v t h:=by
  have h2:=zsD hk v.2 u.2 t.2 h;show zbq k (zaZ k t.1 v.1) (zaZ k t.1 u.1)≤0;rw[zfk hk t.2 v.2,zfk hk t.2 u.2];exact h2
 zero_le u:=by
  rcases hk with rfl|rfl|rfl
  ·exact zbQ _
  ·rcases zat u.1 u.2 with e|⟨x,e,hx⟩
   ·show leE (.inr 0) u.1;rw[e];exact zbQ _
   ·show leE (.inr 0) u.1;rw[e];exact(zbi _ _).2 hx
  ·have hu:=u.2
   rw[← zch] at hu;rcases zat u.1 hu with e|⟨x,e,hx⟩
   ·show leE (.inr 0) u.1;rw[e];exact zbQ _
   ·show leE (.inr 0) u.1;rw[e];exact(zbi _ _).2 hx
 star_least a b x h:=by
  rcases hk with rfl|rfl|rfl
  ·exact znv a.1 b.1 x.1 h
  ·exact zoT a.1 b.1 x.1 a.2 b.2 x.2 h
  ·have h1:=a.2;have h2:=b.2;have h3:=x.2
   rw[← zch] at h1 h2 h3;exact znw a.1 b.1 x.1 h1 h2 h3 h
def rs:Nat→(Nat→Rat)→Rat
 | 0,_=>0
 | n+1,f=>rs n f+f n
theorem zaL {f g:Nat→Rat}:∀ {n:Nat},(∀ m,m<n→f m=g m)→rs n f=rs n g
 | 0,_=>rfl
 | n+1,h=>by unfold rs;rw[zaL (fun m hm=>h m (by omega)),h n (by omega)]
theorem zfl (f g:Nat→Rat):∀ n,rs n (fun m=>f m+g m)=rs n f+rs n g
 | 0=>(Rat.add_zero 0).symm
 | n+1=>by unfold rs;rw[zfl f g n];grind
theorem zcH (c:Rat)(f:Nat→Rat):∀ n,rs n (fun m=>c * f m)=c * rs n f
 | 0=>by simp[rs]
 | n+1=>by unfold rs;rw[zcH c f n];grind
theorem zgS {f:Nat→Rat}:∀ {n:Nat},(∀ m,m<n→f m=0)→rs n f=0
 | 0,_=>rfl
 | n+1,h=>by unfold rs;rw[zgS (fun m hm=>h m (by omega)),h n (by omega)];grind
theorem zvW (f:Nat→Nat→Rat)(n:Nat):∀ k,rs n (fun i=>rs k (fun j=>f i j))=rs k (fun j=>rs n (fun i=>f i j))
 | 0=>zgS (fun _ _=>rfl)
 | k+1=>by
  show rs n (fun i=>rs k (fun j=>f i j)+f i k)=rs k (fun j=>rs n (fun i=>f i j))+rs n (fun i=>f i k);rw[zfl,zvW f n k]
theorem zhO {f g:Nat→Rat}:∀ {n:Nat},(∀ m,m<n→f m≤g m)→rs n f≤rs n g
 | 0,_=>Rat.le_refl
 | n+1,h=>by
  have h1:=zhO (n:=n) (fun m hm=>h m (by omega));have h2:=h n (by omega);unfold rs;grind
def sk (c x:Nat):Nat:=if x<c then x else x+1
theorem zHL (c x:Nat):sk c x≠c:=by unfold sk;split <;> omega
theorem zEW {c x n:Nat}(h:x<n):sk c x<n+1:=by unfold sk;split <;> omega
theorem zEX (f:Nat→Rat){c:Nat}:∀ {n:Nat},c≤n→rs n (fun x=>f (sk c x))=rs (n+1) (fun b=>if b=c then 0 else f b)
 | 0,h=>by
  have:c=0:=by omega
  subst this;exact(Rat.add_zero 0).symm
 | n+1,h=>by
  by_cases e:c=n+1
  ·subst e
   show rs (n+1) (fun x=>f (sk (n+1) x))=rs (n+1) (fun b=>if b=n+1 then 0 else f b)+(if n+1=n+1 then 0 else f (n+1));rw[if_pos rfl,Rat.add_zero];refine zaL (fun m hm => ?_);rw[if_neg (by omega)];unfold sk;rw[if_pos hm]
  ·have ih:=zEX f (c:=c) (n:=n) (by omega)
   show rs n (fun x=>f (sk c x))+f (sk c n)=rs (n+1) (fun b=>if b=c then 0 else f b)+(if n+1=c then 0 else f (n+1));rw[ih,if_neg (fun h=>e h.symm)];have:sk c n=n+1:=by unfold sk;rw[if_neg (by omega)]
   rw[this]
def sg7 (c:Nat):Rat:=if c % 2=0 then 1 else -1
theorem zsE (c:Nat):sg7 (c+1) = -sg7 c:=by unfold sg7;split <;> split <;> (try omega) <;> grind
def dt:Nat→(Nat→Nat→Rat)→Rat
 | 0,_=>1
 | k+1,V=>rs (k+1) (fun c=>sg7 c * V 0 c * dt k (fun i x=>V (i+1) (sk c x)))
theorem zbh:∀ {k:Nat} {V W:Nat→Nat→Rat},(∀ i x,i<k→x<k→V i x=W i x)→dt k V=dt k W
 | 0,_,_,_=>rfl
 | k+1,V,W,h=>by
  unfold dt;refine zaL (fun c hc => ?_);rw[h 0 c (by omega) hc,zbh (fun i x hi hx=>h (i+1) (sk c x) (by omega) (zEW hx))]
def up (V:Nat→Nat→Rat)(r:Nat)(u:Nat→Rat)(i x:Nat):Rat:=if i=r then u x else V i x
theorem zeS:∀ {k:Nat} (V:Nat→Nat→Rat) {r:Nat} (u w:Nat→Rat) (s t:Rat),r<k→dt k (up V r (fun x=>s * u x+t * w x))=s * dt k (up V r u)+t * dt k (up V r w)
 | k+1,V,r,u,w,s,t,h=>by
  unfold dt;rw[← zcH,← zcH,← zfl];refine zaL (fun c hc => ?_)
  by_cases e:r=0
  ·subst e
   have e1:∀ z:Nat→Rat,dt k (fun i x=>up V 0 z (i+1) (sk c x))=dt k (fun i x=>V (i+1) (sk c x)):=fun z=>zbh (fun i x _ _=>by unfold up;rw[if_neg (by omega)]);rw[e1,e1,e1];simp only[up,if_true]
   grind
  ·obtain⟨r',rfl⟩:∃ r',r=r'+1:=⟨r - 1,by omega⟩
   have e1:∀ z:Nat→Rat,dt k (fun i x=>up V (r'+1) z (i+1) (sk c x))=dt k (up (fun i x=>V (i+1) (sk c x)) r' (fun x=>z (sk c x))):=fun z=>zbh (fun i x _ _=>by
    unfold up
    by_cases e2:i=r'
    ·rw[if_pos (by omega),if_pos e2]
    ·rw[if_neg (by omega),if_neg e2])
   rw[e1,e1,e1,zeS (fun i x=>V (i+1) (sk c x)) (fun x=>u (sk c x)) (fun x=>w (sk c x)) s t (by omega)];have e3:∀ z:Nat→Rat,up V (r'+1) z 0 c=V 0 c:=fun z=>by unfold up;rw[if_neg (by omega)]
   rw[e3,e3,e3]
   grind
theorem zHM {a b x:Nat}(h:a<b):sk a (sk (b - 1) x)=sk b (sk a x):=by
 unfold sk
 by_cases h1:x<a
 ·rw[if_pos h1,if_pos (show x<b - 1 by omega),if_pos h1,if_pos (by omega)]
 ·rw[if_neg h1]
  by_cases h2:x<b - 1
  ·rw[if_pos h2,if_neg h1,if_pos (by omega)]
  ·rw[if_neg h2,if_neg (by omega),if_neg (by omega)]
def d2 (k:Nat)(V:Nat→Nat→Rat)(a b:Nat):Rat:=dt k (fun i x=>V (i+2) (if a<b then sk a (sk (b - 1) x) else sk b (sk (a - 1) x)))
def s2 (a b:Nat):Rat:=if a=b then 0 else if a<b then sg7 a * sg7 (b - 1) else sg7 a * sg7 b
theorem zFO (a b:Nat):s2 b a = -s2 a b:=by
 unfold s2
 by_cases e:a=b
 ·subst e;rw[if_pos rfl];grind
 ·rw[if_neg e,if_neg (Ne.symm e)]
  by_cases h:a<b
  ·rw[if_pos h,if_neg (by omega)]
   obtain⟨c,rfl⟩:∃ c,b=c+1:=⟨b - 1,by omega⟩;rw[zsE,Nat.add_sub_cancel];grind
  ·rw[if_neg h,if_pos (by omega)]
   obtain⟨c,rfl⟩:∃ c,a=c+1:=⟨a - 1,by omega⟩;rw[zsE,Nat.add_sub_cancel];grind
theorem zFP (k:Nat)(V:Nat→Nat→Rat){a b:Nat}(h:a≠b):d2 k V a b=d2 k V b a:=by
 unfold d2
 by_cases h1:a<b
 ·simp only[h1,show ¬ b<a by omega,if_true,if_false]
 ·simp only[h1,show b<a by omega,if_true,if_false]
theorem zAj (k:Nat)(V:Nat→Nat→Rat):dt (k+2) V=rs (k+2) (fun a=>rs (k+2) (fun b=>s2 a b * V 0 a * V 1 b * d2 k V a b)):=by
 show rs (k+2) (fun a=>sg7 a * V 0 a * dt (k+1) (fun i x=>V (i+1) (sk a x)))=_;refine zaL (fun a ha => ?_);have h:=zEX (fun b=>s2 a b * V 0 a * V 1 b * d2 k V a b) (c:=a) (n:=k+1) (by omega)
 have h0:rs (k+2) (fun b=>if b=a then 0 else s2 a b * V 0 a * V 1 b * d2 k V a b)=rs (k+2) (fun b=>s2 a b * V 0 a * V 1 b * d2 k V a b):=by
  refine zaL (fun b _ => ?_)
  by_cases e:b=a
  ·subst e;rw[if_pos rfl];unfold s2;rw[if_pos rfl];grind
  ·rw[if_neg e]
 rw[← h0];refine Eq.trans ?_ h;show sg7 a * V 0 a * rs (k+1) (fun c=>sg7 c * V 1 (sk a c) * dt k (fun i x=>V (i+2) (sk a (sk c x))))=_;rw[← zcH];refine zaL (fun c hc => ?_);unfold s2 d2;rw[if_neg (Ne.symm (zHL a c))]
 by_cases h1:c<a
 ·have e:sk a c=c:=by unfold sk;rw[if_pos h1]
  have n1:¬ a<c:=by omega
  rw[e];simp only[n1,if_false];have e2:dt k (fun i x=>V (i+2) (sk a (sk c x)))=dt k (fun i x=>V (i+2) (sk c (sk (a - 1) x))):=zbh (fun i x _ _=>by rw[zHM h1]);rw[e2];grind
 ·have e:sk a c=c+1:=by unfold sk;rw[if_neg h1]
  have n1:a<c+1:=by omega
  rw[e];simp only[n1,if_true,Nat.add_sub_cancel]
  grind
theorem zDC (k:Nat)(V W:Nat→Nat→Rat)(h0:∀ x,W 0 x=V 1 x)(h1:∀ x,W 1 x=V 0 x)(h:∀ i x,W (i+2) x=V (i+2) x):dt (k+2) W = -dt (k+2) V:=by
 rw[zAj,zAj,zvW]
 have e:(-(rs (k+2) (fun a=>rs (k+2) (fun b=>s2 a b * V 0 a * V 1 b * d2 k V a b))))=rs (k+2) (fun a=>rs (k+2) (fun b => -(s2 a b * V 0 a * V 1 b * d2 k V a b))):=by
  have h3:=zcH (-1) (fun a=>rs (k+2) (fun b=>s2 a b * V 0 a * V 1 b * d2 k V a b)) (k+2)
  have h4:∀ a,(-1:Rat) * rs (k+2) (fun b=>s2 a b * V 0 a * V 1 b * d2 k V a b)=rs (k+2) (fun b => -(s2 a b * V 0 a * V 1 b * d2 k V a b)):=fun a=>by
   rw[← zcH];exact zaL (fun b _=>by grind)
  rw[zaL (fun a _=>h4 a)] at h3
  grind
 rw[e];refine zaL (fun a _=>zaL (fun b _ => ?_));rw[h0,h1,zFO]
 by_cases e:a=b
 ·subst e;have:s2 a a=0:=by unfold s2;rw[if_pos rfl]
  rw[this];grind
 ·have e2:d2 k W b a=d2 k V a b:=by
   rw[zFP k V e];unfold d2;exact zbh (fun i x _ _=>h i _)
  rw[e2];grind
theorem zoU:∀ (k:Nat) (V W:Nat→Nat→Rat) {r:Nat},r+1<k→(∀ x,W r x=V (r+1) x)→(∀ x,W (r+1) x=V r x)→(∀ i x,i≠r→i≠r+1→W i x=V i x)→dt k W = -dt k V
 | k+1,V,W,0,hr,h0,h1,h=>by
  obtain⟨k',rfl⟩:∃ k',k=k'+1:=⟨k - 1,by omega⟩;exact zDC k' V W h0 h1 (fun i x=>h (i+2) x (by omega) (by omega))
 | k+1,V,W,r+1,hr,h0,h1,h=>by
  unfold dt
  have e : -(rs (k+1) (fun c=>sg7 c * V 0 c * dt k (fun i x=>V (i+1) (sk c x))))=rs (k+1) (fun c => -(sg7 c * V 0 c * dt k (fun i x=>V (i+1) (sk c x)))):=by
   have h3:=zcH (-1) (fun c=>sg7 c * V 0 c * dt k (fun i x=>V (i+1) (sk c x))) (k+1);rw[zaL (g:=fun c => -(sg7 c * V 0 c * dt k (fun i x=>V (i+1) (sk c x)))) (fun c _=>by grind)] at h3
   grind
  rw[e];refine zaL (fun c hc => ?_);rw[h 0 c (by omega) (by omega),zoU k (fun i x=>V (i+1) (sk c x)) (fun i x=>W (i+1) (sk c x)) (r:=r) (by omega) (fun x=>h0 _) (fun x=>h1 _) (fun i x hi hi2=>h (i+1) _ (by omega) (by omega))]
  grind
theorem zhm:∀ (d k:Nat) (V:Nat→Nat→Rat) {r:Nat},r+d+1<k→(∀ x,V r x=V (r+d+1) x)→dt k V=0
 | 0,k,V,r,hr,h=>by
  have h1:=zoU k V V (r:=r) hr h (fun x=>(h x).symm) (fun _ _ _ _=>rfl)
  grind
 | d+1,k,V,r,hr,h=>by
  have h1:=zoU k V (fun i x=>if i=r+d+1 then V (r+d+2) x else if i=r+d+2 then V (r+d+1) x else V i x) (r:=r+d+1) (by omega) (fun x=>by rw[if_pos rfl]) (fun x=>by rw[if_neg (by omega),if_pos rfl]) (fun i x hi hi2=>by rw[if_neg hi,if_neg hi2])
  have h2:=zhm d k (fun i x=>if i=r+d+1 then V (r+d+2) x else if i=r+d+2 then V (r+d+1) x else V i x) (r:=r) (by omega) (fun x=>by
   rw[if_neg (by omega),if_neg (by omega),if_pos rfl];exact h x)
  grind
theorem zDD {k:Nat}(V:Nat→Nat→Rat){r s:Nat}(t:Rat)(hr:r<k)(hs:s<r):dt k (up V r (fun x=>V r x+t * V s x))=dt k V:=by
 have h:=zeS V (V r) (V s) 1 t hr;have e1:dt k (up V r (V r))=dt k V:=zbh (fun i x _ _=>by unfold up;split;rename_i e;rw[e];rfl)
 have e2:dt k (up V r (V s))=0:=by
  obtain⟨d,rfl⟩:∃ d,r=s+d+1:=⟨r - s - 1,by omega⟩;exact zhm d k _ (r:=s) hr (fun x=>by unfold up;rw[if_neg (by omega),if_pos rfl])
 rw[e1,e2] at h;rw[zbh (W:=up V r (fun x=>1 * V r x+t * V s x)) (fun i x _ _=>by unfold up;split;grind;rfl),h]
 grind
theorem zAk {k:Nat}(V:Nat→Nat→Rat)(x:Nat→Rat)(e:Nat→Rat)(h:∀ c,c<k+1→e c=rs (k+1) (fun i=>x i * V i c)):dt (k+1) (up V 0 e)=x 0 * dt (k+1) V:=by
 have step:∀ n,n≤k+1→dt (k+1) (up V 0 (fun c=>rs n (fun i=>x i * V i c)))=if n=0 then 0 else x 0 * dt (k+1) V:=fun n=>by
  induction n with
  | zero =>
   intro _;rw[if_pos rfl];have h2:=zeS V (k:=k+1) (r:=0) (fun _=>0) (fun _=>0) 0 0 (by omega);rw[zbh (W:=up V 0 (fun x=>(0:Rat) * 0+0 * 0)) (fun i x _ _=>by unfold up;split;exact(show(0:Rat)=0 * 0+0 * 0 by grind);rfl),h2]
   grind
  | succ n ih =>
   intro hn;rw[if_neg (Nat.succ_ne_zero n)];have h2:=zeS V (k:=k+1) (r:=0) (fun c=>rs n (fun i=>x i * V i c)) (V n) 1 (x n) (by omega);rw[zbh (W:=up V 0 (fun c=>1 * rs n (fun i=>x i * V i c)+x n * V n c)) (fun i c _ _=>by unfold up;split;exact(show rs n (fun i=>x i * V i c)+x n * V n c=1 * rs n (fun i=>x i * V i c)+x n * V n c by grind);rfl),h2,ih (by omega)]
   by_cases e:n=0
   ·subst e
    rw[if_pos rfl];have e1:dt (k+1) (up V 0 (V 0))=dt (k+1) V:=zbh (fun i x _ _=>by unfold up;split;rename_i e;rw[e];rfl);rw[e1];grind
   ·rw[if_neg e]
    have e2:dt (k+1) (up V 0 (V n))=0:=by
     obtain⟨d,rfl⟩:∃ d,n=0+d+1:=⟨n - 1,by omega⟩;exact zhm d (k+1) _ (r:=0) (by omega) (fun x=>by unfold up;rw[if_pos rfl,if_neg (by omega)])
    rw[e2];grind
 have h1:=step (k+1) (Nat.le_refl _);rw[if_neg (by omega)] at h1;rw[← h1];exact zbh (fun i c _ hc=>by unfold up;split;exact h c hc;rfl)
theorem zoV:∀ {k:Nat} (V:Nat→Nat→Rat) {x:Nat},x<k→(∀ i,V i x=0)→dt k V=0
 | k+1,V,x,hx,h=>by
  unfold dt;refine zgS (fun c hc => ?_)
  by_cases e:c=x
  ·subst e;rw[h 0];grind
  ·have:dt k (fun i y=>V (i+1) (sk c y))=0:=by
    by_cases hcx:c<x
    ·refine zoV _ (x:=x - 1) (by omega) (fun i => ?_)
     have:sk c (x - 1)=x:=by unfold sk;rw[if_neg (by omega)];omega
     rw[this];exact h _
    ·refine zoV _ (x:=x) (by omega) (fun i => ?_)
     have:sk c x=x:=by unfold sk;rw[if_pos (by omega)]
     rw[this];exact h _
   rw[this];grind
def isI (x:Rat):Prop:=∃ z:Int,x=z
theorem ziy {x y:Rat}(hx:isI x)(hy:isI y):isI (x+y):=by obtain⟨a,rfl⟩:=hx;obtain⟨b,rfl⟩:=hy;exact⟨a+b,by rw[Rat.intCast_add]⟩
theorem zbY {x y:Rat}(hx:isI x)(hy:isI y):isI (x * y):=by obtain⟨a,rfl⟩:=hx;obtain⟨b,rfl⟩:=hy;exact⟨a * b,by rw[Rat.intCast_mul]⟩
theorem zAl {f:Nat→Rat}:∀ {n:Nat},(∀ m,m<n→isI (f m))→isI (rs n f)
 | 0,_=>⟨0,rfl⟩
 | n+1,h=>ziy (zAl (fun m hm=>h m (by omega))) (h n (by omega))
theorem zFQ (c:Nat):isI (sg7 c):=by unfold sg7;split;exact⟨1,rfl⟩;exact⟨-1,rfl⟩
theorem zkp:∀ {k:Nat} {V:Nat→Nat→Rat},(∀ i x,i<k→x<k→isI (V i x))→isI (dt k V)
 | 0,_,_=>⟨1,rfl⟩
 | k+1,V,h=>zAl (fun c hc=>zbY (zbY (zFQ c) (h 0 c (by omega) hc)) (zkp (fun i x hi hx=>h (i+1) _ (by omega) (zEW hx))))
def ab (x:Rat):Rat:=if 0≤x then x else -x
theorem zbR (x:Rat):0≤ab x:=by unfold ab;split <;> grind
theorem zxy {x y:Rat}(h1:x≤y)(h2 : -x≤y):ab x≤y:=by unfold ab;split <;> grind
theorem zxz (x:Rat):x≤ab x:=by unfold ab;split <;> grind
theorem zkq (x:Rat) : -x≤ab x:=by unfold ab;split <;> grind
theorem zeE {x:Rat}(h:0≤x):ab x=x:=by unfold ab;rw[if_pos h]
theorem zAm (x y:Rat):ab (x+y)≤ab x+ab y:=by
 have:=zxz x;have:=zxz y;have:=zkq x;have:=zkq y;refine zxy ?_ ?_ <;> grind
theorem ziz (x y:Rat):ab (x * y)=ab x * ab y:=by
 unfold ab
 by_cases hx:0≤x <;> by_cases hy:0≤y
 ·rw[if_pos hx,if_pos hy,if_pos (Rat.mul_nonneg hx hy)]
 ·rw[if_pos hx,if_neg hy]
  have h:=Rat.mul_nonneg hx (show 0 ≤ -y by grind)
  split <;> grind
 ·rw[if_neg hx,if_pos hy]
  have h:=Rat.mul_nonneg (show 0 ≤ -x by grind) hy
  split <;> grind
 ·rw[if_neg hx,if_neg hy]
  have h:=Rat.mul_nonneg (show 0 ≤ -x by grind) (show 0 ≤ -y by grind)
  split <;> grind
theorem zGY (c:Nat):ab (sg7 c)=1:=by unfold ab sg7;split <;> split <;> grind
theorem zEY (f:Nat→Rat):∀ n,ab (rs n f)≤rs n (fun m=>ab (f m))
 | 0=>by unfold ab rs;simp
 | n+1=>by
  have h1:=zEY f n;have h2:=zAm (rs n f) (f n);unfold rs;grind
theorem zcB {f:Nat→Rat}:∀ {n:Nat},(∀ m,m<n→0≤f m)→0≤rs n f
 | 0,_=>Rat.le_refl
 | n+1,h=>by
  have h1:=zcB (n:=n) (fun m hm=>h m (by omega));have h2:=h n (by omega);unfold rs;grind
def rp:Nat→(Nat→Rat)→Rat
 | 0,_=>1
 | n+1,f=>rp n f * f n
theorem zhn {f g:Nat→Rat}:∀ {n:Nat},(∀ m,m<n→f m=g m)→rp n f=rp n g
 | 0,_=>rfl
 | n+1,h=>by unfold rp;rw[zhn (fun m hm=>h m (by omega)),h n (by omega)]
theorem zqj {f:Nat→Rat}:∀ {n:Nat},(∀ m,m<n→0≤f m)→0≤rp n f
 | 0,_=>by unfold rp;grind
 | n+1,h=>Rat.mul_nonneg (zqj (fun m hm=>h m (by omega))) (h n (by omega))
theorem zhP {f g:Nat→Rat}:∀ {n:Nat},(∀ m,m<n→0≤f m)→(∀ m,m<n→f m≤g m)→rp n f≤rp n g
 | 0,_,_=>Rat.le_refl
 | n+1,h0,h=>by
  have h1:=zhP (n:=n) (fun m hm=>h0 m (by omega)) (fun m hm=>h m (by omega));have h2:=h n (by omega);have h3:=zqj (n:=n) (fun m hm=>h0 m (by omega));have h4:=h0 n (by omega);have h5:=Rat.mul_le_mul_of_nonneg_right h1 h4;have h6:=Rat.mul_le_mul_of_nonneg_left h2 (Rat.le_trans h3 h1);unfold rp;exact Rat.le_trans h5 h6
theorem zEZ {s:Nat→Rat}{c n:Nat}(h:c≤n):rp (n+1) (fun x=>s (sk c x))=rp n (fun x=>s (sk c x)) * s (n+1):=by
 show rp n (fun x=>s (sk c x)) * s (sk c n)=_;have:sk c n=n+1:=by unfold sk;rw[if_neg (by omega)]
 rw[this]
theorem zqk {a s:Nat→Rat}(ha:∀ x,0≤a x)(hs:∀ x,0≤s x):∀ n,rs (n+1) (fun c=>a c * rp n (fun x=>s (sk c x)))≤rp (n+1) (fun x=>a x+s x)
 | 0=>by
  have:=hs 0;show 0+a 0 * 1≤1 * (a 0+s 0)
  grind
 | n+1=>by
  have ih:=zqk ha hs n
  have e1:rs (n+1) (fun c=>a c * rp (n+1) (fun x=>s (sk c x)))=s (n+1) * rs (n+1) (fun c=>a c * rp n (fun x=>s (sk c x))):=by
   rw[← zcH];refine zaL (fun c hc => ?_);rw[zEZ (by omega)];grind
  have e2:rp (n+1) (fun x=>s (sk (n+1) x))=rp (n+1) s:=zhn (fun m hm=>by unfold sk;rw[if_pos hm]);show rs (n+1) (fun c=>a c * rp (n+1) (fun x=>s (sk c x)))+a (n+1) * rp (n+1) (fun x=>s (sk (n+1) x))≤rp (n+1) (fun x=>a x+s x) * (a (n+1)+s (n+1));rw[e1,e2];have h1:=Rat.mul_le_mul_of_nonneg_left ih (hs (n+1));have h2:=zhP (f:=s) (g:=fun x=>a x+s x) (n:=n+1) (fun m _=>hs m) (fun m _=>by have:=ha m;grind);have h3:=Rat.mul_le_mul_of_nonneg_left h2 (ha (n+1))
  grind
theorem zho:∀ (k:Nat) (V:Nat→Nat→Rat),ab (dt k V)≤rp k (fun x=>rs k (fun i=>ab (V i x)))
 | 0,V=>by unfold ab dt rp;grind
 | k+1,V=>by
  have h1:=zEY (fun c=>sg7 c * V 0 c * dt k (fun i x=>V (i+1) (sk c x))) (k+1)
  have h2:rs (k+1) (fun c=>ab (sg7 c * V 0 c * dt k (fun i x=>V (i+1) (sk c x))))≤rs (k+1) (fun c=>ab (V 0 c) * rp k (fun x=>rs k (fun i=>ab (V (i+1) (sk c x))))):=by
   refine zhO (fun c hc => ?_);rw[ziz,ziz,zGY,Rat.one_mul];exact Rat.mul_le_mul_of_nonneg_left (zho k (fun i x=>V (i+1) (sk c x))) (zbR _)
  have h3:=zqk (a:=fun x=>ab (V 0 x)) (s:=fun x=>rs k (fun i=>ab (V (i+1) x))) (fun x=>zbR _) (fun x=>zcB (fun m _=>zbR _)) k;refine Rat.le_trans h1 (Rat.le_trans h2 (Rat.le_trans h3 ?_));refine zhP (fun m _ => ?_) (fun m _ => ?_)
  ·have:=zbR (V 0 m);have:=zcB (f:=fun i=>ab (V (i+1) m)) (n:=k) (fun m _=>zbR _);grind
  ·have e:∀ n,rs (n+1) (fun i=>ab (V i m))=ab (V 0 m)+rs n (fun i=>ab (V (i+1) m)):=fun n=>by
    induction n with
    | zero=>show 0+ab (V 0 m)=ab (V 0 m)+0;grind
    | succ n ih =>
     show rs (n+1) (fun i=>ab (V i m))+ab (V (n+1) m)=ab (V 0 m)+(rs n (fun i=>ab (V (i+1) m))+ab (V (n+1) m));rw[ih];grind
   rw[e];exact Rat.le_refl
theorem zql (k:Nat)(V:Nat→Nat→Rat)(t:Nat→Rat):∀ r,r≤k→dt (k+1) (fun i x=>if 0<i∧i≤r then V i x+t i * V 0 x else V i x)=dt (k+1) V
 | 0,_=>zbh (fun i x _ _=>by rw[if_neg (by omega)])
 | r+1,h=>by
  have ih:=zql k V t r (by omega);have h2:=zDD (k:=k+1) (fun i x=>if 0<i∧i≤r then V i x+t i * V 0 x else V i x) (r:=r+1) (s:=0) (t (r+1)) (by omega) (by omega);rw[ih] at h2;rw[← h2];refine zbh (fun i x _ _ => ?_);unfold up
  by_cases e:i=r+1
  ·subst e
   rw[if_pos rfl]
   dsimp only
   rw[if_pos (show 0<r+1∧r+1≤r+1 by omega),if_neg (show ¬ (0<r+1∧r+1≤r) by omega),if_neg (show ¬ (0<0∧0≤r) by omega)]
  ·rw[if_neg e]
   dsimp only
   by_cases e2:0<i∧i≤r
   ·rw[if_pos (show 0<i∧i≤r+1 by omega),if_pos e2]
   ·rw[if_neg (show ¬ (0<i∧i≤r+1) by omega),if_neg e2]
def one1 (a:Nat→Nat→Rat)(x y:Nat):Rat:=a (x+1) (y+1)+a (x+1) 0 * a 0 (y+1) / (1 - a 0 0)
def idV (a:Nat→Nat→Rat)(y x:Nat):Rat:=(if x=y then 1 else 0) - a x y
theorem zDE (k:Nat)(a:Nat→Nat→Rat)(h:1 - a 0 0≠0):dt (k+1) (idV a)=(1 - a 0 0) * dt k (idV (one1 a)):=by
 rw[← zql k (idV a) (fun y=>a 0 y / (1 - a 0 0)) k (Nat.le_refl k)]
 have hz:∀ y,0<y→idV a y 0+a 0 y / (1 - a 0 0) * idV a 0 0=0:=fun y hy=>by
  unfold idV;rw[if_neg (by omega),if_pos rfl,Rat.div_mul_cancel h]
  grind
 have e:∀ n,rs (n+1) (fun c=>sg7 c * (if 0<0∧0≤k then idV a 0 c+a 0 0 / (1 - a 0 0) * idV a 0 c else idV a 0 c) * dt k (fun i x=>if 0<i+1∧i+1≤k then idV a (i+1) (sk c x)+a 0 (i+1) / (1 - a 0 0) * idV a 0 (sk c x) else idV a (i+1) (sk c x)))=(1 - a 0 0) * dt k (idV (one1 a))∨k<n:=fun n=>by
  induction n with
  | zero =>
   left
   show 0+sg7 0 * (if 0<0∧0≤k then idV a 0 0+a 0 0 / (1 - a 0 0) * idV a 0 0 else idV a 0 0) * dt k (fun i x=>if 0<i+1∧i+1≤k then idV a (i+1) (sk 0 x)+a 0 (i+1) / (1 - a 0 0) * idV a 0 (sk 0 x) else idV a (i+1) (sk 0 x))=_;rw[if_neg (by omega)];have e0:sg7 0=1:=rfl;have e1:idV a 0 0=1 - a 0 0:=by unfold idV;rw[if_pos rfl]
   have e2:dt k (fun i x=>if 0<i+1∧i+1≤k then idV a (i+1) (sk 0 x)+a 0 (i+1) / (1 - a 0 0) * idV a 0 (sk 0 x) else idV a (i+1) (sk 0 x))=dt k (idV (one1 a)):=by
    refine zbh (fun i x hi hx => ?_);rw[if_pos (by omega)];have:sk 0 x=x+1:=by unfold sk;rw[if_neg (by omega)]
    rw[this];unfold idV one1;rw[if_neg (show ¬ x+1=0 by omega)]
    by_cases e:x=i
    ·rw[if_pos e,if_pos (by omega)]
     rw[Rat.div_def,Rat.div_def];grind
    ·rw[if_neg e,if_neg (by omega)]
     rw[Rat.div_def,Rat.div_def];grind
   rw[e0,e1,e2];grind
  | succ n ih =>
   rcases ih with ih|ih
   ·by_cases hn:k<n+1
    ·exact .inr hn
    ·left
     have h0:dt k (fun i x=>if 0<i+1∧i+1≤k then idV a (i+1) (sk (n+1) x)+a 0 (i+1) / (1 - a 0 0) * idV a 0 (sk (n+1) x) else idV a (i+1) (sk (n+1) x))=0:=by
      rw[zbh (W:=fun i x=>idV a (i+1) (sk (n+1) x)+a 0 (i+1) / (1 - a 0 0) * idV a 0 (sk (n+1) x)) (fun i x hi hx=>by rw[if_pos (by omega)])];refine zoV _ (x:=0) (by omega) (fun i => ?_);have:sk (n+1) 0=0:=by unfold sk;rw[if_pos (by omega)]
      rw[this];exact hz (i+1) (by omega)
     unfold rs;rw[ih]
     dsimp only
     rw[h0];grind
   ·exact .inr (by omega)
 rcases e k with h1|h1
 ·exact h1
 ·omega
open Go.RowKit
theorem zHN:zad 2 := .inr (.inl rfl)
def S2:Sr (El 2):=srE 2 zHN
def Fin2 (v:El 2):Prop:=∃ x,v.1 = .inr x
def val (v:El 2):Rat:=match v.1 with
 | .inr x=>x
 | _=>0
theorem El2.cases (v:El 2):v.1 = .inl true∨∃ x,v.1 = .inr x∧0≤x:=by
 rcases zat v.1 v.2 with h|⟨x,h,hx⟩
 ·exact .inl h
 ·exact .inr ⟨x,h,hx⟩
theorem zci {v:El 2}:¬ Fin2 v↔v.1 = .inl true:=by
 constructor
 ·intro h
  rcases El2.cases v with h2|⟨x,h2,_⟩
  ·exact h2
  ·exact absurd ⟨x,h2⟩ h
 ·rintro h ⟨x,h2⟩
  rw[h] at h2;cases h2
theorem zhp {v:El 2}{x:Rat}(h:v.1 = .inr x):val v=x:=by unfold val;rw[h]
theorem zcE {v:El 2}(h:Fin2 v):v.1 = .inr (val v):=by obtain⟨x,hx⟩:=h;rw[zhp hx];exact hx
theorem zbE (v:El 2):0≤val v:=by
 rcases El2.cases v with h|⟨x,h,hx⟩
 ·unfold val;rw[h];exact Rat.le_refl
 ·rw[zhp h];exact hx
theorem zhq:Fin2 S2.zero:=⟨0,rfl⟩
theorem zdb:val S2.zero=0:=rfl
theorem zvX {v:El 2}(hf:Fin2 v)(h:v≠S2.zero):val v≠0:=fun e=>h (Subtype.ext (by rw[zcE hf,e];rfl))
theorem zgT {u v:El 2}:Fin2 (S2.add u v)↔Fin2 u∧Fin2 v:=by
 constructor
 ·intro h
  refine⟨?_,?_⟩
  ·refine Classical.byContradiction (fun hn=>zci.2 ?_ h)
   show sumE u.1 v.1=_;rw[zci.1 hn,zbg]
  ·refine Classical.byContradiction (fun hn=>zci.2 ?_ h)
   show sumE u.1 v.1=_;rw[zci.1 hn,zaT]
 ·rintro ⟨⟨x,hx⟩,y,hy⟩
  exact⟨x+y,by show sumE u.1 v.1=_;rw[hx,hy,zbr]⟩
theorem zgU {u v:El 2}(hu:Fin2 u)(hv:Fin2 v):val (S2.add u v)=val u+val v:=zhp (by show sumE u.1 v.1=_;rw[zcE hu,zcE hv,zbr])
theorem zeT {u v:El 2}(hu:Fin2 u)(hv:Fin2 v):Fin2 (S2.mul u v):=⟨val u * val v,by show zaB u.1 v.1=_;rw[zcE hu,zcE hv,zaU]⟩
theorem zgV {u v:El 2}(hu:Fin2 u)(hv:Fin2 v):val (S2.mul u v)=val u * val v:=zhp (by show zaB u.1 v.1=_;rw[zcE hu,zcE hv,zaU])
theorem zoW {u v:El 2}(hu:u≠S2.zero)(hv:v.1 = .inl true):(S2.mul u v).1 = .inl true:=by
 show zaB u.1 v.1=_;rw[hv];rcases El2.cases u with h|⟨x,h,hx⟩
 ·rw[h,zbf]
 ·rw[h,zaE (fun e=>hu (Subtype.ext (by rw[h,e];rfl)))]
theorem zep {u v:El 2}(h:Fin2 (S2.mul u v))(hu:u≠S2.zero):Fin2 v:=Classical.byContradiction (fun hn=>zci.2 (zoW hu (zci.1 hn)) h)
theorem zfV {u v:El 2}(h:Fin2 (S2.mul u v))(hv:v≠S2.zero):Fin2 u:=zep (S2.mul_comm u v ▸ h) hv
theorem ziA (u v:El 2)(hu:u≠S2.zero)(hv:v≠S2.zero):S2.mul u v≠S2.zero:=by
 intro e
 by_cases hf:Fin2 v
 ·by_cases hg:Fin2 u
  ·have h:=congrArg val e
   rw[zgV hg hf,zdb] at h;rcases Rat.mul_eq_zero.1 h with h|h
   ·exact zvX hg hu h
   ·exact zvX hf hv h
  ·have h:=zoW hv (zci.1 hg)
   rw[S2.mul_comm,e] at h;cases h
 ·have h:=zoW hu (zci.1 hf)
  rw[e] at h;cases h
theorem znx {u v:El 2}(h:S2.le u v)(hv:Fin2 v):Fin2 u:=by
 refine Classical.byContradiction (fun hn => ?_);have h1:leE u.1 v.1:=h;rw[zci.1 hn,zcE hv] at h1;exact zbA _ h1
theorem ziB {f:Nat→El 2}:∀ {n:Nat},Fin2 (sm S2 n f)↔∀ m,m<n→Fin2 (f m)
 | 0=>⟨fun _ m hm=>by omega,fun _=>zhq⟩
 | n+1=>by
  show Fin2 (S2.add (sm S2 n f) (f n))↔_;rw[zgT,ziB]
  constructor
  ·rintro ⟨h1,h2⟩ m hm
   by_cases e:m=n
   ·rw[e];exact h2
   ·exact h1 m (by omega)
  ·intro h
   exact⟨fun m hm=>h m (by omega),h n (by omega)⟩
theorem zsF {f:Nat→El 2}:∀ {n:Nat},(∀ m,m<n→Fin2 (f m))→val (sm S2 n f)=rs n (fun m=>val (f m))
 | 0,_=>rfl
 | n+1,h=>by
  show val (S2.add (sm S2 n f) (f n))=_;rw[zgU (ziB.2 (fun m hm=>h m (by omega))) (h n (by omega)),zsF (fun m hm=>h m (by omega))]
  rfl
theorem zsG {u:El 2}(h:Fin2 (S2.mul (S2.star u) u)):Fin2 u∧val u<1∧Fin2 (S2.star u)∧val (S2.star u)=1 / (1 - val u):=by
 have key:∀ x:Rat,u.1 = .inr x→x<1→Fin2 u∧val u<1∧Fin2 (S2.star u)∧val (S2.star u)=1 / (1 - val u):=fun x hx h1=>by
  have e:(S2.star u).1 = .inr (1 / (1 - x)):=by
   show zcM 2 u.1=_;rw[hx];show(if x<1 then Sum.inr (1 / (1 - x)) else .inl true)=_;rw[if_pos h1]
  rw[zhp hx,zhp e];exact⟨⟨x,hx⟩,h1,⟨_,e⟩,rfl⟩
 by_cases hz:u=S2.zero
 ·exact key 0 (by rw[hz];rfl) (by decide +kernel)
 ·have hs:Fin2 (S2.star u):=zfV h hz
  have hsn:S2.star u≠S2.zero:=fun e=>by
   have h1:=S2.star_law u;rw[e] at h1;have h2:=S2.zero_left h1;have h3:=congrArg val h2;rw[zdb] at h3;have:val S2.one=1:=rfl;rw[this] at h3
   revert h3;decide +kernel
  have hu:Fin2 u:=zep h hsn;refine key (val u) (zcE hu) (Classical.byContradiction (fun hn=>zci.2 ?_ hs));show zcM 2 u.1=_;rw[zcE hu];show(if val u<1 then Sum.inr (1 / (1 - val u)) else .inl true)=_;rw[if_neg hn]
theorem zxA:∀ (r:Nat) (a:Nat→Nat→El 2),(∀ t x y,t≤r→x<r→y<r→Fin2 (el S2 a t x y))→dt r (idV (fun x y=>val (a x y)))≠0
 | 0,a,_=>by show(1:Rat)≠0;decide +kernel
 | r+1,a,h=>by
  have h1:Fin2 (S2.mul (S2.star (el S2 a 0 0 0)) (el S2 a 0 0 0)):=by
   have:=h 1 0 0 (by omega) (by omega) (by omega)
   rwa [zjU] at this
  obtain⟨hu,hlt,hsf,hsv⟩:=zsG h1;have hlt2:val (a 0 0)<1:=hlt;have hne:1 - val (a 0 0)≠0:=fun e=>by grind
  rw[zDE r (fun x y=>val (a x y)) hne]
  have ih:=zxA r (fun x y=>el S2 a 1 (x+1) (y+1)) (fun t x y ht hx hy=>by
   rw[zeI];exact h (t+1) (x+1) (y+1) (by omega) (by omega) (by omega))
  have e:dt r (idV (one1 (fun x y=>val (a x y))))=dt r (idV (fun x y=>val (el S2 a 1 (x+1) (y+1)))):=by
   refine zbh (fun i x hi hx => ?_);unfold idV
   congr 1
   show one1 (fun x y=>val (a x y)) x i=val (S2.add (a (x+1) (i+1)) (S2.mul (S2.mul (a (x+1) 0) (S2.star (a 0 0))) (a 0 (i+1))));have f1:Fin2 (a (x+1) (i+1)):=h 0 (x+1) (i+1) (by omega) (by omega) (by omega);have f2:Fin2 (a (x+1) 0):=h 0 (x+1) 0 (by omega) (by omega) (by omega);have f3:Fin2 (a 0 (i+1)):=h 0 0 (i+1) (by omega) (by omega) (by omega);have hsf2:Fin2 (S2.star (a 0 0)):=hsf;have hsv2:val (S2.star (a 0 0))=1 / (1 - val (a 0 0)):=hsv;rw[zgU f1 (zeT (zeT f2 hsf2) f3),zgV (zeT f2 hsf2) f3,zgV f2 hsf2,hsv2];unfold one1;rw[Rat.div_def,Rat.div_def]
   grind
  rw[e];intro h0;rcases Rat.mul_eq_zero.1 h0 with h0|h0
  ·exact hne h0
  ·exact ih h0
open Go.RowKit
variable {α:Type}
theorem zsH (S:Sr α)(f:Nat→α):∀ n,sm S (n+1) f=S.add (f 0) (sm S n (fun m=>f (m+1)))
 | 0=>by show S.add S.zero (f 0)=S.add (f 0) S.zero;rw[S.add_comm]
 | n+1=>by
  show S.add (sm S (n+1) f) (f (n+1))=S.add (f 0) (S.add (sm S n (fun m=>f (m+1))) (f (n+1)));rw[zsH S f n,S.add_assoc]
theorem zjb (f:Nat→Rat):∀ n,rs (n+1) f=f 0+rs n (fun m=>f (m+1))
 | 0=>by show 0+f 0=f 0+0;grind
 | n+1=>by
  show rs (n+1) f+f (n+1)=f 0+(rs n (fun m=>f (m+1))+f (n+1));rw[zjb f n];grind
theorem zsI (f:Nat→Rat):∀ n,rp (n+1) f=f 0 * rp n (fun m=>f (m+1))
 | 0=>by show 1 * f 0=f 0 * 1;grind
 | n+1=>by
  show rp (n+1) f * f (n+1)=f 0 * (rp n (fun m=>f (m+1)) * f (n+1));rw[zsI f n];grind
theorem zlA (f:Nat→Rat):∀ {n c:Nat},c<n→rs n (fun y=>f y * (if c=y then 1 else 0))=f c
 | n+1,c,h=>by
  show rs n (fun y=>f y * (if c=y then 1 else 0))+f n * (if c=n then 1 else 0)=_
  by_cases e:c=n
  ·subst e
   rw[if_pos rfl,zgS (fun m hm=>by rw[if_neg (by omega)];grind)];grind
  ·rw[if_neg e,zlA f (by omega)];grind
theorem zvY (f:Nat→Rat)(p:Nat→Bool):∀ k,rs ((List.range k).filter p).length (fun x=>f (((List.range k).filter p).getD x 0))=rs k (fun m=>if p m=true then f m else 0)
 | 0=>rfl
 | k+1=>by
  have ih:=zvY f p k;show _=rs k (fun m=>if p m=true then f m else 0)+(if p k=true then f k else 0);rw[← ih,List.range_succ,List.filter_append]
  by_cases hk:p k=true
  ·rw[if_pos hk]
   have e1:[k].filter p=[k]:=by simp[hk]
   rw[e1,List.length_append,List.length_singleton];show rs ((List.range k).filter p).length (fun x=>f ((((List.range k).filter p)++[k]).getD x 0))+f ((((List.range k).filter p)++[k]).getD ((List.range k).filter p).length 0)=_
   have e2:(((List.range k).filter p)++[k]).getD ((List.range k).filter p).length 0=k:=by
    rw[List.getD_eq_getElem?_getD,List.getElem?_append_right (Nat.le_refl _),Nat.sub_self];rfl
   rw[e2]
   congr 1
   refine zaL (fun m hm => ?_);rw[List.getD_eq_getElem?_getD,List.getD_eq_getElem?_getD,List.getElem?_append_left hm]
  ·rw[if_neg hk]
   have e1:[k].filter p=[]:=by simp[hk]
   rw[e1,List.append_nil];grind
theorem zvZ (f:Nat→Rat)(p:Nat→Bool):∀ k,rp ((List.range k).filter p).length (fun x=>f (((List.range k).filter p).getD x 0))=rp k (fun m=>if p m=true then f m else 1)
 | 0=>rfl
 | k+1=>by
  have ih:=zvZ f p k;show _=rp k (fun m=>if p m=true then f m else 1) * (if p k=true then f k else 1);rw[← ih,List.range_succ,List.filter_append]
  by_cases hk:p k=true
  ·rw[if_pos hk]
   have e1:[k].filter p=[k]:=by simp[hk]
   rw[e1,List.length_append,List.length_singleton];show rp ((List.range k).filter p).length (fun x=>f ((((List.range k).filter p)++[k]).getD x 0)) * f ((((List.range k).filter p)++[k]).getD ((List.range k).filter p).length 0)=_
   have e2:(((List.range k).filter p)++[k]).getD ((List.range k).filter p).length 0=k:=by
    rw[List.getD_eq_getElem?_getD,List.getElem?_append_right (Nat.le_refl _),Nat.sub_self];rfl
   rw[e2]
   congr 1
   refine zhn (fun m hm => ?_);rw[List.getD_eq_getElem?_getD,List.getD_eq_getElem?_getD,List.getElem?_append_left hm]
  ·rw[if_neg hk]
   have e1:[k].filter p=[]:=by simp[hk]
   rw[e1,List.append_nil];grind
theorem zDF {p:Nat→Bool}{k x:Nat}(h:x<((List.range k).filter p).length):((List.range k).filter p).getD x 0<k∧p (((List.range k).filter p).getD x 0)=true:=by
 rw[List.getD_eq_getElem?_getD,List.getElem?_eq_getElem h];have:=List.mem_filter.1 (List.getElem_mem h);exact⟨List.mem_range.1 this.1,this.2⟩
theorem zhQ {f:Nat→Rat}:∀ {n:Nat},(∀ m,m<n→1≤f m)→1≤rp n f
 | 0,_=>by unfold rp;grind
 | n+1,h=>by
  have h1:=zhQ (n:=n) (fun m hm=>h m (by omega));have h2:=h n (by omega);have h3:=Rat.mul_le_mul_of_nonneg_left h2 (show 0≤rp n f by grind);unfold rp;grind
theorem zwa {f:Nat→Rat}{n:Nat}:∀ d,(∀ m,m<n+d→1≤f m)→rp n f≤rp (n+d) f
 | 0,_=>Rat.le_refl
 | d+1,h=>by
  have h1:=zwa (f:=f) (n:=n) d (fun m hm=>h m (by omega));have h2:=h (n+d) (by omega);have h3:=zhQ (n:=n+d) (fun m hm=>h m (by omega));have h4:=Rat.mul_le_mul_of_nonneg_left h2 (show 0≤rp (n+d) f by grind);show rp n f≤rp (n+d) f * f (n+d)
  grind
theorem zAn (D:Nat→Rat):∀ {n c:Nat},c≤n→rp (n+1) D=D c * rp n (fun x=>D (sk c x))
 | 0,c,h=>by
  have:c=0:=by omega
  subst this;show 1 * D 0=D 0 * 1;grind
 | n+1,c,h=>by
  by_cases e:c=n+1
  ·subst e
   rw[zhn (f:=fun x=>D (sk (n+1) x)) (g:=D) (fun m hm=>by unfold sk;rw[if_pos hm])];show rp (n+1) D * D (n+1)=_
   grind
  ·have ih:=zAn D (c:=c) (n:=n) (by omega)
   rw[zEZ (by omega)];show rp (n+1) D * D (n+1)=_;rw[ih];grind
theorem zms:∀ (k:Nat) (D:Nat→Rat) (V:Nat→Nat→Rat),dt k (fun i x=>D x * V i x)=rp k D * dt k V
 | 0,D,V=>by show(1:Rat)=1 * 1;grind
 | k+1,D,V=>by
  show rs (k+1) (fun c=>sg7 c * (D c * V 0 c) * dt k (fun i x=>D (sk c x) * V (i+1) (sk c x)))=rp (k+1) D * rs (k+1) (fun c=>sg7 c * V 0 c * dt k (fun i x=>V (i+1) (sk c x)));rw[← zcH];refine zaL (fun c hc => ?_);rw[zms k (fun x=>D (sk c x)) (fun i x=>V (i+1) (sk c x)),zAn D (c:=c) (n:=k) (by omega)]
  grind
theorem zfI {A:Nat→Nat→El 2}{k i j:Nat}(h:Fin2 (el S2 A k i j)):Fin2 (A i j)∧∀ m,m<k→Fin2 (S2.mul (A i m) (el S2 A k m j)):=by
 rw[zbJ S2 A k i j] at h;have h2:=zgT.1 h;exact⟨h2.1,ziB.1 h2.2⟩
theorem zjc {A:Nat→Nat→El 2}{k i j m:Nat}(hr:Rch S2 A k i m)(hm:m<k)(h:Fin2 (el S2 A k i j)):Fin2 (el S2 A k m j):=by
 induction hr with
 | one h1=>exact zep ((zfI h).2 _ hm) h1
 | more hl h1 _ ih=>exact ih hm (zep ((zfI h).2 _ hl) h1)
theorem zjd {A:Nat→Nat→El 2}{k x j v:Nat}(hv:v<k)(hn:el S2 A k v j≠S2.zero)(h:Fin2 (el S2 A k x j)):Fin2 (el S2 A k x v):=by
 have h1:Rch S2 (fun a b=>A b a) k j v:=zff S2 _ k j v (by rw[zdF];exact hn);have h2:=zjc (A:=fun a b=>A b a) (j:=x) h1 hv (by rw[zdF];exact h)
 rwa [zdF] at h2
open Classical in
noncomputable def onB (A:Nat→Nat→El 2)(k i j m:Nat):Bool:=decide (el S2 A k i m≠S2.zero∧el S2 A k m j≠S2.zero)
theorem zwb {A:Nat→Nat→El 2}{k i j m:Nat}:onB A k i j m=true↔el S2 A k i m≠S2.zero∧el S2 A k m j≠S2.zero:=by unfold onB;simp
noncomputable def onL (A:Nat→Nat→El 2)(k i j:Nat):List Nat:=(List.range k).filter (onB A k i j)
noncomputable def nd (A:Nat→Nat→El 2)(k i j c:Nat):Nat:=if c=0 then i else (onL A k i j).getD (c - 1) 0
noncomputable def onA (A:Nat→Nat→El 2)(k i j x y:Nat):El 2:=if y=0 then S2.zero else A (nd A k i j x) (nd A k i j y)
theorem ziC (A:Nat→Nat→El 2)(k i j c:Nat):nd A k i j (c+1)=(onL A k i j).getD c 0:=by unfold nd;rw[if_neg (by omega),Nat.add_sub_cancel]
theorem zny {A:Nat→Nat→El 2}{k i j c:Nat}(h:c<(onL A k i j).length):nd A k i j (c+1)<k∧el S2 A k i (nd A k i j (c+1))≠S2.zero∧el S2 A k (nd A k i j (c+1)) j≠S2.zero:=by
 rw[ziC];have:=zDF h;exact⟨this.1,zwb.1 this.2⟩
section
variable {A:Nat→Nat→El 2} {k i j:Nat}
theorem ziD (h:Fin2 (el S2 A k i j)){c:Nat}(hc:c<(onL A k i j).length+1):Fin2 (el S2 A k (nd A k i j c) j):=by
 cases c with
 | zero=>exact h
 | succ c =>
  obtain⟨h1,h2,_⟩:=zny (show c<(onL A k i j).length by omega);exact zjc (zff S2 A k i _ h2) h1 h
theorem zsJ (h:Fin2 (el S2 A k i j)){c y:Nat}(hc:c<(onL A k i j).length+1)(hy:y<(onL A k i j).length):Fin2 (A (nd A k i j c) (nd A k i j (y+1))):=by
 obtain⟨h1,_,h3⟩:=zny hy;exact zfV ((zfI (ziD h hc)).2 _ h1) h3
theorem zDG (h:Fin2 (el S2 A k i j)){c m:Nat}(hc:c<(onL A k i j).length+1)(hm:m<k)(hp:¬ onB A k i j m=true):S2.mul (A (nd A k i j c) m) (el S2 A k m j)=S2.zero:=by
 refine Classical.byContradiction (fun hn=>hp (zwb.2 ?_));have h1:A (nd A k i j c) m≠S2.zero:=fun e=>hn (by rw[e,S2.zero_mul]);have h2:el S2 A k m j≠S2.zero:=fun e=>hn (by rw[e,S2.mul_zero]);refine⟨?_,h2⟩;cases c with
 | zero=>exact ziv S2 ziA A (.one h1)
 | succ c =>
  obtain⟨g1,g2,_⟩:=zny (show c<(onL A k i j).length by omega);exact ziv S2 ziA A ((zff S2 A k i _ g2).trans g1 (.one h1))
theorem zGZ (h:Fin2 (el S2 A k i j)){c:Nat}(hc:c<(onL A k i j).length+1) :
  sm S2 (onL A k i j).length (fun y=>S2.mul (A (nd A k i j c) (nd A k i j (y+1))) (el S2 A k (nd A k i j (y+1)) j))=sm S2 k (fun m=>S2.mul (A (nd A k i j c) m) (el S2 A k m j)):=by
 have e:=zoB S2 (fun m=>S2.mul (A (nd A k i j c) m) (el S2 A k m j)) (onB A k i j) k;rw[zal S2 (g:=fun x=>S2.mul (A (nd A k i j c) ((onL A k i j).getD x 0)) (el S2 A k ((onL A k i j).getD x 0) j)) (fun y _=>by rw[ziC])];refine e.trans (zal S2 (fun m hm => ?_))
 by_cases hp:onB A k i j m=true
 ·rw[if_pos hp]
 ·rw[if_neg hp];exact(zDG h hc hm hp).symm
theorem zHa (h:Fin2 (el S2 A k i j)){t x y:Nat}(ht:t≤(onL A k i j).length+1)(hx:x<(onL A k i j).length+1)(hy:y<(onL A k i j).length+1):Fin2 (el S2 (onA A k i j) t x y):=by
 have hfull:Fin2 (el S2 (onA A k i j) ((onL A k i j).length+1) x y):=by
  cases y with
  | zero =>
   rw[zdR];refine zgT.2 ⟨zhq,ziB.2 (fun m _ => ?_)⟩;have:onA A k i j m 0=S2.zero:=by unfold onA;rw[if_pos rfl]
   rw[this,S2.mul_zero];exact zhq
  | succ y =>
   obtain⟨g1,g2,g3⟩:=zny (show y<(onL A k i j).length by omega);have hX:Fin2 (el S2 A k (nd A k i j x) (nd A k i j (y+1))):=zjd g1 g3 (ziD h hx);refine znx ?_ hX;have hl:=zfy S2 (onA A k i j) (fun x=>onA A k i j x (y+1)) (fun x=>el S2 A k (nd A k i j x) (nd A k i j (y+1))) (n:=(onL A k i j).length+1) (fun x hx => ?_) ((onL A k i j).length+1) (Nat.le_refl _) x hx
   ·rw[zdR]
    rw[zal S2 (g:=fun m=>S2.mul (el S2 (onA A k i j) ((onL A k i j).length+1) x m) (onA A k i j m (y+1))) (fun m hm=>by rw[if_pos hm])] at hl;exact hl
   ·have e0:onA A k i j x (y+1)=A (nd A k i j x) (nd A k i j (y+1)):=by unfold onA;rw[if_neg (by omega)]
    rw[e0,zbJ S2 A k (nd A k i j x) (nd A k i j (y+1))];refine S2.add_mono _ _ _ _ (S2.le_refl _) ?_;rw[zsH]
    have e1:S2.mul (onA A k i j x 0) (el S2 A k (nd A k i j 0) (nd A k i j (y+1)))=S2.zero:=by
     have:onA A k i j x 0=S2.zero:=by unfold onA;rw[if_pos rfl]
     rw[this,S2.zero_mul]
    rw[e1,S2.zero_add];have e2:=zoB S2 (fun m=>S2.mul (A (nd A k i j x) m) (el S2 A k m (nd A k i j (y+1)))) (onB A k i j) k
    have e3:sm S2 (onL A k i j).length (fun m=>S2.mul (onA A k i j x (m+1)) (el S2 A k (nd A k i j (m+1)) (nd A k i j (y+1))))=sm S2 ((List.range k).filter (onB A k i j)).length (fun z=>S2.mul (A (nd A k i j x) (((List.range k).filter (onB A k i j)).getD z 0)) (el S2 A k (((List.range k).filter (onB A k i j)).getD z 0) (nd A k i j (y+1)))):=by
     refine zal S2 (fun m _ => ?_);have:onA A k i j x (m+1)=A (nd A k i j x) (nd A k i j (m+1)):=by unfold onA;rw[if_neg (by omega)]
     rw[this,ziC A k i j m]
     rfl
    rw[e3,e2];refine zgO S2 (fun m _ => ?_)
    by_cases hp:onB A k i j m=true
    ·rw[if_pos hp];exact S2.le_refl _
    ·rw[if_neg hp];exact S2.zero_le _
 have hg:=zoC S2 (onA A k i j) x y ((onL A k i j).length+1 - t) t;rw[show t+((onL A k i j).length+1 - t)=(onL A k i j).length+1 by omega] at hg;exact znx hg hfull
theorem zHO (h:Fin2 (el S2 A k i j)){c:Nat}(hc:c<(onL A k i j).length+1) :
  val (A (nd A k i j c) j)=rs ((onL A k i j).length+1) (fun y=>val (el S2 A k (nd A k i j y) j) * idV (fun x y=>val (onA A k i j x y)) y c):=by
 have hB:=ziD h hc;have hr:=zfI hB;have e1:=congrArg val (zbJ S2 A k (nd A k i j c) j);rw[zgU hr.1 (ziB.2 hr.2),← zGZ h hc,zsF (fun m hm=>zeT (zsJ h hc hm) (ziD h (by omega)))] at e1;rw[zaL (g:=fun m=>val (A (nd A k i j c) (nd A k i j (m+1))) * val (el S2 A k (nd A k i j (m+1)) j)) (fun m hm=>zgV (zsJ h hc hm) (ziD h (by omega)))] at e1
 have e2:rs ((onL A k i j).length+1) (fun y=>val (el S2 A k (nd A k i j y) j) * idV (fun x y=>val (onA A k i j x y)) y c)=rs ((onL A k i j).length+1) (fun y=>val (el S2 A k (nd A k i j y) j) * (if c=y then 1 else 0))+rs ((onL A k i j).length+1) (fun y=>(-1) * (val (onA A k i j c y) * val (el S2 A k (nd A k i j y) j))):=by
  rw[← zfl];refine zaL (fun y _ => ?_);unfold idV
  grind
 rw[e2,zlA (fun y=>val (el S2 A k (nd A k i j y) j)) hc,zcH,zjb];have e3:val (onA A k i j c 0)=0:=by unfold onA;rw[if_pos rfl];exact zdb
 have e4:rs (onL A k i j).length (fun m=>val (onA A k i j c (m+1)) * val (el S2 A k (nd A k i j (m+1)) j))=rs (onL A k i j).length (fun m=>val (A (nd A k i j c) (nd A k i j (m+1))) * val (el S2 A k (nd A k i j (m+1)) j)):=by
  refine zaL (fun m _ => ?_);have:onA A k i j c (m+1)=A (nd A k i j c) (nd A k i j (m+1)):=by unfold onA;rw[if_neg (by omega)]
  rw[this]
 rw[e3,e4,e1]
 grind
end
end Go.Proofs.YtaogepcaoogpgaaGreatDoor
