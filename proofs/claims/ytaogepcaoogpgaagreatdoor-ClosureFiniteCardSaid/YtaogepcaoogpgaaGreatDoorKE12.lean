/- WE63 WE81 WE83 WE88 WE91 -/
import Derived.Test.YtaogepcaoogpgaaGreatDoorKE11
import Derived.Deep.RegionHeld2
set_option linter.unusedVariables false
set_option linter.unusedSimpArgs false
set_option maxRecDepth 100000
set_option maxHeartbeats 16000000
namespace Go.Proofs.YtaogepcaoogpgaaGreatDoor
open Go.RowKit
def natE (k:Int)(u v:Ext):Prop:=zbU k v u≤0
theorem zDb {u v t s:Ext}(hu:hasE 2 u=true)(hv:hasE 2 v=true)(ht:hasE 2 t=true)(hs:hasE 2 s=true)(h:leE u v)(k:leE t s):leE (sumE u t) (sumE v s):=by
 rcases zat v hv with rfl|⟨y,rfl,hy⟩
 ·rw[zbg];exact zbN _
 rcases zat s hs with rfl|⟨z,rfl,hz⟩
 ·rw[zaU];exact zbN _
 rcases zat u hu with rfl|⟨x,rfl,hx⟩
 ·exact absurd h (zbw _)
 rcases zat t ht with rfl|⟨w,rfl,hw⟩
 ·exact absurd k (zbw _)
 rw[zbp,zbp];refine(zbi _ _).2 ?_;have h1:=(zbi _ _).1 h;have h2:=(zbi _ _).1 k;exact Rat.le_trans ((Rat.add_le_add_right (c:=w)).2 h1) ((Rat.add_le_add_left (c:=y)).2 h2)
theorem znu (a b x:Ext)(h:leE x (zbD b (zbE a x))):leE x (zbE (zcK 1 a) b):=by
 obtain⟨h1,h2⟩:=(zfD x b (zbE a x)).1 h;show leE x (zbE (if cmpE a (.inr 0)<0 then .inl false else .inr 0) b)
 by_cases ha:cmpE a (.inr 0)<0
 ·rw[if_pos ha]
  rcases b with(_|_)|y
  ·
   show leE x (.inl false);rcases x with(_|_)|q
   ·exact zbQ _
   ·exact absurd h1 zhS
   ·exact absurd h1 (zex q)
  ·exact zbN x
  ·show leE x (.inl false)
   rcases x with(_|_)|q
   ·exact zbQ _
   ·exact absurd h1 (zbw y)
   ·rcases a with(_|_)|r
    ·exact absurd h2 (zex q)
    ·exact absurd (show(1:Int)<0 from ha) (by decide)
    ·have h3:q≤r+q:=(zbi _ _).1 h2
     have h4:r<0:=(zeL r 0).1 ha;have h5:r+q<0+q:=(Rat.add_lt_add_right (c:=q)).2 h4;rw[Rat.zero_add] at h5;exact absurd h3 (Rat.not_le.2 h5)
 ·rw[if_neg ha,zjV,zjW]
  exact h1
theorem zlL {r q:Rat}(hr:1<r)(hq:0<q):q<r * q:=by
 have h:=Rat.mul_lt_mul_of_pos_right hr hq
 rwa [Rat.one_mul] at h
theorem znv (a b x:Ext)(ha:hasE 2 a=true)(hb:hasE 2 b=true)(hx:hasE 2 x=true)(h:leE (zbz b (zaA a x)) x):leE (zaA (zcK 3 a) b) x:=by
 obtain⟨h1,h2⟩:=(zfE x b (zaA a x)).1 h;show leE (zaA (if 0<cmpE a (.inr 1) then .inl true else .inr 1) b) x
 by_cases hs:0<cmpE a (.inr 1)
 ·rw[if_pos hs]
  rcases zat x hx with rfl|⟨q,rfl,hq⟩
  ·exact zbN _
  rcases zat b hb with rfl|⟨y,rfl,hy⟩
  ·exact absurd h1 (zbw q)
  by_cases zy:y=0
  ·subst zy;rw[zay];exact(zbi _ _).2 hq
  ·have hyq:y≤q:=(zbi _ _).1 h1
   have hy0:0<y:=by
    rcases Rat.le_iff_lt_or_eq.1 hy with h|h
    ·exact h
    ·exact absurd h.symm zy
   have hq0:0<q:=Rat.not_le.1 (fun e=>Rat.not_le.2 hy0 (Rat.le_trans hyq e));have hqn:q≠0:=fun e=>by rw[e] at hq0;exact Rat.lt_irrefl hq0
   rcases zat a ha with rfl|⟨r,rfl,hr⟩
   ·rw[zaB hqn] at h2;exact absurd h2 (zbw q)
   ·rw[zaV] at h2
    have h3:r * q≤q:=(zbi _ _).1 h2
    have h4:1<r:=by
     have hc:0<cmpQ r 1:=hs;have:=zjU r 1;exact(zeL 1 r).1 (by omega)
    exact absurd h3 (Rat.not_le.2 (zlL h4 hq0))
 ·rw[if_neg hs,zjY _ _ (by decide +kernel) hb,ziM b hb]
  exact h1
theorem zoH (a b x:Ext)(ha:hasE 2 a=true)(hb:hasE 2 b=true)(hx:hasE 2 x=true)(h:leE (sumE b (zaA a x)) x):leE (zaA (zcK 2 a) b) x:=by
 rcases zat x hx with rfl|⟨q,rfl,hq⟩
 ·exact zbN _
 rcases zat b hb with rfl|⟨y,rfl,hy⟩
 ·rw[zbg] at h;exact absurd h (zbw q)
 rcases zat a ha with rfl|⟨r,rfl,hr⟩
 ·
  by_cases zq:q=0
  ·subst zq
   rw[zay,zbp,Rat.add_zero] at h;have h1:y≤0:=(zbi _ _).1 h;have h2:y=0:=Rat.le_antisymm h1 hy;subst h2;rw[zay];exact zbQ _
  ·rw[zaB zq,zaU] at h;exact absurd h (zbw q)
 ·rw[zaV,zbp] at h
  have h1:y+r * q≤q:=(zbi _ _).1 h;show leE (zaA (if r<1 then .inr (1 / (1 - r)) else .inl true) (.inr y)) (.inr q)
  by_cases hr1:r<1
  ·rw[if_pos hr1,zaV]
   refine(zbi _ _).2 ?_;have h0:0<1 - r:=(Rat.lt_iff_sub_pos r 1).1 hr1
   have h2:y≤q * (1 - r):=by
    rw[Rat.sub_eq_add_neg,Rat.mul_add,Rat.mul_one,Rat.mul_neg,Rat.mul_comm q r];have h3:=(Rat.add_le_add_right (c := -(r * q))).2 h1
    rwa [Rat.add_assoc,Rat.add_neg_cancel,Rat.add_zero] at h3
   have h4:=Rat.mul_le_mul_of_nonneg_left h2 (zlH hr1)
   have h5:1 / (1 - r) * (q * (1 - r))=q:=by
    rw[Rat.mul_comm q,← Rat.mul_assoc,Rat.div_mul_cancel (fun e=>by rw[e] at h0;exact Rat.lt_irrefl h0),Rat.one_mul]
   rwa [h5] at h4
  ·rw[if_neg hr1]
   have h2:1≤r:=Rat.not_lt.1 hr1
   have h3:q≤r * q:=by
    have:=Rat.mul_le_mul_of_nonneg_right h2 hq
    rwa [Rat.one_mul] at this
   have h4:y≤0:=by
    have h5:y+q≤y+r * q:=(Rat.add_le_add_left (c:=y)).2 h3;have h6:=Rat.le_trans h5 h1;have h7:=(Rat.add_le_add_right (c := -q)).2 h6
    rwa [Rat.add_assoc,Rat.add_neg_cancel,Rat.add_zero] at h7
   have h8:y=0:=Rat.le_antisymm h4 hy;subst h8;rw[zay];exact(zbi _ _).2 hq
def El (k:Int):Type := { v:Ext // hasE k v=true }
def srE (k:Int)(hk:zad k):Sr (El k) where
 add u v:=⟨zcm k u.1 v.1,zCF hk u.2 v.2⟩
 mul u v:=⟨zaX k u.1 v.1,zzv hk u.2 v.2⟩
 zero:=⟨zfP k,zzw hk⟩
 one:=⟨zgd k,zCG hk⟩
 star u:=⟨zcK k u.1,zCI hk u.1 u.2⟩
 le u v:=natE k u.1 v.1
 add_comm u v:=Subtype.ext (zzx hk u.2 v.2)
 add_assoc u v t:=Subtype.ext (zwI hk u.2 v.2 t.2)
 add_zero u:=Subtype.ext (zzy hk u.2)
 mul_comm u v:=Subtype.ext (zfj hk u.2 v.2)
 mul_assoc u v t:=Subtype.ext (zuk hk u.2 v.2 t.2)
 mul_add u v t:=Subtype.ext (zwJ hk u.2 v.2 t.2)
 mul_one u:=Subtype.ext (zzz hk u.2)
 mul_zero u:=Subtype.ext (zwK hk u.1)
 star_law u:=Subtype.ext (star_law hk u.1 u.2)
 le_refl u:=by show zbU k u.1 u.1≤0;rw[(zlG k u.1 u.1).2 rfl];exact Int.le_refl 0
 le_trans u v t h j:=zsa k t.1 v.1 u.1 j h
 le_anti u v h j:=Subtype.ext ((zlG k u.1 v.1).1 (by
  have h1:zbU k v.1 u.1≤0:=h;have h2:zbU k u.1 v.1≤0:=j;have:=zul k u.1 v.1
  omega))
 add_mono u v t s h j:=by
  rcases hk with rfl|rfl|rfl
  ·have h1:leE v.1 u.1:=h
   have h2:leE s.1 t.1:=j;show leE (zbD v.1 s.1) (zbD u.1 t.1);refine(zfD _ _ _).2 ⟨?_,?_⟩
   ·exact zdq ((zfD _ _ _).1 (zbQ (zbD v.1 s.1))).1 h1
   ·exact zdq ((zfD _ _ _).1 (zbQ (zbD v.1 s.1))).2 h2
  ·exact zDb u.2 v.2 t.2 s.2 h j
  ·have h1:leE u.1 v.1:=h
   have h2:leE t.1 s.1:=j;show leE (zbz u.1 t.1) (zbz v.1 s.1);refine(zfE _ _ _).2 ⟨?_,?_⟩
   ·exact zdq h1 ((zfE _ _ _).1 (zbQ (zbz v.1 s.1))).1
   ·exact zdq h2 ((zfE _ _ _).1 (zbQ (zbz v.1 s.1))).2
 mul_mono u v t h:=by
  have h2:=zsb hk v.2 u.2 t.2 h;show zbU k (zaX k t.1 v.1) (zaX k t.1 u.1)≤0;rw[zfj hk t.2 v.2,zfj hk t.2 u.2];exact h2
 zero_le u:=by
  rcases hk with rfl|rfl|rfl
  ·exact zbN _
  ·rcases zat u.1 u.2 with e|⟨x,e,hx⟩
   ·show leE (.inr 0) u.1;rw[e];exact zbN _
   ·show leE (.inr 0) u.1;rw[e];exact(zbi _ _).2 hx
  ·have hu:=u.2
   rw[← zcf] at hu;rcases zat u.1 hu with e|⟨x,e,hx⟩
   ·show leE (.inr 0) u.1;rw[e];exact zbN _
   ·show leE (.inr 0) u.1;rw[e];exact(zbi _ _).2 hx
 star_least a b x h:=by
  rcases hk with rfl|rfl|rfl
  ·exact znu a.1 b.1 x.1 h
  ·exact zoH a.1 b.1 x.1 a.2 b.2 x.2 h
  ·have h1:=a.2;have h2:=b.2;have h3:=x.2
   rw[← zcf] at h1 h2 h3;exact znv a.1 b.1 x.1 h1 h2 h3 h
def rs:Nat→(Nat→Rat)→Rat
 | 0,_=>0
 | n+1,f=>rs n f+f n
theorem zaL {f g:Nat→Rat}:∀ {n:Nat},(∀ m,m<n→f m=g m)→rs n f=rs n g
 | 0,_=>rfl
 | n+1,h=>by unfold rs;rw[zaL (fun m hm=>h m (by omega)),h n (by omega)]
theorem zfo (f g:Nat→Rat):∀ n,rs n (fun m=>f m+g m)=rs n f+rs n g
 | 0=>(Rat.add_zero 0).symm
 | n+1=>by unfold rs;rw[zfo f g n];grind
theorem zcG (c:Rat)(f:Nat→Rat):∀ n,rs n (fun m=>c * f m)=c * rs n f
 | 0=>by simp[rs]
 | n+1=>by unfold rs;rw[zcG c f n];grind
theorem zgK {f:Nat→Rat}:∀ {n:Nat},(∀ m,m<n→f m=0)→rs n f=0
 | 0,_=>rfl
 | n+1,h=>by unfold rs;rw[zgK (fun m hm=>h m (by omega)),h n (by omega)];grind
theorem zvA (f:Nat→Nat→Rat)(n:Nat):∀ k,rs n (fun i=>rs k (fun j=>f i j))=rs k (fun j=>rs n (fun i=>f i j))
 | 0=>zgK (fun _ _=>rfl)
 | k+1=>by
  show rs n (fun i=>rs k (fun j=>f i j)+f i k)=rs k (fun j=>rs n (fun i=>f i j))+rs n (fun i=>f i k);rw[zfo,zvA f n k]
theorem zhF {f g:Nat→Rat}:∀ {n:Nat},(∀ m,m<n→f m≤g m)→rs n f≤rs n g
 | 0,_=>Rat.le_refl
 | n+1,h=>by
  have h1:=zhF (n:=n) (fun m hm=>h m (by omega));have h2:=h n (by omega);unfold rs;grind
def sk (c x:Nat):Nat:=if x<c then x else x+1
theorem zGZ (c x:Nat):sk c x≠c:=by unfold sk;split <;> omega
theorem zEo {c x n:Nat}(h:x<n):sk c x<n+1:=by unfold sk;split <;> omega
theorem zEp (f:Nat→Rat){c:Nat}:∀ {n:Nat},c≤n→rs n (fun x=>f (sk c x))=rs (n+1) (fun b=>if b=c then 0 else f b)
 | 0,h=>by
  have:c=0:=by omega
  subst this;exact(Rat.add_zero 0).symm
 | n+1,h=>by
  by_cases e:c=n+1
  ·subst e
   show rs (n+1) (fun x=>f (sk (n+1) x))=rs (n+1) (fun b=>if b=n+1 then 0 else f b)+(if n+1=n+1 then 0 else f (n+1));rw[if_pos rfl,Rat.add_zero];refine zaL (fun m hm => ?_);rw[if_neg (by omega)];unfold sk;rw[if_pos hm]
  ·have ih:=zEp f (c:=c) (n:=n) (by omega)
   show rs n (fun x=>f (sk c x))+f (sk c n)=rs (n+1) (fun b=>if b=c then 0 else f b)+(if n+1=c then 0 else f (n+1));rw[ih,if_neg (fun h=>e h.symm)];have:sk c n=n+1:=by unfold sk;rw[if_neg (by omega)]
   rw[this]
def sg7 (c:Nat):Rat:=if c % 2=0 then 1 else -1
theorem zsz (c:Nat):sg7 (c+1) = -sg7 c:=by unfold sg7;split <;> split <;> (try omega) <;> grind
def dt:Nat→(Nat→Nat→Rat)→Rat
 | 0,_=>1
 | k+1,V=>rs (k+1) (fun c=>sg7 c * V 0 c * dt k (fun i x=>V (i+1) (sk c x)))
theorem zbh:∀ {k:Nat} {V W:Nat→Nat→Rat},(∀ i x,i<k→x<k→V i x=W i x)→dt k V=dt k W
 | 0,_,_,_=>rfl
 | k+1,V,W,h=>by
  unfold dt;refine zaL (fun c hc => ?_);rw[h 0 c (by omega) hc,zbh (fun i x hi hx=>h (i+1) (sk c x) (by omega) (zEo hx))]
def up (V:Nat→Nat→Rat)(r:Nat)(u:Nat→Rat)(i x:Nat):Rat:=if i=r then u x else V i x
theorem zeV:∀ {k:Nat} (V:Nat→Nat→Rat) {r:Nat} (u w:Nat→Rat) (s t:Rat),r<k→dt k (up V r (fun x=>s * u x+t * w x))=s * dt k (up V r u)+t * dt k (up V r w)
 | k+1,V,r,u,w,s,t,h=>by
  unfold dt;rw[← zcG,← zcG,← zfo];refine zaL (fun c hc => ?_)
  by_cases e:r=0
  ·subst e
   have e1:∀ z:Nat→Rat,dt k (fun i x=>up V 0 z (i+1) (sk c x))=dt k (fun i x=>V (i+1) (sk c x)):=fun z=>zbh (fun i x _ _=>by unfold up;rw[if_neg (by omega)]);rw[e1,e1,e1];simp only[up,if_true]
   grind
  ·obtain⟨r',rfl⟩:∃ r',r=r'+1:=⟨r - 1,by omega⟩
   have e1:∀ z:Nat→Rat,dt k (fun i x=>up V (r'+1) z (i+1) (sk c x))=dt k (up (fun i x=>V (i+1) (sk c x)) r' (fun x=>z (sk c x))):=fun z=>zbh (fun i x _ _=>by
    unfold up
    by_cases e2:i=r'
    ·rw[if_pos (by omega),if_pos e2]
    ·rw[if_neg (by omega),if_neg e2])
   rw[e1,e1,e1,zeV (fun i x=>V (i+1) (sk c x)) (fun x=>u (sk c x)) (fun x=>w (sk c x)) s t (by omega)];have e3:∀ z:Nat→Rat,up V (r'+1) z 0 c=V 0 c:=fun z=>by unfold up;rw[if_neg (by omega)]
   rw[e3,e3,e3]
   grind
theorem zHa {a b x:Nat}(h:a<b):sk a (sk (b - 1) x)=sk b (sk a x):=by
 unfold sk
 by_cases h1:x<a
 ·rw[if_pos h1,if_pos (show x<b - 1 by omega),if_pos h1,if_pos (by omega)]
 ·rw[if_neg h1]
  by_cases h2:x<b - 1
  ·rw[if_pos h2,if_neg h1,if_pos (by omega)]
  ·rw[if_neg h2,if_neg (by omega),if_neg (by omega)]
def d2 (k:Nat)(V:Nat→Nat→Rat)(a b:Nat):Rat:=dt k (fun i x=>V (i+2) (if a<b then sk a (sk (b - 1) x) else sk b (sk (a - 1) x)))
def s2 (a b:Nat):Rat:=if a=b then 0 else if a<b then sg7 a * sg7 (b - 1) else sg7 a * sg7 b
theorem zFr (a b:Nat):s2 b a = -s2 a b:=by
 unfold s2
 by_cases e:a=b
 ·subst e;rw[if_pos rfl];grind
 ·rw[if_neg e,if_neg (Ne.symm e)]
  by_cases h:a<b
  ·rw[if_pos h,if_neg (by omega)]
   obtain⟨c,rfl⟩:∃ c,b=c+1:=⟨b - 1,by omega⟩;rw[zsz,Nat.add_sub_cancel];grind
  ·rw[if_neg h,if_pos (by omega)]
   obtain⟨c,rfl⟩:∃ c,a=c+1:=⟨a - 1,by omega⟩;rw[zsz,Nat.add_sub_cancel];grind
theorem zFs (k:Nat)(V:Nat→Nat→Rat){a b:Nat}(h:a≠b):d2 k V a b=d2 k V b a:=by
 unfold d2
 by_cases h1:a<b
 ·simp only[h1,show ¬ b<a by omega,if_true,if_false]
 ·simp only[h1,show b<a by omega,if_true,if_false]
theorem zzV (k:Nat)(V:Nat→Nat→Rat):dt (k+2) V=rs (k+2) (fun a=>rs (k+2) (fun b=>s2 a b * V 0 a * V 1 b * d2 k V a b)):=by
 show rs (k+2) (fun a=>sg7 a * V 0 a * dt (k+1) (fun i x=>V (i+1) (sk a x)))=_;refine zaL (fun a ha => ?_);have h:=zEp (fun b=>s2 a b * V 0 a * V 1 b * d2 k V a b) (c:=a) (n:=k+1) (by omega)
 have h0:rs (k+2) (fun b=>if b=a then 0 else s2 a b * V 0 a * V 1 b * d2 k V a b)=rs (k+2) (fun b=>s2 a b * V 0 a * V 1 b * d2 k V a b):=by
  refine zaL (fun b _ => ?_)
  by_cases e:b=a
  ·subst e;rw[if_pos rfl];unfold s2;rw[if_pos rfl];grind
  ·rw[if_neg e]
 rw[← h0];refine Eq.trans ?_ h;show sg7 a * V 0 a * rs (k+1) (fun c=>sg7 c * V 1 (sk a c) * dt k (fun i x=>V (i+2) (sk a (sk c x))))=_;rw[← zcG];refine zaL (fun c hc => ?_);unfold s2 d2;rw[if_neg (Ne.symm (zGZ a c))]
 by_cases h1:c<a
 ·have e:sk a c=c:=by unfold sk;rw[if_pos h1]
  have n1:¬ a<c:=by omega
  rw[e];simp only[n1,if_false];have e2:dt k (fun i x=>V (i+2) (sk a (sk c x)))=dt k (fun i x=>V (i+2) (sk c (sk (a - 1) x))):=zbh (fun i x _ _=>by rw[zHa h1]);rw[e2];grind
 ·have e:sk a c=c+1:=by unfold sk;rw[if_neg h1]
  have n1:a<c+1:=by omega
  rw[e];simp only[n1,if_true,Nat.add_sub_cancel]
  grind
theorem zDc (k:Nat)(V W:Nat→Nat→Rat)(h0:∀ x,W 0 x=V 1 x)(h1:∀ x,W 1 x=V 0 x)(h:∀ i x,W (i+2) x=V (i+2) x):dt (k+2) W = -dt (k+2) V:=by
 rw[zzV,zzV,zvA]
 have e:(-(rs (k+2) (fun a=>rs (k+2) (fun b=>s2 a b * V 0 a * V 1 b * d2 k V a b))))=rs (k+2) (fun a=>rs (k+2) (fun b => -(s2 a b * V 0 a * V 1 b * d2 k V a b))):=by
  have h3:=zcG (-1) (fun a=>rs (k+2) (fun b=>s2 a b * V 0 a * V 1 b * d2 k V a b)) (k+2)
  have h4:∀ a,(-1:Rat) * rs (k+2) (fun b=>s2 a b * V 0 a * V 1 b * d2 k V a b)=rs (k+2) (fun b => -(s2 a b * V 0 a * V 1 b * d2 k V a b)):=fun a=>by
   rw[← zcG];exact zaL (fun b _=>by grind)
  rw[zaL (fun a _=>h4 a)] at h3
  grind
 rw[e];refine zaL (fun a _=>zaL (fun b _ => ?_));rw[h0,h1,zFr]
 by_cases e:a=b
 ·subst e;have:s2 a a=0:=by unfold s2;rw[if_pos rfl]
  rw[this];grind
 ·have e2:d2 k W b a=d2 k V a b:=by
   rw[zFs k V e];unfold d2;exact zbh (fun i x _ _=>h i _)
  rw[e2];grind
theorem zoI:∀ (k:Nat) (V W:Nat→Nat→Rat) {r:Nat},r+1<k→(∀ x,W r x=V (r+1) x)→(∀ x,W (r+1) x=V r x)→(∀ i x,i≠r→i≠r+1→W i x=V i x)→dt k W = -dt k V
 | k+1,V,W,0,hr,h0,h1,h=>by
  obtain⟨k',rfl⟩:∃ k',k=k'+1:=⟨k - 1,by omega⟩;exact zDc k' V W h0 h1 (fun i x=>h (i+2) x (by omega) (by omega))
 | k+1,V,W,r+1,hr,h0,h1,h=>by
  unfold dt
  have e : -(rs (k+1) (fun c=>sg7 c * V 0 c * dt k (fun i x=>V (i+1) (sk c x))))=rs (k+1) (fun c => -(sg7 c * V 0 c * dt k (fun i x=>V (i+1) (sk c x)))):=by
   have h3:=zcG (-1) (fun c=>sg7 c * V 0 c * dt k (fun i x=>V (i+1) (sk c x))) (k+1);rw[zaL (g:=fun c => -(sg7 c * V 0 c * dt k (fun i x=>V (i+1) (sk c x)))) (fun c _=>by grind)] at h3
   grind
  rw[e];refine zaL (fun c hc => ?_);rw[h 0 c (by omega) (by omega),zoI k (fun i x=>V (i+1) (sk c x)) (fun i x=>W (i+1) (sk c x)) (r:=r) (by omega) (fun x=>h0 _) (fun x=>h1 _) (fun i x hi hi2=>h (i+1) _ (by omega) (by omega))]
  grind
theorem zha:∀ (d k:Nat) (V:Nat→Nat→Rat) {r:Nat},r+d+1<k→(∀ x,V r x=V (r+d+1) x)→dt k V=0
 | 0,k,V,r,hr,h=>by
  have h1:=zoI k V V (r:=r) hr h (fun x=>(h x).symm) (fun _ _ _ _=>rfl)
  grind
 | d+1,k,V,r,hr,h=>by
  have h1:=zoI k V (fun i x=>if i=r+d+1 then V (r+d+2) x else if i=r+d+2 then V (r+d+1) x else V i x) (r:=r+d+1) (by omega) (fun x=>by rw[if_pos rfl]) (fun x=>by rw[if_neg (by omega),if_pos rfl]) (fun i x hi hi2=>by rw[if_neg hi,if_neg hi2])
  have h2:=zha d k (fun i x=>if i=r+d+1 then V (r+d+2) x else if i=r+d+2 then V (r+d+1) x else V i x) (r:=r) (by omega) (fun x=>by
   rw[if_neg (by omega),if_neg (by omega),if_pos rfl];exact h x)
  grind
theorem zDd {k:Nat}(V:Nat→Nat→Rat){r s:Nat}(t:Rat)(hr:r<k)(hs:s<r):dt k (up V r (fun x=>V r x+t * V s x))=dt k V:=by
 have h:=zeV V (V r) (V s) 1 t hr;have e1:dt k (up V r (V r))=dt k V:=zbh (fun i x _ _=>by unfold up;split;rename_i e;rw[e];rfl)
 have e2:dt k (up V r (V s))=0:=by
  obtain⟨d,rfl⟩:∃ d,r=s+d+1:=⟨r - s - 1,by omega⟩;exact zha d k _ (r:=s) hr (fun x=>by unfold up;rw[if_neg (by omega),if_pos rfl])
 rw[e1,e2] at h;rw[zbh (W:=up V r (fun x=>1 * V r x+t * V s x)) (fun i x _ _=>by unfold up;split;grind;rfl),h]
 grind
theorem zzW {k:Nat}(V:Nat→Nat→Rat)(x:Nat→Rat)(e:Nat→Rat)(h:∀ c,c<k+1→e c=rs (k+1) (fun i=>x i * V i c)):dt (k+1) (up V 0 e)=x 0 * dt (k+1) V:=by
 have step:∀ n,n≤k+1→dt (k+1) (up V 0 (fun c=>rs n (fun i=>x i * V i c)))=if n=0 then 0 else x 0 * dt (k+1) V:=fun n=>by
  induction n with
  | zero =>
   intro _;rw[if_pos rfl];have h2:=zeV V (k:=k+1) (r:=0) (fun _=>0) (fun _=>0) 0 0 (by omega);rw[zbh (W:=up V 0 (fun x=>(0:Rat) * 0+0 * 0)) (fun i x _ _=>by unfold up;split;exact(show(0:Rat)=0 * 0+0 * 0 by grind);rfl),h2]
   grind
  | succ n ih =>
   intro hn;rw[if_neg (Nat.succ_ne_zero n)];have h2:=zeV V (k:=k+1) (r:=0) (fun c=>rs n (fun i=>x i * V i c)) (V n) 1 (x n) (by omega);rw[zbh (W:=up V 0 (fun c=>1 * rs n (fun i=>x i * V i c)+x n * V n c)) (fun i c _ _=>by unfold up;split;exact(show rs n (fun i=>x i * V i c)+x n * V n c=1 * rs n (fun i=>x i * V i c)+x n * V n c by grind);rfl),h2,ih (by omega)]
   by_cases e:n=0
   ·subst e
    rw[if_pos rfl];have e1:dt (k+1) (up V 0 (V 0))=dt (k+1) V:=zbh (fun i x _ _=>by unfold up;split;rename_i e;rw[e];rfl);rw[e1];grind
   ·rw[if_neg e]
    have e2:dt (k+1) (up V 0 (V n))=0:=by
     obtain⟨d,rfl⟩:∃ d,n=0+d+1:=⟨n - 1,by omega⟩;exact zha d (k+1) _ (r:=0) (by omega) (fun x=>by unfold up;rw[if_pos rfl,if_neg (by omega)])
    rw[e2];grind
 have h1:=step (k+1) (Nat.le_refl _);rw[if_neg (by omega)] at h1;rw[← h1];exact zbh (fun i c _ hc=>by unfold up;split;exact h c hc;rfl)
theorem zoJ:∀ {k:Nat} (V:Nat→Nat→Rat) {x:Nat},x<k→(∀ i,V i x=0)→dt k V=0
 | k+1,V,x,hx,h=>by
  unfold dt;refine zgK (fun c hc => ?_)
  by_cases e:c=x
  ·subst e;rw[h 0];grind
  ·have:dt k (fun i y=>V (i+1) (sk c y))=0:=by
    by_cases hcx:c<x
    ·refine zoJ _ (x:=x - 1) (by omega) (fun i => ?_)
     have:sk c (x - 1)=x:=by unfold sk;rw[if_neg (by omega)];omega
     rw[this];exact h _
    ·refine zoJ _ (x:=x) (by omega) (fun i => ?_)
     have:sk c x=x:=by unfold sk;rw[if_pos (by omega)]
     rw[this];exact h _
   rw[this];grind
def isI (x:Rat):Prop:=∃ z:Int,x=z
theorem zik {x y:Rat}(hx:isI x)(hy:isI y):isI (x+y):=by obtain⟨a,rfl⟩:=hx;obtain⟨b,rfl⟩:=hy;exact⟨a+b,by rw[Rat.intCast_add]⟩
theorem zbV {x y:Rat}(hx:isI x)(hy:isI y):isI (x * y):=by obtain⟨a,rfl⟩:=hx;obtain⟨b,rfl⟩:=hy;exact⟨a * b,by rw[Rat.intCast_mul]⟩
theorem zzX {f:Nat→Rat}:∀ {n:Nat},(∀ m,m<n→isI (f m))→isI (rs n f)
 | 0,_=>⟨0,rfl⟩
 | n+1,h=>zik (zzX (fun m hm=>h m (by omega))) (h n (by omega))
theorem zFt (c:Nat):isI (sg7 c):=by unfold sg7;split;exact⟨1,rfl⟩;exact⟨-1,rfl⟩
theorem zkm:∀ {k:Nat} {V:Nat→Nat→Rat},(∀ i x,i<k→x<k→isI (V i x))→isI (dt k V)
 | 0,_,_=>⟨1,rfl⟩
 | k+1,V,h=>zzX (fun c hc=>zbV (zbV (zFt c) (h 0 c (by omega) hc)) (zkm (fun i x hi hx=>h (i+1) _ (by omega) (zEo hx))))
def ab (x:Rat):Rat:=if 0≤x then x else -x
theorem zbO (x:Rat):0≤ab x:=by unfold ab;split <;> grind
theorem zxd {x y:Rat}(h1:x≤y)(h2 : -x≤y):ab x≤y:=by unfold ab;split <;> grind
theorem zxe (x:Rat):x≤ab x:=by unfold ab;split <;> grind
theorem zkn (x:Rat) : -x≤ab x:=by unfold ab;split <;> grind
theorem zeH {x:Rat}(h:0≤x):ab x=x:=by unfold ab;rw[if_pos h]
theorem zzY (x y:Rat):ab (x+y)≤ab x+ab y:=by
 have:=zxe x;have:=zxe y;have:=zkn x;have:=zkn y;refine zxd ?_ ?_ <;> grind
theorem zil (x y:Rat):ab (x * y)=ab x * ab y:=by
 unfold ab
 by_cases hx:0≤x <;> by_cases hy:0≤y
 ·rw[if_pos hx,if_pos hy,if_pos (Rat.mul_nonneg hx hy)]
 ·rw[if_pos hx,if_neg hy]
  have h:=Rat.mul_nonneg hx (show 0 ≤ -y by grind)
  split <;> grind
 ·rw[if_neg hx,if_pos hy]
  have h:=Rat.mul_nonneg (show 0 ≤ -x by grind) hy
  split <;> grind
 ·rw[if_neg hx,if_neg hy]
  have h:=Rat.mul_nonneg (show 0 ≤ -x by grind) (show 0 ≤ -y by grind)
  split <;> grind
theorem zGs (c:Nat):ab (sg7 c)=1:=by unfold ab sg7;split <;> split <;> grind
theorem zEq (f:Nat→Rat):∀ n,ab (rs n f)≤rs n (fun m=>ab (f m))
 | 0=>by unfold ab rs;simp
 | n+1=>by
  have h1:=zEq f n;have h2:=zzY (rs n f) (f n);unfold rs;grind
theorem zcz {f:Nat→Rat}:∀ {n:Nat},(∀ m,m<n→0≤f m)→0≤rs n f
 | 0,_=>Rat.le_refl
 | n+1,h=>by
  have h1:=zcz (n:=n) (fun m hm=>h m (by omega));have h2:=h n (by omega);unfold rs;grind
def rp:Nat→(Nat→Rat)→Rat
 | 0,_=>1
 | n+1,f=>rp n f * f n
theorem zhb {f g:Nat→Rat}:∀ {n:Nat},(∀ m,m<n→f m=g m)→rp n f=rp n g
 | 0,_=>rfl
 | n+1,h=>by unfold rp;rw[zhb (fun m hm=>h m (by omega)),h n (by omega)]
theorem zpX {f:Nat→Rat}:∀ {n:Nat},(∀ m,m<n→0≤f m)→0≤rp n f
 | 0,_=>by unfold rp;grind
 | n+1,h=>Rat.mul_nonneg (zpX (fun m hm=>h m (by omega))) (h n (by omega))
theorem zhG {f g:Nat→Rat}:∀ {n:Nat},(∀ m,m<n→0≤f m)→(∀ m,m<n→f m≤g m)→rp n f≤rp n g
 | 0,_,_=>Rat.le_refl
 | n+1,h0,h=>by
  have h1:=zhG (n:=n) (fun m hm=>h0 m (by omega)) (fun m hm=>h m (by omega));have h2:=h n (by omega);have h3:=zpX (n:=n) (fun m hm=>h0 m (by omega));have h4:=h0 n (by omega);have h5:=Rat.mul_le_mul_of_nonneg_right h1 h4;have h6:=Rat.mul_le_mul_of_nonneg_left h2 (Rat.le_trans h3 h1);unfold rp;exact Rat.le_trans h5 h6
theorem zEr {s:Nat→Rat}{c n:Nat}(h:c≤n):rp (n+1) (fun x=>s (sk c x))=rp n (fun x=>s (sk c x)) * s (n+1):=by
 show rp n (fun x=>s (sk c x)) * s (sk c n)=_;have:sk c n=n+1:=by unfold sk;rw[if_neg (by omega)]
 rw[this]
theorem zpY {a s:Nat→Rat}(ha:∀ x,0≤a x)(hs:∀ x,0≤s x):∀ n,rs (n+1) (fun c=>a c * rp n (fun x=>s (sk c x)))≤rp (n+1) (fun x=>a x+s x)
 | 0=>by
  have:=hs 0;show 0+a 0 * 1≤1 * (a 0+s 0)
  grind
 | n+1=>by
  have ih:=zpY ha hs n
  have e1:rs (n+1) (fun c=>a c * rp (n+1) (fun x=>s (sk c x)))=s (n+1) * rs (n+1) (fun c=>a c * rp n (fun x=>s (sk c x))):=by
   rw[← zcG];refine zaL (fun c hc => ?_);rw[zEr (by omega)];grind
  have e2:rp (n+1) (fun x=>s (sk (n+1) x))=rp (n+1) s:=zhb (fun m hm=>by unfold sk;rw[if_pos hm]);show rs (n+1) (fun c=>a c * rp (n+1) (fun x=>s (sk c x)))+a (n+1) * rp (n+1) (fun x=>s (sk (n+1) x))≤rp (n+1) (fun x=>a x+s x) * (a (n+1)+s (n+1));rw[e1,e2];have h1:=Rat.mul_le_mul_of_nonneg_left ih (hs (n+1));have h2:=zhG (f:=s) (g:=fun x=>a x+s x) (n:=n+1) (fun m _=>hs m) (fun m _=>by have:=ha m;grind);have h3:=Rat.mul_le_mul_of_nonneg_left h2 (ha (n+1))
  grind
theorem zhc:∀ (k:Nat) (V:Nat→Nat→Rat),ab (dt k V)≤rp k (fun x=>rs k (fun i=>ab (V i x)))
 | 0,V=>by unfold ab dt rp;grind
 | k+1,V=>by
  have h1:=zEq (fun c=>sg7 c * V 0 c * dt k (fun i x=>V (i+1) (sk c x))) (k+1)
  have h2:rs (k+1) (fun c=>ab (sg7 c * V 0 c * dt k (fun i x=>V (i+1) (sk c x))))≤rs (k+1) (fun c=>ab (V 0 c) * rp k (fun x=>rs k (fun i=>ab (V (i+1) (sk c x))))):=by
   refine zhF (fun c hc => ?_);rw[zil,zil,zGs,Rat.one_mul];exact Rat.mul_le_mul_of_nonneg_left (zhc k (fun i x=>V (i+1) (sk c x))) (zbO _)
  have h3:=zpY (a:=fun x=>ab (V 0 x)) (s:=fun x=>rs k (fun i=>ab (V (i+1) x))) (fun x=>zbO _) (fun x=>zcz (fun m _=>zbO _)) k;refine Rat.le_trans h1 (Rat.le_trans h2 (Rat.le_trans h3 ?_));refine zhG (fun m _ => ?_) (fun m _ => ?_)
  ·have:=zbO (V 0 m);have:=zcz (f:=fun i=>ab (V (i+1) m)) (n:=k) (fun m _=>zbO _);grind
  ·have e:∀ n,rs (n+1) (fun i=>ab (V i m))=ab (V 0 m)+rs n (fun i=>ab (V (i+1) m)):=fun n=>by
    induction n with
    | zero=>show 0+ab (V 0 m)=ab (V 0 m)+0;grind
    | succ n ih =>
     show rs (n+1) (fun i=>ab (V i m))+ab (V (n+1) m)=ab (V 0 m)+(rs n (fun i=>ab (V (i+1) m))+ab (V (n+1) m));rw[ih];grind
   rw[e];exact Rat.le_refl
theorem zpZ (k:Nat)(V:Nat→Nat→Rat)(t:Nat→Rat):∀ r,r≤k→dt (k+1) (fun i x=>if 0<i∧i≤r then V i x+t i * V 0 x else V i x)=dt (k+1) V
 | 0,_=>zbh (fun i x _ _=>by rw[if_neg (by omega)])
 | r+1,h=>by
  have ih:=zpZ k V t r (by omega);have h2:=zDd (k:=k+1) (fun i x=>if 0<i∧i≤r then V i x+t i * V 0 x else V i x) (r:=r+1) (s:=0) (t (r+1)) (by omega) (by omega);rw[ih] at h2;rw[← h2];refine zbh (fun i x _ _ => ?_);unfold up
  by_cases e:i=r+1
  ·subst e
   rw[if_pos rfl]
   dsimp only
   rw[if_pos (show 0<r+1∧r+1≤r+1 by omega),if_neg (show ¬ (0<r+1∧r+1≤r) by omega),if_neg (show ¬ (0<0∧0≤r) by omega)]
  ·rw[if_neg e]
   dsimp only
   by_cases e2:0<i∧i≤r
   ·rw[if_pos (show 0<i∧i≤r+1 by omega),if_pos e2]
   ·rw[if_neg (show ¬ (0<i∧i≤r+1) by omega),if_neg e2]
def one1 (a:Nat→Nat→Rat)(x y:Nat):Rat:=a (x+1) (y+1)+a (x+1) 0 * a 0 (y+1) / (1 - a 0 0)
def idV (a:Nat→Nat→Rat)(y x:Nat):Rat:=(if x=y then 1 else 0) - a x y
theorem zDe (k:Nat)(a:Nat→Nat→Rat)(h:1 - a 0 0≠0):dt (k+1) (idV a)=(1 - a 0 0) * dt k (idV (one1 a)):=by
 rw[← zpZ k (idV a) (fun y=>a 0 y / (1 - a 0 0)) k (Nat.le_refl k)]
 have hz:∀ y,0<y→idV a y 0+a 0 y / (1 - a 0 0) * idV a 0 0=0:=fun y hy=>by
  unfold idV;rw[if_neg (by omega),if_pos rfl,Rat.div_mul_cancel h]
  grind
 have e:∀ n,rs (n+1) (fun c=>sg7 c * (if 0<0∧0≤k then idV a 0 c+a 0 0 / (1 - a 0 0) * idV a 0 c else idV a 0 c) * dt k (fun i x=>if 0<i+1∧i+1≤k then idV a (i+1) (sk c x)+a 0 (i+1) / (1 - a 0 0) * idV a 0 (sk c x) else idV a (i+1) (sk c x)))=(1 - a 0 0) * dt k (idV (one1 a))∨k<n:=fun n=>by
  induction n with
  | zero =>
   left
   show 0+sg7 0 * (if 0<0∧0≤k then idV a 0 0+a 0 0 / (1 - a 0 0) * idV a 0 0 else idV a 0 0) * dt k (fun i x=>if 0<i+1∧i+1≤k then idV a (i+1) (sk 0 x)+a 0 (i+1) / (1 - a 0 0) * idV a 0 (sk 0 x) else idV a (i+1) (sk 0 x))=_;rw[if_neg (by omega)];have e0:sg7 0=1:=rfl;have e1:idV a 0 0=1 - a 0 0:=by unfold idV;rw[if_pos rfl]
   have e2:dt k (fun i x=>if 0<i+1∧i+1≤k then idV a (i+1) (sk 0 x)+a 0 (i+1) / (1 - a 0 0) * idV a 0 (sk 0 x) else idV a (i+1) (sk 0 x))=dt k (idV (one1 a)):=by
    refine zbh (fun i x hi hx => ?_);rw[if_pos (by omega)];have:sk 0 x=x+1:=by unfold sk;rw[if_neg (by omega)]
    rw[this];unfold idV one1;rw[if_neg (show ¬ x+1=0 by omega)]
    by_cases e:x=i
    ·rw[if_pos e,if_pos (by omega)]
     rw[Rat.div_def,Rat.div_def];grind
    ·rw[if_neg e,if_neg (by omega)]
     rw[Rat.div_def,Rat.div_def];grind
   rw[e0,e1,e2];grind
  | succ n ih =>
   rcases ih with ih|ih
   ·by_cases hn:k<n+1
    ·exact .inr hn
    ·left
     have h0:dt k (fun i x=>if 0<i+1∧i+1≤k then idV a (i+1) (sk (n+1) x)+a 0 (i+1) / (1 - a 0 0) * idV a 0 (sk (n+1) x) else idV a (i+1) (sk (n+1) x))=0:=by
      rw[zbh (W:=fun i x=>idV a (i+1) (sk (n+1) x)+a 0 (i+1) / (1 - a 0 0) * idV a 0 (sk (n+1) x)) (fun i x hi hx=>by rw[if_pos (by omega)])];refine zoJ _ (x:=0) (by omega) (fun i => ?_);have:sk (n+1) 0=0:=by unfold sk;rw[if_pos (by omega)]
      rw[this];exact hz (i+1) (by omega)
     unfold rs;rw[ih]
     dsimp only
     rw[h0];grind
   ·exact .inr (by omega)
 rcases e k with h1|h1
 ·exact h1
 ·omega
open Go.RowKit
theorem zHb:zad 2 := .inr (.inl rfl)
def S2:Sr (El 2):=srE 2 zHb
def Fin2 (v:El 2):Prop:=∃ x,v.1 = .inr x
def val (v:El 2):Rat:=match v.1 with
 | .inr x=>x
 | _=>0
theorem El2.cases (v:El 2):v.1 = .inl true∨∃ x,v.1 = .inr x∧0≤x:=by
 rcases zat v.1 v.2 with h|⟨x,h,hx⟩
 ·exact .inl h
 ·exact .inr ⟨x,h,hx⟩
theorem zcg {v:El 2}:¬ Fin2 v↔v.1 = .inl true:=by
 constructor
 ·intro h
  rcases El2.cases v with h2|⟨x,h2,_⟩
  ·exact h2
  ·exact absurd ⟨x,h2⟩ h
 ·rintro h ⟨x,h2⟩
  rw[h] at h2;cases h2
theorem zhd {v:El 2}{x:Rat}(h:v.1 = .inr x):val v=x:=by unfold val;rw[h]
theorem zcC {v:El 2}(h:Fin2 v):v.1 = .inr (val v):=by obtain⟨x,hx⟩:=h;rw[zhd hx];exact hx
theorem zbB (v:El 2):0≤val v:=by
 rcases El2.cases v with h|⟨x,h,hx⟩
 ·unfold val;rw[h];exact Rat.le_refl
 ·rw[zhd h];exact hx
theorem zhe:Fin2 S2.zero:=⟨0,rfl⟩
theorem zda:val S2.zero=0:=rfl
theorem zvB {v:El 2}(hf:Fin2 v)(h:v≠S2.zero):val v≠0:=fun e=>h (Subtype.ext (by rw[zcC hf,e];rfl))
theorem zgL {u v:El 2}:Fin2 (S2.add u v)↔Fin2 u∧Fin2 v:=by
 constructor
 ·intro h
  refine⟨?_,?_⟩
  ·refine Classical.byContradiction (fun hn=>zcg.2 ?_ h)
   show sumE u.1 v.1=_;rw[zcg.1 hn,zbg]
  ·refine Classical.byContradiction (fun hn=>zcg.2 ?_ h)
   show sumE u.1 v.1=_;rw[zcg.1 hn,zaU]
 ·rintro ⟨⟨x,hx⟩,y,hy⟩
  exact⟨x+y,by show sumE u.1 v.1=_;rw[hx,hy,zbp]⟩
theorem zgM {u v:El 2}(hu:Fin2 u)(hv:Fin2 v):val (S2.add u v)=val u+val v:=zhd (by show sumE u.1 v.1=_;rw[zcC hu,zcC hv,zbp])
theorem zeW {u v:El 2}(hu:Fin2 u)(hv:Fin2 v):Fin2 (S2.mul u v):=⟨val u * val v,by show zaA u.1 v.1=_;rw[zcC hu,zcC hv,zaV]⟩
theorem zgN {u v:El 2}(hu:Fin2 u)(hv:Fin2 v):val (S2.mul u v)=val u * val v:=zhd (by show zaA u.1 v.1=_;rw[zcC hu,zcC hv,zaV])
theorem zoK {u v:El 2}(hu:u≠S2.zero)(hv:v.1 = .inl true):(S2.mul u v).1 = .inl true:=by
 show zaA u.1 v.1=_;rw[hv];rcases El2.cases u with h|⟨x,h,hx⟩
 ·rw[h,zbf]
 ·rw[h,zaE (fun e=>hu (Subtype.ext (by rw[h,e];rfl)))]
theorem zep {u v:El 2}(h:Fin2 (S2.mul u v))(hu:u≠S2.zero):Fin2 v:=Classical.byContradiction (fun hn=>zcg.2 (zoK hu (zcg.1 hn)) h)
theorem zfU {u v:El 2}(h:Fin2 (S2.mul u v))(hv:v≠S2.zero):Fin2 u:=zep (S2.mul_comm u v ▸ h) hv
theorem zim (u v:El 2)(hu:u≠S2.zero)(hv:v≠S2.zero):S2.mul u v≠S2.zero:=by
 intro e
 by_cases hf:Fin2 v
 ·by_cases hg:Fin2 u
  ·have h:=congrArg val e
   rw[zgN hg hf,zda] at h;rcases Rat.mul_eq_zero.1 h with h|h
   ·exact zvB hg hu h
   ·exact zvB hf hv h
  ·have h:=zoK hv (zcg.1 hg)
   rw[S2.mul_comm,e] at h;cases h
 ·have h:=zoK hu (zcg.1 hf)
  rw[e] at h;cases h
theorem znw {u v:El 2}(h:S2.le u v)(hv:Fin2 v):Fin2 u:=by
 refine Classical.byContradiction (fun hn => ?_);have h1:leE u.1 v.1:=h;rw[zcg.1 hn,zcC hv] at h1;exact zbw _ h1
theorem zin {f:Nat→El 2}:∀ {n:Nat},Fin2 (sm S2 n f)↔∀ m,m<n→Fin2 (f m)
 | 0=>⟨fun _ m hm=>by omega,fun _=>zhe⟩
 | n+1=>by
  show Fin2 (S2.add (sm S2 n f) (f n))↔_;rw[zgL,zin]
  constructor
  ·rintro ⟨h1,h2⟩ m hm
   by_cases e:m=n
   ·rw[e];exact h2
   ·exact h1 m (by omega)
  ·intro h
   exact⟨fun m hm=>h m (by omega),h n (by omega)⟩
theorem zsA {f:Nat→El 2}:∀ {n:Nat},(∀ m,m<n→Fin2 (f m))→val (sm S2 n f)=rs n (fun m=>val (f m))
 | 0,_=>rfl
 | n+1,h=>by
  show val (S2.add (sm S2 n f) (f n))=_;rw[zgM (zin.2 (fun m hm=>h m (by omega))) (h n (by omega)),zsA (fun m hm=>h m (by omega))]
  rfl
theorem zsB {u:El 2}(h:Fin2 (S2.mul (S2.star u) u)):Fin2 u∧val u<1∧Fin2 (S2.star u)∧val (S2.star u)=1 / (1 - val u):=by
 have key:∀ x:Rat,u.1 = .inr x→x<1→Fin2 u∧val u<1∧Fin2 (S2.star u)∧val (S2.star u)=1 / (1 - val u):=fun x hx h1=>by
  have e:(S2.star u).1 = .inr (1 / (1 - x)):=by
   show zcK 2 u.1=_;rw[hx];show(if x<1 then Sum.inr (1 / (1 - x)) else .inl true)=_;rw[if_pos h1]
  rw[zhd hx,zhd e];exact⟨⟨x,hx⟩,h1,⟨_,e⟩,rfl⟩
 by_cases hz:u=S2.zero
 ·exact key 0 (by rw[hz];rfl) (by decide +kernel)
 ·have hs:Fin2 (S2.star u):=zfU h hz
  have hsn:S2.star u≠S2.zero:=fun e=>by
   have h1:=S2.star_law u;rw[e] at h1;have h2:=S2.zero_left h1;have h3:=congrArg val h2;rw[zda] at h3;have:val S2.one=1:=rfl;rw[this] at h3
   revert h3;decide +kernel
  have hu:Fin2 u:=zep h hsn;refine key (val u) (zcC hu) (Classical.byContradiction (fun hn=>zcg.2 ?_ hs));show zcK 2 u.1=_;rw[zcC hu];show(if val u<1 then Sum.inr (1 / (1 - val u)) else .inl true)=_;rw[if_neg hn]
theorem zxf:∀ (r:Nat) (a:Nat→Nat→El 2),(∀ t x y,t≤r→x<r→y<r→Fin2 (el S2 a t x y))→dt r (idV (fun x y=>val (a x y)))≠0
 | 0,a,_=>by show(1:Rat)≠0;decide +kernel
 | r+1,a,h=>by
  have h1:Fin2 (S2.mul (S2.star (el S2 a 0 0 0)) (el S2 a 0 0 0)):=by
   have:=h 1 0 0 (by omega) (by omega) (by omega)
   rwa [zjJ] at this
  obtain⟨hu,hlt,hsf,hsv⟩:=zsB h1;have hlt2:val (a 0 0)<1:=hlt;have hne:1 - val (a 0 0)≠0:=fun e=>by grind
  rw[zDe r (fun x y=>val (a x y)) hne]
  have ih:=zxf r (fun x y=>el S2 a 1 (x+1) (y+1)) (fun t x y ht hx hy=>by
   rw[zeK];exact h (t+1) (x+1) (y+1) (by omega) (by omega) (by omega))
  have e:dt r (idV (one1 (fun x y=>val (a x y))))=dt r (idV (fun x y=>val (el S2 a 1 (x+1) (y+1)))):=by
   refine zbh (fun i x hi hx => ?_);unfold idV
   congr 1
   show one1 (fun x y=>val (a x y)) x i=val (S2.add (a (x+1) (i+1)) (S2.mul (S2.mul (a (x+1) 0) (S2.star (a 0 0))) (a 0 (i+1))));have f1:Fin2 (a (x+1) (i+1)):=h 0 (x+1) (i+1) (by omega) (by omega) (by omega);have f2:Fin2 (a (x+1) 0):=h 0 (x+1) 0 (by omega) (by omega) (by omega);have f3:Fin2 (a 0 (i+1)):=h 0 0 (i+1) (by omega) (by omega) (by omega);have hsf2:Fin2 (S2.star (a 0 0)):=hsf;have hsv2:val (S2.star (a 0 0))=1 / (1 - val (a 0 0)):=hsv;rw[zgM f1 (zeW (zeW f2 hsf2) f3),zgN (zeW f2 hsf2) f3,zgN f2 hsf2,hsv2];unfold one1;rw[Rat.div_def,Rat.div_def]
   grind
  rw[e];intro h0;rcases Rat.mul_eq_zero.1 h0 with h0|h0
  ·exact hne h0
  ·exact ih h0
open Go.RowKit
variable {α:Type}
theorem zsC (S:Sr α)(f:Nat→α):∀ n,sm S (n+1) f=S.add (f 0) (sm S n (fun m=>f (m+1)))
 | 0=>by show S.add S.zero (f 0)=S.add (f 0) S.zero;rw[S.add_comm]
 | n+1=>by
  show S.add (sm S (n+1) f) (f (n+1))=S.add (f 0) (S.add (sm S n (fun m=>f (m+1))) (f (n+1)));rw[zsC S f n,S.add_assoc]
theorem ziW (f:Nat→Rat):∀ n,rs (n+1) f=f 0+rs n (fun m=>f (m+1))
 | 0=>by show 0+f 0=f 0+0;grind
 | n+1=>by
  show rs (n+1) f+f (n+1)=f 0+(rs n (fun m=>f (m+1))+f (n+1));rw[ziW f n];grind
theorem zsD (f:Nat→Rat):∀ n,rp (n+1) f=f 0 * rp n (fun m=>f (m+1))
 | 0=>by show 1 * f 0=f 0 * 1;grind
 | n+1=>by
  show rp (n+1) f * f (n+1)=f 0 * (rp n (fun m=>f (m+1)) * f (n+1));rw[zsD f n];grind
theorem zlk (f:Nat→Rat):∀ {n c:Nat},c<n→rs n (fun y=>f y * (if c=y then 1 else 0))=f c
 | n+1,c,h=>by
  show rs n (fun y=>f y * (if c=y then 1 else 0))+f n * (if c=n then 1 else 0)=_
  by_cases e:c=n
  ·subst e
   rw[if_pos rfl,zgK (fun m hm=>by rw[if_neg (by omega)];grind)];grind
  ·rw[if_neg e,zlk f (by omega)];grind
theorem zvC (f:Nat→Rat)(p:Nat→Bool):∀ k,rs ((List.range k).filter p).length (fun x=>f (((List.range k).filter p).getD x 0))=rs k (fun m=>if p m=true then f m else 0)
 | 0=>rfl
 | k+1=>by
  have ih:=zvC f p k;show _=rs k (fun m=>if p m=true then f m else 0)+(if p k=true then f k else 0);rw[← ih,List.range_succ,List.filter_append]
  by_cases hk:p k=true
  ·rw[if_pos hk]
   have e1:[k].filter p=[k]:=by simp[hk]
   rw[e1,List.length_append,List.length_singleton];show rs ((List.range k).filter p).length (fun x=>f ((((List.range k).filter p)++[k]).getD x 0))+f ((((List.range k).filter p)++[k]).getD ((List.range k).filter p).length 0)=_
   have e2:(((List.range k).filter p)++[k]).getD ((List.range k).filter p).length 0=k:=by
    rw[List.getD_eq_getElem?_getD,List.getElem?_append_right (Nat.le_refl _),Nat.sub_self];rfl
   rw[e2]
   congr 1
   refine zaL (fun m hm => ?_);rw[List.getD_eq_getElem?_getD,List.getD_eq_getElem?_getD,List.getElem?_append_left hm]
  ·rw[if_neg hk]
   have e1:[k].filter p=[]:=by simp[hk]
   rw[e1,List.append_nil];grind
theorem zvD (f:Nat→Rat)(p:Nat→Bool):∀ k,rp ((List.range k).filter p).length (fun x=>f (((List.range k).filter p).getD x 0))=rp k (fun m=>if p m=true then f m else 1)
 | 0=>rfl
 | k+1=>by
  have ih:=zvD f p k;show _=rp k (fun m=>if p m=true then f m else 1) * (if p k=true then f k else 1);rw[← ih,List.range_succ,List.filter_append]
  by_cases hk:p k=true
  ·rw[if_pos hk]
   have e1:[k].filter p=[k]:=by simp[hk]
   rw[e1,List.length_append,List.length_singleton];show rp ((List.range k).filter p).length (fun x=>f ((((List.range k).filter p)++[k]).getD x 0)) * f ((((List.range k).filter p)++[k]).getD ((List.range k).filter p).length 0)=_
   have e2:(((List.range k).filter p)++[k]).getD ((List.range k).filter p).length 0=k:=by
    rw[List.getD_eq_getElem?_getD,List.getElem?_append_right (Nat.le_refl _),Nat.sub_self];rfl
   rw[e2]
   congr 1
   refine zhb (fun m hm => ?_);rw[List.getD_eq_getElem?_getD,List.getD_eq_getElem?_getD,List.getElem?_append_left hm]
  ·rw[if_neg hk]
   have e1:[k].filter p=[]:=by simp[hk]
   rw[e1,List.append_nil];grind
theorem zDf {p:Nat→Bool}{k x:Nat}(h:x<((List.range k).filter p).length):((List.range k).filter p).getD x 0<k∧p (((List.range k).filter p).getD x 0)=true:=by
 rw[List.getD_eq_getElem?_getD,List.getElem?_eq_getElem h];have:=List.mem_filter.1 (List.getElem_mem h);exact⟨List.mem_range.1 this.1,this.2⟩
theorem zhH {f:Nat→Rat}:∀ {n:Nat},(∀ m,m<n→1≤f m)→1≤rp n f
 | 0,_=>by unfold rp;grind
 | n+1,h=>by
  have h1:=zhH (n:=n) (fun m hm=>h m (by omega));have h2:=h n (by omega);have h3:=Rat.mul_le_mul_of_nonneg_left h2 (show 0≤rp n f by grind);unfold rp;grind
theorem zvE {f:Nat→Rat}{n:Nat}:∀ d,(∀ m,m<n+d→1≤f m)→rp n f≤rp (n+d) f
 | 0,_=>Rat.le_refl
 | d+1,h=>by
  have h1:=zvE (f:=f) (n:=n) d (fun m hm=>h m (by omega));have h2:=h (n+d) (by omega);have h3:=zhH (n:=n+d) (fun m hm=>h m (by omega));have h4:=Rat.mul_le_mul_of_nonneg_left h2 (show 0≤rp (n+d) f by grind);show rp n f≤rp (n+d) f * f (n+d)
  grind
theorem zzZ (D:Nat→Rat):∀ {n c:Nat},c≤n→rp (n+1) D=D c * rp n (fun x=>D (sk c x))
 | 0,c,h=>by
  have:c=0:=by omega
  subst this;show 1 * D 0=D 0 * 1;grind
 | n+1,c,h=>by
  by_cases e:c=n+1
  ·subst e
   rw[zhb (f:=fun x=>D (sk (n+1) x)) (g:=D) (fun m hm=>by unfold sk;rw[if_pos hm])];show rp (n+1) D * D (n+1)=_
   grind
  ·have ih:=zzZ D (c:=c) (n:=n) (by omega)
   rw[zEr (by omega)];show rp (n+1) D * D (n+1)=_;rw[ih];grind
theorem zmi:∀ (k:Nat) (D:Nat→Rat) (V:Nat→Nat→Rat),dt k (fun i x=>D x * V i x)=rp k D * dt k V
 | 0,D,V=>by show(1:Rat)=1 * 1;grind
 | k+1,D,V=>by
  show rs (k+1) (fun c=>sg7 c * (D c * V 0 c) * dt k (fun i x=>D (sk c x) * V (i+1) (sk c x)))=rp (k+1) D * rs (k+1) (fun c=>sg7 c * V 0 c * dt k (fun i x=>V (i+1) (sk c x)));rw[← zcG];refine zaL (fun c hc => ?_);rw[zmi k (fun x=>D (sk c x)) (fun i x=>V (i+1) (sk c x)),zzZ D (c:=c) (n:=k) (by omega)]
  grind
theorem zfG {A:Nat→Nat→El 2}{k i j:Nat}(h:Fin2 (el S2 A k i j)):Fin2 (A i j)∧∀ m,m<k→Fin2 (S2.mul (A i m) (el S2 A k m j)):=by
 rw[zbF S2 A k i j] at h;have h2:=zgL.1 h;exact⟨h2.1,zin.1 h2.2⟩
theorem ziX {A:Nat→Nat→El 2}{k i j m:Nat}(hr:Rch S2 A k i m)(hm:m<k)(h:Fin2 (el S2 A k i j)):Fin2 (el S2 A k m j):=by
 induction hr with
 | one h1=>exact zep ((zfG h).2 _ hm) h1
 | more hl h1 _ ih=>exact ih hm (zep ((zfG h).2 _ hl) h1)
theorem ziY {A:Nat→Nat→El 2}{k x j v:Nat}(hv:v<k)(hn:el S2 A k v j≠S2.zero)(h:Fin2 (el S2 A k x j)):Fin2 (el S2 A k x v):=by
 have h1:Rch S2 (fun a b=>A b a) k j v:=zfe S2 _ k j v (by rw[zec];exact hn);have h2:=ziX (A:=fun a b=>A b a) (j:=x) h1 hv (by rw[zec];exact h)
 rwa [zec] at h2
open Classical in
noncomputable def onB (A:Nat→Nat→El 2)(k i j m:Nat):Bool:=decide (el S2 A k i m≠S2.zero∧el S2 A k m j≠S2.zero)
theorem zvF {A:Nat→Nat→El 2}{k i j m:Nat}:onB A k i j m=true↔el S2 A k i m≠S2.zero∧el S2 A k m j≠S2.zero:=by unfold onB;simp
noncomputable def onL (A:Nat→Nat→El 2)(k i j:Nat):List Nat:=(List.range k).filter (onB A k i j)
noncomputable def nd (A:Nat→Nat→El 2)(k i j c:Nat):Nat:=if c=0 then i else (onL A k i j).getD (c - 1) 0
noncomputable def onA (A:Nat→Nat→El 2)(k i j x y:Nat):El 2:=if y=0 then S2.zero else A (nd A k i j x) (nd A k i j y)
theorem zio (A:Nat→Nat→El 2)(k i j c:Nat):nd A k i j (c+1)=(onL A k i j).getD c 0:=by unfold nd;rw[if_neg (by omega),Nat.add_sub_cancel]
theorem znx {A:Nat→Nat→El 2}{k i j c:Nat}(h:c<(onL A k i j).length):nd A k i j (c+1)<k∧el S2 A k i (nd A k i j (c+1))≠S2.zero∧el S2 A k (nd A k i j (c+1)) j≠S2.zero:=by
 rw[zio];have:=zDf h;exact⟨this.1,zvF.1 this.2⟩
section
variable {A:Nat→Nat→El 2} {k i j:Nat}
theorem ziq (h:Fin2 (el S2 A k i j)){c:Nat}(hc:c<(onL A k i j).length+1):Fin2 (el S2 A k (nd A k i j c) j):=by
 cases c with
 | zero=>exact h
 | succ c =>
  obtain⟨h1,h2,_⟩:=znx (show c<(onL A k i j).length by omega);exact ziX (zfe S2 A k i _ h2) h1 h
theorem zsE (h:Fin2 (el S2 A k i j)){c y:Nat}(hc:c<(onL A k i j).length+1)(hy:y<(onL A k i j).length):Fin2 (A (nd A k i j c) (nd A k i j (y+1))):=by
 obtain⟨h1,_,h3⟩:=znx hy;exact zfU ((zfG (ziq h hc)).2 _ h1) h3
theorem zDg (h:Fin2 (el S2 A k i j)){c m:Nat}(hc:c<(onL A k i j).length+1)(hm:m<k)(hp:¬ onB A k i j m=true):S2.mul (A (nd A k i j c) m) (el S2 A k m j)=S2.zero:=by
 refine Classical.byContradiction (fun hn=>hp (zvF.2 ?_));have h1:A (nd A k i j c) m≠S2.zero:=fun e=>hn (by rw[e,S2.zero_mul]);have h2:el S2 A k m j≠S2.zero:=fun e=>hn (by rw[e,S2.mul_zero]);refine⟨?_,h2⟩;cases c with
 | zero=>exact zie S2 zim A (.one h1)
 | succ c =>
  obtain⟨g1,g2,_⟩:=znx (show c<(onL A k i j).length by omega);exact zie S2 zim A ((zfe S2 A k i _ g2).trans g1 (.one h1))
theorem zGt (h:Fin2 (el S2 A k i j)){c:Nat}(hc:c<(onL A k i j).length+1) :
  sm S2 (onL A k i j).length (fun y=>S2.mul (A (nd A k i j c) (nd A k i j (y+1))) (el S2 A k (nd A k i j (y+1)) j))=sm S2 k (fun m=>S2.mul (A (nd A k i j c) m) (el S2 A k m j)):=by
 have e:=zoj S2 (fun m=>S2.mul (A (nd A k i j c) m) (el S2 A k m j)) (onB A k i j) k;rw[zal S2 (g:=fun x=>S2.mul (A (nd A k i j c) ((onL A k i j).getD x 0)) (el S2 A k ((onL A k i j).getD x 0) j)) (fun y _=>by rw[zio])];refine e.trans (zal S2 (fun m hm => ?_))
 by_cases hp:onB A k i j m=true
 ·rw[if_pos hp]
 ·rw[if_neg hp];exact(zDg h hc hm hp).symm
theorem zGu (h:Fin2 (el S2 A k i j)){t x y:Nat}(ht:t≤(onL A k i j).length+1)(hx:x<(onL A k i j).length+1)(hy:y<(onL A k i j).length+1):Fin2 (el S2 (onA A k i j) t x y):=by
 have hfull:Fin2 (el S2 (onA A k i j) ((onL A k i j).length+1) x y):=by
  cases y with
  | zero =>
   rw[zeJ];refine zgL.2 ⟨zhe,zin.2 (fun m _ => ?_)⟩;have:onA A k i j m 0=S2.zero:=by unfold onA;rw[if_pos rfl]
   rw[this,S2.mul_zero];exact zhe
  | succ y =>
   obtain⟨g1,g2,g3⟩:=znx (show y<(onL A k i j).length by omega);have hX:Fin2 (el S2 A k (nd A k i j x) (nd A k i j (y+1))):=ziY g1 g3 (ziq h hx);refine znw ?_ hX;have hl:=zfx S2 (onA A k i j) (fun x=>onA A k i j x (y+1)) (fun x=>el S2 A k (nd A k i j x) (nd A k i j (y+1))) (n:=(onL A k i j).length+1) (fun x hx => ?_) ((onL A k i j).length+1) (Nat.le_refl _) x hx
   ·rw[zeJ]
    rw[zal S2 (g:=fun m=>S2.mul (el S2 (onA A k i j) ((onL A k i j).length+1) x m) (onA A k i j m (y+1))) (fun m hm=>by rw[if_pos hm])] at hl;exact hl
   ·have e0:onA A k i j x (y+1)=A (nd A k i j x) (nd A k i j (y+1)):=by unfold onA;rw[if_neg (by omega)]
    rw[e0,zbF S2 A k (nd A k i j x) (nd A k i j (y+1))];refine S2.add_mono _ _ _ _ (S2.le_refl _) ?_;rw[zsC]
    have e1:S2.mul (onA A k i j x 0) (el S2 A k (nd A k i j 0) (nd A k i j (y+1)))=S2.zero:=by
     have:onA A k i j x 0=S2.zero:=by unfold onA;rw[if_pos rfl]
     rw[this,S2.zero_mul]
    rw[e1,S2.zero_add];have e2:=zoj S2 (fun m=>S2.mul (A (nd A k i j x) m) (el S2 A k m (nd A k i j (y+1)))) (onB A k i j) k
    have e3:sm S2 (onL A k i j).length (fun m=>S2.mul (onA A k i j x (m+1)) (el S2 A k (nd A k i j (m+1)) (nd A k i j (y+1))))=sm S2 ((List.range k).filter (onB A k i j)).length (fun z=>S2.mul (A (nd A k i j x) (((List.range k).filter (onB A k i j)).getD z 0)) (el S2 A k (((List.range k).filter (onB A k i j)).getD z 0) (nd A k i j (y+1)))):=by
     refine zal S2 (fun m _ => ?_);have:onA A k i j x (m+1)=A (nd A k i j x) (nd A k i j (m+1)):=by unfold onA;rw[if_neg (by omega)]
     rw[this,zio A k i j m]
     rfl
    rw[e3,e2];refine zgF S2 (fun m _ => ?_)
    by_cases hp:onB A k i j m=true
    ·rw[if_pos hp];exact S2.le_refl _
    ·rw[if_neg hp];exact S2.zero_le _
 have hg:=zok S2 (onA A k i j) x y ((onL A k i j).length+1 - t) t;rw[show t+((onL A k i j).length+1 - t)=(onL A k i j).length+1 by omega] at hg;exact znw hg hfull
theorem zHc (h:Fin2 (el S2 A k i j)){c:Nat}(hc:c<(onL A k i j).length+1) :
  val (A (nd A k i j c) j)=rs ((onL A k i j).length+1) (fun y=>val (el S2 A k (nd A k i j y) j) * idV (fun x y=>val (onA A k i j x y)) y c):=by
 have hB:=ziq h hc;have hr:=zfG hB;have e1:=congrArg val (zbF S2 A k (nd A k i j c) j);rw[zgM hr.1 (zin.2 hr.2),← zGt h hc,zsA (fun m hm=>zeW (zsE h hc hm) (ziq h (by omega)))] at e1;rw[zaL (g:=fun m=>val (A (nd A k i j c) (nd A k i j (m+1))) * val (el S2 A k (nd A k i j (m+1)) j)) (fun m hm=>zgN (zsE h hc hm) (ziq h (by omega)))] at e1
 have e2:rs ((onL A k i j).length+1) (fun y=>val (el S2 A k (nd A k i j y) j) * idV (fun x y=>val (onA A k i j x y)) y c)=rs ((onL A k i j).length+1) (fun y=>val (el S2 A k (nd A k i j y) j) * (if c=y then 1 else 0))+rs ((onL A k i j).length+1) (fun y=>(-1) * (val (onA A k i j c y) * val (el S2 A k (nd A k i j y) j))):=by
  rw[← zfo];refine zaL (fun y _ => ?_);unfold idV
  grind
 rw[e2,zlk (fun y=>val (el S2 A k (nd A k i j y) j)) hc,zcG,ziW];have e3:val (onA A k i j c 0)=0:=by unfold onA;rw[if_pos rfl];exact zda
 have e4:rs (onL A k i j).length (fun m=>val (onA A k i j c (m+1)) * val (el S2 A k (nd A k i j (m+1)) j))=rs (onL A k i j).length (fun m=>val (A (nd A k i j c) (nd A k i j (m+1))) * val (el S2 A k (nd A k i j (m+1)) j)):=by
  refine zaL (fun m _ => ?_);have:onA A k i j c (m+1)=A (nd A k i j c) (nd A k i j (m+1)):=by unfold onA;rw[if_neg (by omega)]
  rw[this]
 rw[e3,e4,e1]
 grind
end
open Go.RowKit
section
variable {k:Int}
def tx (v:El k):ByteArray:=extT v.1
def FitE (v:El k):Prop:=Fits v.1
def calV (k:Int):Value := .agg #[.int .i64 k,.string (zaf k),.string (oneT k)]
def facV (k:Int)(a:ByteArray):Value := .agg #[.int .i64 k,.string (zaf k),.string (oneT k),.string a]
def zir (P:Prop)(V:Value)(w:World)(e:Ending)(w':World):Prop:=(P∧zab V w e w')∨(¬ P∧zeh 2 w e w')
theorem zll {v:El k}(h:FitE v):IsE (tx v) v.1:=zvw h
theorem zbI {v:El k}(h:FitE v):Val k (tx v) v.1:=⟨zll h,v.2⟩
theorem zdj (hk:zad k):tx (srE k hk).zero=zaf k:=(zDa hk).text.symm
theorem zny (hk:zad k):tx (srE k hk).one=oneT k:=(zoG hk).text.symm
theorem zbR (hk:zad k):FitE (srE k hk).zero:=(zcW k).fits (by omega)
theorem zlm (hk:zad k):FitE (srE k hk).one:=(zgw k).fits (by omega)
theorem zez {u v:El k}(hu:FitE u)(hv:FitE v)(h:tx u=tx v):u=v:=Subtype.ext ((zll hu).uniq (h ▸ zll hv))
theorem zeq (hk:zad k){u:El k}(hu:FitE u)(h:tx u=zaf k):u=(srE k hk).zero:=zez hu (zbR hk) (by rw[h,zdj])
theorem zqa (hk:zad k){u:El k}(hu:FitE u)(h:tx u=oneT k):u=(srE k hk).one:=zez hu (zlm hk) (by rw[h,zny])
theorem zhf {v:Ext}(h:¬ Fits v):extV v = .tuple #[.string ⟨#[]⟩,.int .i64 2]:=by
 rcases v with(_|_)|x
 ·exact absurd trivial h
 ·exact absurd trivial h
 ·exact zhr h
theorem zcR (a b:ByteArray):((a.toList == b.toList)=true∧a=b)∨((a.toList == b.toList)=false∧a≠b):=by
 by_cases h:a=b
 ·left;exact⟨by rw[h];exact beq_self_eq_true _,h⟩
 ·right
  refine⟨?_,h⟩;rw[Bool.eq_false_iff];intro e;have:=eq_of_beq e;rw[Lib.toList_data,Lib.toList_data] at this;exact h (ByteArray.ext (Array.ext' this))
theorem zmj (a:ByteArray)(w:World):Calls Tryz.prog 102 #[.string a,.int .i64 0] w (zab (.string a) w):=by
 go_enter Tryz.func102,Tryz.ntmps102;go_wp2;go_ret;exact⟨rfl,zag _ _⟩
theorem zko (a:ByteArray)(w:World):Calls Tryz.prog 102 #[.string a,.int .i64 2] w (zeh 2 w):=by
 go_enter Tryz.func102,Tryz.ntmps102;go_wp2;exact⟨rfl,rfl,zag _ _⟩
theorem zhI (hk:zad k){u v:El k}(hu:FitE u)(hv:FitE v)(w:World) :
  Calls Tryz.prog 87 #[calV k,.string (tx u),.string (tx v)] w (zir (FitE ((srE k hk).add u v)) (.string (tx ((srE k hk).add u v))) w):=by
 unfold calV;rcases zcR (tx u) (zaf k) with⟨f1,e1⟩|⟨f1,e1⟩
 ·have hz:=zeq hk hu e1
  have hs:(srE k hk).add u v=v:=by rw[hz,(srE k hk).zero_add]
  rw[hs];have HFV:=zHd hv;clear hs hz e1;go_enter Tryz.func87,Tryz.ntmps87;go_wp2;go_ret;exact .inl ⟨HFV.out,rfl,zGA _ _ _⟩
 ·rcases zcR (tx v) (zaf k) with⟨f2,e2⟩|⟨f2,e2⟩
  ·have hz:=zeq hk hv e2
   have hs:(srE k hk).add u v=u:=by rw[hz,(srE k hk).add_zero]
   rw[hs];clear hs hz e2 e1;go_enter Tryz.func87,Tryz.ntmps87;go_wp2;go_ret;exact .inl ⟨hu,rfl,zGA _ _ _⟩
  ·have hp:=zpW (zbI hu) (zbI hv)
   clear e1 e2
   by_cases hf:FitE ((srE k hk).add u v)
   ·have e:extV (zcm k u.1 v.1) = .tuple #[.string (tx ((srE k hk).add u v)),.int .i64 0]:=zjZ hf
    rw[e] at hp;have HP:=zHd hp;have HFF:=zHd hf;clear hp e hf;generalize (srE k hk).add u v=s at *;go_enter Tryz.func87,Tryz.ntmps87;go_wp2_with fail;refine(HP.out _).mono ?_;rintro e w1 ⟨rfl,hg1⟩;go_wp2_with fail;refine(zmj _ _).mono ?_;rintro e w2 ⟨rfl,hg2⟩;have HG:=zHd (zaa (zaa (zGA _ _ none) hg1) hg2);clear hg1 hg2;go_wp2;go_ret;exact .inl ⟨HFF.out,rfl,HG.out⟩
   ·have e:extV (zcm k u.1 v.1) = .tuple #[.string ⟨#[]⟩,.int .i64 2]:=zhf hf
    rw[e] at hp;have HP:=zHd hp;have HF:=zHd hf;clear hp e hf;go_enter Tryz.func87,Tryz.ntmps87;go_wp2_with fail;refine(HP.out _).mono ?_;rintro e w1 ⟨rfl,hg1⟩;go_wp2_with fail;refine(zko _ _).mono ?_;rintro e w2 ⟨rfl,hg2⟩;exact⟨rfl,.inr ⟨HF.out,rfl,zaa (zaa (zGA _ _ none) hg1) hg2⟩⟩
theorem znz (hk:zad k){u v:El k}(hu:FitE u)(hv:FitE v)(w:World) :
  Calls Tryz.prog 59 #[calV k,.string (tx u),.string (tx v)] w (zir (FitE ((srE k hk).mul u v)) (.string (tx ((srE k hk).mul u v))) w):=by
 unfold calV;rcases zcR (tx u) (zaf k) with⟨f1,e1⟩|⟨f1,e1⟩
 ·have hz:=zeq hk hu e1
  have hs:(srE k hk).mul u v=u:=by rw[hz,(srE k hk).zero_mul]
  rw[hs];clear hs hz e1;go_enter Tryz.func59,Tryz.ntmps59;go_wp2;go_ret;exact .inl ⟨hu,rfl,zGA _ _ _⟩
 ·rcases zcR (tx v) (oneT k) with⟨f2,e2⟩|⟨f2,e2⟩
  ·have hz:=zqa hk hv e2
   have hs:(srE k hk).mul u v=u:=by rw[hz,(srE k hk).mul_one]
   rw[hs];clear hs hz e2 e1;go_enter Tryz.func59,Tryz.ntmps59;go_wp2;go_ret;exact .inl ⟨hu,rfl,zGA _ _ _⟩
  ·rcases zcR (tx v) (zaf k) with⟨f3,e3⟩|⟨f3,e3⟩
   ·have hz:=zeq hk hv e3
    have hs:(srE k hk).mul u v=v:=by rw[hz,(srE k hk).mul_zero]
    rw[hs];clear hs hz e2 e1 e3;go_enter Tryz.func59,Tryz.ntmps59;go_wp2;go_ret;exact .inl ⟨hv,rfl,zGA _ _ _⟩
   ·rcases zcR (tx u) (oneT k) with⟨f4,e4⟩|⟨f4,e4⟩
    ·have hz:=zqa hk hu e4
     have hs:(srE k hk).mul u v=v:=by rw[hz,(srE k hk).one_mul]
     rw[hs];clear hs hz e2 e1 e3 e4;go_enter Tryz.func59,Tryz.ntmps59;go_wp2;go_ret;exact .inl ⟨hv,rfl,zGA _ _ _⟩
    ·have hp:=znt (zbI hu) (zbI hv)
     clear e1 e2 e3 e4
     by_cases hf:FitE ((srE k hk).mul u v)
     ·have e:extV (zaX k u.1 v.1) = .tuple #[.string (tx ((srE k hk).mul u v)),.int .i64 0]:=zjZ hf
      rw[e] at hp;have HP:=zHd hp;have HFF:=zHd hf;clear hp e hf;generalize (srE k hk).mul u v=s at *;go_enter Tryz.func59,Tryz.ntmps59;go_wp2_with fail;refine(HP.out _).mono ?_;rintro e w1 ⟨rfl,hg1⟩;go_wp2_with fail;refine(zmj _ _).mono ?_;rintro e w2 ⟨rfl,hg2⟩;have HG:=zHd (zaa (zaa (zGA _ _ none) hg1) hg2);clear hg1 hg2;go_wp2;go_ret;exact .inl ⟨HFF.out,rfl,HG.out⟩
     ·have e:extV (zaX k u.1 v.1) = .tuple #[.string ⟨#[]⟩,.int .i64 2]:=zhf hf
      rw[e] at hp;have HP:=zHd hp;have HF:=zHd hf;clear hp e hf;go_enter Tryz.func59,Tryz.ntmps59;go_wp2_with fail;refine(HP.out _).mono ?_;rintro e w1 ⟨rfl,hg1⟩;go_wp2_with fail;refine(zko _ _).mono ?_;rintro e w2 ⟨rfl,hg2⟩;exact⟨rfl,.inr ⟨HF.out,rfl,zaa (zaa (zGA _ _ none) hg1) hg2⟩⟩
theorem zAa (hk:zad k){u:El k}(hu:FitE u)(w:World) :
  Calls Tryz.prog 166 #[calV k,.string (tx u)] w (zir (FitE ((srE k hk).star u)) (.string (tx ((srE k hk).star u))) w):=by
 unfold calV;have hp:=zzT (zbI hu)
 by_cases hf:FitE ((srE k hk).star u)
 ·have e:extV (zcK k u.1) = .tuple #[.string (tx ((srE k hk).star u)),.int .i64 0]:=zjZ hf
  rw[e] at hp;have HP:=zHd hp;have HFF:=zHd hf;clear hp e hf;generalize (srE k hk).star u=s at *;go_enter Tryz.func166,Tryz.ntmps166;go_wp2_with fail;refine(HP.out _).mono ?_;rintro e w1 ⟨rfl,hg1⟩;go_wp2_with fail;refine(zmj _ _).mono ?_;rintro e w2 ⟨rfl,hg2⟩;have HG:=zHd (zaa (zaa (zGA _ _ none) hg1) hg2);clear hg1 hg2;go_wp2;go_ret;exact .inl ⟨HFF.out,rfl,HG.out⟩
 ·have e:extV (zcK k u.1) = .tuple #[.string ⟨#[]⟩,.int .i64 2]:=zhf hf
  rw[e] at hp;have HP:=zHd hp;have HF:=zHd hf;clear hp e hf;go_enter Tryz.func166,Tryz.ntmps166;go_wp2_with fail;refine(HP.out _).mono ?_;rintro e w1 ⟨rfl,hg1⟩;go_wp2_with fail;refine(zko _ _).mono ?_;rintro e w2 ⟨rfl,hg2⟩;exact⟨rfl,.inr ⟨HF.out,rfl,zaa (zaa (zGA _ _ none) hg1) hg2⟩⟩
theorem zkp (hk:zad k){u v:El k}(hu:FitE u)(hv:FitE v)(w:World) :
  Calls Tryz.prog 167 #[facV k (tx u),.string (tx v)] w (zir (FitE ((srE k hk).mul u v)) (.string (tx ((srE k hk).mul u v))) w):=by
 have ht:=fun w'=>znz hk hu hv w';unfold facV;unfold calV at *;have HT:=zHd ht;clear ht;go_enter Tryz.func167,Tryz.ntmps167;go_wp2_with fail;refine(HT.out _).mono ?_;rintro e w1 (⟨hp,rfl,hg⟩|⟨hn,rfl,hg⟩)
 ·have HG:=zHd hg;have HPP:=zHd hp
  clear hg HT hp;go_wp2;go_ret;exact .inl ⟨HPP.out,rfl,zaa (zGA _ _ none) HG.out⟩
 ·exact⟨rfl,.inr ⟨hn,rfl,zaa (zGA _ _ none) hg⟩⟩
theorem zak (w:World)(cur:Array Value)(t:TypeId){j:Nat}{u:Value}(h:cur[j]? = some u):(w.alloc (.cells cur t)).cell? ⟨w.heap.size,j,none⟩=some u:=by
 rw[cell_of_row (w.alloc (.cells cur t)) w.heap.size j cur t (0,0) (by show(w.heap.push _)[w.heap.size]? = _;rw[Array.getElem?_push_size])];exact h
theorem znA (hk:zad k){u v t:El k}(hu:FitE u)(hv:FitE v)(ht:FitE t)(w:World) :
  Calls Tryz.prog 135 #[facV k (tx u),.string (tx t),.string (tx v)] w (zir (FitE ((srE k hk).mul u v)∧FitE ((srE k hk).add t ((srE k hk).mul u v))) (.string (tx ((srE k hk).add t ((srE k hk).mul u v)))) w):=by
 have h1:=fun w'=>zkp hk hu hv w';have h2:=fun(hm:FitE ((srE k hk).mul u v)) w'=>zhI hk ht hm w';generalize (srE k hk).mul u v=p at *;generalize (srE k hk).add t p=s at *;unfold facV at *;unfold calV at *;have H1:=zHd h1;have H2:=zHd h2;clear h1 h2;go_enter Tryz.func135,Tryz.ntmps135;go_upto_region 1 with(fail)
 have x0:(w.alloc (.cells #[.int .i64 k,.string (zaf k),.string (oneT k),.string (tx u)] 129)).cell? ⟨w.heap.size,0,none⟩=some (.int .i64 k):=zak w _ _ rfl;have x1:(w.alloc (.cells #[.int .i64 k,.string (zaf k),.string (oneT k),.string (tx u)] 129)).cell? ⟨w.heap.size,1,none⟩=some (.string (zaf k)):=zak w _ _ rfl;have x2:(w.alloc (.cells #[.int .i64 k,.string (zaf k),.string (oneT k),.string (tx u)] 129)).cell? ⟨w.heap.size,2,none⟩=some (.string (oneT k)):=zak w _ _ rfl;have x3:(w.alloc (.cells #[.int .i64 k,.string (zaf k),.string (oneT k),.string (tx u)] 129)).cell? ⟨w.heap.size,3,none⟩=some (.string (tx u)):=zak w _ _ rfl;have hg0:w.grownBy (w.alloc (.cells #[.int .i64 k,.string (zaf k),.string (oneT k),.string (tx u)] 129)) none:=zGA _ _ none;generalize w.alloc (.cells #[.int .i64 k,.string (zaf k),.string (oneT k),.string (tx u)] 129)=W at *;have d0:W.drew.cell? ⟨w.heap.size,0,none⟩=some (.int .i64 k):=x0;have d1:W.drew.cell? ⟨w.heap.size,1,none⟩=some (.string (zaf k)):=x1;have d2:W.drew.cell? ⟨w.heap.size,2,none⟩=some (.string (oneT k)):=x2;have d3:W.drew.cell? ⟨w.heap.size,3,none⟩=some (.string (tx u)):=x3;have HGD:=zHd (zaa hg0 (zae W none));clear x0 x1 x2 x3 hg0
 go_region_with (first
  | (go_at_call 167;refine(H1.out _).mono ?_;clear H1;rintro e w5 (⟨hp,rfl,hg5⟩|⟨hn,rfl,hg5⟩);rotate_left 1;(exact⟨rfl,.inr ⟨fun h=>hn h.1,rfl,zaa HGD.out hg5⟩⟩);have s0:=hg5.cell d0 (by simp);have s1:=hg5.cell d1 (by simp);have s2:=hg5.cell d2 (by simp);have s3:=hg5.cell d3 (by simp);have HG5:=zHd hg5;have HPP:=zHd hp;clear hg5 hp)
  | (go_at_call 87;refine(H2.out HPP.out _).mono ?_;clear H2;rintro e w6 (⟨hs,rfl,hg6⟩|⟨hn,rfl,hg6⟩);rotate_left 1;(exact⟨rfl,.inr ⟨fun h=>hn h.2,rfl,zaa (zaa HGD.out HG5.out) hg6⟩⟩);have HG6:=zHd hg6;have HSS:=zHd hs;clear hg6 hs))
 all_goals
  go_wp2;go_ret;exact .inl ⟨⟨HPP.out,HSS.out⟩,rfl,zaa (zaa HGD.out HG5.out) HG6.out⟩
end
open Go.RowKit
theorem zDh (n:Nat)(hn:n≤10000)(w:World):Calls Tryz.prog 171 #[.int .u64 1,.int .u64 (n:Int)] w fun e w'=>e = .returned (.tuple #[.int .u64 0,.int .u64 (n:Int)])∧w'=w:=by
 have h:=fun w=>Tryz.bits_Mul64 1 n (by omega) (by omega) w;rw[Nat.one_mul,Nat.div_eq_of_lt (by omega),Nat.mod_eq_of_lt (by omega)] at h;have H:=zHd h;clear h;go_enter Tryz.func171,Tryz.ntmps171;go_wp2_with fail;refine(H.out _).mono ?_;rintro e w' ⟨rfl,rfl⟩;go_wp2
 go_ret2
 exact⟨rfl,rfl⟩
theorem zHe (w:World)(g off dLen dCap sLen sCap:Nat)(ad:Addr)(cur cs:List Value)(T:TypeId)(hg:w.heap[g]? = some (.cells cur.toArray T (0,0)))(hn:cs.length=Nat.min sLen dLen)
  (hsrc:∀ j v,cs[j]? = some v→w.cell? (ad.add j)=some v) (hfit:off+cs.length≤cur.length) (h1:∀ v∈cs,v.oneCell'=true) :
  ∃ w',(Builtin.copy_ #[33,33] 3 #[.slice (some ⟨g,off,none⟩) dLen dCap,.slice (some ad) sLen sCap]).run Tryz.prog w = .ok (.int .i64 (cs.length:Nat)) w'∧w'.heap[g]? = some (.cells (splice cur off cs).toArray T (0,0))∧w.grownBy w' (some g):=by
 have hrun:=run_copy_row (P:=Tryz.prog) w 33 33 3 9 g off dLen dCap ad sLen sCap cur.toArray T cs Tryz.underlying33 (by kernel_rfl) hg hn hsrc (by simpa using hfit) h1;refine⟨_,hrun,?_,⟨rfl,rfl,rfl,by simp,fun k _ hk=>setRow_other w g k _ (fun e=>hk (by rw[e]))⟩⟩;rw[setRow_heap w g _ _ T _ hg];simp[splice]
theorem znB (a:Value)(z:Value)(n p q:Nat)(h:p+q≤n):splice (List.replicate p a++List.replicate (n - p) z) p (List.replicate q a)=List.replicate (p+q) a++List.replicate (n - (p+q)) z:=by
 unfold splice;rw[List.take_left' (by simp),List.length_replicate,List.drop_append,List.drop_eq_nil_of_le (by simp),List.length_replicate,List.nil_append,show p+q - p=q by omega,List.drop_replicate,← List.append_assoc,List.replicate_append_replicate]
 congr 2
 omega
theorem zoL (P:Program)(w:World)(dT sT ty elem:TypeId)(d a:Option Addr)(dLen dCap sLen sCap:Nat)(hu:P.underlying dT=some (.slice elem))(hs:((P.info? elem).map (·.size)).isSome=true)(hn:Nat.min sLen dLen=0) :
  (Builtin.copy_ #[dT,sT] ty #[.slice d dLen dCap,.slice a sLen sCap]).run P w = .ok (goInt 0) w:=by
 have hl:=fun a=>run_loadCells_list (P:=P) w a [] (fun j v h=>by simp at h);simp only[List.length_nil] at hl;cases hq:P.info? elem with
 | none=>simp[hq] at hs
 | some i=>cases d <;> cases a <;> simp[Builtin.copy_,run_underlying hu,Builtin.lenOf,Builtin.firstCells,sizeOf,typeInfo,hq,storeCells,hn,hl]
theorem zsF {P:Program}{ops:Array Oper}{o:Oper}{a:Act}{w:World}{K:Act→World→Prop}{Q:Exit→Act→World→Prop}{E:Prop}(hgd:o.guard=none)(d s:Operand)(dT sT:TypeId)
  (ho:o.op = .call { callee := .builtin .copy,args:=#[d,s],argTypes:=#[dT,sT] }) (elem:TypeId) (hu:P.underlying dT=some (.slice elem)) (hsz:(P.info? elem).map (·.size)=some 1)
  (g off:Nat) (ad:Addr) (dLen dCap sLen sCap m:Nat) (hd:a.eval d = .slice (some ⟨g,off,none⟩) dLen dCap) (hs:a.eval s = .slice (some ad) sLen sCap)
  (cur:List Value) (t:TypeId) (hg:w.heap[g]? = some (.cells cur.toArray t (0,0))) (cs:List Value) (hm:Nat.min sLen dLen=m) (hn:cs.length=m)
  (hsrc:∀ j v,cs[j]? = some v→w.cell? (ad.add j)=some v)
  (hfit:off+cs.length≤cur.length) (h1:∀ v∈cs,v.oneCell'=true)
  (h:K (a.put o.dst (goInt m)) (w.setRow g (splice cur off cs).toArray)) :
  if Region.wanted o (yielded ops a.tmps)=true then Oper.wp P o a w K Q else E:=by
 have hw:Region.wanted o (yielded ops a.tmps)=true:=by simp[Region.wanted,hgd]
 rw[if_pos hw];subst hm;rw[← hn] at h;have hrun:=run_copy_row (P:=P) w dT sT o.type elem g off dLen dCap ad sLen sCap cur.toArray t cs hu hsz hg hn hsrc (by simpa using hfit) h1;unfold Oper.wp;have e:splice cur off cs=List.take off cur.toArray.toList++cs++List.drop (off+cs.length) cur.toArray.toList:=by simp[splice]
 rw[e] at h;simp only[execOp,ho,resolve,invoke,builtin,hd,hs,Result.andThen];simp[hd,hs,hrun,Result.andThen]
 first|exact h|(simp only[Oper.upon];exact h)|(simp at h;exact h)
theorem zxg {P:Program}{ops:Array Oper}{o:Oper}{a:Act}{w:World}{K:Act→World→Prop}{Q:Exit→Act→World→Prop}{E:Prop}(hgd:o.guard=none)(d s:Operand)(dT sT:TypeId)
  (ho:o.op = .call { callee := .builtin .copy,args:=#[d,s],argTypes:=#[dT,sT] }) (elem:TypeId) (hu:P.underlying dT=some (.slice elem)) (hsz:(P.info? elem).map (·.size)=some 1)
  (dp sp:Option Addr) (dLen dCap sLen sCap m:Nat) (hd:a.eval d = .slice dp dLen dCap) (hs:a.eval s = .slice sp sLen sCap)
  (g off:Nat) (cur:List Value) (t:TypeId) (hg:w.heap[g]? = some (.cells cur.toArray t (0,0))) (cs:List Value) (hm:Nat.min sLen dLen=m) (hn:cs.length=m)
  (hpos:0<m→dp=some ⟨g,off,none⟩∧∃ ad,sp=some ad∧∀ j v,cs[j]? = some v→w.cell? (ad.add j)=some v)
  (hfit:off+cs.length≤cur.length) (h1:∀ v∈cs,v.oneCell'=true)
  (h:∀ w',Hid (w'.heap[g]? = some (.cells (splice cur off cs).toArray t (0,0))∧w.grownBy w' (some g))→K (a.put o.dst (goInt m)) w') :
  if Region.wanted o (yielded ops a.tmps)=true then Oper.wp P o a w K Q else E:=by
 by_cases h0:m=0
 ·have hw:Region.wanted o (yielded ops a.tmps)=true:=by simp[Region.wanted,hgd]
  rw[if_pos hw];have hcs:cs=[]:=List.eq_nil_of_length_eq_zero (by rw[hn,h0])
  have hrun:=zoL P w dT sT o.type elem dp sp dLen dCap sLen sCap hu (by cases hq:P.info? elem with
   | none=>rw[hq] at hsz;simp at hsz
   | some i=>rfl) (hm.trans h0)
  have hK:=h w (zHd ⟨by rw[hcs];simpa [splice] using hg,World.grownBy.refl _ _⟩);rw[h0] at hK;unfold Oper.wp;simp[execOp,ho,resolve,invoke,builtin,hd,hs,hrun,Result.andThen];exact hK
 ·obtain⟨rfl,ad,rfl,hsrc⟩:=hpos (by omega)
  refine zsF hgd d s dT sT ho elem hu hsz g off ad dLen dCap sLen sCap m hd hs cur t hg cs hm hn hsrc hfit h1 (h _ (zHd ⟨setRow_heap w g _ _ t _ hg,⟨rfl,rfl,rfl,by simp,fun k _ hk=>setRow_other w g k _ (fun e=>hk (by rw[e]))⟩⟩))
theorem zxh (a:ByteArray)(gx n:Nat)(w:World)(hx:w.cell? ⟨gx,0,none⟩=some (.string a))(hgx:gx<w.heap.size)(hn:n≤10000) :
  Calls Tryz.prog 136 #[.slice (some ⟨gx,0,none⟩) 1 1,.int .i64 (n:Int)] w fun e w'=>e = .returned (.slice (some ⟨w.heap.size,0,none⟩) n n)∧zaq 9 (.string ⟨#[]⟩) n (List.replicate n (.string a)) w w':=by
 obtain⟨i0,hi,hz0,hz1,hz2⟩:=info_parts zdt;have hmul:=fun w=>zDh n hn w;have HM:=zHd hmul;have HN:=zHd hn;have HX:=zHd (zAI hx hgx);have n0:¬ (n:Int)<0:=by omega
 have n1:IntKind.u64.wrap (n:Int)=(n:Int):=by rw[IntKind.wrap_u64];omega
 have n2:IntKind.i64.wrap (n:Int)=(n:Int):=by rw[IntKind.wrap_i64];omega
 have n3:¬ (9223372036854775807:Int)<(n:Int):=by omega
 clear hmul hn hx hgx;go_enter Tryz.func136,Tryz.ntmps136;go_wp2_with fail;refine(HM.out _).mono ?_;rintro e w0 ⟨rfl,rfl⟩;clear HM;go_wp2_with (at_make;refine wpList_make_full _ rfl _ _ 33 rfl w0.heap.size 9 i0 (.string ⟨#[]⟩) 1 Tryz.underlying33 hi hz0 hz1 _ _ _ _ n rfl rfl ?c0 ?c1 ?c2 (by have:=HN.out;unfold maxLen;omega) (Nat.le_refl _) ?_)
 case c0=>omega
 case c1=>omega
 case c2=>have:=HN.out;first|omega|(rw[hz2];omega)
 intro w1 hown hgr;have hfill:=zaq.start hown hgr;have hx1:=hgr.cell HX.out.1 (by simp);have hrow:=hfill.row;simp only[List.nil_append,List.length_nil,Nat.sub_zero] at hrow;obtain⟨q,hq⟩:∃ q,Nat.min 1 n=q:=⟨_,rfl⟩;have hq1:q≤1:=by rw[← hq];exact Nat.min_le_left _ _
 have hq2:q≤n:=by rw[← hq];exact Nat.min_le_right _ _
 have hq3:1≤n→q=1:=fun h=>by rw[← hq];exact Nat.min_eq_left h
 obtain⟨w2,hrun,hrow2,hg2⟩:=zHe w1 w0.heap.size 0 n n 1 1 ⟨gx,0,none⟩ (List.replicate n (.string ⟨#[]⟩)) (List.replicate q (.string a)) 9 hrow (by rw[List.length_replicate,hq]) (fun j v hj=>by
  obtain⟨hj1,rfl⟩:=List.getElem?_eq_some_iff.1 hj;rw[List.length_replicate] at hj1;obtain rfl:j=0:=by omega
  rw[List.getElem_replicate,zbA];exact hx1) (by rw[List.length_replicate,List.length_replicate];omega) (fun v hv=>by rw[(List.mem_replicate.1 hv).2];rfl)
 have hsp:=znB (.string a) (.string ⟨#[]⟩) n 0 q (by omega);simp only[List.replicate_zero,List.nil_append,Nat.sub_zero,Nat.zero_add] at hsp;rw[hsp] at hrow2;rw[List.length_replicate] at hrun;have hfill2:zaq 9 (.string ⟨#[]⟩) n (List.replicate q (.string a)) w0 w2:=⟨by rw[List.length_replicate];exact hrow2,zai hgr hg2 (Nat.le_refl _),by rw[List.length_replicate];exact hq2⟩;have HFL:=zHd hfill2;have HQ:=zHd (zAI hq2 hq3);clear hown hgr hfill hx1 hrow hrow2 hg2 hsp hfill2 hq hq1 hq2 hq3;go_wp2;generalize w2=wr at *
 go_loopw [8] (fun iv wr=>∃ p:Nat,iv = .int .i64 (p:Int)∧p≤n∧(1≤n→1≤p)∧zaq 9 (.string ⟨#[]⟩) n (List.replicate p (.string a)) w0 wr) (fun iv _=>n - (intOf iv).toNat)
 case atStart=>exact⟨q,rfl,HQ.out.1,fun h=>by rw[HQ.out.2 h];exact Nat.le_refl _,HFL.out⟩
 case round =>
  obtain⟨p,rfl,hp,hp1,hfill⟩:=hrel
  by_cases hpn:p<n
  ·have t1:decide (p<n)=true:=by simpa using hpn
   have t1':decide ((p:Int)<(n:Int))=true:=by simpa using hpn
   have i1:(p:Int)≤(n:Int):=by omega
   have i2:¬ (n:Int)<(p:Int):=by omega
   have HFL:=zHd hfill;have HP:=zHd (zAI hpn (zAI hp hp1));clear hfill hpn hp hp1;obtain⟨c,hc⟩:∃ c,Nat.min p (n - p)=c:=⟨_,rfl⟩;have hc1:c≤p:=by rw[← hc];exact Nat.min_le_left _ _
   have hc2:c≤n - p:=by rw[← hc];exact Nat.min_le_right _ _
   have hc3:1≤p→1≤c:=fun h=>by
    have hp2:=HP.out.1;rw[← hc];exact Nat.le_min.2 ⟨h,by omega⟩
   have n4:IntKind.i64.wrap ((p:Int)+(c:Int))=((p+c:Nat):Int):=by have:=HN.out;have:=HP.out.2.1;rw[IntKind.wrap_i64];omega
   have hrow:=HFL.out.row;rw[List.length_replicate] at hrow
   have hcell:∀ j v,(List.replicate c (.string a):List Value)[j]? = some v→wr.drew.cell? ((⟨w0.heap.size,0,none⟩:Addr).add j)=some v:=fun j v hj=>by
    obtain⟨hj1,rfl⟩:=List.getElem?_eq_some_iff.1 hj;rw[List.length_replicate] at hj1;rw[List.getElem_replicate,zbA,Nat.zero_add];show wr.cell? _=_;rw[cell_of_row wr w0.heap.size j _ _ (0,0) hrow,List.getElem?_toArray,List.getElem?_append_left (by rw[List.length_replicate];omega),List.getElem?_replicate,if_pos (by omega)]
   have hfit:p+(List.replicate c (.string a):List Value).length≤(List.replicate p (.string a)++List.replicate (n - p) (.string ⟨#[]⟩):List Value).length:=by
    have:=HP.out.1;rw[List.length_append,List.length_replicate,List.length_replicate,List.length_replicate];omega
   have h1c:∀ v∈(List.replicate c (.string a):List Value),v.oneCell'=true:=fun v hv=>by rw[(List.mem_replicate.1 hv).2];rfl
   have HNP:Hid (¬ n=p):=zHd (by have:=HP.out.1;omega);have HC:=zHd (zAI hc1 (zAI hc2 hc3));have HROW:=zHd (show wr.drew.heap[w0.heap.size]? = _ from hrow);clear hc1 hc2 hc3 hrow;go_wp2_with (fail)
   go_region_law ((refine zxg rfl (.tmp 41) (.tmp 44) 33 33 rfl 9 Tryz.underlying33 (by kernel_rfl) (some ⟨w0.heap.size,p,none⟩) (some ⟨w0.heap.size,0,none⟩) (n - p) (n - p) p n c (by simp[Act.eval,Act.put,HNP.out]) (by simp[Act.eval,Act.put]) w0.heap.size p (List.replicate p (.string a)++List.replicate (n - p) (.string ⟨#[]⟩)) 9 HROW.out (List.replicate c (.string a)) hc (by simp) (fun h=>⟨rfl,_,rfl,hcell⟩) hfit h1c ?_;intro w6 h6))
   all_goals
    go_wp2_with (fail)
    first
    | exact absurd HP.out.1 (Nat.lt_irrefl _)
    | (obtain⟨hc1,hc2,hc3⟩:=HC.out
       obtain⟨hpn,hp,hp1⟩:=HP.out;have hsp:=znB (.string a) (.string ⟨#[]⟩) n p c (by omega);refine⟨⟨p+c,by simp,by omega,fun h=>by omega,?_,?_,by rw[List.length_replicate];omega⟩,by have:=hc3 (by omega);simp[intOf];omega⟩
       ·rw[List.length_replicate,← hsp];exact h6.out.1
       ·exact zai (zaa HFL.out.gr (zae wr none)) h6.out.2 (Nat.le_refl _))
  ·have hpe:p=n:=by omega
   subst hpe;have t1:decide (p<p)=false:=by simp
   have t1':decide ((p:Int)<(p:Int))=false:=by simp
   have HFL:=zHd hfill;clear hfill hpn hp hp1;go_wp2;go_ret;exact⟨rfl,HFL.out⟩
def zvG (a:ByteArray)(n:Nat)(w:World)(e:Ending)(w':World):Prop :=
 ∃ g,e = .returned (.slice (some ⟨g,0,none⟩) n n)∧w.heap.size≤g∧w'.heap[g]? = some (.cells (List.replicate n (.string a)).toArray 9 (0,0))∧w.grownBy w' none
theorem zis {w:World}{g n:Nat}{a:ByteArray}(h:w.heap[g]? = some (.cells (List.replicate n (.string a)).toArray 9 (0,0))):zam w g 0 n (fun _ => .string a):=by
 refine⟨(Array.getElem?_eq_some_iff.1 h).1,fun j hj => ?_⟩;rw[Nat.zero_add,cell_of_row w g j _ _ (0,0) h,List.getElem?_toArray,List.getElem?_replicate,if_pos hj]
theorem zeX (k:Int)(n:Nat)(w:World)(hn:n≤10000):Calls Tryz.prog 83 #[calV k,.int .i64 (n:Int)] w (zvG (zaf k) n w):=by
 unfold calV zvG;have hr:=fun(w1:World) (gx:Nat) h1 h2=>zxh (zaf k) gx n w1 h1 h2 hn;have HR:=zHd hr;clear hr hn;go_enter Tryz.func83,Tryz.ntmps83;go_wp2_with fail;refine(HR.out ((w.alloc (.cells #[.int .i64 k,.string (zaf k),.string (oneT k)] 64)).alloc (.cells #[.string (zaf k)] 9)) (w.heap.size+1) ?h1 ?h2).mono ?_
 case h1 =>
  have h:=zak (w.alloc (.cells #[.int .i64 k,.string (zaf k),.string (oneT k)] 64)) #[.string (zaf k)] 9 (j:=0) (u := .string (zaf k)) rfl;rw[show(w.alloc (.cells #[.int .i64 k,.string (zaf k),.string (oneT k)] 64)).heap.size=w.heap.size+1 by simp] at h;exact h
 case h2=>simp
 rintro e w1 ⟨rfl,hf⟩;have HF:=zHd hf;clear hf;go_wp2;go_ret;have hrow:=HF.out.row;have hg:=HF.out.gr;rw[List.length_replicate,Nat.sub_self,List.replicate_zero,List.append_nil] at hrow;rw[show((w.alloc (.cells #[.int .i64 k,.string (zaf k),.string (oneT k)] 64)).alloc (.cells #[.string (zaf k)] 9)).heap.size=w.heap.size+1+1 by simp] at hrow;exact⟨_,rfl,by omega,hrow,zaa (zaa (zGA _ _ none) (zGA _ _ none)) hg⟩
open Go.RowKit
theorem zkq:Enters 135:=enters_of Tryz.func135 (by kernel_rfl) rfl
theorem znC:Enters 167:=enters_of Tryz.func167 (by kernel_rfl) rfl
theorem zlM {α:Type}(S:Sr α)(row f:Nat→α)(R:Nat→Nat→α)(t j:Nat):S.add (zaN S row f R t j) (S.mul (f t) (R t j))=zaN S row f R (t+1) j:=by
 unfold zaN;rw[S.add_assoc]
 rfl
theorem zhV {α:Type}(S:Sr α)(row f:Nat→α)(R:Nat→Nat→α)(j:Nat):zaN S row f R 0 j=row j:=S.add_zero _
section
variable {k:Int}
def txs (f:Nat→El k)(j:Nat):Value := .string (tx (f j))
def zFu (hk:zad k)(n m:Nat)(row f:Nat→El k)(R:Nat→Nat→El k)(g0:Nat)(w:World)(e:Ending)(w':World):Prop :=
 zbn (zcL (srE k hk) FitE n m row f R) (fun v w'=>∃ g o c,v = .slice (some ⟨g,o,none⟩) m c∧m≤c∧c≤maxLen∧(g=g0∨w.heap.size≤g)∧zam w' g o m (txs (zaN (srE k hk) row f R n))) w e w'
structure zgh (hk:zad k)(n m:Nat)(row f:Nat→El k)(R:Nat→Nat→El k)(g0:Nat)(w:World)(t:Nat)(rv:Value)(wr:World):Prop where
 le:t≤n
 gr:w.grownBy wr none
 rv:∃ g o c,rv = .slice (some ⟨g,o,none⟩) m c∧m≤c∧c≤maxLen∧(g=g0∨w.heap.size≤g)∧zam wr g o m (txs (zaN (srE k hk) row f R t))
 fit:zcL (srE k hk) FitE t m row f R
 now:∀ j,j<m→FitE (zaN (srE k hk) row f R t j)
theorem zgh.skip {hk:zad k}{n m:Nat}{row f:Nat→El k}{R:Nat→Nat→El k}{g0:Nat}{w:World}{t:Nat}{rv:Value}{wr:World}(h:zgh hk n m row f R g0 w t rv wr)(ht:t<n)(hz:f t=(srE k hk).zero):zgh hk n m row f R g0 w (t+1) rv wr:=by
 have e:∀ j,zaN (srE k hk) row f R (t+1) j=zaN (srE k hk) row f R t j:=fun j=>by rw[← zlM,hz,(srE k hk).zero_mul,(srE k hk).add_zero]
 have e2:zaN (srE k hk) row f R (t+1)=zaN (srE k hk) row f R t:=funext e;refine⟨ht,h.gr,by rw[e2];exact h.rv,fun s hs j hj => ?_,fun j hj=>by rw[e];exact h.now j hj⟩
 by_cases hst:s<t
 ·exact h.fit s hst j hj
 ·obtain rfl:s=t:=by omega
  exact⟨by rw[hz,(srE k hk).zero_mul];exact zbR hk,by rw[e];exact h.now j hj⟩
theorem zgh.next {hk:zad k}{n m:Nat}{row f:Nat→El k}{R:Nat→Nat→El k}{g0:Nat}{w:World}{t:Nat}{rv:Value}{wr w':World}(h:zgh hk n m row f R g0 w t rv wr)(ht:t<n)(hm:m≤maxLen)(hp:∀ j,j<m→FitE ((srE k hk).mul (f t) (R t j))∧FitE (zaN (srE k hk) row f R (t+1) j))
  {H:Nat} (hH:w.heap.size≤H) (hr:zam w' H 0 m (fun i => .string (tx (zaN (srE k hk) row f R (t+1) i)))) (hg:wr.grownBy w' none):zgh hk n m row f R g0 w (t+1) (.slice (some ⟨H,0,none⟩) m m) w':=by
 refine⟨ht,zaa h.gr hg,⟨H,0,m,rfl,Nat.le_refl _,hm,.inr hH,hr⟩,fun s hs j hj => ?_,fun j hj=>(hp j hj).2⟩
 by_cases hst:s<t
 ·exact h.fit s hst j hj
 ·obtain rfl:s=t:=by omega
  exact hp j hj
theorem zmk (hk:zad k)(n m g0 off c0:Nat)(row f:Nat→El k)(R:Nat→Nat→El k)(fv Rv:Value)(rs:Nat→Value)(w:World)(hm:m≤10000)(hn:n≤10000)
  (hrow:zam w g0 off m (txs row)) (hc1:m≤c0) (hc2:c0≤maxLen) (hf:RowR w fv n (txs f)) (hff:∀ j,j<n→FitE (f j)) (hrf:∀ j,j<m→FitE (row j))
  (hR:RowR w Rv n rs) (hRs:∀ i,i<n→RowR w (rs i) m (txs (R i))) (hRf:∀ i,i<n→∀ j,j<m→FitE (R i j)) :
  Calls Tryz.prog 82 #[calV k,.slice (some ⟨g0,off,none⟩) m c0,fv,Rv] w (zFu hk n m row f R g0 w):=by
 have hmf:∀ (fn:Fn) (first cap:Array Value) (w:World),(Instr.makeFunc fn first cap).run Tryz.prog w = .ok (.func fn first cap) w:=fun _ _ _ _=>rfl;obtain⟨Af,cf,rfl,hf1,hf2,hf3⟩:=hf;obtain⟨AR,cR,rfl,hR1,hR2,hR3⟩:=hR
 have hcomb:=fun(t:Nat) (ht:t<n) (g o c:Nat) (w1:World) (hw:w.grownBy w1 none) (h1:m≤c) (h2:c≤maxLen) (hrw:zam w1 g o m (txs (zaN (srE k hk) row f R t))) (hfit:∀ j,j<m→FitE (zaN (srE k hk) row f R t j)) =>
  zjB 135 zkq #[facV k (tx (f t))] #[] m m (txs (zaN (srE k hk) row f R t)) (txs (R t)) (fun j=>FitE ((srE k hk).mul (f t) (R t j))∧FitE (zaN (srE k hk) row f R (t+1) j)) (fun j=>tx (zaN (srE k hk) row f R (t+1) j))
   (.slice (some ⟨g,o,none⟩) m c) (rs t) w1 hm (hrw.row h1 h2) ((hRs t ht).grown hw) (Nat.le_refl m) (fun i hi w' _=>by
    have h:=znA hk (hff t ht) (hRf t ht i hi) (hfit i hi) w';rw[zlM] at h;exact h)
 have HC:=zHd hcomb;have HF:=zHd hf3;have HR:=zHd hR3;have HFF:=zHd hff;have HN:=zHd hn
 have h0:zgh hk n m row f R g0 w 0 (.slice (some ⟨g0,off,none⟩) m c0) w:=⟨Nat.zero_le _,zag _ _,⟨g0,off,c0,rfl,hc1,hc2,.inl rfl,by
  have e:zaN (srE k hk) row f R 0=row:=funext fun j=>zhV _ _ _ _ _;rw[e];exact hrow⟩,fun t ht=>absurd ht (by omega),fun j hj=>by rw[zhV];exact hrf j hj⟩
 have H0:=zHd h0;clear hcomb hf1 hf2 hf3 hR1 hR2 hR3 hff hrf hRs hRf hrow hc1 hc2 hm hn h0;unfold calV;go_enter Tryz.func82,Tryz.ntmps82;go_wp2;have x0:=zak w #[.int .i64 k,.string (zaf k),.string (oneT k)] 64 (j:=0) rfl;have x1:=zak w #[.int .i64 k,.string (zaf k),.string (oneT k)] 64 (j:=1) rfl;have x2:=zak w #[.int .i64 k,.string (zaf k),.string (oneT k)] 64 (j:=2) rfl;have hW:w.grownBy (w.alloc (.cells #[.int .i64 k,.string (zaf k),.string (oneT k)] 64)) none:=zGA _ _ none;have hbs:w.heap.size<(w.alloc (.cells #[.int .i64 k,.string (zaf k),.string (oneT k)] 64)).heap.size:=by simp
 generalize w.alloc (.cells #[.int .i64 k,.string (zaf k),.string (oneT k)] 64)=W at *;have HX:=zHd (zAI x0 (zAI x1 (zAI x2 (zAI hW hbs))));clear x0 x1 x2 hW hbs
 go_loopw [1,13] (fun rv iv wr=>∃ t:Nat,iv = .int .i64 (t:Int)∧zgh hk n m row f R g0 w t rv wr∧W.grownBy wr none) (fun _ iv _=>n - (intOf iv).toNat)
 case atStart=>exact⟨0,rfl,⟨H0.out.le,HX.out.2.2.2.1,by
  obtain⟨g,o,c,h1,h2,h3,h4,h5⟩:=H0.out.rv;exact⟨g,o,c,h1,h2,h3,h4,h5.grown HX.out.2.2.2.1⟩,H0.out.fit,H0.out.now⟩,zag _ _⟩
 case round =>
  obtain⟨t,rfl,hinv,hWr⟩:=hrel
  by_cases ht:t<n
  ·obtain⟨adf,rfl,hbf,hcf⟩:=HF.out t ht
   obtain⟨adR,rfl,hbR,hcR⟩:=HR.out t ht;have cf1:wr.cell? (adf.add t)=some (.string (tx (f t))):=(zap (ad:=adf.add t) (by rw[zaj];exact hinv.gr.block adf.block hbf (by simp))).trans hcf;have cR1:wr.cell? (adR.add t)=some (rs t):=(zap (ad:=adR.add t) (by rw[zaj];exact hinv.gr.block adR.block hbR (by simp))).trans hcR;obtain⟨x0,x1,x2,hW,hbs⟩:=HX.out;have y0:=hWr.cell x0 (by simp);have y1:=hWr.cell x1 (by simp);have y2:=hWr.cell x2 (by simp);obtain⟨g,o,c,rfl,hmc,hcm,hgg,hrw⟩:=hinv.rv;have t1:decide (t<n)=true:=by simpa using ht
   have t1':decide ((t:Int)<(n:Int))=true:=by simpa using ht
   have hit:(t:Int)<(n:Int):=by omega
   have n1:IntKind.i64.wrap ((t:Int)+1)=(t:Int)+1:=by have:=HN.out;rw[IntKind.wrap_i64];omega
   have HI:=zHd hinv;have HRW:=zHd (zAI hmc (zAI hcm hrw));have HT:=zHd (zAI ht hWr);clear hinv hmc hcm hgg hrw ht hWr hbf hcf hbR hcR x0 x1 x2 hW hbs;rcases zcR (tx (f t)) (zaf k) with⟨f1,e1⟩|⟨f1,e1⟩
   ·have f2:((tx (f t)).toList != (zaf k).toList)=false:=by simp[bne,f1]
    have hz:=zeq hk (HFF.out t HT.out.1) e1;have HZ:=zHd hz;clear hz e1;go_wp2;exact⟨⟨t+1,by simp,HI.out.skip HT.out.1 HZ.out,HT.out.2⟩,by have:=HT.out.1;simp[intOf];omega⟩
   ·have f2:((tx (f t)).toList != (zaf k).toList)=true:=by simp[bne,f1]
    clear e1;go_upto_region 5 with(fail)
    have hcall:=HC.out t HT.out.1 g o c wr.drew (zaa HI.out.gr (zae wr none)) HRW.out.1 HRW.out.2.1 (HRW.out.2.2.grown (zae wr none)) HI.out.now;unfold facV at hcall;have cRd:wr.drew.cell? (adR.add t)=some (rs t):=cR1;have yd0:wr.drew.cell? ⟨w.heap.size,0,none⟩=some (.int .i64 k):=y0;have yd1:wr.drew.cell? ⟨w.heap.size,1,none⟩=some (.string (zaf k)):=y1;have yd2:wr.drew.cell? ⟨w.heap.size,2,none⟩=some (.string (oneT k)):=y2;have hHs:w.heap.size≤wr.drew.heap.size:=HI.out.gr.size;have hgd:w.grownBy wr.drew none:=zaa HI.out.gr (zae wr none);have hWd:W.grownBy wr.drew none:=zaa HT.out.2 (zae wr none);have hgdd:wr.grownBy wr.drew none:=zae wr none;have HCALL:=zHd hcall;have HD:=zHd (zAI hHs (zAI hgd (zAI hWd hgdd)));clear hcall hHs hgd hWd hgdd
    go_region_with (go_at_call 86;refine HCALL.out.mono ?_;rintro e w6 (⟨hp,v,rfl,⟨rfl,hr6⟩,hg6⟩|⟨hn,rfl,hg6⟩);rotate_left 1;(go_wp2;exact⟨rfl,.inr ⟨fun h=>hn (fun i hi=>h t HT.out.1 i hi),rfl,zaa HD.out.2.1 hg6⟩⟩);have HP6:=zHd (zAI hp (zAI hr6 hg6));clear hp hr6 hg6)
    all_goals
     go_wp2;obtain⟨hp,hr6,hg6⟩:=HP6.out;exact⟨⟨t+1,by simp,HI.out.next HT.out.1 (Nat.le_trans HRW.out.1 HRW.out.2.1) hp HD.out.1 hr6 (zaa HD.out.2.2.2 hg6),zaa HD.out.2.2.1 hg6⟩,by have:=HT.out.1;simp[intOf];omega⟩
  ·have hte:t=n:=by have:=hinv.le;omega
   subst hte;have t1:decide (t<t)=false:=by simp
   have t1':decide ((t:Int)<(t:Int))=false:=by simp
   obtain⟨g,o,c,rfl,hmc,hcm,hgg,hrw⟩:=hinv.rv;have HI:=zHd hinv;have HRW:=zHd (zAI hmc (zAI hcm (zAI hgg hrw)));clear hinv hmc hcm hgg hrw ht;go_wp2;go_ret;obtain⟨hmc,hcm,hgg,hrw⟩:=HRW.out;exact .inl ⟨HI.out.fit,_,rfl,⟨g,o,c,rfl,hmc,hcm,hgg,hrw⟩,HI.out.gr⟩
end
open Go.RowKit
section
variable {k:Int}
def mrgP (hk:zad k)(f:Nat→El k)(κ:Nat→Nat)(t d:Nat):El k:=sm (srE k hk) t (fun j=>if κ j=d then f j else (srE k hk).zero)
theorem zvH (hk:zad k)(f:Nat→El k)(κ:Nat→Nat)(t:Nat):mrgP hk f κ (t+1) (κ t)=(srE k hk).add (mrgP hk f κ t (κ t)) (f t):=by
 show(srE k hk).add (mrgP hk f κ t (κ t)) (if κ t=κ t then f t else (srE k hk).zero)=_;rw[if_pos rfl]
theorem zml (hk:zad k)(f:Nat→El k)(κ:Nat→Nat)(t d:Nat)(h:d≠κ t):mrgP hk f κ (t+1) d=mrgP hk f κ t d:=by
 show(srE k hk).add (mrgP hk f κ t d) (if κ t=d then f t else (srE k hk).zero)=_;rw[if_neg (Ne.symm h),(srE k hk).add_zero]
def mrgL (hk:zad k)(f:Nat→El k)(κ:Nat→Nat)(K t:Nat):List Value:=(List.range K).map (fun d => .string (tx (mrgP hk f κ t d)))
theorem zdV (hk:zad k)(f:Nat→El k)(κ:Nat→Nat){K d:Nat}(t:Nat)(h:d<K):(mrgL hk f κ K t)[d]? = some (.string (tx (mrgP hk f κ t d))):=by
 unfold mrgL;rw[List.getElem?_map,List.getElem?_range h]
 rfl
theorem zqb (hk:zad k)(f:Nat→El k)(κ:Nat→Nat)(K:Nat):mrgL hk f κ K 0=List.replicate K (.string (zaf k)):=by
 unfold mrgL
 apply List.ext_getElem?
 intro d;rw[List.getElem?_map,List.getElem?_replicate]
 by_cases h:d<K
 ·rw[List.getElem?_range h,if_pos h,← zdj hk];rfl
 ·rw[if_neg h,List.getElem?_eq_none (by simpa using h)];rfl
theorem zDi (hk:zad k)(f:Nat→El k)(κ:Nat→Nat)(K t:Nat)(h:κ t<K):(mrgL hk f κ K t).set (κ t) (.string (tx (mrgP hk f κ (t+1) (κ t))))=mrgL hk f κ K (t+1):=by
 apply List.ext_getElem?
 intro d;rw[List.getElem?_set]
 by_cases hd:d<K
 ·rw[zdV hk f κ (t+1) hd]
  by_cases e:κ t=d
  ·subst e
   rw[if_pos rfl,if_pos (by unfold mrgL;simpa using hd)]
  ·rw[if_neg e,zdV hk f κ t hd,zml hk f κ t d (Ne.symm e)]
 ·rw[List.getElem?_eq_none (l:=mrgL hk f κ K (t+1)) (by unfold mrgL;simpa using hd)]
  rw[if_neg (by omega),List.getElem?_eq_none (by unfold mrgL;simpa using hd)]
structure zhg (hk:zad k)(f:Nat→El k)(κ:Nat→Nat)(n K g:Nat)(w:World)(t:Nat)(wr:World):Prop where
 le:t≤n
 gr:w.grownBy wr none
 hg:w.heap.size≤g
 row:wr.heap[g]? = some (.cells (mrgL hk f κ K t).toArray 9 (0,0))
 fit:∀ s,s<t→FitE (mrgP hk f κ (s+1) (κ s))
 now:∀ d,FitE (mrgP hk f κ t d)
theorem zhg.next {hk:zad k}{f:Nat→El k}{κ:Nat→Nat}{n K g:Nat}{w wr w5:World}{t:Nat}(h:zhg hk f κ n K g w t wr)(ht:t<n)(hκ:κ t<K)(hg:wr.grownBy w5 none)(hr:w5.heap[g]? = some (.cells (mrgL hk f κ K t).toArray 9 (0,0)))
  (hp:FitE (mrgP hk f κ (t+1) (κ t))):zhg hk f κ n K g w (t+1) (w5.setCell ⟨g,κ t,none⟩ (.string (tx (mrgP hk f κ (t+1) (κ t))))):=by
 refine⟨ht,zai (zaa h.gr hg) (zac _ _ _) h.hg,h.hg,?_,fun s hs => ?_,fun d => ?_⟩
 ·rw[heap_setCell_same w5 g (κ t) _ _ _ hr]
  congr 2
  rw[List.setIfInBounds_toArray,zDi hk f κ K t hκ]
 ·by_cases e:s<t
  ·exact h.fit s e
  ·obtain rfl:s=t:=by omega
   exact hp
 ·by_cases e:d=κ t
  ·subst e;exact hp
  ·rw[zml hk f κ t d e];exact h.now d
theorem zba {w:World}{b g o j:Nat}{u v:Value}(hb:b≠g)(h:w.cell? ⟨b,j,none⟩=some v):(w.setCell ⟨g,o,none⟩ u).cell? ⟨b,j,none⟩=some v:=((zac w ⟨g,o,none⟩ u).cell h (by simpa using hb))
theorem zxi (hk:zad k)(f:Nat→El k)(κ:Nat→Nat)(n K:Nat)(fv cv:Value)(w:World)(hn:n≤10000)(hK:K≤10000)(hκ:∀ j,j<n→κ j<K)(hf:RowR w fv n (fun j=>Value.string (tx (f j))))(hff:∀ j,j<n→FitE (f j))
  (hc:RowR w cv n (fun j => .int .i64 ((κ j:Nat):Int))) :
  Calls Tryz.prog 80 #[calV k,fv,cv,.int .i64 (K:Int)] w (zbn (∀ s,s<n→FitE (mrgP hk f κ (s+1) (κ s))) (fun v w'=>∃ g,v = .slice (some ⟨g,0,none⟩) K K∧w.heap.size≤g∧zam w' g 0 K (fun d => .string (tx (mrgP hk f κ n d)))) w):=by
 obtain⟨Af,cf,rfl,hf1,hf2,hf3⟩:=hf;obtain⟨Ac,cc,rfl,hc1,hc2,hc3⟩:=hc;have hz:=fun w'=>zeX k K w' hK;have HZ:=zHd hz;have HF:=zHd hf3;have HC:=zHd hc3;have HFF:=zHd hff;have HN:=zHd (zAI hn (zAI hK hκ));clear hz hf1 hf2 hf3 hc1 hc2 hc3 hff hn hK hκ;unfold calV at *;go_enter Tryz.func80,Tryz.ntmps80;go_wp2_with fail;refine(HZ.out _).mono ?_;rintro e w1 ⟨g,rfl,hgW,hrow,hg1⟩;have x0:=hg1.cell (zak w #[.int .i64 k,.string (zaf k),.string (oneT k)] 64 (j:=0) rfl) (by simp);have x1:=hg1.cell (zak w #[.int .i64 k,.string (zaf k),.string (oneT k)] 64 (j:=1) rfl) (by simp);have x2:=hg1.cell (zak w #[.int .i64 k,.string (zaf k),.string (oneT k)] 64 (j:=2) rfl) (by simp);have hW:w.grownBy w1 none:=zaa (zGA _ _ none) hg1;have hgb:w.heap.size+1≤g:=by simpa using hgW
 have hinv:zhg hk f κ n K g w 0 w1:=⟨Nat.zero_le _,hW,by omega,by rw[zqb];exact hrow,fun s hs=>absurd hs (by omega),fun d=>zbR hk⟩;have HI:=zHd hinv;have HX:=zHd (zAI x0 (zAI x1 (zAI x2 hgb)));clear hgW hrow hg1 x0 x1 x2 hW hinv hgb;go_wp2
 go_loopw [17] (fun iv wr=>∃ t:Nat,iv = .int .i64 (t:Int)∧zhg hk f κ n K g w t wr∧wr.cell? ⟨w.heap.size,0,none⟩=some (.int .i64 k)∧wr.cell? ⟨w.heap.size,1,none⟩=some (.string (zaf k))∧wr.cell? ⟨w.heap.size,2,none⟩=some (.string (oneT k))) (fun iv _=>n - (intOf iv).toNat)
 case atStart=>exact⟨0,rfl,HI.out,HX.out.1,HX.out.2.1,HX.out.2.2.1⟩
 case round =>
  obtain⟨t,rfl,hinv,y0,y1,y2⟩:=hrel
  by_cases ht:t<n
  ·obtain⟨adf,rfl,hbf,hcf⟩:=HF.out t ht
   obtain⟨adc,rfl,hbc,hcc⟩:=HC.out t ht;have cf1:wr.drew.cell? (adf.add t)=some (.string (tx (f t))):=(zap (w:=w) (w':=wr) (ad:=adf.add t) (by rw[zaj];exact hinv.gr.block adf.block hbf (by simp))).trans hcf;have cc1:wr.cell? (adc.add t)=some (.int .i64 ((κ t:Nat):Int)):=(zap (ad:=adc.add t) (by rw[zaj];exact hinv.gr.block adc.block hbc (by simp))).trans hcc;have hκt:=HN.out.2.2 t ht
   have r1:wr.drew.cell? ⟨g,κ t,none⟩=some (.string (tx (mrgP hk f κ t (κ t)))):=by
    show wr.cell? _=_;rw[cell_of_row wr g (κ t) _ _ (0,0) hinv.row,List.getElem?_toArray,zdV hk f κ t hκt]
   have hcall:=fun w'=>zhI hk (hinv.now (κ t)) (HFF.out t ht) w';rw[← zvH] at hcall;have t1:decide (t<n)=true:=by simpa using ht
   have t1':decide ((t:Int)<(n:Int))=true:=by simpa using ht
   have hit:(t:Int)<(n:Int):=by omega
   have i1:((κ t:Nat):Int)<(K:Int):=by omega
   have i2:(0:Int)≤((κ t:Nat):Int):=by omega
   have n1:IntKind.i64.wrap ((t:Int)+1)=(t:Int)+1:=by have:=HN.out.1;rw[IntKind.wrap_i64];omega
   have hne1:¬ w.heap.size=g:=by have:=HX.out.2.2.2;omega
   have hne2:¬ g=w.heap.size:=by have:=HX.out.2.2.2;omega
   have HI2:=zHd hinv;have HCALL:=zHd hcall;have HT:=zHd (zAI ht hκt);clear hinv hcall ht hκt hbf hcf hbc hcc;unfold calV at HCALL;go_upto_region 5 with(fail)
   have d0:wr.drew.cell? ⟨w.heap.size,0,none⟩=some (.int .i64 k):=y0;have d1:wr.drew.cell? ⟨w.heap.size,1,none⟩=some (.string (zaf k)):=y1;have d2:wr.drew.cell? ⟨w.heap.size,2,none⟩=some (.string (oneT k)):=y2;clear y0 y1 y2
   go_region_with (go_at_call 87;refine(HCALL.out _).mono ?_;rintro e w5 (⟨hp,rfl,hg5⟩|⟨hn,rfl,hg5⟩);rotate_left 1;(go_wp2;exact⟨rfl,.inr ⟨fun h=>hn (h t HT.out.1),rfl,zaa (zaa HI2.out.gr (zae wr none)) hg5⟩⟩);have s0:=hg5.cell d0 (by simp);have s1:=hg5.cell d1 (by simp);have s2:=hg5.cell d2 (by simp);have hr5:=(hg5.block g (Array.getElem?_eq_some_iff.1 HI2.out.row).1 (by simp)).trans (show wr.drew.heap[g]? = _ from HI2.out.row);have z0:=frozen_of_row w5 g (κ t) _ _ hr5;have q0:=cell_of_row w5 g (κ t) _ _ (0,0) hr5;rw[List.getElem?_toArray,zdV hk f κ t HT.out.2] at q0;have H5:=zHd (zAI hp (zAI hg5 hr5));clear hp hg5 hr5)
   all_goals
    go_wp2;obtain⟨hp,hg5,hr5⟩:=H5.out;exact⟨⟨t+1,by simp,HI2.out.next HT.out.1 HT.out.2 (zaa (zae wr none) hg5) hr5 hp,zba hne1 s0,zba hne1 s1,zba hne1 s2⟩,by have:=HT.out.1;simp[intOf];omega⟩
  ·have hte:t=n:=by have:=hinv.le;omega
   subst hte;have t1:decide (t<t)=false:=by simp
   have t1':decide ((t:Int)<(t:Int))=false:=by simp
   have HI2:=zHd hinv;clear hinv ht;go_wp2;go_ret;refine .inl ⟨HI2.out.fit,_,rfl,⟨g,rfl,HI2.out.hg,(Array.getElem?_eq_some_iff.1 HI2.out.row).1,fun d hd => ?_⟩,HI2.out.gr⟩;rw[Nat.zero_add,cell_of_row wr g d _ _ (0,0) HI2.out.row,List.getElem?_toArray,zdV hk f κ t hd]
end
end Go.Proofs.YtaogepcaoogpgaaGreatDoor
