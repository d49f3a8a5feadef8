/- Part. -/
import Derived.Test.YtadgpgofcjpnjaaGreatDoorZK01
import Derived.Test.YtadgpgofcjpnjaaGreatDoorRows
import Derived.Deep.AppendLies
import Derived.WalkSpells
import Derived.WalkLawsBesides
import Derived.BigQuiet
import Derived.Laws.CopyOwn
set_option linter.unusedVariables false
set_option linter.defProp false
set_option linter.unusedSimpArgs false
set_option maxRecDepth 100000
set_option maxHeartbeats 16000000
namespace Go.Proofs.YtadgpgofcjpnjaaGreatDoor
open Go.Proofs.Tryz
open Go.RowKit
def uv (xs:List Nat):List Value:=xs.map fun n:Nat=>Value.int .u64 (n:Int)
def zaN (xs:List Nat):(uv xs).length=xs.length:=by simp[uv]
def zcF (xs ys:List Nat):uv (xs++ys)=uv xs++uv ys:=by simp[uv]
def zju (xs:List Nat)(k:Nat)(h:k<xs.length):(uv xs)[k]?=some (.int .u64 (xs.getD k 0:Nat)):=by
 unfold uv;rw[zqaj,zqaa,zqac h];rfl
def zaO (B:Nat)(w:World)(v:Value)(xs:List Nat):Prop:=w.ownsRow B 173 1 v xs.length (uv xs)
section
variable {B B':Nat} {w w':World} {v:Value} {xs:List Nat}
def zaO.keep (h:zaO B w v xs)(hk:∀ g,v.ownBlock=some g->w'.heap[g]?=w.heap[g]?):zaO B w' v xs:=by
 refine⟨h.1,?_⟩;rcases h.2 with hn|⟨g,cap,cur,rfl,hb,hgg,rest⟩
 exact .inl hn;exact .inr ⟨g,cap,cur,rfl,hb,(hk g rfl).trans hgg,rest⟩
def zaO.base (h:zaO B w v xs)(hB:B'<=B):zaO B' w v xs:=by
 refine⟨h.1,?_⟩;rcases h.2 with hn|⟨g,cap,cur,rfl,hb,rest⟩
 exact .inl hn;exact .inr ⟨g,cap,cur,rfl,by omega,rest⟩
def zaO.lt (h:zaO B w v xs):∀ g,v.ownBlock=some g->B<=g/\g<w.heap.size:=World.ownsRow.lt h
def zaO.form (h:zaO B w v xs):(v=.slice none 0 0/\xs=[]) ∨
  ∃ g cap cur,v=.slice (some ⟨g,0,none⟩) xs.length cap/\B<=g/\w.heap[g]?=some (.cells cur 173 (0,0))/\xs.length<=cap/\cap<=maxLen/\cur.size=cap/\cur.toList.take xs.length=uv xs:=by
 rcases h.2 with⟨hv,hn⟩|⟨g,cap,cur,rfl,hb,hg,hc,hm,hs,ht⟩;exact .inl ⟨hv,List.eq_nil_of_length_eq_zero hn⟩;rw[Nat.mul_one] at hs ht;exact .inr ⟨g,cap,cur,rfl,hb,hg,hc,hm,hs,ht⟩
def zaO.mk {g cap:Nat}{cur:Array Value}(hb:B<=g)(hg:w.heap[g]?=some (.cells cur 173 (0,0)))(hc:xs.length<=cap)(hm:cap<=maxLen)(hs:cur.size=cap)(ht:cur.toList.take xs.length=uv xs):zaO B w (.slice (some ⟨g,0,none⟩) xs.length cap) xs :=
 ⟨by rw[zaN,Nat.mul_one],.inr ⟨g,cap,cur,rfl,hb,hg,hc,hm,by rw[Nat.mul_one];exact hs,by rw[Nat.mul_one];exact ht⟩⟩
def zpk (h:zaO B w v xs):∃ A cap,v=.slice A xs.length cap/\True:=by
 rcases h.form with⟨rfl,rfl⟩|⟨g,cap,cur,rfl,_⟩;exact⟨none,0,rfl,trivial⟩;exact⟨_,_,rfl,trivial⟩
def zaO.grown {row:Option Nat}(h:zaO B w v xs)(hg:w.grownBy w' row)(hr:∀ g,v.ownBlock=some g->some g≠row):zaO B w' v xs :=
 h.keep fun g e=>hg.block g (h.lt g e).2 (hr g e)
end
def zhR {w:World}{g k:Nat}{cur:Array Value}{e:TypeId}(h:w.heap[g]?=some (.cells cur e (0,0))):w.cell? ⟨g,k,none⟩=cur[k]?:=zqbw w g k cur e (0,0) h
def take_at {cur:Array Value}{xs:List Nat}(ht:cur.toList.take xs.length=uv xs)(k:Nat)(hk:k<xs.length):cur[k]?=some (.int .u64 (xs.getD k 0:Nat)):=by
 rw[<- zju xs k hk,<- ht,List.getElem?_take,if_pos hk];simp
def zaa {a b c:World}{r:Option Nat}(h:a.grownBy b r)(k:b.grownBy c r):a.grownBy c r :=
 ⟨k.os.trans h.os,k.tape.trans h.tape,k.output.trans h.output,zqam h.size k.size,fun i hi hne=>(k.block i (zqba hi h.size) hne).trans (h.block i hi hne)⟩
def zai (a:World)(r:Option Nat):a.grownBy a r:=⟨rfl,rfl,rfl,zqab _,fun _ _ _=>rfl⟩
def grown_none {a b:World}{r:Option Nat}(h:a.grownBy b none):a.grownBy b r:=⟨h.os,h.tape,h.output,h.size,fun i hi _=>h.block i hi (by simp)⟩
def zad (w:World)(a:Addr)(u:Value):w.grownBy (w.setCell a u) (some a.block) :=
 ⟨rfl,rfl,rfl,by simp[World.setCell],fun k hk hne=>Below.heap_setCell _ _ _ _ (fun e=>hne (by rw[e]))⟩
def below_grown {B:Nat}{a b:World}{r:Option Nat}(h:a.grownBy b r)(hB:B<=a.heap.size)(hr:∀ k,r=some k->B<=k):Below B a b:=(Below.refl B a).grown h hB hr
def zdE {a b:World}(h:Below a.heap.size a b):a.grownBy b none:=⟨h.os,h.tape,h.output,h.size,fun i hi _=>h.block i hi⟩
def zag (a:World)(r:Option Nat):a.grownBy a.drew r:=⟨rfl,rfl,rfl,zqab _,fun _ _ _=>rfl⟩
def zce (a:World)(r:Option Nat)(n:Nat):a.grownBy (a.drewN n) r:=⟨rfl,rfl,rfl,zqab _,fun _ _ _=>rfl⟩
def zae {a b c:World}{r:Option Nat}{g:Nat}(h:a.grownBy b r)(k:b.grownBy c (some g))(hg:a.heap.size<=g):a.grownBy c r :=
 ⟨k.os.trans h.os,k.tape.trans h.tape,k.output.trans h.output,zqam h.size k.size,fun i hi hne=>(k.block i (zqba hi h.size) (by simp;omega)).trans (h.block i hi hne)⟩
open Go.RowKit
def One (w:World)(g n:Nat):Prop:=w.heap[g]?=some (.cells #[.int .u64 (n:Int)] 173 (0,0))
def zsO (q:Nat×Nat)(gc:Nat)(w:World)(e:Ending)(w':World):Prop:=e=.returned (.int .u64 (q.2:Nat))/\One w' gc q.1/\w.grownBy w' (some gc)
def zqD {a b:Int}(h:a=b):Ending.returned (.int .u64 a)=.returned (.int .u64 b):=by rw[h]
def zoq {w:World}{g:Nat}{x:Int}{n:Nat}(h:w.heap[g]?=some (.cells #[.int .u64 x] 173 (0,0)))(e:x=(n:Int)):One w g n:=by rw[e] at h;exact h
def zFk (f c a b gc gf:Nat)(w:World)(hf:f<=1000000000)(hc:c<=1000000000)(ha:a<1000000000)(hb:b<1000000000)(hne:gf≠gc)(hgc:One w gc c)(hgf:One w gf f) :
  Calls prog 206 #[.int .u64 a,.int .u64 b,.pointer (some ⟨gc,0,none⟩),.pointer (some ⟨gf,0,none⟩)] w (zsO (zbC f c a b) gc w):=by
 have hp:=znl f b hf hb;obtain⟨p,hpe⟩:∃ p,f*b=p:=⟨_,rfl⟩;have hpi:(f:Int)*(b:Int)=(p:Int):=by rw[<- hpe];push_cast;rfl
 rw[hpe] at hp;have c1:=cell_of_one hgc;have c2:=cell_of_one hgf;have c3:=free_of_one hgc;have HC:=zHd hgc;clear hgc hgf;go_enter func206,ntmps206;go_wp2;go_ret;have e1:(zbC f c a b).2=(c+(a+p))%1000000000:=by unfold zbC;rw[hpe]
 have e2:(zbC f c a b).1=(c+(a+p))/1000000000:=by unfold zbC;rw[hpe]
 refine⟨?_,?_,?_⟩;rw[e1];exact zqD (by omega);rw[e2];exact zoq (one_setCell (one_setCell HC.out)) (by omega);exact zaa (zad _ _ _) (zad _ _ _)
def zFl (f c a b gc gf:Nat)(w:World)(hf:f<=1000000000)(hc:c<=1000000000)(ha:a<1000000000)(hb:b<1000000000)(hne:gf≠gc)(hgc:One w gc c)(hgf:One w gf f) :
  Calls prog 199 #[.int .u64 a,.int .u64 b,.pointer (some ⟨gc,0,none⟩),.pointer (some ⟨gf,0,none⟩)] w (zsO (zbg f c a b) gc w):=by
 have hp:=znl f b hf hb;obtain⟨p,hpe⟩:∃ p,f*b=p:=⟨_,rfl⟩;have hpi:(f:Int)*(b:Int)=(p:Int):=by rw[<- hpe];push_cast;rfl
 rw[hpe] at hp;have c1:=cell_of_one hgc;have c2:=cell_of_one hgf;have c3:=free_of_one hgc;have HC:=zHd hgc;have HE:=zHd hpe;clear hgc hgf hpe
 by_cases hlt:a<(c+p)%1000000000
 ·have hlt':(a:Int)<((c:Int)+(p:Int))%1000000000:=by omega
  go_enter func199,ntmps199;go_wp2;go_ret;have e1:(zbg f c a b).2=a+1000000000-(c+p)%1000000000:=by unfold zbg;rw[HE.out,if_pos hlt]
  have e2:(zbg f c a b).1=(c+p)/1000000000+1:=by unfold zbg;rw[HE.out,if_pos hlt]
  refine⟨?_,?_,?_⟩;rw[e1];exact zqD (by omega);rw[e2];exact zoq (one_setCell (one_setCell (one_setCell HC.out))) (by omega);exact zaa (zaa (zad _ _ _) (zad _ _ _)) (zad _ _ _)
 have hlt':¬ (a:Int)<((c:Int)+(p:Int))%1000000000:=by omega
 go_enter func199,ntmps199;go_wp2;go_ret;have e1:(zbg f c a b).2=a-(c+p)%1000000000:=by unfold zbg;rw[HE.out,if_neg hlt]
 have e2:(zbg f c a b).1=(c+p)/1000000000:=by unfold zbg;rw[HE.out,if_neg hlt]
 refine⟨?_,?_,?_⟩;rw[e1];exact zqD (by omega);rw[e2];exact zoq (one_setCell (one_setCell HC.out)) (by omega);exact zaa (zad _ _ _) (zad _ _ _)
open Go.RowKit
def zgO (w:World)(v:Value)(xs:List Nat):Prop:=(v=.slice none 0 0/\xs=[]) ∨
 ∃ g off cap,v=.slice (some ⟨g,off,none⟩) xs.length cap/\∀ k,k<xs.length->w.cell? ⟨g,off+k,none⟩=some (.int .u64 (xs.getD k 0:Nat))
def zaO.sees {B:Nat}{w:World}{v:Value}{xs:List Nat}(h:zaO B w v xs):zgO w v xs:=by
 rcases h.form with hn|⟨g,cap,cur,rfl,hb,hg,hc,hm,hs,ht⟩;exact .inl hn;exact .inr ⟨g,0,cap,rfl,fun k hk=>by rw[zqat,zhR hg,take_at ht k hk]⟩
def zcK (xs:List Nat)(i:Int):Nat:=if i<0 then 0 else xs.getD i.toNat 0
def zfq (w:World)(v:Value)(xs:List Nat)(i:Int)(h:zgO w v xs)(hn:xs.length<=1000000)(hi : -1000000<=i)(hi2:i<=1000000) :
  Calls prog 208 #[v,.int .i64 i] w fun e w'=>e=.returned (.int .u64 (zcK xs i:Nat))/\w=w':=by
 by_cases h0:i<0
 ·have e1:zcK xs i=0:=by unfold zcK;rw[if_pos h0]
  rw[e1]
  obtain⟨A,cap,rfl⟩:∃ A cap,v=.slice A xs.length cap:=by
   rcases h with⟨rfl,rfl⟩|⟨g,off,cap,rfl,_⟩;exact⟨none,0,rfl⟩;exact⟨_,_,rfl⟩
  clear h e1;go_enter func208,ntmps208;exact zQaJ
 obtain⟨k,rfl⟩:∃ k:Nat,i=k:=⟨i.toNat,by omega⟩;have e1:zcK xs (k:Int)=xs.getD k 0:=by unfold zcK;rw[if_neg h0];rfl
 rw[e1]
 by_cases hk:k<xs.length
 ·rcases h with⟨rfl,rfl⟩|⟨g,off,cap,rfl,hc⟩
  ·exact absurd hk (by simp)
  have zE:=hc k hk;generalize xs.getD k 0=x at *;clear e1 hc;go_enter func208,ntmps208;exact zQaJ
 rw[zjm xs k hk]
 obtain⟨A,cap,rfl⟩:∃ A cap,v=.slice A xs.length cap:=by
  rcases h with⟨rfl,rfl⟩|⟨g,off,cap,rfl,_⟩;exact⟨none,0,rfl⟩;exact⟨_,_,rfl⟩
 clear h e1;go_enter func208,ntmps208;exact zQaJ
open Go.RowKit
structure zeK (g h:Nat)(w w':World):Prop where
 os:w'.os=w.os
 tape:w'.tape=w.tape
 output:w'.output=w.output
 size:w.heap.size<=w'.heap.size
 block:∀ k,k<w.heap.size->k≠g->k≠h->w'.heap[k]?=w.heap[k]?
def zeK.refl (g h:Nat)(w:World):zeK g h w w:=⟨rfl,rfl,rfl,zqab _,fun _ _ _ _=>rfl⟩
def zeK.left {g h:Nat}{a b c:World}(k:zeK g h a b)(m:b.grownBy c (some g)):zeK g h a c :=
 ⟨m.os.trans k.os,m.tape.trans k.tape,m.output.trans k.output,zqam k.size m.size,fun i hi h1 h2=>(m.block i (zqba hi k.size) (by simpa using h1)).trans (k.block i hi h1 h2)⟩
def zeK.right {g h:Nat}{a b c:World}(k:zeK g h a b)(m:b.grownBy c (some h)):zeK g h a c :=
 ⟨m.os.trans k.os,m.tape.trans k.tape,m.output.trans k.output,zqam k.size m.size,fun i hi h1 h2=>(m.block i (zqba hi k.size) (by simpa using h2)).trans (k.block i hi h1 h2)⟩
def zaS (w:World)(g:Nat)(l:List Value):Prop:=w.heap[g]?=some (.cells l.toArray 173 (0,0))
def zaS.cell {w:World}{g:Nat}{l:List Value}(h:zaS w g l)(k:Nat):w.cell? ⟨g,k,none⟩=l[k]?:=by
 rw[zhR h];simp
def zaS.free {w:World}{g:Nat}{l:List Value}(h:zaS w g l)(k:Nat):w.frozen? ⟨g,k,none⟩=false:=zqbx w g k _ _ h
def zaS.set {w:World}{g:Nat}{l:List Value}(h:zaS w g l)(k:Nat)(u:Value):zaS (w.setCell ⟨g,k,none⟩ u) g (l.set k u):=by
 unfold zaS;exact zQco
def zaS.lt {w:World}{g:Nat}{l:List Value}(h:zaS w g l):g<w.heap.size:=lt_of_block h
def zaS.grown {w w':World}{g:Nat}{l:List Value}{r:Option Nat}(h:zaS w g l)(hg:w.grownBy w' r)(hr:some g≠r):zaS w' g l:=(hg.block g h.lt hr).trans h
def zvL (pre post:List Value)(zs xs:List Nat)(k:Nat)(hz:zs.length=k)(hk:k<xs.length) :
  (pre++uv (zs++xs.drop k)++post)[pre.length+k]?=some (.int .u64 (xs.getD k 0:Nat)):=by
 rw[zlT xs k hk,zcF,zqbj,zqaq (by omega),Nat.add_sub_cancel_left,zqbj,zqaq (by rw[zaN];omega),zaN,hz,zqbr];rfl
def zvM (pre post:List Value)(zs xs:List Nat)(k x:Nat)(hz:zs.length=k)(hk:k<xs.length) :
  (pre++uv (zs++xs.drop k)++post).set (pre.length+k) (.int .u64 (x:Int))=pre++uv ((zs++[x])++xs.drop (k+1))++post:=by
 rw[zlT xs k hk,zcF,zqbj,List.set_append_right _ _ (by omega),Nat.add_sub_cancel_left,zqbj,List.set_append_right _ _ (by rw[zaN];omega),zaN,hz,zqbr];simp[uv]
def zsP (q:List Nat×Nat)(pre post:List Value)(g gc:Nat)(w:World)(e:Ending)(w':World):Prop :=
 e=.returned (.tuple #[])/\zaS w' g (pre++uv q.1++post)/\One w' gc q.2/\zeK g gc w w'
def zjV (q:List Nat×Nat)(pre post:List Value)(g:Nat)(w:World)(e:Ending)(w':World):Prop :=
 e=.returned (.int .u64 (q.2:Nat))/\zaS w' g (pre++uv q.1++post)/\w.grownBy w' (some g)
def zFm (f c0 g gc gf cap:Nat)(pre post:List Value)(xs ys:List Nat)(vy:Value)(w:World)
  (hf:f<=1000000000) (hc0:c0<=1000000000) (hx:∀ x∈xs,x<1000000000) (hy:∀ y∈ys,y<1000000000)
  (hn:xs.length<=1000000) (hp:pre.length<=1000000) (hm:ys.length<=1000000) (hcap:cap<=maxLen)
  (hg:zaS w g (pre++uv xs++post)) (hgc:One w gc c0) (hgf:One w gf f) (hB:zaO 0 w vy ys)
  (h1:g≠gc) (h2:gf≠gc) (h3:gf≠g) (h4:∀ b,vy.ownBlock=some b->b≠g/\b≠gc) :
  Calls prog 198 #[.slice (some ⟨g,pre.length,none⟩) xs.length cap,vy,.func (.func 206) #[] #[.pointer (some ⟨gc,0,none⟩),.pointer (some ⟨gf,0,none⟩)]] w
   (zsP (zaL (zbC f) xs ys c0 xs.length) pre post g gc w):=by
 have hI:=zjn f xs ys hf hx hy c0 hc0;have hbnd:∀ k,(zaL (zbC f) xs ys c0 k).2<=1000000000:=fun k=>(hI k).2.1;have HG:=zHd hg;have HC:=zHd hgc;have HF:=zHd hgf;have HB:=zHd hB;have HX:=zHd hx;have HY:=zHd hy;have HBN:=zHd hbnd;have H4:=zHd h4;clear hg hgc hgf hB hI hbnd hx hy h4;unfold maxLen at hcap;go_enter func198,ntmps198;go_wp2
 go_loopw [9] (fun i wr=>∃ (k:Nat),i=.int .i64 k/\k<=xs.length/\zaS wr g (pre++uv ((zaL (zbC f) xs ys c0 k).1++xs.drop k)++post)/\One wr gc (zaL (zbC f) xs ys c0 k).2/\zeK g gc w wr) (fun i _=>xs.length-(intOf i).toNat)
 case atStart=>exact⟨0,rfl,by omega,by simpa [zaL] using HG.out,HC.out,zeK.refl _ _ _⟩
 case round =>
  obtain⟨k,rfl,hk,hgr,hcr,hkr⟩:=hrel
  by_cases hlt:k<xs.length
  ·have zE:wr.cell? ⟨g,pre.length+k,none⟩=some (.int .u64 (xs.getD k 0:Nat)):=by rw[hgr.cell];exact zvL pre post _ xs k (zbR _ _ _ _ _) hlt
   have hz:=zbR (zbC f) xs ys c0 k;have hyr:zaO 0 wr vy ys:=HB.out.keep fun b hb=>hkr.block b (HB.out.lt b hb).2 (H4.out b hb).1 (H4.out b hb).2;have hfr:One wr gf f:=(hkr.block gf (lt_of_block HF.out) h3 h2).trans HF.out;have hblk:=fun w' (h:zgO w' vy ys)=>zfq w' vy ys (k:Int) h hm (by omega) (by omega);have eb:zcK ys (k:Int)=ys.getD k 0:=by unfold zcK;rw[if_neg (by omega)];rfl
   rw[eb] at hblk;have hst:=fun w' (h5:One w' gc (zaL (zbC f) xs ys c0 k).2) (h6:One w' gf f)=>zFk f (zaL (zbC f) xs ys c0 k).2 (xs.getD k 0) (ys.getD k 0) gc gf w' hf (HBN.out k) (zbl _ (by decide) xs HX.out k) (zbl _ (by decide) ys HY.out k) h2 h5 h6;have HS:=zHd (show zaL (zbC f) xs ys c0 (k+1)=((zaL (zbC f) xs ys c0 k).1++[(zbC f (zaL (zbC f) xs ys c0 k).2 (xs.getD k 0) (ys.getD k 0)).2],(zbC f (zaL (zbC f) xs ys c0 k).2 (xs.getD k 0) (ys.getD k 0)).1) from rfl);have HSE:=zHd (show zgO wr.drew vy ys from hyr.sees);generalize zbC f (zaL (zbC f) xs ys c0 k).2 (xs.getD k 0) (ys.getD k 0)=q at *;generalize (zaL (zbC f) xs ys c0 k).2=c at *;generalize (zaL (zbC f) xs ys c0 k).1=zs at *;have HST:=zHd (fun r=>zvM pre post zs xs k r hz hlt);have hk1:(k:Int)<(xs.length:Int):=by omega
   generalize hxa:xs.getD k 0=a at *;generalize hyb:ys.getD k 0=b at *;have HHG:=zHd (show zaS wr.drew g _ from hgr);have HHC:=zHd (show One wr.drew gc c from hcr);have HHF:=zHd (show One wr.drew gf f from hfr);have HK:=zHd (show zeK g gc w wr.drew from⟨hkr.os,hkr.tape,hkr.output,hkr.size,hkr.block⟩);have HBL:=zHd hblk;have HSTP:=zHd hst;clear hgr hcr hfr hkr hyr eb hblk hst hz hxa hyb;go_wp2
   go_region_with (first
    | (go_at_call 208;refine(HBL.out _ HSE.out).mono ?_;rintro e w' ⟨rfl,rfl⟩)
    | (go_at_call 206;refine(HSTP.out _ HHC.out HHF.out).mono ?_;rintro e w' ⟨rfl,ho,hgw⟩;have HO:=zHd ho;have HGW:=zHd hgw;have HCG:=zHd (HHG.out.grown hgw (by simpa using h1));have hcell2:=zE;rw[show wr.cell? ⟨g,pre.length+k,none⟩=wr.drew.cell? ⟨g,pre.length+k,none⟩ from rfl,HHG.out.cell,<- HCG.out.cell] at hcell2;have hfree2:=HCG.out.free (pre.length+k);clear ho hgw))
   all_goals
    have hnew:=(HCG.out.set (pre.length+k) (.int .u64 (q.2:Int)));rw[HST.out q.2] at hnew;have hend:zaS (w'.setCell ⟨g,pre.length+k,none⟩ (.int .u64 (q.2:Int))) g (pre++uv ((zaL (zbC f) xs ys c0 (k+1)).1++xs.drop (k+1))++post):=by rw[HS.out];exact hnew
    have hone:One (w'.setCell ⟨g,pre.length+k,none⟩ (.int .u64 (q.2:Int))) gc (zaL (zbC f) xs ys c0 (k+1)).2:=by
     exact zQci
    have hkept:zeK g gc w (w'.setCell ⟨g,pre.length+k,none⟩ (.int .u64 (q.2:Int))):=(HK.out.right HGW.out).left (zad _ _ _);have HEND:=zHd hend;have HONE:=zHd hone;have HKEPT:=zHd hkept;clear hnew hend hone hkept zE hcell2 hfree2;go_wp2
    go_roundw
    case rel=>exact⟨k+1,by go_num,by omega,HEND.out,HONE.out,HKEPT.out⟩
    case measure=>simp[intOf];omega
  have e:k=xs.length:=by omega
  subst e;rw[List.drop_length,List.append_nil] at hgr;have HHG:=zHd hgr;have HHC:=zHd hcr;have HK:=zHd hkr;clear hgr hcr hkr;go_wp2
  go_end0
  exact⟨rfl,HHG.out,HHC.out,HK.out⟩
def zjv (f g cap:Nat)(pre post:List Value)(xs ys:List Nat)(vy:Value)(w:World)
  (hf:f<=1000000000) (hx:∀ x∈xs,x<1000000000) (hy:∀ y∈ys,y<1000000000)
  (hn:xs.length<=1000000) (hp:pre.length<=1000000) (hm:ys.length<=1000000) (hcap:cap<=maxLen)
  (hg:zaS w g (pre++uv xs++post)) (hB:zaO 0 w vy ys) (h4:vy.ownBlock≠some g) :
  Calls prog 195 #[.slice (some ⟨g,pre.length,none⟩) xs.length cap,vy,.int .u64 f] w
   (zjV (zaL (zbC f) xs ys 0 xs.length) pre post g w):=by
 have hlt:=hg.lt
 have hc:=zFm f 0 g (w.heap.size+1) w.heap.size cap pre post xs ys vy ((w.alloc (.cells #[.int .u64 (f:Int)] 173)).alloc (.cells #[.int .u64 0] 173)) hf (by omega) hx hy hn hp hm hcap
  (hg.grown (zaa (zGA _ _ none) (zGA _ _ none)) (by simp))
  (by have:=zqce (w.alloc (.cells #[.int .u64 (f:Int)] 173)) (.cells #[.int .u64 0] 173);rw[World.size_alloc] at this;exact this)
  ((heap_alloc_old (w.alloc (.cells #[.int .u64 (f:Int)] 173)) (.cells #[.int .u64 0] 173) (by simp)).trans (zqce _ _))
  (hB.grown (zaa (zGA _ _ none) (zGA _ _ none)) (by simp))
  (by omega) (by omega) (by omega) (fun b hb=>⟨fun e=>h4 (by rw[hb,e]),by have:=(hB.lt b hb).2;omega⟩)
 have HC:=zHd hc;clear hc hg hB h4 hx hy;unfold maxLen at hcap;have hmf := @zMF prog;go_enter func195,ntmps195;go_wp2_with fail;refine HC.out.mono ?_;rintro e w' ⟨rfl,ze,hone,hk⟩;have hc1:=cell_of_one hone;have hc2:=free_of_one hone;have HCE:=zHd ze;have HO:=zHd hone;have HK:=zHd hk;clear ze hone hk HC;generalize zaL (zbC f) xs ys 0 xs.length=q at *;go_wp2;have hc3:=cell_of_one (one_setCell (u:=.int .u64 (q.2:Int)) HO.out);refine zqby (v:=.int .u64 (q.2:Int)) (by simp[results,results195,go_sem,hc3]) rfl ⟨rfl,?_,?_⟩;exact(Below.heap_setCell _ _ _ _ (by simp;omega)).trans HCE.out;have hk:=HK.out;refine⟨hk.os,hk.tape,hk.output,?_,fun i hi hne=>?_⟩;have:=hk.size;simp[World.setCell] at this ⊢;omega;exact zQbo
def zFn (f c0 g gc gf cap:Nat)(pre post:List Value)(xs ys:List Nat)(vy:Value)(w:World)
  (hf:f<=1000000000) (hc0:c0<=1000000000) (hx:∀ x∈xs,x<1000000000) (hy:∀ y∈ys,y<1000000000)
  (hn:xs.length<=1000000) (hp:pre.length<=1000000) (hm:ys.length<=1000000) (hcap:cap<=maxLen)
  (hg:zaS w g (pre++uv xs++post)) (hgc:One w gc c0) (hgf:One w gf f) (hB:zaO 0 w vy ys)
  (h1:g≠gc) (h2:gf≠gc) (h3:gf≠g) (h4:∀ b,vy.ownBlock=some b->b≠g/\b≠gc) :
  Calls prog 198 #[.slice (some ⟨g,pre.length,none⟩) xs.length cap,vy,.func (.func 199) #[] #[.pointer (some ⟨gc,0,none⟩),.pointer (some ⟨gf,0,none⟩)]] w
   (zsP (zaL (zbg f) xs ys c0 xs.length) pre post g gc w):=by
 have hI:=zkQ f xs ys hf hx hy c0 hc0;have hbnd:∀ k,(zaL (zbg f) xs ys c0 k).2<=1000000000:=fun k=>(hI k).2.1;have HG:=zHd hg;have HC:=zHd hgc;have HF:=zHd hgf;have HB:=zHd hB;have HX:=zHd hx;have HY:=zHd hy;have HBN:=zHd hbnd;have H4:=zHd h4;clear hg hgc hgf hB hI hbnd hx hy h4;unfold maxLen at hcap;go_enter func198,ntmps198;go_wp2
 go_loopw [9] (fun i wr=>∃ (k:Nat),i=.int .i64 k/\k<=xs.length/\zaS wr g (pre++uv ((zaL (zbg f) xs ys c0 k).1++xs.drop k)++post)/\One wr gc (zaL (zbg f) xs ys c0 k).2/\zeK g gc w wr) (fun i _=>xs.length-(intOf i).toNat)
 case atStart=>exact⟨0,rfl,by omega,by simpa [zaL] using HG.out,HC.out,zeK.refl _ _ _⟩
 case round =>
  obtain⟨k,rfl,hk,hgr,hcr,hkr⟩:=hrel
  by_cases hlt:k<xs.length
  ·have zE:wr.cell? ⟨g,pre.length+k,none⟩=some (.int .u64 (xs.getD k 0:Nat)):=by rw[hgr.cell];exact zvL pre post _ xs k (zbR _ _ _ _ _) hlt
   have hz:=zbR (zbg f) xs ys c0 k;have hyr:zaO 0 wr vy ys:=HB.out.keep fun b hb=>hkr.block b (HB.out.lt b hb).2 (H4.out b hb).1 (H4.out b hb).2;have hfr:One wr gf f:=(hkr.block gf (lt_of_block HF.out) h3 h2).trans HF.out;have hblk:=fun w' (h:zgO w' vy ys)=>zfq w' vy ys (k:Int) h hm (by omega) (by omega);have eb:zcK ys (k:Int)=ys.getD k 0:=by unfold zcK;rw[if_neg (by omega)];rfl
   rw[eb] at hblk;have hst:=fun w' (h5:One w' gc (zaL (zbg f) xs ys c0 k).2) (h6:One w' gf f)=>zFl f (zaL (zbg f) xs ys c0 k).2 (xs.getD k 0) (ys.getD k 0) gc gf w' hf (HBN.out k) (zbl _ (by decide) xs HX.out k) (zbl _ (by decide) ys HY.out k) h2 h5 h6;have HS:=zHd (show zaL (zbg f) xs ys c0 (k+1)=((zaL (zbg f) xs ys c0 k).1++[(zbg f (zaL (zbg f) xs ys c0 k).2 (xs.getD k 0) (ys.getD k 0)).2],(zbg f (zaL (zbg f) xs ys c0 k).2 (xs.getD k 0) (ys.getD k 0)).1) from rfl);have HSE:=zHd (show zgO wr.drew vy ys from hyr.sees);generalize zbg f (zaL (zbg f) xs ys c0 k).2 (xs.getD k 0) (ys.getD k 0)=q at *;generalize (zaL (zbg f) xs ys c0 k).2=c at *;generalize (zaL (zbg f) xs ys c0 k).1=zs at *;have HST:=zHd (fun r=>zvM pre post zs xs k r hz hlt);have hk1:(k:Int)<(xs.length:Int):=by omega
   generalize hxa:xs.getD k 0=a at *;generalize hyb:ys.getD k 0=b at *;have HHG:=zHd (show zaS wr.drew g _ from hgr);have HHC:=zHd (show One wr.drew gc c from hcr);have HHF:=zHd (show One wr.drew gf f from hfr);have HK:=zHd (show zeK g gc w wr.drew from⟨hkr.os,hkr.tape,hkr.output,hkr.size,hkr.block⟩);have HBL:=zHd hblk;have HSTP:=zHd hst;clear hgr hcr hfr hkr hyr eb hblk hst hz hxa hyb;go_wp2
   go_region_with (first
    | (go_at_call 208;refine(HBL.out _ HSE.out).mono ?_;rintro e w' ⟨rfl,rfl⟩)
    | (go_at_call 199;refine(HSTP.out _ HHC.out HHF.out).mono ?_;rintro e w' ⟨rfl,ho,hgw⟩;have HO:=zHd ho;have HGW:=zHd hgw;have HCG:=zHd (HHG.out.grown hgw (by simpa using h1));have hcell2:=zE;rw[show wr.cell? ⟨g,pre.length+k,none⟩=wr.drew.cell? ⟨g,pre.length+k,none⟩ from rfl,HHG.out.cell,<- HCG.out.cell] at hcell2;have hfree2:=HCG.out.free (pre.length+k);clear ho hgw))
   all_goals
    have hnew:=(HCG.out.set (pre.length+k) (.int .u64 (q.2:Int)));rw[HST.out q.2] at hnew;have hend:zaS (w'.setCell ⟨g,pre.length+k,none⟩ (.int .u64 (q.2:Int))) g (pre++uv ((zaL (zbg f) xs ys c0 (k+1)).1++xs.drop (k+1))++post):=by rw[HS.out];exact hnew
    have hone:One (w'.setCell ⟨g,pre.length+k,none⟩ (.int .u64 (q.2:Int))) gc (zaL (zbg f) xs ys c0 (k+1)).2:=by
     exact zQci
    have hkept:zeK g gc w (w'.setCell ⟨g,pre.length+k,none⟩ (.int .u64 (q.2:Int))):=(HK.out.right HGW.out).left (zad _ _ _);have HEND:=zHd hend;have HONE:=zHd hone;have HKEPT:=zHd hkept;clear hnew hend hone hkept zE hcell2 hfree2;go_wp2
    go_roundw
    case rel=>exact⟨k+1,by go_num,by omega,HEND.out,HONE.out,HKEPT.out⟩
    case measure=>simp[intOf];omega
  have e:k=xs.length:=by omega
  subst e;rw[List.drop_length,List.append_nil] at hgr;have HHG:=zHd hgr;have HHC:=zHd hcr;have HK:=zHd hkr;clear hgr hcr hkr;go_wp2
  go_end0
  exact⟨rfl,HHG.out,HHC.out,HK.out⟩
def zlX (f g cap:Nat)(pre post:List Value)(xs ys:List Nat)(vy:Value)(w:World)
  (hf:f<=1000000000) (hx:∀ x∈xs,x<1000000000) (hy:∀ y∈ys,y<1000000000)
  (hn:xs.length<=1000000) (hp:pre.length<=1000000) (hm:ys.length<=1000000) (hcap:cap<=maxLen)
  (hg:zaS w g (pre++uv xs++post)) (hB:zaO 0 w vy ys) (h4:vy.ownBlock≠some g) :
  Calls prog 186 #[.slice (some ⟨g,pre.length,none⟩) xs.length cap,vy,.int .u64 f] w
   (zjV (zaL (zbg f) xs ys 0 xs.length) pre post g w):=by
 have hlt:=hg.lt
 have hc:=zFn f 0 g (w.heap.size+1) w.heap.size cap pre post xs ys vy ((w.alloc (.cells #[.int .u64 (f:Int)] 173)).alloc (.cells #[.int .u64 0] 173)) hf (by omega) hx hy hn hp hm hcap
  (hg.grown (zaa (zGA _ _ none) (zGA _ _ none)) (by simp))
  (by have:=zqce (w.alloc (.cells #[.int .u64 (f:Int)] 173)) (.cells #[.int .u64 0] 173);rw[World.size_alloc] at this;exact this)
  ((heap_alloc_old (w.alloc (.cells #[.int .u64 (f:Int)] 173)) (.cells #[.int .u64 0] 173) (by simp)).trans (zqce _ _))
  (hB.grown (zaa (zGA _ _ none) (zGA _ _ none)) (by simp))
  (by omega) (by omega) (by omega) (fun b hb=>⟨fun e=>h4 (by rw[hb,e]),by have:=(hB.lt b hb).2;omega⟩)
 have HC:=zHd hc;clear hc hg hB h4 hx hy;unfold maxLen at hcap;have hmf := @zMF prog;go_enter func186,ntmps186;go_wp2_with fail;refine HC.out.mono ?_;rintro e w' ⟨rfl,ze,hone,hk⟩;have hc1:=cell_of_one hone;have hc2:=free_of_one hone;have HCE:=zHd ze;have HO:=zHd hone;have HK:=zHd hk;clear ze hone hk HC;generalize zaL (zbg f) xs ys 0 xs.length=q at *;go_wp2;have hc3:=cell_of_one (one_setCell (u:=.int .u64 (q.2:Int)) HO.out);refine zqby (v:=.int .u64 (q.2:Int)) (by simp[results,results186,go_sem,hc3]) rfl ⟨rfl,?_,?_⟩;exact(Below.heap_setCell _ _ _ _ (by simp;omega)).trans HCE.out;have hk:=HK.out;refine⟨hk.os,hk.tape,hk.output,?_,fun i hi hne=>?_⟩;have:=hk.size;simp[World.setCell] at this ⊢;omega;exact zQbo
open Go.RowKit
def zjw:(prog.info? 173).map (fun i=>(i.zero,i.size,i.bytes))=some (some (.int .u64 0),1,8):=by kernel_rfl
def zaS.of_full {w:World}{B g n:Nat}{l:List Value}(h:w.ownsRow B 173 1 (.slice (some ⟨g,0,none⟩) n n) n l):zaS w g l/\B<=g:=by
 rcases h.2 with⟨h',_⟩|⟨g',cap',cur,h',hb,hg,_,_,hs,ht⟩;simp at h';simp only[Value.slice.injEq,Option.some.injEq,Addr.mk.injEq,and_true,true_and] at h';obtain⟨rfl,rfl⟩:=h';rw[zqaf (by rw[zqbs,hs];exact zqab _)] at ht;subst ht;exact⟨by unfold zaS;rw[hg],hb⟩
def zfX (n:Nat):(madeCells #[Value.int .u64 0] n).toList=uv (List.replicate n 0):=by
 rw[toList_madeCells_one];simp[uv]
def zaO.of_cells {w:World}{B g cap:Nat}{l:List Value}{xs:List Nat}(h:zaS w g l)(hB:B<=g)(hl:l.length=cap)(hm:cap<=maxLen)(hx:l.take xs.length=uv xs)(hle:xs.length<=cap):zaO B w (.slice (some ⟨g,0,none⟩) xs.length cap) xs :=
 zaO.mk hB h hle hm (by simpa using hl) (by simpa using hx)
def zaO.cells {w:World}{B g n cap:Nat}{xs:List Nat}(h:zaO B w (.slice (some ⟨g,0,none⟩) n cap) xs):n=xs.length/\B<=g/\xs.length<=cap/\cap<=maxLen/\∃ post,zaS w g (uv xs++post)/\post.length=cap-xs.length:=by
 rcases h.form with⟨h',_⟩|⟨g',cap',cur,h',hb,hg,hc,hm,hs,ht⟩;simp at h';simp only[Value.slice.injEq,Option.some.injEq,Addr.mk.injEq,and_true,true_and] at h';obtain⟨rfl,rfl,rfl⟩:=h';refine⟨rfl,hb,hc,hm,cur.toList.drop xs.length,?_,by simp[hs]⟩;rw[<- ht,List.take_append_drop];unfold zaS;rw[hg]
def zpl (xs:List Nat)(i n:Nat):(uv xs).set i (.int .u64 (n:Int))=uv (xs.set i n):=by simp[uv,List.map_set]
def zns (xs:List Nat)(m:Nat):(uv xs).take m=uv (xs.take m):=by simp[uv,List.map_take]
def zCb (g cap:Nat)(xs:List Nat)(w:World)(e:Ending)(w':World):Prop :=
 ∃ m,m<=xs.length/\e=.returned (.slice (some ⟨g,0,none⟩) m cap)/\w=w'/\vl 1000000000 (xs.take m)=vl 1000000000 xs/\zcZ (xs.take m)
def zkR (B g cap:Nat)(xs:List Nat)(w:World)(h:zaO B w (.slice (some ⟨g,0,none⟩) xs.length cap) xs)(hn:xs.length<=1000000) :
  Calls prog 196 #[.slice (some ⟨g,0,none⟩) xs.length cap] w (zCb g cap xs w):=by
 obtain⟨_,hb,hle,hm,post,hcs,_⟩:=h.cells;unfold maxLen at hm
 have zE:∀ k,k<xs.length->w.cell? ⟨g,k,none⟩=some (.int .u64 (xs.getD k 0:Nat)):=fun k hk=>by
  rw[hcs.cell,zqal (by rw[zaN];exact hk),zju xs k hk]
 have HC:=zHd zE;clear zE hcs h;go_enter func196,ntmps196;go_wp2
 go_loop [0] (fun v=>∃ m,v=.slice (some ⟨g,0,none⟩) m cap/\m<=xs.length/\vl 1000000000 (xs.take m)=vl 1000000000 xs) (fun v=>match v with | .slice _ m _=>m|_=>0)
 case atStart=>exact⟨xs.length,rfl,zqab _,by rw[List.take_length]⟩
 case round =>
  obtain⟨m,rfl,hmx,hv⟩:=hrel;have HV:=zHd hv;clear hv
  by_cases h0:m=0
  ·subst h0
   go_wp2;go_ret;exact⟨0,by omega,rfl,rfl,HV.out,by rw[List.take_zero];exact zyL⟩
  obtain⟨k,rfl⟩:∃ k,m=k+1:=⟨m-1,by omega⟩;have zE:=HC.out k (by omega)
  by_cases hz:xs.getD k 0=0
  ·rw[hz] at zE
   have HZ:=zHd hz;clear hz;go_wp2;go_round
   case rel=>exact⟨k,by simp,by omega,by
    have e:=zaU 1000000000 xs k;rw[HZ.out,Nat.mul_zero] at e;have:=HV.out;omega⟩
   case measure=>simp
  have hz':((xs.getD k 0:Nat):Int)≠0:=by omega
  have HZ:=zHd hz;clear hz;generalize hxk:xs.getD k 0=x at *;have HX:=zHd hxk;clear hxk;have f1:((x:Int)==0)=false:=(by simpa using hz');go_wp2;go_ret;refine⟨k+1,hmx,rfl,rfl,HV.out,zsp _ ?_⟩;have zN:(xs.take (k+1)).length=k+1:=(by rw[zqan];omega);rw[zN,Nat.add_sub_cancel];rw[zqaa,List.getElem?_take,if_pos (by omega),<- zqaa];rw[HX.out];exact HZ.out
def zkS (s:ByteArray)(k:Nat)(h:k<s.size):s.data.toList.take (k+1)=s.data.toList.take k++[s[k]]:=by
 rw[List.take_succ_eq_append_getElem (by simpa using h)];rfl
def zkE (s:ByteArray)(h:zas s=true)(k:Nat)(hk:k<s.size):48<=s[k].toNat/\s[k].toNat<=57:=by
 unfold zas zlV at h;simp only[zqbb,List.all_eq_true] at h;have:=h.1.2 s[k] (by show s.data[k]∈_;simp);unfold zdo at this;simpa using this
def zcG (s:ByteArray)(h:zas s=true):1<=s.size/\s.size<=1000:=by
 unfold zas zlV at h;simp only[zqbb,zqca] at h;have e:s.data.toList.length=s.size:=by simp
 rw[e] at h;exact⟨h.1.1.1,h.1.1.2⟩
def zCc (n B:Nat)(w:World)(e:Ending)(w':World):Prop :=
 ∃ g cap xs,e=.returned (.slice (some ⟨g,0,none⟩) xs.length cap)/\zaO B w' (.slice (some ⟨g,0,none⟩) xs.length cap) xs/\w.heap.size<=g /\
  (∀ x∈xs,x<1000000000)/\vl 1000000000 xs=n/\zcZ xs/\xs.length<=112/\w.grownBy w' none
def zeU (s:ByteArray)(w:World)(hs:zas s=true) :
  Calls prog 183 #[.string s] w (zCc (nv s) w.heap.size w):=by
 obtain⟨i0,hi,hz0,hz1,hz2⟩:=info_parts zjw;obtain⟨hs1,hs2⟩:=zcG s hs;have hdg:=zkE s hs;have HD:=zHd hdg;clear hdg hs;go_enter func183,ntmps183;go_wp2_with (at_make;refine wpList_make_full _ rfl _ _ 169 rfl w.heap.size 173 i0 (.int .u64 0) 1 underlying169 hi hz0 hz1 _ _ _ _ ((s.size+8)/9) rfl rfl ?c0 ?c1 ?c2 ?c3 ?c4 ?_)
 case c0=>omega
 case c1=>omega
 case c2=>rw[hz2];omega
 case c3=>unfold maxLen;omega
 case c4=>omega
 intro w1 zO hgr;rw[zfX] at zO;have hc0:=(zaS.of_full zO).1;have HG:=zHd hgr;clear zO hgr;go_wp2
 go_loopw [14] (fun i wr=>∃ (k:Nat) (xs:List Nat),i=.int .i64 k/\k<=s.size/\zhq s.size k (zdn (s.data.toList.take k)) xs/\zaS wr w.heap.size (uv xs)/\w.grownBy wr none) (fun i _=>s.size-(intOf i).toNat)
 case atStart=>exact⟨0,_,rfl,by omega,zhq.start s.size,hc0,HG.out⟩
 case round =>
  obtain⟨k,xs,rfl,hk,zI,hcr,hgr⟩:=hrel;have hxl:=zI.length
  by_cases hlt:k<s.size
  ·have hd:=HD.out k hlt
   have hbd:=zI.bound hlt;have hlx:(s.size-1-k)/9<xs.length:=by omega
   have zE:wr.cell? ⟨w.heap.size,(s.size-1-k)/9,none⟩=some (.int .u64 (xs.getD ((s.size-1-k)/9) 0:Nat)):=by rw[hcr.cell,zju _ _ hlx]
   have hfree:=hcr.free ((s.size-1-k)/9);have zS':=zI.step hlt (s[k].toNat-48) (by omega);have hset:=hcr.set ((s.size-1-k)/9) (.int .u64 ((xs.getD ((s.size-1-k)/9) 0*10+(s[k].toNat-48):Nat):Int));rw[zpl,show((xs.getD ((s.size-1-k)/9) 0*10+(s[k].toNat-48):Nat):Int)=(xs.getD ((s.size-1-k)/9) 0:Nat)*10+((s[k].toNat:Int)-48) by omega] at hset;rw[<- zfp,<- zkS s k hlt] at zS';have HST:=zHd zS';have HSET:=zHd hset;have HTS:=zHd (zkS s k hlt);have HGR:=zHd hgr;clear zI hcr zS' hset hgr;have hd1:(48:Int)<=(s[k].toNat:Int):=by omega
   have hd2:(s[k].toNat:Int)<=57:=by omega
   generalize hxv:xs.getD ((s.size-1-k)/9) 0=x at *;clear hxv;have hi1:(0:Int)<=((s.size:Int)-1-k)/9:=by omega
   have hi2:((s.size:Int)-1-k)/9<(((s.size+8)/9:Nat):Int):=by omega
   go_wp2
   go_region
   go_wp2
   go_roundw
   case rel=>exact⟨k+1,_,by go_num,by omega,HST.out,HSET.out,zae (g:=w.heap.size) HGR.out (zaa (zad wr ⟨w.heap.size,(s.size-1-k)/9,none⟩ _) (zag _ _)) (zqab _)⟩
   case measure=>simp[intOf];omega
  have e:k=s.size:=by omega
  subst e;rw[zqaf (by simp)] at zI;have hfin:=zI.fin;have hlt9:=zI.lt;have hbk:zaO w.heap.size wr (.slice (some ⟨w.heap.size,0,none⟩) xs.length xs.length) xs:=zaO.of_cells hcr (zqab _) (zaN xs) (by unfold maxLen;omega) (by rw[zqaf (by rw[zaN];exact zqab _)]) (zqab _);have htr:=zkR w.heap.size w.heap.size xs.length xs wr hbk (by omega);rw[hxl] at htr;have HT:=zHd htr;have HF:=zHd hfin;have HL:=zHd hlt9;have HCR:=zHd hcr;have HGR:=zHd hgr;have HXL:=zHd hxl;clear zI hfin hlt9 hbk htr hcr hgr hxl;go_wp2_with fail;refine HT.out.mono ?_;rintro e w' ⟨m,hm,rfl,rfl,hv,ht⟩;have HV:=zHd hv;have HTT:=zHd ht;clear hv ht;go_wp2;go_ret;have hxl:=HXL.out;have hml:(xs.take m).length=m:=by rw[zqan];omega
  refine⟨w.heap.size,(s.size+8)/9,xs.take m,by rw[hml];rfl,?_,zqab _,fun x hx=>HL.out x (zqau hx),by rw[HV.out,<- HF.out];rfl,HTT.out,by rw[hml];omega,HGR.out⟩;exact zaO.of_cells HCR.out (zqab _) (by rw[zaN,hxl]) (by unfold maxLen;omega) (by rw[hml];exact zns xs m) (by rw[hml];omega)
open Go.RowKit
open Go.Lib (dg decDigits nDigits)
def ub (l:List UInt8):List Value:=l.map fun b=>Value.int .u8 (b.toNat:Int)
def zGP (l:List UInt8)(k:Nat)(h:k<l.length):(ub l)[k]?=some (.int .u8 (l[k].toNat:Int)):=by
 unfold ub;rw[zqaj,zqac h];rfl
def Bytes (w:World)(g:Nat)(l:List UInt8):Prop:=w.heap[g]?=some (.cells (ub l).toArray 5 (0,0))
def Bytes.cell {w:World}{g:Nat}{l:List UInt8}(h:Bytes w g l)(k:Nat)(hk:k<l.length):w.cell? ⟨g,k,none⟩=some (.int .u8 (l[k].toNat:Int)):=by
 rw[zhR h,<- zGP l k hk];simp
def Bytes.free {w:World}{g:Nat}{l:List UInt8}(h:Bytes w g l)(k:Nat):w.frozen? ⟨g,k,none⟩=false:=zqbx w g k _ _ h
def Bytes.set {w:World}{g:Nat}{l:List UInt8}(h:Bytes w g l)(k:Nat)(u:UInt8):Bytes (w.setCell ⟨g,k,none⟩ (.int .u8 (u.toNat:Int))) g (l.set k u):=by
 unfold Bytes;rw[heap_setCell_same w g k _ _ _ h];simp[ub,List.map_set]
def Bytes.conv {w:World}{g cap:Nat}{l:List UInt8}(h:Bytes w g l) :
  (convert 166 9 (.slice (some ⟨g,0,none⟩) l.length cap)).run prog w=.ok (.string ⟨l.toArray⟩) w:=by
 refine run_convert_bytes_back w 166 9 5 ⟨g,0,none⟩ cap l underlying166 underlying5 underlying9 (fun j hj=>?_);have hadd:(⟨g,0,none⟩:Addr).add j=⟨g,j,none⟩:=by unfold Addr.add;split <;> simp_all
 rw[hadd];exact h.cell j hj
def zFo:(prog.info? 5).map (fun i=>(i.zero,i.size,i.bytes))=some (some (.int .u8 0),1,1):=by kernel_rfl
def Bytes.of_full {w:World}{B g n:Nat}(h:w.ownsRow B 5 1 (.slice (some ⟨g,0,none⟩) n n) n (madeCells #[Value.int .u8 0] n).toList):Bytes w g (List.replicate n 0):=by
 rcases h.2 with⟨h',_⟩|⟨g',cap',cur,h',hb,hg,_,_,hs,ht⟩;simp at h';simp only[Value.slice.injEq,Option.some.injEq,Addr.mk.injEq,and_true,true_and] at h';obtain⟨rfl,rfl⟩:=h';rw[zqaf (by rw[zqbs,hs];exact zqab _),toList_madeCells_one] at ht;unfold Bytes;rw[hg]
 have e:cur=(ub (List.replicate n 0)).toArray:=by
  apply Array.toList_inj.1;rw[ht];simp[ub]
 rw[e]
structure zkr (V L t:Nat)(ds:List UInt8):Prop where
 length:ds.length=L
 le:t<=L
 done:∀ s,s<t->ds[L-1-s]?=some (dg V s)
def zkr.start (V L:Nat):zkr V L 0 (List.replicate L 0):=⟨by simp,zqaw _,fun s hs=>by omega⟩
def zkr.step {V L t:Nat}{ds:List UInt8}(h:zkr V L t ds)(ht:t<L):zkr V L (t+1) (ds.set (L-1-t) (dg V t)):=by
 refine⟨by rw[List.length_set];exact h.length,by omega,fun s hs=>?_⟩;rw[List.getElem?_set]
 by_cases e:s=t
 subst e;rw[if_pos rfl,if_pos (by rw[h.length];omega)];rw[if_neg (by omega)];exact h.done s (by omega)
def zkr.fin {V L:Nat}{ds:List UInt8}(h:zkr V L L ds):ds=pad L V:=by
 apply List.ext_getElem?;intro j
 by_cases hj:j<L
 ·have:=h.done (L-1-j) (by omega)
  rw[show L-1-(L-1-j)=j by omega] at this;rw[this];unfold pad;rw[zqaj,zqbe hj];rfl
 rw[zqas (by rw[h.length];omega),zqas (by rw[zpd];omega)]
def zCd (V t x:Nat)(h:dg V t=UInt8.ofNat (48+x%10)):((dg V t).toNat:Int)=48+(x:Int)%10:=by
 rw[h,UInt8.toNat_ofNat'];omega
def zlY (n:Nat)(w:World)(e:Ending)(w':World):Prop:=e=.returned (.string (zal n))/\w.grownBy w' none
def zrE {B:Nat}{w:World}{v:Value}{xs:List Nat}(h:zaO B w v xs) :
  ∃ A cap,v=.slice A xs.length cap/\∀ w':World,(∀ k,k<w.heap.size->w'.heap[k]?=w.heap[k]?)->∀ k,k<xs.length->∃ gy,A=some ⟨gy,0,none⟩/\w'.cell? ⟨gy,k,none⟩=some (.int .u64 (xs.getD k 0:Nat)):=by
 rcases h.form with⟨rfl,rfl⟩|⟨g,cap,cur,rfl,hb,hg,hc,hm,hs,ht⟩;exact⟨none,0,rfl,fun _ _ k hk=>absurd hk (by simp)⟩;exact⟨_,_,rfl,fun w' hw k hk=>⟨g,rfl,by rw[zhR ((hw g (lt_of_block hg)).trans hg),take_at ht k hk]⟩⟩
def zis (v:Value)(xs:List Nat)(w:World)(h:zaO 0 w v xs)(hx:∀ x∈xs,x<1000000000)(hn:xs.length<=10000) :
  Calls prog 187 #[v] w (zlY (vl 1000000000 xs) w):=by
 obtain⟨i0,hi,hz0,hz1,hz2⟩:=info_parts zFo;obtain⟨A,cap,rfl,hrd⟩:=zrE h;have HR:=zHd hrd;have HX:=zHd hx;have hdig:=fun i j hj=>zBS xs i j hx hj;have hten:=zyN xs hx;have hgl:=fun k=>zbl 1000000000 (by decide) xs hx k;obtain⟨V,hV⟩:∃ V,vl 1000000000 xs=V:=⟨_,rfl⟩;rw[hV] at hten ⊢;simp only[hV] at hdig;have HD:=zHd hdig;have HT:=zHd hten;have HGL:=zHd hgl;clear hrd hx hdig hten hV h hgl;go_enter func187,ntmps187;go_wp2_with (at_make;refine wpList_make_full _ rfl _ _ 166 rfl w.heap.size 5 i0 (.int .u8 0) 1 underlying166 hi hz0 hz1 _ _ _ _ (xs.length*9) rfl rfl ?c0 ?c1 ?c2 ?c3 ?c4 ?_)
 case c0=>omega
 case c1=>omega
 case c2=>rw[hz2];omega
 case c3=>unfold maxLen;omega
 case c4=>omega
 intro w1 zO hgr;have hc0:Bytes w1 w.heap.size (List.replicate (xs.length*9) 0):=Bytes.of_full zO;have HG:=zHd hgr;clear zO hgr;go_wp2
 go_loopw [4,16] (fun at_ i wr=>∃ (k p:Nat) (ds:List UInt8),i=.int .i64 k/\k<=xs.length/\at_=.int .i64 p/\p+9*k=xs.length*9/\zkr V (xs.length*9) (9*k) ds/\Bytes wr w.heap.size ds/\w.grownBy wr none) (fun _ i _=>xs.length-(intOf i).toNat)
 case atStart=>exact⟨0,xs.length*9,_,rfl,by omega,by go_num,by omega,zkr.start _ _,hc0,HG.out⟩
 case round =>
  obtain⟨k,p,ds,rfl,hk,rfl,hp,zI,hbr,hgr⟩:=hrel
  by_cases hlt:k<xs.length
  ·obtain⟨gy,rfl,zE⟩:=HR.out wr (fun i hi=>hgr.block i hi (by simp)) k hlt
   have hxk:=HGL.out k;have hdk:=fun j hj=>HD.out k j hj;generalize xs.getD k 0=x at *;have HI:=zHd zI;have HB:=zHd hbr;have HGR:=zHd hgr;have HDK:=zHd hdk;have HP:=zHd hp;clear zI hbr hgr hdk hc0 hp;generalize wr=w2 at *;have hk1:(k:Int)<(xs.length:Int):=by omega
   go_wp2
   go_loopw [4,6,20] (fun at_ re j wr=>∃ (m p r:Nat) (ds:List UInt8),j=.int .i64 m/\m<=9/\at_=.int .i64 p/\p+(9*k+m)=xs.length*9/\re=.int .u64 r/\r=x/10 ^ m/\zkr V (xs.length*9) (9*k+m) ds/\Bytes wr w.heap.size ds/\w.grownBy wr none) (fun _ _ j _=>9-(intOf j).toNat)
   case atStart=>exact⟨0,p,x,ds,rfl,by omega,rfl,by have:=HP.out;omega,rfl,by simp,by simpa using HI.out,HB.out,HGR.out⟩
   case round =>
    obtain⟨m,q,r,ds2,rfl,hm,rfl,hq,rfl,hr,zI,hbr,hgr⟩:=hrel
    by_cases hm9:m<9
    ·have hlL:9*k+m<xs.length*9:=by omega
     have eq1:xs.length*9-1-(9*k+m)=q-1:=(by omega);have hst:=zI.step hlL;have hset:=hbr.set (q-1) (dg V (9*k+m));rw[zCd V (9*k+m) r (by rw[hr];exact HDK.out m hm9)] at hset;rw[eq1] at hst;have zN:=zI.length;obtain⟨old,hcell2⟩:∃ old:Int,wr.cell? ⟨w.heap.size,q-1,none⟩=some (.int .u8 old):=⟨_,hbr.cell (q-1) (by omega)⟩;have hfree:=hbr.free (q-1);have hr10:r/10=x/10 ^ (m+1):=(by rw[hr,zqbp,Nat.div_div_eq_div_mul]);have hr9:r<1000000000:=(by rw[hr];exact Nat.lt_of_le_of_lt (Nat.div_le_self _ _) hxk);have hq1:1<=q:=(by omega);have hq2:q<=xs.length*9:=(by omega);have HST:=zHd hst;have HSET:=zHd hset;have HGR2:=zHd hgr;have HQ:=zHd hq;have HRE:=zHd hr10;clear zI hbr hst hset hgr zN hq hr hr10 eq1;go_wp2
     go_roundw
     case rel=>exact⟨m+1,q-1,r/10,_,by go_num,by omega,by go_num,by have:=HQ.out;omega,by go_num,HRE.out,HST.out,HSET.out,zae (g:=w.heap.size) HGR2.out (zad _ ⟨w.heap.size,q-1,none⟩ _) (zqab _)⟩
     case measure=>simp[intOf];omega
    have e:m=9:=(by omega);subst e;have HST:=zHd zI;have HSET:=zHd hbr;have HGR2:=zHd hgr;have HQ:=zHd hq;clear zI hbr hgr hq hr;go_wp2
    go_roundw
    case rel=>exact⟨k+1,q,_,by go_num,by omega,rfl,by have:=HQ.out;omega,by rw[zqbh];exact HST.out,HSET.out,HGR2.out⟩
    case measure=>simp[intOf];omega
  have e:k=xs.length:=by omega
  subst e
  have hds:ds=pad (xs.length*9) V:=by
   rw[show 9*xs.length=xs.length*9 by omega] at zI;exact zI.fin
  subst hds;have hcv:=hbr.conv (cap:=xs.length*9);rw[zpd] at hcv;have htl:=fun w=>Tryz.strings_TrimLeft_one ⟨(pad (xs.length*9) V).toArray⟩ 48 (by decide) w;have est:Lib.trimLeftB (ByteArray.mk (pad (xs.length*9) V).toArray).data.toList 48=if V=0 then [] else decDigits V:=zyM (xs.length*9) V (by rw[zqbc];exact HT.out)
  rw[est] at htl;have HGR:=zHd hgr;clear zI hbr hgr hp est;generalize pad (xs.length*9) V=D at *
  by_cases hz:V=0
  ·subst hz
   rw[if_pos rfl] at htl;go_wp2_with (go_at_call 200;refine(htl _).mono ?_;rintro e w' ⟨rfl,rfl⟩);go_ret;exact⟨by rw[show zal 0=⟨#[48]⟩ from by unfold zal;rw[Lib.decDigits_one (by decide)];rfl];rfl,HGR.out⟩
  rw[if_neg hz] at htl;have hne:decDigits V≠[]:=(by intro e;have:=Lib.decDigits_length V;rw[e] at this;have h2:=Lib.nDigits_pos V;simp at this;omega);have htl2:∀ w,Calls prog 200 #[.string ⟨D.toArray⟩,.string ⟨#[48]⟩] w fun e w'=>e=.returned (.string (zal V))/\w'=w:=htl
  have hne2:(zal V).toList.isEmpty=false:=by
   rw[Lib.toList_data];unfold zal;cases hd:decDigits V with
   | nil=>exact absurd hd hne
   | cons a b=>rfl
  clear htl hne;obtain⟨S,hS⟩:∃ S,zal V=S:=⟨_,rfl⟩;rw[hS] at hne2;simp only[hS] at htl2;have HS:=zHd hS;clear hS;go_wp2_with (go_at_call 200;refine(htl2 _).mono ?_;rintro e w' ⟨rfl,rfl⟩);go_ret;exact⟨by rw[HS.out];rfl,HGR.out⟩
open Go.RowKit
def zGQ (s:ByteArray)(h:∀ k (hk:k<s.size),zdo s[k]=true):s.data.toList.all zdo=true:=by
 rw[List.all_eq_true];intro c hc;obtain⟨k,hk,rfl⟩:=List.mem_iff_getElem.1 hc;exact h k (by simpa using hk)
def zvN (s:ByteArray)(h:0<s.size):s.data.toList.headD 0=s[0]:=by
 have hl:0<s.data.toList.length:=by simpa using h
 rw[List.headD_eq_head?_getD,List.head?_eq_getElem?,zqac hl];rfl
def znt (s:ByteArray)(h1:1<=s.size)(h2:s.size<=1000)(ha:∀ k (hk:k<s.size),zdo s[k]=true)(hz:s.size=1∨s[0].toNat≠48):zas s=true:=by
 unfold zas zlV;have e:s.data.toList.length=s.size:=by simp
 rw[e,zGQ s ha,zvN s (by omega)]
 have hz':s.size=1∨¬ s[0]=48:=by
  rcases hz with hz|hz;exact .inl hz;exact .inr (fun e=>hz (by rw[e];rfl))
 simp;exact⟨⟨by omega,h2⟩,hz'⟩
def zif (s:ByteArray)(h:¬ (1<=s.size/\s.size<=1000)):zas s=false:=by
 cases hn:zas s;rfl;exact absurd (zcG s hn) h
def zgn (s:ByteArray)(k:Nat)(hk:k<s.size)(h:zdo s[k]=false):zas s=false:=by
 cases hn:zas s;rfl;have:=zkE s hn k hk;unfold zdo at h;simp at h;omega
def znT (s:ByteArray)(h1:1<s.size)(h:s[0].toNat=48):zas s=false:=by
 cases hn:zas s;rfl;unfold zas zlV at hn;have e:s.data.toList.length=s.size:=by simp
 rw[e,zvN s (by omega)] at hn;have h0:s[0]=48:=UInt8.toNat_inj.1 h;rw[h0] at hn;simp at hn;omega
def zqE (c:UInt8)(h1:(48:Int)<=(c.toNat:Int))(h2:(c.toNat:Int)<=57):zdo c=true:=by unfold zdo;simp;omega
def zjh (c:UInt8)(h:(c.toNat:Int)<48∨57<(c.toNat:Int)):zdo c=false:=by unfold zdo;simp;omega
def zuT (s:ByteArray)(h:1<=s.size):s.toList.isEmpty=false:=by
 rw[Lib.toList_data];cases hl:s.data.toList with
 | nil=>have e:s.data.toList.length=s.size:=by simp
        rw[hl] at e;simp at e;omega
 | cons a b=>rfl
def zdg (s:ByteArray)(w:World)(hs:s.size<=maxLen) :
  Calls prog 170 #[.string s] w fun e w'=>e=.returned (.bool (zas s))/\w=w':=by
 unfold maxLen at hs
 by_cases h0:s.size=0
 ·rw[zif s (by omega)]
  have e0:s=⟨#[]⟩:=by
   cases s with
   | mk d=>congr 1;exact Array.eq_empty_of_size_eq_zero h0
  subst e0;clear h0 hs;go_enter func170,ntmps170;exact zQaJ
 have hne:=zuT s (by omega)
 by_cases h1:s.size<=1000
 ·have h1':¬ (1000:Int)<(s.size:Int):=by omega
  go_enter func170,ntmps170;go_wp2
  go_loop [13] (fun i=>∃ k:Nat,i=.int .i64 k/\k<=s.size/\∀ j (hj:j<s.size),j<k->zdo s[j]=true) (fun i=>s.size-(intOf i).toNat)
  case atStart=>exact⟨0,rfl,by omega,fun j hj h=>by omega⟩
  case round =>
   obtain⟨k,rfl,hk,hall⟩:=hrel;have HALL:=zHd hall;clear hall
   by_cases hlt:k<s.size
   ·by_cases hd:(48:Int)<=(s[k].toNat:Int)
    ·by_cases hd2:(s[k].toNat:Int)<=57
     ·have HN:=zHd (zqE s[k] hd hd2)
      go_wp2;go_round
      case rel=>exact⟨k+1,by go_num,by omega,fun j hj h=>by
       by_cases e:j=k
       subst e;exact HN.out;exact HALL.out j hj (by omega)⟩
      case measure=>simp[intOf];omega
     have HN:=zHd (zgn s k hlt (zjh s[k] (.inr (by omega))));exact zQaF
    have HN:=zHd (zgn s k hlt (zjh s[k] (.inl (by omega))));exact zQaF
   have hsz:0<s.size:=by omega
   by_cases hz:(s[0].toNat:Int)=48
   ·have f1:((s[0].toNat:Int) != 48)=false:=by simpa using hz
    by_cases hs1:s.size=1
    ·have e0:s=⟨#[48]⟩:=by
      cases s with
      | mk d =>
       congr 1;obtain⟨c,hc⟩:∃ c,d=#[c]:=Array.size_eq_one_iff.1 hs1;subst hc
       have:c.toNat=48:=by
        have hz2:((ByteArray.mk #[c])[0].toNat:Int)=48:=hz;have:(ByteArray.mk #[c])[0]=c:=rfl;rw[this] at hz2;omega
       rw[UInt8.toNat_inj.1 (show c.toNat=(48:UInt8).toNat from this)]
     have HN:=zHd (znt s (by omega) h1 (fun j hj=>HALL.out j hj (by omega)) (.inl hs1));have f2:(s.toList==[48])=true:=(by rw[e0,Lib.toList_data];rfl);clear e0 hz;exact zQaF
    have HN:=zHd (znT s (by omega) (by omega))
    have f2:(s.toList==[48])=false:=by
     rw[Lib.toList_data];apply beq_eq_false_iff_ne.2;intro e;have:=zqbz List.length e;simp at this;omega
    clear hz;exact zQaF
   have f1:((s[0].toNat:Int) != 48)=true:=by simpa using hz
   have HN:=zHd (znt s (by omega) h1 (fun j hj=>HALL.out j hj (by omega)) (.inr (by omega)));clear hz;exact zQaF
 have h1':(1000:Int)<(s.size:Int):=by omega
 rw[zif s (by omega)];go_enter func170,ntmps170;exact zQaJ
open Go.RowKit
open Go.Lib (dg decDigits nDigits)
def zcf (m n:Nat):Int:=if m<n then -1 else if n<m then 1 else 0
def zfH (m n:Nat):zcf m n<0↔m<n:=by unfold zcf;split <;> (try split) <;> omega
def zyS (m n k:Nat):(dg m k<dg n k↔m/10 ^ k%10<n/10 ^ k%10)/\(dg m k=dg n k↔m/10 ^ k%10=n/10 ^ k%10):=by
 unfold dg;have h1:m/10 ^ k%10<10:=Nat.mod_lt _ (by decide);have h2:n/10 ^ k%10<10:=Nat.mod_lt _ (by decide);constructor;rw[UInt8.lt_iff_toNat_lt,UInt8.toNat_ofNat',UInt8.toNat_ofNat'];omega;rw[<- UInt8.toNat_inj,UInt8.toNat_ofNat',UInt8.toNat_ofNat'];omega
def zvO (m n:Nat):∀ k,Lib.compareBytes (pad k m) (pad k n)=zcf (m%10 ^ k) (n%10 ^ k)
 | 0=>by simp[pad,Lib.compareBytes,zcf,Nat.mod_one]
 | k+1=>by
  rw[zjo,zjo,Lib.compareBytes,zvO m n k];obtain⟨h1,h2⟩:=zyS m n k;obtain⟨h3,h4⟩:=zyS n m k;have em:m%10 ^ (k+1)=m%10 ^ k+10 ^ k*(m/10 ^ k%10):=by rw[zqbp,Nat.mod_mul]
  have en:n%10 ^ (k+1)=n%10 ^ k+10 ^ k*(n/10 ^ k%10):=by rw[zqbp,Nat.mod_mul]
  have hm:m%10 ^ k<10 ^ k:=Nat.mod_lt _ (Nat.pow_pos (by decide));have hn:n%10 ^ k<10 ^ k:=Nat.mod_lt _ (Nat.pow_pos (by decide));rw[em,en];generalize m/10 ^ k%10=a at *;generalize n/10 ^ k%10=b at *;generalize m%10 ^ k=x at *;generalize n%10 ^ k=y at *;generalize 10 ^ k=P at *
  by_cases hab:a<b
  ·rw[if_pos (h1.2 hab)]
   have:P*(a+1)<=P*b:=zqbd _ hab;rw[zqbh,Nat.mul_one] at this;unfold zcf;rw[if_pos (by omega)]
  rw[if_neg (fun h=>hab (h1.1 h))]
  by_cases hba:b<a
  ·rw[if_pos (h3.2 hba)]
   have:P*(b+1)<=P*a:=zqbd _ hba;rw[zqbh,Nat.mul_one] at this;unfold zcf;rw[if_neg (by omega),if_pos (by omega)]
  rw[if_neg (fun h=>hba (h3.1 h))];have e:a=b:=(by omega);subst e;unfold zcf;simp only[Nat.add_lt_add_iff_right]
def zqF (m n:Nat)(h:nDigits m=nDigits n):Lib.compareBytes (decDigits m) (decDigits n)=zcf m n:=by
 rw[zno,zno,h,zvO,Nat.mod_eq_of_lt (Lib.lt_pow_nDigits n),Nat.mod_eq_of_lt];rw[<- h];exact Lib.lt_pow_nDigits m
def ziR {m n:Nat}(h:nDigits m<nDigits n):m<n:=by
 rcases Nat.lt_or_ge m n with h'|h';exact h';have:=zbZ h';omega
def zuU (m n:Nat):(if Lib.compareInt (nDigits m:Int) (nDigits n:Int)≠0 then Lib.compareInt (nDigits m:Int) (nDigits n:Int) else Lib.compareBytes (decDigits m) (decDigits n))=zcf m n:=by
 by_cases h1:nDigits m<nDigits n
 ·have e:Lib.compareInt (nDigits m:Int) (nDigits n:Int) = -1:=by unfold Lib.compareInt;rw[if_pos (by omega)]
  have:=ziR h1;rw[e,if_pos (by decide)];unfold zcf;rw[if_pos this]
 by_cases h2:nDigits n<nDigits m
 ·have e:Lib.compareInt (nDigits m:Int) (nDigits n:Int)=1:=by unfold Lib.compareInt;rw[if_neg (by omega),if_pos (by omega)]
  have:=ziR h2;rw[e,if_pos (by decide)];unfold zcf;rw[if_neg (by omega),if_pos this]
 have e:Lib.compareInt (nDigits m:Int) (nDigits n:Int)=0:=by unfold Lib.compareInt;rw[if_neg (by omega),if_neg (by omega)]
 rw[e,if_neg (by decide)];exact zqF m n (by omega)
def zGR (x y:Int)(g:Nat)(w:World)(h0:w.cell? ⟨g,0,none⟩=some (.int .i64 x))(h1:w.cell? ⟨g,1,none⟩=some (.int .i64 y)) :
  Calls prog 184 #[.slice (some ⟨g,0,none⟩) 2 2] w fun e w'=>e=.returned (.int .i64 (if x≠0 then x else y))/\w=w':=by
 by_cases hx:x=0
 ·subst hx
  by_cases hy:y=0
  ·subst hy
   go_enter func184,ntmps184;go_wp2
   go_loop [8] (fun i=>∃ k:Nat,i=.int .i64 k/\k<=2) (fun i=>2-(intOf i).toNat)
   case atStart=>exact⟨0,rfl,by omega⟩
   case round =>
    obtain⟨k,rfl,hk⟩:=hrel;rcases (show k=0∨k=1∨k=2 by omega) with rfl|rfl|rfl
    ·go_wp2
     go_round
     case rel=>exact⟨1,by go_num,by omega⟩
     case measure=>simp[intOf]
    ·go_wp2
     go_round
     case rel=>exact⟨2,by go_num,by omega⟩
     case measure=>simp[intOf]
    go_wp2;go_ret;exact⟨by simp,rfl⟩
  have f1:(y != 0)=true:=by simpa using hy
  go_enter func184,ntmps184;go_wp2
  go_loop [8] (fun i=>∃ k:Nat,i=.int .i64 k/\k<=1) (fun i=>2-(intOf i).toNat)
  case atStart=>exact⟨0,rfl,by omega⟩
  case round =>
   obtain⟨k,rfl,hk⟩:=hrel;rcases (show k=0∨k=1 by omega) with rfl|rfl
   ·go_wp2
    go_round
    case rel=>exact⟨1,by go_num,by omega⟩
    case measure=>simp[intOf]
   go_wp2;go_ret;exact⟨by simp,rfl⟩
 have f1:(x != 0)=true:=by simpa using hx
 rw[if_pos hx];go_enter func184,ntmps184;go_wp2
 go_loop [8] (fun i=>∃ k:Nat,i=.int .i64 k/\k=0) (fun i=>2-(intOf i).toNat)
 case atStart=>exact⟨0,rfl,rfl⟩
 case round =>
  obtain⟨k,rfl,rfl⟩:=hrel;exact zQaJ
def zff (a b:ByteArray):Int:=if zas a&&zas b then zcf (nv a) (nv b) else 0
def zkT (n:Nat):(zal n).data.toList=decDigits n:=by unfold zal;simp
def znu (a b:ByteArray)(w:World)(ha:a.size<=maxLen)(hb:b.size<=maxLen) :
  Calls prog 172 #[.string a,.string b] w fun e w'=>e=.returned (.int .i64 (zff a b))/\w.grownBy w' none:=by
 have va:=fun w=>zdg a w ha;have vb:=fun w=>zdg b w hb;unfold maxLen at ha hb;cases hna:zas a
 ·have e:zff a b=0:=by unfold zff;rw[hna];rfl
  rw[e];simp only[hna] at va;clear vb hna e;go_enter func172,ntmps172;go_wp2_with (go_at_call 170;refine(va _).mono ?_;rintro e w' ⟨rfl,rfl⟩);go_ret;exact⟨rfl,zai _ _⟩
 cases hnb:zas b
 ·have e:zff a b=0:=by unfold zff;rw[hnb,Bool.and_false];rfl
  rw[e];simp only[hna] at va;simp only[hnb] at vb;clear hna hnb e;go_enter func172,ntmps172;go_wp2_with fail;refine(va _).mono ?_;rintro e w' ⟨rfl,rfl⟩;go_wp2_with fail;refine(vb _).mono ?_;rintro e w' ⟨rfl,rfl⟩;exact zQaR
 have e:zff a b=zcf (nv a) (nv b):=by unfold zff;rw[hna,hnb];rfl
 have hc:=zuU (nv a) (nv b);rw[<- zkT,<- zkT,<- zcQ,<- zcQ,<- (zcE a hna).1,<- (zcE b hnb).1,<- e] at hc;simp only[hna] at va;simp only[hnb] at vb;have h1:=fun w=>Tryz.cmp_Compare_int (a.size:Int) (b.size:Int) w;have h2:=fun w=>Tryz.strings_Compare a b w;generalize Lib.compareInt (a.size:Int) (b.size:Int)=x at *;generalize Lib.compareBytes a.data.toList b.data.toList=y at *;have h3:=zGR x y w.heap.size (w.alloc (.cells #[.int .i64 x,.int .i64 y] 3)) (World.cell?_alloc_at _ _ _ _ rfl) (World.cell?_alloc_at _ _ _ _ rfl);rw[hc] at h3;have H3:=zHd h3;clear hna hnb e hc h3;go_enter func172,ntmps172;go_wp2_with fail;refine(va _).mono ?_;rintro e w' ⟨rfl,rfl⟩;go_wp2_with fail;refine(vb _).mono ?_;rintro e w' ⟨rfl,rfl⟩
 go_wp2_with (first
  | (go_at_call 127;refine(h1 _).mono ?_;rintro e w' ⟨rfl,rfl⟩)
  | (go_at_call 185;refine(h2 _).mono ?_;rintro e w' ⟨rfl,rfl⟩)
  | (go_at_call 184;refine H3.out.mono ?_;rintro e w' ⟨rfl,rfl⟩))
 go_ret;exact⟨rfl,zGA _ _ _⟩
open Go.RowKit
def zsQ (P z c S:Nat)(h:z+P*c=S)(hS:S<P):c=0/\z=S:=by
 rcases Nat.eq_zero_or_pos c with rfl|hc;simp at h;exact⟨rfl,h⟩;have:P*1<=P*c:=zqbd _ hc;omega
def zGS (B:Nat)(xs:List Nat)(n:Nat):vl B (xs++List.replicate n 0)=vl B xs:=by rw[zdJ,zhQ];simp
def zvP {B n:Nat}{xs:List Nat}(hB:0<B)(hx:∀ x∈xs,x<B):∀ x∈xs++List.replicate n 0,x<B:=by
 intro x h;rcases zqbo.1 h with h|h
 exact hx x h;rw[(List.mem_replicate.1 h).2];exact hB
def zvQ (n m:Nat)(w:World)(e:Ending)(w':World):Prop :=
 ∃ g zs,e=.returned (.slice (some ⟨g,0,none⟩) zs.length zs.length)/\zaO w.heap.size w' (.slice (some ⟨g,0,none⟩) zs.length zs.length) zs /\
  (∀ z∈zs,z<1000000000)/\vl 1000000000 zs=n/\zs.length<=m/\w.grownBy w' none
def zCe (xs ys:List Nat)(hx:∀ x∈xs,x<1000000000)(hy:∀ y∈ys,y<1000000000)(n:Nat)(hn:n=max xs.length ys.length+1) :
  (∀ z∈(zaL (zbC 1) (xs++List.replicate (n-xs.length) 0) ys 0 n).1,z<1000000000)/\vl 1000000000 (zaL (zbC 1) (xs++List.replicate (n-xs.length) 0) ys 0 n).1=vl 1000000000 xs+vl 1000000000 ys:=by
 obtain⟨h1,h2,h3⟩:=zjn 1 (xs++List.replicate (n-xs.length) 0) ys (by decide) (zvP (by decide) hx) hy 0 (by decide) n;refine⟨h1,?_⟩;rw[zqaf (by simp;omega),zqaf (by omega),zGS,Nat.one_mul,Nat.add_zero] at h3;have a1:=zcv 1000000000 xs hx;have a2:=zcv 1000000000 ys hy;have b1:(1000000000:Nat) ^ xs.length<=1000000000 ^ (n-1):=zqay (by decide) (by omega);have b2:(1000000000:Nat) ^ ys.length<=1000000000 ^ (n-1):=zqay (by decide) (by omega);have b3:(1000000000:Nat) ^ n=1000000000 ^ (n-1)*1000000000:=by rw[<- zqbp];congr 1;omega
 exact(zsQ _ _ _ _ h3 (by omega)).2
def zwD (xs:List Nat)(n:Nat)(h:xs.length<=n):splice (uv (List.replicate n 0)) 0 (uv xs)=uv (xs++List.replicate (n-xs.length) 0):=by
 unfold splice;rw[zcF];simp[uv,h]
def add_plain (g j:Nat):(⟨g,0,none⟩:Addr).add j=⟨g,j,none⟩:=by unfold Addr.add;split <;> simp_all
def zGT (xs:List Nat):∀ v∈uv xs,v.oneCell'=true:=by
 intro v hv;unfold uv at hv;obtain⟨n,_,rfl⟩:=zqbf.1 hv;rfl
def zCf (w:World)(g gx cx m:Nat)(xs:List Nat)(post:List Value)(hg:zaS w g (uv (List.replicate m 0)))(hx:zaS w gx (uv xs++post))(hle:xs.length<=m) :
  ∃ w',(Builtin.copy_ #[169,169] 3 #[.slice (some ⟨g,0,none⟩) m m,.slice (some ⟨gx,0,none⟩) xs.length cx]).run prog w=.ok (.int .i64 (xs.length:Nat)) w'/\zaS w' g (uv (xs++List.replicate (m-xs.length) 0))/\w.grownBy w' (some g):=by
 have hrun:=run_copy_row (P:=prog) w 169 169 3 173 g 0 m m ⟨gx,0,none⟩ xs.length cx (uv (List.replicate m 0)).toArray 173 (uv xs) underlying169 (by kernel_rfl) hg
   (by rw[zaN];exact(Nat.min_eq_left (by omega)).symm) (fun j v hj=>by
    rw[add_plain,hx.cell,zqal (zqae.1 hj).1];exact hj) (by simp[uv];omega) (zGT xs)
 rw[zaN] at hrun;refine⟨w.setRow g _,hrun,?_,⟨rfl,rfl,rfl,by simp[World.setRow],fun k hk hne=>setRow_other w g k _ (fun e=>hne (by rw[e]))⟩⟩;unfold zaS;rw[setRow_heap w g _ _ _ _ hg];have:=zwD xs m hle;unfold splice at this;rw[<- this];simp[uv]
def zFp (gx cx:Nat)(xs ys:List Nat)(vy:Value)(w:World)(hxb:zaO 0 w (.slice (some ⟨gx,0,none⟩) xs.length cx) xs)(hyb:zaO 0 w vy ys)
  (hx:∀ x∈xs,x<1000000000) (hy:∀ y∈ys,y<1000000000) (hnx:xs.length<=10000) (hny:ys.length<=10000) :
  Calls prog 182 #[.slice (some ⟨gx,0,none⟩) xs.length cx,vy] w (zvQ (vl 1000000000 xs+vl 1000000000 ys) (max xs.length ys.length+1) w):=by
 obtain⟨i0,hi,hz0,hz1,hz2⟩:=info_parts zjw;obtain⟨A,capy,hvy,hrdy⟩:=zpk hyb;obtain⟨_,_,_,hcx,post,ze,_⟩:=hxb.cells;obtain⟨m,hm⟩:∃ m,max xs.length ys.length=m:=⟨_,rfl⟩;have hmx:xs.length<=m:=by omega
 have hmy:ys.length<=m:=by omega
 have hm2:m<=10000:=by omega
 have hsm:=zCe xs ys hx hy (m+1) (by rw[hm]);have hgx:=ze.lt;rw[hm];have zN:(xs++List.replicate (m+1-xs.length) 0).length=m+1:=by rw[zqag,zqax];omega
 have hadd:=fun(w':World) (hg:zaS w' w.heap.size (uv (xs++List.replicate (m+1-xs.length) 0))) (hb:zaO 0 w' (.slice A ys.length capy) ys) =>
  zjv 1 w.heap.size (m+1) [] [] (xs++List.replicate (m+1-xs.length) 0) ys (.slice A ys.length capy) w' (by decide) (zvP (by decide) hx) hy (by omega) (by simp) (by omega) (by unfold maxLen;omega) (by simpa using hg) hb
   (fun e=>by have:=(hyb.lt w.heap.size (by rw[hvy];exact e)).2;omega)
 rw[zN] at hadd;have hcl:=zbR (zbC 1) (xs++List.replicate (m+1-xs.length) 0) ys 0 (m+1);have hsp:xs++List.replicate (m+1-xs.length) 0=xs++List.replicate (m+1-xs.length) 0:=rfl;generalize zaL (zbC 1) (xs++List.replicate (m+1-xs.length) 0) ys 0 (m+1)=q at *;obtain⟨xp,hxp⟩:∃ xp,xs++List.replicate (m+1-xs.length) 0=xp:=⟨_,rfl⟩;clear hsp;have hsp:=hxp;rw[hxp] at zN;simp only[hxp] at hadd;clear hxp;subst hvy;have hsz:(prog.info? 173).map (·.size)=some 1:=by kernel_rfl
 have huvl:=zaN xs;have HM:=zHd hm;have HS:=zHd hsm;have HX:=zHd hx;have HY:=zHd hy;have HYB:=zHd hyb;have HC:=zHd ze;have HLEN:=zHd zN;have HADD:=zHd hadd;have HCL:=zHd hcl;have HSP:=zHd hsp;have HUL:=zHd huvl;clear hm hsm hx hy hyb ze hxb zN hadd hcl hsp huvl;unfold maxLen at hcx;rcases Nat.lt_or_ge xs.length ys.length with hxy|hxy
 all_goals
  go_enter func182,ntmps182;go_wp2_with (at_make;refine wpList_make_full _ rfl _ _ 169 rfl w.heap.size 173 i0 (.int .u64 0) 1 underlying169 hi hz0 hz1 _ _ _ _ (m+1) rfl rfl ?c0 ?c1 ?c2 (by unfold maxLen;omega) (zqab _) ?_)
  case c0=>have:=HM.out;omega
  case c1=>have:=HM.out;omega
  case c2=>first|omega|(rw[hz2];omega)
  intro w1 zO hgr;rw[zfX] at zO;have hc0:=(zaS.of_full zO).1;have hcx1:zaS w1 gx (uv xs++post):=HC.out.grown hgr (by simp);have HG:=zHd hgr;have HC0:=zHd hc0;have HCX:=zHd hcx1;clear zO hgr hc0 hcx1;obtain⟨w2,hrun,hc2,hg2⟩:=zCf w1 w.heap.size gx cx (m+1) xs post HC0.out HCX.out (by omega);have h9:=HADD.out w2 (by rw[<- HSP.out];exact hc2) ((HYB.out.grown HG.out (by simp)).grown hg2 (fun g e=>by have:=(HYB.out.lt g e).2;simp;omega));have H9:=zHd h9;have HG2:=zHd hg2;clear hc2 hg2 h9;go_wp2_with fail;refine H9.out.mono ?_;rintro e w3 ⟨rfl,hc3,hg3⟩;have HC3:=zHd hc3;have HG3:=zHd hg3;clear hc3 hg3;go_wp2;go_ret;have hcl:=HCL.out;obtain⟨hs1,hs2⟩:=HS.out;have hc3:=HC3.out;simp only[List.nil_append,List.append_nil] at hc3;refine⟨w.heap.size,q.1,by rw[hcl];rfl,zaO.of_cells hc3 (zqab _) (zaN _) (by rw[hcl];unfold maxLen;omega) (by rw[zqaf (by rw[zaN];exact zqab _)]) (zqab _),hs1,hs2,by rw[hcl];exact zqab _,zae (g:=w.heap.size) (zae (g:=w.heap.size) HG.out HG2.out (zqab _)) HG3.out (zqab _)⟩
def zsq (xs:List Nat)(k:Nat)(hk:k<=xs.length)(hz:∀ j,k<=j->xs.getD j 0=0):vl 1000000000 (xs.drop k)=0:=by
 have e:xs.drop k=List.replicate (xs.length-k) 0:=by
  apply List.ext_getElem?;intro j;rw[List.getElem?_drop,zqbg]
  by_cases hj:j<xs.length-k
  ·rw[if_pos hj]
   have:=hz (k+j) (by omega);rw[zqaa,zqac (by omega)] at this;rw[zqac (by omega)];exact zqbz some this
  rw[if_neg hj,zqas (by omega)]
 rw[e,zhQ]
structure zgo (xs ys:List Nat)(k:Nat)(zs:List Nat):Prop where
 length:zs.length=xs.length+ys.length
 lt:∀ z∈zs,z<1000000000
 val:vl 1000000000 zs=vl 1000000000 (xs.take k)*vl 1000000000 ys
 zero:∀ j,k+ys.length<=j->zs.getD j 0=0
def zgo.start (xs ys:List Nat):zgo xs ys 0 (List.replicate (xs.length+ys.length) 0) :=
 ⟨by simp,fun z hz=>by rw[(List.mem_replicate.1 hz).2];decide,by rw[zhQ];simp[vl],fun j _=>zgl _ _⟩
def zgo.step {xs ys zs:List Nat}{k:Nat}(h:zgo xs ys k zs)(hk:k<xs.length)(hx:∀ x∈xs,x<1000000000)(hy:∀ y∈ys,y<1000000000)(q:List Nat×Nat)
  (hq:q=zaL (zbC (xs.getD k 0)) ((zs.drop k).take (ys.length+1)) ys 0 (ys.length+1)) :
  zgo xs ys (k+1) (zs.take k++q.1++zs.drop (k+(ys.length+1))):=by
 have hl:=h.length;have hxk:=zbl 1000000000 (by decide) xs hx k;have hpl:((zs.drop k).take (ys.length+1)).length=ys.length+1:=by rw[zqan,List.length_drop];omega
 have hpm:∀ z∈(zs.drop k).take (ys.length+1),z<1000000000:=fun z hz=>h.lt z (List.mem_of_mem_drop (zqau hz));obtain⟨c1,c2,c3⟩:=zjn (xs.getD k 0) ((zs.drop k).take (ys.length+1)) ys (by omega) hpm hy 0 (by decide) (ys.length+1);have c4:=zbR (zbC (xs.getD k 0)) ((zs.drop k).take (ys.length+1)) ys 0 (ys.length+1);rw[<- hq] at c1 c2 c3 c4;rw[zqaf (by rw[hpl];exact zqab _),zqaf (by omega:ys.length<=ys.length+1),Nat.add_zero] at c3
 have htop:((zs.drop k).take (ys.length+1)).getD ys.length 0=0:=by
  rw[zqaa,List.getElem?_take,if_pos (by omega),List.getElem?_drop,<- zqaa];exact h.zero _ (by omega)
 have hpv:vl 1000000000 ((zs.drop k).take (ys.length+1))<1000000000 ^ ys.length:=by
  have e:=zaU 1000000000 ((zs.drop k).take (ys.length+1)) ys.length;rw[htop,zqaf (by rw[hpl];exact zqab _),Nat.mul_zero] at e;have h2:=zcv 1000000000 (((zs.drop k).take (ys.length+1)).take ys.length) (fun z hz=>hpm z (zqau hz));rw[zqan,Nat.min_eq_left (by omega)] at h2;omega
 have hyv:=zcv 1000000000 ys hy;have hxy:xs.getD k 0*vl 1000000000 ys<=999999999*vl 1000000000 ys:=Nat.mul_le_mul_right _ (by omega);obtain⟨_,c5⟩:=zsQ _ _ _ _ c3 (by rw[zqbp];omega);simp only[Nat.add_zero] at c5;have hdr:vl 1000000000 (zs.drop (k+(ys.length+1)))=0:=zsq zs _ (by omega) (fun j hj=>h.zero j (by omega));have hsp1:=zgN 1000000000 zs k (by omega);have hsp2:=zgN 1000000000 (zs.drop k) (ys.length+1) (by rw[List.length_drop];omega);rw[List.drop_drop,hdr,Nat.mul_zero,Nat.add_zero] at hsp2;refine⟨?_,?_,?_,fun j hj=>?_⟩;rw[zqag,zqag,zqan,List.length_drop,c4];omega
 ·intro z hz
  rcases zqbo.1 hz with hz|hz
  ·rcases zqbo.1 hz with hz|hz
   ·exact h.lt z (zqau hz)
   exact c1 z hz
  exact h.lt z (List.mem_of_mem_drop hz)
 rw[zdJ,zdJ,hdr,Nat.mul_zero,Nat.add_zero,c5,zqan,Nat.min_eq_left (by omega),<- hsp2,zqbh,<- Nat.add_assoc,<- hsp1,h.val,zaU,Nat.add_mul,zqav];rw[zqaa,zqaq (by rw[zqag,zqan,c4];omega),List.getElem?_drop,<- zqaa];apply h.zero;rw[zqag,zqan,c4];omega
def zgo.fin {xs ys zs:List Nat}(h:zgo xs ys xs.length zs):vl 1000000000 zs=vl 1000000000 xs*vl 1000000000 ys:=by
 have:=h.val;rw[List.take_length] at this;exact this
def zuV (vx vy:Value)(xs ys:List Nat)(w:World)(hxb:zaO 0 w vx xs)(hyb:zaO 0 w vy ys)
  (hx:∀ x∈xs,x<1000000000) (hy:∀ y∈ys,y<1000000000) (hnx:xs.length<=10000) (hny:ys.length<=10000) :
  Calls prog 190 #[vx,vy] w (zvQ (vl 1000000000 xs*vl 1000000000 ys) (xs.length+ys.length) w):=by
 obtain⟨i0,hi,hz0,hz1,hz2⟩:=info_parts zjw;obtain⟨A,capy,hvy,_⟩:=zpk hyb;obtain⟨Ax,capx,hvx,hrx⟩:=zrE hxb;subst hvx;subst hvy;have HX:=zHd hx;have HY:=zHd hy;have HYB:=zHd hyb;have HRX:=zHd hrx;clear hx hy hyb hrx hxb;go_enter func190,ntmps190;go_wp2_with (at_make;refine wpList_make_full _ rfl _ _ 169 rfl w.heap.size 173 i0 (.int .u64 0) 1 underlying169 hi hz0 hz1 _ _ _ _ (xs.length+ys.length) rfl rfl ?c0 ?c1 ?c2 (by unfold maxLen;omega) (zqab _) ?_)
 case c0=>omega
 case c1=>omega
 case c2=>first|omega|(rw[hz2];omega)
 intro w1 zO hgr;rw[zfX] at zO;have hc0:=(zaS.of_full zO).1;have HG:=zHd hgr;have HC0:=zHd hc0;clear zO hgr hc0;go_wp2
 go_loopw [15] (fun i wr=>∃ (k:Nat) (zs:List Nat),i=.int .i64 k/\k<=xs.length/\zgo xs ys k zs/\zaS wr w.heap.size (uv zs)/\w.grownBy wr none) (fun i _=>xs.length-(intOf i).toNat)
 case atStart=>exact⟨0,_,rfl,by omega,zgo.start xs ys,HC0.out,HG.out⟩
 case round =>
  obtain⟨k,zs,rfl,hk,zI,hcr,hgr⟩:=hrel;have hzl:=zI.length
  by_cases hlt:k<xs.length
  ·obtain⟨gx,rfl,zE⟩:=HRX.out wr (fun i hi=>hgr.block i hi (by simp)) k hlt
   have hyr:zaO 0 wr (.slice A ys.length capy) ys:=HYB.out.grown hgr (by simp);have zS':=zI.step hlt HX.out HY.out _ rfl;have hxk:=zbl 1000000000 (by decide) xs HX.out k;have hpl:((zs.drop k).take (ys.length+1)).length=ys.length+1:=by rw[zqan,List.length_drop];omega
   have hpr:(uv (zs.take k)).length=k:=by rw[zaN,zqan];omega
   have hsplit:uv zs=uv (zs.take k)++uv ((zs.drop k).take (ys.length+1))++uv (zs.drop (k+(ys.length+1))):=by
    exact zQcb
   have hcr2:=hcr;rw[hsplit] at hcr2
   have hadd:=zjv (xs.getD k 0) w.heap.size (xs.length+ys.length-k) (uv (zs.take k)) (uv (zs.drop (k+(ys.length+1)))) ((zs.drop k).take (ys.length+1)) ys (.slice A ys.length capy) wr.drew (by omega)
    (fun z hz=>zI.lt z (List.mem_of_mem_drop (zqau hz))) HY.out (by omega) (by omega) (by omega) (by unfold maxLen;omega) hcr2 hyr (fun e=>by have:=(HYB.out.lt w.heap.size e).2;omega)
   rw[hpl,hpr] at hadd;have HADD:=zHd hadd;have HST:=zHd zS';have HGR:=zHd hgr;have HZL:=zHd hzl;generalize zaL (zbC (xs.getD k 0)) ((zs.drop k).take (ys.length+1)) ys 0 (ys.length+1)=q at *;generalize xs.getD k 0=x at *;clear zI hcr hgr hyr zS' hpl hpr hsplit hcr2 hadd hzl;have i1:(0:Int)<=(k:Int):=by omega
   have i2:(k:Int)<=(k:Int)+(ys.length:Int)+1:=by omega
   have i3:(k:Int)+(ys.length:Int)+1<=((xs.length+ys.length:Nat):Int):=by omega
   have i4:(k:Int)<(xs.length:Int):=by omega
   have i5:decide (xs.length+ys.length=k)=false:=by simp;omega
   have i6:¬ (xs.length+ys.length=k):=by omega
   have j1:IntKind.i64.wrap ((k:Int)+(ys.length:Int))=(k:Int)+(ys.length:Int):=IntWalk.i64_in _ (by omega);have j2:IntKind.i64.wrap ((k:Int)+(ys.length:Int)+1)=(k:Int)+(ys.length:Int)+1:=IntWalk.i64_in _ (by omega);have j3:k+ys.length+1-k=ys.length+1:=by omega
   go_wp2
   go_region_with (go_at_call 195;refine HADD.out.mono ?_;rintro e w' ⟨rfl,hcg,hgg⟩;have HCG:=zHd hcg;have HGG:=zHd hgg;clear hcg hgg)
   all_goals
    clear j1 j2 j3 i5;have hcg:=HCG.out;rw[<- zcF,<- zcF] at hcg;have HC2:=zHd hcg;clear hcg;go_wp2
    go_roundw
    case rel=>exact⟨k+1,_,by go_num,by omega,HST.out,HC2.out,zae (g:=w.heap.size) HGR.out (zaa (zag wr _) HGG.out) (zqab _)⟩
    case measure=>simp[intOf];omega
  have e:k=xs.length:=by omega
  subst e;have hf:=zI.fin;have hl:=zI.lt;have hb:zaO w.heap.size wr (.slice (some ⟨w.heap.size,0,none⟩) zs.length zs.length) zs:=zaO.of_cells hcr (zqab _) (zaN _) (by unfold maxLen;omega) (by rw[zqaf (by rw[zaN];exact zqab _)]) (zqab _);have HF:=zHd hf;have HL:=zHd hl;have HB:=zHd hb;have HGR:=zHd hgr;have HZL:=zHd hzl;clear zI hf hl hb hgr hcr hzl;go_wp2;go_ret;exact⟨w.heap.size,zs,by rw[HZL.out];rfl,HB.out,HL.out,HF.out,by rw[HZL.out];exact zqab _,HGR.out⟩
open Go.RowKit
open Go.Lib (nDigits)
def ziI:Value:=.tuple #[.string ⟨#[]⟩,.int .i64 1]
def zex (n:Nat):Value:=if nDigits n<=1000 then .tuple #[.string (zal n),.int .i64 0] else .tuple #[.string ⟨#[]⟩,.int .i64 2]
def zey (a b:ByteArray):Value:=if zas a&&zas b then zex (nv a+nv b) else ziI
def zeV (a b:ByteArray):Value:=if zas a&&zas b then zex (nv a*nv b) else ziI
def zed (a b:ByteArray):Value:=if zas a&&zas b then (if nv a<nv b then .tuple #[.string ⟨#[]⟩,.int .i64 4] else .tuple #[.string (zal (nv a-nv b)),.int .i64 0]) else ziI
def zgD (u:Nat):∀ k,k+1<=nDigits u->k=0∨10 ^ k<=u:=by
 induction u using Nat.strongRecOn with
 | _ u ih =>
  intro k hk
  by_cases h:u<10
  rw[Lib.nDigits_small h] at hk;exact .inl (by omega);rw[Lib.nDigits_big h] at hk;cases k with
  | zero=>exact .inl rfl
  | succ k =>
   right;rcases ih (u/10) (by omega) k (by omega) with rfl|h1
   omega;rw[zqbp];omega
def zab (v:Value)(w:World)(e:Ending)(w':World):Prop:=e=.returned v/\w.grownBy w' none
def zpm (v:Value)(xs:List Nat)(w:World)(h:zaO 0 w v xs)(hx:∀ x∈xs,x<1000000000)(hn:xs.length<=10000) :
  Calls prog 181 #[v] w (zab (zex (vl 1000000000 xs)) w):=by
 have hw:=zis v xs w h hx hn;have h2:=zcQ (vl 1000000000 xs)
 have hlt:nDigits (vl 1000000000 xs)<=100000:=by
  have:=zyN xs hx;rcases Nat.lt_or_ge 100000 (nDigits (vl 1000000000 xs)) with h'|h'
  ·rcases zgD (vl 1000000000 xs) (9*xs.length+1) (by omega) with h3|h3
   ·omega
   have h4:10 ^ (9*xs.length)<=10 ^ (9*xs.length+1):=zqay (by decide) (by omega);omega
  exact h'
 by_cases hl:nDigits (vl 1000000000 xs)<=1000
 ·have HL:=zHd (show zex (vl 1000000000 xs)=.tuple #[.string (zal (vl 1000000000 xs)),.int .i64 0] by unfold zex;rw[if_pos hl])
  rw[<- h2] at hl hlt;obtain⟨S,hS⟩:∃ S,zal (vl 1000000000 xs)=S:=⟨_,rfl⟩;unfold zlY at hw;rw[hS] at hw hl hlt;have HS:=zHd hS;clear hS h2 h hx;have hl1:¬ (1000:Int)<(S.size:Int):=by omega
  go_enter func181,ntmps181;go_wp2_with (go_at_call 187;refine hw.mono ?_;rintro e w' ⟨rfl,hg⟩);go_ret2;exact⟨by rw[HL.out,HS.out];rfl,‹_›⟩
 have HL:=zHd (show zex (vl 1000000000 xs)=.tuple #[.string ⟨#[]⟩,.int .i64 2] by unfold zex;rw[if_neg hl]);rw[<- h2] at hl hlt;obtain⟨S,hS⟩:∃ S,zal (vl 1000000000 xs)=S:=⟨_,rfl⟩;unfold zlY at hw;rw[hS] at hw hl hlt;have HS:=zHd hS;clear hS h2 h hx;have hl1:(1000:Int)<(S.size:Int):=by omega
 go_enter func181,ntmps181;go_wp2_with (go_at_call 187;refine hw.mono ?_;rintro e w' ⟨rfl,hg⟩);go_ret2;exact⟨by rw[HL.out];rfl,‹_›⟩
def zbz {s:ByteArray}(h:zas s=true):s.size<=maxLen:=by have:=(zcG s h).2;unfold maxLen;omega
def zsR (n:Nat):∃ S E,zex n=.tuple #[.string S,.int .i64 E]:=by unfold zex;split <;> exact⟨_,_,rfl⟩
def zyT (xs ys:List Nat)(hx:∀ x∈xs,x<1000000000)(hyt:zcZ ys)(h:vl 1000000000 ys<=vl 1000000000 xs):ys.length<=xs.length:=by
 by_cases h0:ys=[]
 subst h0;simp;have h1:=zlU 1000000000 ys h0 hyt;have h2:=zcv 1000000000 xs hx;rcases Nat.lt_or_ge xs.length ys.length with h3|h3
 ·have h4:(1000000000:Nat) ^ xs.length<=1000000000 ^ (ys.length-1):=zqay (by decide) (by omega)
  omega
 exact h3
def zCg (xs ys:List Nat)(hx:∀ x∈xs,x<1000000000)(hy:∀ y∈ys,y<1000000000)(hyt:zcZ ys)(h:vl 1000000000 ys<=vl 1000000000 xs) :
  (∀ z∈(zaL (zbg 1) xs ys 0 xs.length).1,z<1000000000)/\True/\vl 1000000000 (zaL (zbg 1) xs ys 0 xs.length).1=vl 1000000000 xs-vl 1000000000 ys:=by
 obtain⟨h1,h2,h3⟩:=zkQ 1 xs ys (by decide) hx hy 0 (by decide) xs.length;have hl:=zyT xs ys hx hyt h;rw[List.take_length,zqaf hl,Nat.one_mul,Nat.add_zero] at h3;have hz:=zcv 1000000000 _ h1;rw[zbR] at hz;refine⟨h1,trivial,?_⟩;rcases Nat.eq_zero_or_pos (zaL (zbg 1) xs ys 0 xs.length).2 with e|e;rw[e,Nat.mul_zero] at h3;omega;have:1000000000 ^ xs.length*1<=1000000000 ^ xs.length*(zaL (zbg 1) xs ys 0 xs.length).2:=zqbd _ e;omega
def zFq (a b:ByteArray)(w:World)(ha:a.size<=maxLen)(hb:b.size<=maxLen) :
  Calls prog 171 #[.string a,.string b] w (zab (zey a b) w):=by
 have va:=fun w=>zdg a w ha;have vb:=fun w=>zdg b w hb;unfold maxLen at ha hb;cases hna:zas a
 ·have HV:=zHd (show zey a b=ziI by unfold zey;rw[hna];rfl)
  simp only[hna] at va;clear vb hna;go_enter func171,ntmps171;exact zQaO
 cases hnb:zas b
 ·have HV:=zHd (show zey a b=ziI by unfold zey;rw[hnb,Bool.and_false];rfl)
  simp only[hna] at va;simp only[hnb] at vb;clear hna hnb;go_enter func171,ntmps171;exact zQaB
 have HV:=zHd (show zey a b=zex (nv a+nv b) by unfold zey;rw[hna,hnb];rfl);have ra:=fun w=>zeU a w hna;have rb:=fun w=>zeU b w hnb;simp only[hna] at va;simp only[hnb] at vb;clear hna hnb;go_enter func171,ntmps171;go_wp2_with fail;refine(va _).mono ?_;rintro e w' ⟨rfl,rfl⟩;go_wp2_with fail;refine(vb _).mono ?_;rintro e w' ⟨rfl,rfl⟩;go_wp2_with fail;refine(ra _).mono ?_;rintro e w1 ⟨gx,cx,xs,rfl,hbx,hgx,hxl,hxv,hxt,hxn,hg1⟩;have HBX:=zHd hbx;have HXL:=zHd hxl;have HXV:=zHd hxv;have HG1:=zHd hg1;have HXT:=zHd hxt;clear hbx hxl hxv hxt hg1 ra va vb;go_wp2_with fail;refine(rb _).mono ?_;rintro e w2 ⟨gy,cy,ys,rfl,hby,hgy,hyl,hyv,hyt,hyn,hg2⟩;have hs:=zFp gx cx xs ys _ w2 ((HBX.out.grown hg2 (by simp)).base (zqaw _)) (hby.base (zqaw _)) HXL.out hyl (by omega) (by omega);rw[HXV.out,hyv] at hs;have HS:=zHd hs;have HG2:=zHd hg2;clear hby hyl hyv hyt hg2 hs rb;go_wp2_with fail;refine HS.out.mono ?_;rintro e w3 ⟨g,zs,rfl,hbz,hzl,hzv,hzn,hg3⟩;have hw:=zpm _ zs w3 (hbz.base (zqaw _)) hzl (by omega);rw[hzv] at hw;obtain⟨S,E,hE⟩:=zsR (nv a+nv b);exact zQaQ
def zFr (a b:ByteArray)(w:World)(ha:a.size<=maxLen)(hb:b.size<=maxLen) :
  Calls prog 177 #[.string a,.string b] w (zab (zeV a b) w):=by
 have va:=fun w=>zdg a w ha;have vb:=fun w=>zdg b w hb;unfold maxLen at ha hb;cases hna:zas a
 ·have HV:=zHd (show zeV a b=ziI by unfold zeV;rw[hna];rfl)
  simp only[hna] at va;clear vb hna;go_enter func177,ntmps177;exact zQaO
 cases hnb:zas b
 ·have HV:=zHd (show zeV a b=ziI by unfold zeV;rw[hnb,Bool.and_false];rfl)
  simp only[hna] at va;simp only[hnb] at vb;clear hna hnb;go_enter func177,ntmps177;exact zQaB
 have HV:=zHd (show zeV a b=zex (nv a*nv b) by unfold zeV;rw[hna,hnb];rfl);have ra:=fun w=>zeU a w hna;have rb:=fun w=>zeU b w hnb;simp only[hna] at va;simp only[hnb] at vb;clear hna hnb;go_enter func177,ntmps177;go_wp2_with fail;refine(va _).mono ?_;rintro e w' ⟨rfl,rfl⟩;go_wp2_with fail;refine(vb _).mono ?_;rintro e w' ⟨rfl,rfl⟩;go_wp2_with fail;refine(ra _).mono ?_;rintro e w1 ⟨gx,cx,xs,rfl,hbx,hgx,hxl,hxv,hxt,hxn,hg1⟩;have HBX:=zHd hbx;have HXL:=zHd hxl;have HXV:=zHd hxv;have HG1:=zHd hg1;have HXT:=zHd hxt;clear hbx hxl hxv hxt hg1 ra va vb;go_wp2_with fail;refine(rb _).mono ?_;rintro e w2 ⟨gy,cy,ys,rfl,hby,hgy,hyl,hyv,hyt,hyn,hg2⟩;have hs:=zuV _ _ xs ys w2 ((HBX.out.grown hg2 (by simp)).base (zqaw _)) (hby.base (zqaw _)) HXL.out hyl (by omega) (by omega);rw[HXV.out,hyv] at hs;have HS:=zHd hs;have HG2:=zHd hg2;clear hby hyl hyv hyt hg2 hs rb;go_wp2_with fail;refine HS.out.mono ?_;rintro e w3 ⟨g,zs,rfl,hbz,hzl,hzv,hzn,hg3⟩;have hw:=zpm _ zs w3 (hbz.base (zqaw _)) hzl (by omega);rw[hzv] at hw;obtain⟨S,E,hE⟩:=zsR (nv a*nv b);exact zQaQ
def zvR (a b:ByteArray)(w:World)(ha:a.size<=maxLen)(hb:b.size<=maxLen) :
  Calls prog 173 #[.string a,.string b] w (zab (zed a b) w):=by
 have va:=fun w=>zdg a w ha;have vb:=fun w=>zdg b w hb;unfold maxLen at ha hb;cases hna:zas a
 ·have HV:=zHd (show zed a b=ziI by unfold zed;rw[hna];rfl)
  simp only[hna] at va;clear vb hna;go_enter func173,ntmps173;exact zQaO
 cases hnb:zas b
 ·have HV:=zHd (show zed a b=ziI by unfold zed;rw[hnb,Bool.and_false];rfl)
  simp only[hna] at va;simp only[hnb] at vb;clear hna hnb;go_enter func173,ntmps173;exact zQaB
 have hcm:=fun w=>znu a b w (zbz hna) (zbz hnb);have hce:zff a b=zcf (nv a) (nv b):=by unfold zff;rw[hna,hnb];rfl
 simp only[hce] at hcm;clear hce
 by_cases hlt:nv a<nv b
 ·have HV:=zHd (show zed a b=.tuple #[.string ⟨#[]⟩,.int .i64 4] by unfold zed;rw[hna,hnb];simp only[Bool.and_self,if_true];rw[if_pos hlt])
  have hc:zcf (nv a) (nv b) = -1:=by unfold zcf;rw[if_pos hlt]
  simp only[hc] at hcm;simp only[hna] at va;simp only[hnb] at vb;clear hna hnb hc hlt;go_enter func173,ntmps173;go_wp2_with fail;refine(va _).mono ?_;rintro e w' ⟨rfl,rfl⟩;go_wp2_with fail;refine(vb _).mono ?_;rintro e w' ⟨rfl,rfl⟩;go_wp2_with fail;refine(hcm _).mono ?_;rintro e w1 ⟨rfl,hg1⟩;go_wp2;go_ret2;exact⟨by rw[HV.out];rfl,hg1⟩
 have HV:=zHd (show zed a b=.tuple #[.string (zal (nv a-nv b)),.int .i64 0] by unfold zed;rw[hna,hnb];simp only[Bool.and_self,if_true];rw[if_neg hlt]);obtain⟨c,hc,hc0⟩:∃ c:Int,zcf (nv a) (nv b)=c/\0<=c:=⟨_,rfl,by have:=zfH (nv a) (nv b);omega⟩;simp only[hc] at hcm;have HLT:=zHd hlt;clear hc hlt;have ra:=fun w=>zeU a w hna;have rb:=fun w=>zeU b w hnb;simp only[hna] at va;simp only[hnb] at vb;clear hna hnb;go_enter func173,ntmps173;go_wp2_with fail;refine(va _).mono ?_;rintro e w' ⟨rfl,rfl⟩;go_wp2_with fail;refine(vb _).mono ?_;rintro e w' ⟨rfl,rfl⟩;go_wp2_with fail;refine(hcm _).mono ?_;rintro e w0 ⟨rfl,hg0⟩;have HG0:=zHd hg0;clear hcm va vb hg0;go_wp2_with fail;refine(ra _).mono ?_;rintro e w1 ⟨gx,cx,xs,rfl,hbx,hgx,hxl,hxv,hxt,hxn,hg1⟩;have HBX:=zHd hbx;have HXL:=zHd hxl;have HXV:=zHd hxv;have HG1:=zHd hg1;have HXT:=zHd hxt;clear hbx hxl hxv hxt hg1 ra;go_wp2_with fail;refine(rb _).mono ?_;rintro e w2 ⟨gy,cy,ys,rfl,hby,hgy,hyl,hyv,hyt,hyn,hg2⟩;have hbx2:=HBX.out.grown hg2 (by simp);obtain⟨_,hgB,hcx1,hcx2,post,ze,hpost⟩:=hbx2.cells;have hst:=zlX 1 gx cx [] post xs ys _ w2 (by decide) HXL.out hyl (by omega) (by simp) (by omega) hcx2 (by simpa using ze) (hby.base (zqaw _)) (by simp[Value.ownBlock];have:=(HBX.out.lt gx rfl).2;omega);have hmath:=zCg xs ys HXL.out hyl hyt (by rw[HXV.out,hyv];have:=HLT.out;omega);have hql:=zbR (zbg 1) xs ys 0 xs.length;generalize zaL (zbg 1) xs ys 0 xs.length=q at *;obtain⟨hm1,hm2,hm3⟩:=hmath;rw[HXV.out,hyv] at hm3;have HST:=zHd hst;have HG2:=zHd hg2;have HM1:=zHd hm1;have HM3:=zHd hm3;have HQL:=zHd hql;have HPO:=zHd hpost;have HCX1:=zHd hcx1;have HCX2:=zHd hcx2;clear hby hyl hyv hyt hg2 rb hbx2 ze hst hm1 hm2 hm3 hql hpost hcx1 hcx2;unfold zjV at HST;go_wp2_with fail;refine HST.out.mono ?_;rintro e w3 ⟨rfl,hc3,hg3⟩;have hb3:zaO 0 w3 (.slice (some ⟨gx,0,none⟩) q.1.length cx) q.1:=zaO.of_cells hc3 (zqaw _) (by have:=HPO.out;have:=HQL.out;have:=HCX1.out;simp only[List.nil_append,zqag,zaN];omega) HCX2.out (by simp[zaN]) (by rw[HQL.out];exact HCX1.out);have hwr:=zis _ q.1 w3 hb3 HM1.out (by rw[HQL.out];omega);rw[HM3.out,HQL.out] at hwr;have HWR:=zHd hwr;have HG3:=zHd hg3;clear hc3 hg3 hb3 hwr HST;go_wp2_with fail;refine HWR.out.mono ?_;rintro e w4 ⟨rfl,hg4⟩;have HG4:=zHd hg4;clear hg4 HWR;go_wp2;go_ret2;have hz:=HG0.out.size;exact⟨by rw[HV.out];rfl,zaa HG0.out (grown_none (zae (g:=gx) (zaa HG1.out (grown_none HG2.out)) (zaa HG3.out (grown_none HG4.out)) hgx))⟩
open Go.RowKit
def zsS (n:Nat)(h:n<18446744073709551616):bits BinOp.and IntKind.u64 (n:Int) 4294967295=((n%4294967296:Nat):Int):=by
 have:=bits_and_u64_nat n 4294967295 h (by decide);rw[show(4294967295:Nat)=2 ^ 32-1 by decide,Nat.and_two_pow_sub_one_eq_mod] at this;exact this
def zfY (n:Nat)(e:Int)(h:e=(n:Int))(hn:n<18446744073709551616):IntKind.u64.wrap e=(n:Int):=by
 rw[h,IntKind.wrap_u64];omega
def zor (y s:Nat):((y*2 ^ s:Nat):Int)=(y:Int)*2 ^ s:=by push_cast;rfl
structure D64 (hi lo y s Y c d H L U M m1 m0:Nat):Prop where
 e1:IntKind.u64.wrap ((y:Int)*2 ^ s)=(Y:Int)
 e2:bits BinOp.and IntKind.u64 (Y:Int) 4294967295=(d:Int)
 e3:(Y:Int)/4294967296=(c:Int)
 e4:IntKind.u64.wrap ((hi:Int)*2 ^ s)=(H:Int)
 e5:(lo:Int)/2 ^ (64-s)=(L:Int)
 e6:bits BinOp.or IntKind.u64 (H:Int) (L:Int)=(U:Int)
 e7:IntKind.u64.wrap ((lo:Int)*2 ^ s)=(M:Int)
 e8:(M:Int)/4294967296=(m1:Int)
 e9:bits BinOp.and IntKind.u64 (M:Int) 4294967295=(m0:Int)
 hY:Y=4294967296*c+d
 hc:2147483648<=c
 hc2:c<4294967296
 hd:d<4294967296
 hm1:m1<4294967296
 hm0:m0<4294967296
 hM:M=4294967296*m1+m0
 hU:U<Y
 hq:(18446744073709551616*hi+lo)/y=(18446744073709551616*U+(4294967296*m1+m0))/Y
def D64.mk' (hi lo y s:Nat)(hs:s<=63)(h2:hi<y)(hlo:lo<18446744073709551616)(hY:y*2 ^ s<18446744073709551616)(hY2:9223372036854775808<=y*2 ^ s) :
  ∃ Y c d H L U M m1 m0,D64 hi lo y s Y c d H L U M m1 m0:=by
 obtain⟨a1,a2,a3,a4,a5⟩:=zyP hi lo y s hs h2 hlo hY;have hp:2 ^ s<=2 ^ 63:=zqay (by decide) hs;have hm:lo*2 ^ s%18446744073709551616<18446744073709551616:=Nat.mod_lt _ (by decide)
 refine⟨y*2 ^ s,y*2 ^ s/4294967296,y*2 ^ s%4294967296,hi*2 ^ s,lo/2 ^ (64-s),hi*2 ^ s+lo/2 ^ (64-s),lo*2 ^ s%18446744073709551616,
  lo*2 ^ s%18446744073709551616/4294967296,lo*2 ^ s%18446744073709551616%4294967296,?_,zsS _ hY,by omega,?_,by push_cast;rfl,?_,?_,by omega,zsS _ hm,by omega,by omega,by omega,by omega,by omega,by omega,by omega,a4,?_⟩
 exact zfY _ _ (zor y s).symm hY;exact zfY _ _ (zor hi s).symm (by omega);rw[bits_or_u64_nat _ _ (by omega) (by omega),a3];rw[<- zor,IntKind.wrap_u64];omega;rw[<- Nat.mul_div_mul_right (18446744073709551616*hi+lo) y (Nat.two_pow_pos s),a5];congr 2;omega
structure zCh (U m1 m0 Y Q1 V Q0 g1 g2 g3 g5 R:Nat):Prop where
 x1:IntKind.u64.wrap ((U:Int)*4294967296)=(g1:Int)
 x2:IntKind.u64.wrap ((g1:Int)+(m1:Int))=(g2:Int)
 x3:IntKind.u64.wrap ((Q1:Int)*(Y:Int))=(g3:Int)
 x4:IntKind.u64.wrap ((g2:Int)-(g3:Int))=(V:Int)
 x5:IntKind.u64.wrap ((Q1:Int)*4294967296)=(g5:Int)
 x6:IntKind.u64.wrap ((g5:Int)+(Q0:Int))=(R:Int)
 hV:V<Y
 hR:R=(18446744073709551616*U+(4294967296*m1+m0))/Y
def zCh.mk' (U m1 m0 Y:Nat)(hU:U<Y)(hY:Y<=18446744073709551615)(hm1:m1<4294967296)(hm0:m0<4294967296) :
  ∃ Q1 V Q0 g1 g2 g3 g5 R,Q1=(4294967296*U+m1)/Y/\Q0=(4294967296*V+m0)/Y/\zCh U m1 m0 Y Q1 V Q0 g1 g2 g3 g5 R:=by
 have hY0:0<Y:=by omega
 have hV:=Nat.mod_lt (4294967296*U+m1) hY0;have hdm:=zqbt (4294967296*U+m1) Y;have hq1:=zrC U m1 Y hY0 hU hm1;have hq0:=zrC ((4294967296*U+m1)%Y) m0 Y hY0 hV hm0;have hR:=zBT U m1 m0 Y hY0;refine⟨_,(4294967296*U+m1)%Y,_,(4294967296*U)%18446744073709551616,((4294967296*U)%18446744073709551616+m1)%18446744073709551616,(Y*((4294967296*U+m1)/Y))%18446744073709551616,4294967296*((4294967296*U+m1)/Y),_,rfl,rfl,?_,?_,?_,?_,?_,?_,hV,hR.symm⟩;rw[IntKind.wrap_u64,Int.mul_comm,Int.natCast_emod,Int.natCast_mul];rfl
 ·generalize 4294967296*U%18446744073709551616=g
  rw[IntKind.wrap_u64,Int.natCast_emod,Int.natCast_add];rfl
 rw[IntKind.wrap_u64,Int.mul_comm,<- Int.natCast_mul];exact(Int.natCast_emod _ _).symm
 ·rw[IntKind.wrap_u64]
  generalize Y*((4294967296*U+m1)/Y)=t at *;generalize (4294967296*U+m1)%Y=V at *;omega
 refine zfY _ _ (by rw[Int.mul_comm];exact(Int.natCast_mul 4294967296 _).symm) (by omega);refine zfY _ _ ?_ ?_
 ·exact(Int.natCast_add _ _).symm
 omega
def zyU (hi lo y s:Nat)(h1:1<=hi)(h2:hi<y)(hlo:lo<18446744073709551616)(hs:s<=63)
  (hY:y*2 ^ s<18446744073709551616) (hY2:9223372036854775808<=y*2 ^ s)
  (hlz:∀ w,Calls prog 221 #[.int .u64 y] w fun e w'=>e=.returned (.int .i64 s)/\w=w') :
  ∃ r,∀ w,Calls prog 217 #[.int .u64 hi,.int .u64 lo,.int .u64 y] w fun e w'=>e=.returned (.tuple #[.int .u64 ((18446744073709551616*hi+lo)/y:Nat),.int .u64 r])/\w=w':=by
 obtain⟨Y,c,d,H,L,U,M,m1,m0,hD⟩:=D64.mk' hi lo y s hs h2 hlo hY hY2;have HD:=zHd hD;have hds:=zfx.start hD.hY hD.hc hD.hd hD.hm1 hD.hU;have hrl:=zfx.rest_lt (U:=U) hD.hc;have e1:=hD.e1;have e2:=hD.e2;have e3:=hD.e3;have e4:=hD.e4;have e5:=hD.e5;have e6:=hD.e6;have e7:=hD.e7;have e8:=hD.e8;have e9:=hD.e9;have hc:=hD.hc;have hc2:=hD.hc2;have hd:=hD.hd;have hm1:=hD.hm1;have hm0:=hD.hm0;have hU:=hD.hU;have hy:y<18446744073709551616:=by have:=hD.hY;have:y*1<=y*2 ^ s:=zqbd _ (Nat.two_pow_pos s);omega
 have ea:(U:Int)/(c:Int)=((U/c:Nat):Int):=by push_cast;rfl
 have ep:((U/c:Nat):Int)*(c:Int)=((c*(U/c):Nat):Int):=by push_cast;rw[Int.mul_comm]
 have hpU:c*(U/c)<=U:=Nat.mul_div_le U c;have hYl:Y<=18446744073709551615:=by have:=hD.hY;omega
 have eq:=hD.hq;rw[eq];clear hD eq hY hY2;generalize U/c=a0 at *;generalize c*a0=p0 at *;have ha0:=hds.le;obtain⟨r0,hr0⟩:∃ r0,U-p0=r0:=⟨_,rfl⟩;have er:(U:Int)-(p0:Int)=(r0:Int):=by omega
 rw[hr0] at hds hrl;have HDS:=zHd hds;clear hds hr0;have f1:((hi:Int)==0)=false:=by simp;omega
 have f2:((y:Int)==0)=false:=by simp;omega
 have hc1:(1:Int)<=(c:Int):=by omega
 obtain⟨Q1,V,Q0,g1,g2,g3,g5,R,hQ1,hQ0,hT⟩:=zCh.mk' U m1 m0 Y hU hYl hm1 hm0;rw[<- hT.hR];have HQ1:=zHd hQ1.symm;have HQ0:=zHd hQ0.symm;have HT:=zHd hT;clear hQ1 hQ0 hT;refine⟨IntKind.u64.wrap (IntKind.u64.wrap (IntKind.u64.wrap ((V:Int)*4294967296)+(m0:Int))-IntKind.u64.wrap ((Q0:Int)*(Y:Int)))/2 ^ (min s 64),fun w=>?_⟩;go_enter func217,ntmps217
 go_upto_block 0 with(go_at_call 221;refine(hlz _).mono ?_;rintro e w' ⟨rfl,rfl⟩)
 go_cut [15] (fun q wx=>q=.int .u64 Q1/\w=wx)
 case first =>
  go_wp2_with fail;clear e1 e2 e3 e4 e5 e6 e7 e8 e9 ea ep er hpU h1 h2 hlo hs hlz f1 f2 hy ha0
  go_loop [15,16] (fun q rh=>∃ a r:Nat,q=.int .u64 a/\rh=.int .u64 r/\zfx U m1 c Y a r/\r<4294967296) (fun q _=>(intOf q).toNat)
  case atStart=>exact⟨_,_,rfl,rfl,HDS.out,by omega⟩
  case round =>
   obtain⟨a,r,rfl,rfl,zI,hr⟩:=hrel;have hle:=zI.le;have hpr:=zI.prod hd;have epp:(a:Int)*(d:Int)=((d*a:Nat):Int):=by push_cast;rw[Int.mul_comm]
   obtain⟨R,hR⟩:∃ R,4294967296*r=R:=⟨_,rfl⟩;have eR:IntKind.u64.wrap ((4294967296:Int)*(r:Int))=(R:Int):=zfY R _ (by omega) (by omega);have hr2:r<=4294967296000:=by omega
   have hRb:R<=18446744069414584320:=by omega
   have HR:=zHd hr;clear hr
   by_cases ht:4294967296<=a∨R+m1<d*a
   ·obtain⟨ha1,hnew⟩:=zI.down HD.out.hY hc hd hm1 hU (by rw[hR];exact ht)
    have HN:=zHd hnew;clear zI hnew hR;have hle2:=HN.out.le;generalize d*a=p at *
    by_cases hrr:4294967296<=r+c
    ·have HQ:=zHd (HN.out.out HD.out.hY hc hd (by omega) hrr)
     by_cases hta:4294967296<=a
     ·clear ht
      have g1:¬ ((a:Int)<4294967296):=(by omega);have g1':(4294967296:Int)<=(a:Int):=(by omega);exact zQbp
     have htb:R+m1<p:=(by omega);clear ht;have g1:(a:Int)<4294967296:=(by omega);have g1':¬ ((4294967296:Int)<=(a:Int)):=(by omega);have g2:(R:Int)+(m1:Int)<(p:Int):=(by omega);exact zQbp
    by_cases hta:4294967296<=a
    ·clear ht
     have g1:¬ ((a:Int)<4294967296):=(by omega);have g1':(4294967296:Int)<=(a:Int):=(by omega);have g3:¬ ((4294967296:Int)<=(r:Int)+(c:Int)):=(by omega);have g3':(r:Int)+(c:Int)<4294967296:=(by omega);go_wp2;go_round
     case rel=>exact⟨a-1,r+c,by go_num,by go_num,HN.out,by omega⟩
     case measure=>simp[intOf];omega
    have htb:R+m1<p:=(by omega);clear ht;have g1:(a:Int)<4294967296:=(by omega);have g1':¬ ((4294967296:Int)<=(a:Int)):=(by omega);have g2:(R:Int)+(m1:Int)<(p:Int):=(by omega);have g3:¬ ((4294967296:Int)<=(r:Int)+(c:Int)):=(by omega);have g3':(r:Int)+(c:Int)<4294967296:=(by omega);go_wp2;go_round
    case rel=>exact⟨a-1,r+c,by go_num,by go_num,HN.out,by omega⟩
    case measure=>simp[intOf];omega
   have hta:a<4294967296:=by omega
   have htb:d*a<=R+m1:=(by omega);have HQ:=zHd (zI.done HD.out.hY hc (by rw[hR];exact htb));clear ht zI hR;generalize d*a=p at *;have g1:(a:Int)<4294967296:=(by omega);have g1':¬ ((4294967296:Int)<=(a:Int)):=(by omega);have g2:¬ ((R:Int)+(m1:Int)<(p:Int)):=(by omega);have g2':(p:Int)<=(R:Int)+(m1:Int):=(by omega);go_wp2;go_meet;exact ⟨by rw[<- HQ1.out,<- HQ.out],rfl⟩
 case rest =>
  obtain⟨rfl,rfl⟩:=hcut;clear e1 e2 e3 e4 e5 e6 e7 e8 e9 ea ep er hpU ha0 HDS hrl hlz f1 f2 hlo hs HQ1;have x1:=HT.out.x1;have x2:=HT.out.x2;have x3:=HT.out.x3;have x4:=HT.out.x4;have hV:=HT.out.hV;have hds:=zfx.start HD.out.hY hc hd hm0 hV;have hrl:=zfx.rest_lt (U:=V) hc;have ea:(V:Int)/(c:Int)=((V/c:Nat):Int):=by push_cast;rfl
  have ep:((V/c:Nat):Int)*(c:Int)=((c*(V/c):Nat):Int):=by push_cast;rw[Int.mul_comm]
  have hpU:c*(V/c)<=V:=Nat.mul_div_le V c;generalize V/c=a1 at *;generalize c*a1=p1 at *;have ha1:=hds.le;obtain⟨r1,hr1⟩:∃ r1,V-p1=r1:=⟨_,rfl⟩;have er:(V:Int)-(p1:Int)=(r1:Int):=by omega
  rw[hr1] at hds hrl;have HDS:=zHd hds;clear hds hr1
  go_upto_block 2 with(fail)
  go_cut [18] (fun q wx=>q=.int .u64 Q0/\w=wx)
  case first =>
   go_wp2_with fail;clear x1 x2 x3 x4 ea ep er hpU ha1
   go_loop [18,16] (fun q rh=>∃ a r:Nat,q=.int .u64 a/\rh=.int .u64 r/\zfx V m0 c Y a r/\r<4294967296) (fun q _=>(intOf q).toNat)
   case atStart=>exact⟨_,_,rfl,rfl,HDS.out,by omega⟩
   case round =>
    obtain⟨a,r,rfl,rfl,zI,hr⟩:=hrel;have hle:=zI.le;have hpr:=zI.prod hd;have epp:(a:Int)*(d:Int)=((d*a:Nat):Int):=(by push_cast;rw[Int.mul_comm]);obtain⟨R,hR⟩:∃ R,4294967296*r=R:=⟨_,rfl⟩;have eR:IntKind.u64.wrap ((4294967296:Int)*(r:Int))=(R:Int):=zfY R _ (by omega) (by omega);have hr2:r<=4294967296000:=(by omega);have hRb:R<=18446744069414584320:=(by omega);have HR:=zHd hr;clear hr
    by_cases ht:4294967296<=a∨R+m0<d*a
    ·obtain⟨ha1,hnew⟩:=zI.down HD.out.hY hc hd hm0 hV (by rw[hR];exact ht)
     have HN:=zHd hnew;clear zI hnew hR;have hle2:=HN.out.le;generalize d*a=p at *
     by_cases hrr:4294967296<=r+c
     ·have HQ:=zHd (HN.out.out HD.out.hY hc hd (by omega) hrr)
      by_cases hta:4294967296<=a
      ·clear ht
       have g1:¬ ((a:Int)<4294967296):=(by omega);have g1':(4294967296:Int)<=(a:Int):=(by omega);exact zQbq
      have htb:R+m0<p:=(by omega);clear ht;have g1:(a:Int)<4294967296:=(by omega);have g1':¬ ((4294967296:Int)<=(a:Int)):=(by omega);have g2:(R:Int)+(m0:Int)<(p:Int):=(by omega);exact zQbq
     by_cases hta:4294967296<=a
     ·clear ht
      have g1:¬ ((a:Int)<4294967296):=(by omega);have g1':(4294967296:Int)<=(a:Int):=(by omega);have g3:¬ ((4294967296:Int)<=(r:Int)+(c:Int)):=(by omega);have g3':(r:Int)+(c:Int)<4294967296:=(by omega);go_wp2;go_round
      case rel=>exact⟨a-1,r+c,by go_num,by go_num,HN.out,by omega⟩
      case measure=>simp[intOf];omega
     have htb:R+m0<p:=(by omega);clear ht;have g1:(a:Int)<4294967296:=(by omega);have g1':¬ ((4294967296:Int)<=(a:Int)):=(by omega);have g2:(R:Int)+(m0:Int)<(p:Int):=(by omega);have g3:¬ ((4294967296:Int)<=(r:Int)+(c:Int)):=(by omega);have g3':(r:Int)+(c:Int)<4294967296:=(by omega);go_wp2;go_round
     case rel=>exact⟨a-1,r+c,by go_num,by go_num,HN.out,by omega⟩
     case measure=>simp[intOf];omega
    have hta:a<4294967296:=(by omega);have htb:d*a<=R+m0:=(by omega);have HQ:=zHd (zI.done HD.out.hY hc (by rw[hR];exact htb));clear ht zI hR;generalize d*a=p at *;have g1:(a:Int)<4294967296:=(by omega);have g1':¬ ((4294967296:Int)<=(a:Int)):=(by omega);have g2:¬ ((R:Int)+(m0:Int)<(p:Int)):=(by omega);have g2':(p:Int)<=(R:Int)+(m0:Int):=(by omega);go_wp2;go_meet;exact ⟨by rw[<- HQ0.out,<- HQ.out],rfl⟩
  case rest =>
   obtain⟨rfl,rfl⟩:=hcut;clear x1 x2 x3 x4 ea ep er hpU ha1 HDS hrl HQ0;have x5:=HT.out.x5;have x6:=HT.out.x6;go_wp2;go_ret2;exact⟨rfl,rfl⟩
end Go.Proofs.YtadgpgofcjpnjaaGreatDoor
