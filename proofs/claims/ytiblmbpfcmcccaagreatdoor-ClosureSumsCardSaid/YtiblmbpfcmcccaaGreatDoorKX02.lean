/- Part. -/
import Derived.Test.YtiblmbpfcmcccaaGreatDoorKX01
import Derived.Test.YtiblmbpfcmcccaaGreatDoorRows
import Derived.Deep.AppendLies
import Derived.WalkSpells
import Derived.WalkLawsBesides
import Derived.BigQuiet
import Derived.Laws.CopyOwn
set_option linter.unusedVariables false
set_option linter.defProp false
set_option linter.unusedSimpArgs false
set_option maxRecDepth 100000
set_option maxHeartbeats 16000000
namespace Go.Proofs.YtiblmbpfcmcccaaGreatDoor
open Go.Proofs.Tryz
open Go.RowKit
def uv (xs:List Nat):List Value:=xs.map fun n:Nat=>Value.int .u64 (n:Int)
def zaC (xs:List Nat):(uv xs).length=xs.length:=by simp[uv]
def zcb (xs ys:List Nat):uv (xs++ys)=uv xs++uv ys:=by simp[uv]
def zjm (xs:List Nat)(k:Nat)(h:k<xs.length):(uv xs)[k]?=some (.int .u64 (xs.getD k 0:Nat)):=by
 unfold uv;rw[zqaj,zqaa,zqac h];rfl
def zaF (B:Nat)(w:World)(v:Value)(xs:List Nat):Prop:=w.ownsRow B 158 1 v xs.length (uv xs)
section
variable {B B':Nat} {w w':World} {v:Value} {xs:List Nat}
def zaF.keep (h:zaF B w v xs)(hk:∀ g,v.ownBlock=some g->w'.heap[g]?=w.heap[g]?):zaF B w' v xs:=by
 refine⟨h.1,?_⟩;rcases h.2 with hn|⟨g,cap,cur,rfl,hb,hgg,rest⟩
 exact .inl hn;exact .inr ⟨g,cap,cur,rfl,hb,(hk g rfl).trans hgg,rest⟩
def zaF.base (h:zaF B w v xs)(hB:B'<=B):zaF B' w v xs:=by
 refine⟨h.1,?_⟩;rcases h.2 with hn|⟨g,cap,cur,rfl,hb,rest⟩
 exact .inl hn;exact .inr ⟨g,cap,cur,rfl,by omega,rest⟩
def zaF.lt (h:zaF B w v xs):∀ g,v.ownBlock=some g->B<=g/\g<w.heap.size:=World.ownsRow.lt h
def zaF.form (h:zaF B w v xs):(v=.slice none 0 0/\xs=[]) ∨
  ∃ g cap cur,v=.slice (some ⟨g,0,none⟩) xs.length cap/\B<=g/\w.heap[g]?=some (.cells cur 158 (0,0))/\xs.length<=cap/\cap<=maxLen/\cur.size=cap/\cur.toList.take xs.length=uv xs:=by
 rcases h.2 with⟨hv,hn⟩|⟨g,cap,cur,rfl,hb,hg,hc,hm,hs,ht⟩;exact .inl ⟨hv,List.eq_nil_of_length_eq_zero hn⟩;rw[Nat.mul_one] at hs ht;exact .inr ⟨g,cap,cur,rfl,hb,hg,hc,hm,hs,ht⟩
def zaF.mk {g cap:Nat}{cur:Array Value}(hb:B<=g)(hg:w.heap[g]?=some (.cells cur 158 (0,0)))(hc:xs.length<=cap)(hm:cap<=maxLen)(hs:cur.size=cap)(ht:cur.toList.take xs.length=uv xs):zaF B w (.slice (some ⟨g,0,none⟩) xs.length cap) xs :=
 ⟨by rw[zaC,Nat.mul_one],.inr ⟨g,cap,cur,rfl,hb,hg,hc,hm,by rw[Nat.mul_one];exact hs,by rw[Nat.mul_one];exact ht⟩⟩
def zqc (h:zaF B w v xs):∃ A cap,v=.slice A xs.length cap/\True:=by
 rcases h.form with⟨rfl,rfl⟩|⟨g,cap,cur,rfl,_⟩;exact⟨none,0,rfl,trivial⟩;exact⟨_,_,rfl,trivial⟩
def zaF.grown {row:Option Nat}(h:zaF B w v xs)(hg:w.grownBy w' row)(hr:∀ g,v.ownBlock=some g->some g≠row):zaF B w' v xs :=
 h.keep fun g e=>hg.block g (h.lt g e).2 (hr g e)
end
def zhF {w:World}{g k:Nat}{cur:Array Value}{e:TypeId}(h:w.heap[g]?=some (.cells cur e (0,0))):w.cell? ⟨g,k,none⟩=cur[k]?:=zqbw w g k cur e (0,0) h
def take_at {cur:Array Value}{xs:List Nat}(ht:cur.toList.take xs.length=uv xs)(k:Nat)(hk:k<xs.length):cur[k]?=some (.int .u64 (xs.getD k 0:Nat)):=by
 rw[<- zjm xs k hk,<- ht,List.getElem?_take,if_pos hk];simp
def zaa {a b c:World}{r:Option Nat}(h:a.grownBy b r)(k:b.grownBy c r):a.grownBy c r :=
 ⟨k.os.trans h.os,k.tape.trans h.tape,k.output.trans h.output,zqam h.size k.size,fun i hi hne=>(k.block i (zqba hi h.size) hne).trans (h.block i hi hne)⟩
def zae (a:World)(r:Option Nat):a.grownBy a r:=⟨rfl,rfl,rfl,zqab _,fun _ _ _=>rfl⟩
def zaB {a b:World}{r:Option Nat}(h:a.grownBy b none):a.grownBy b r:=⟨h.os,h.tape,h.output,h.size,fun i hi _=>h.block i hi (by simp)⟩
def zac (w:World)(a:Addr)(u:Value):w.grownBy (w.setCell a u) (some a.block) :=
 ⟨rfl,rfl,rfl,by simp[World.setCell],fun k hk hne=>Below.heap_setCell _ _ _ _ (fun e=>hne (by rw[e]))⟩
def below_grown {B:Nat}{a b:World}{r:Option Nat}(h:a.grownBy b r)(hB:B<=a.heap.size)(hr:∀ k,r=some k->B<=k):Below B a b:=(Below.refl B a).grown h hB hr
def zbe {a b:World}(h:Below a.heap.size a b):a.grownBy b none:=⟨h.os,h.tape,h.output,h.size,fun i hi _=>h.block i hi⟩
def zaf (a:World)(r:Option Nat):a.grownBy a.drew r:=⟨rfl,rfl,rfl,zqab _,fun _ _ _=>rfl⟩
def zcg (a:World)(r:Option Nat)(n:Nat):a.grownBy (a.drewN n) r:=⟨rfl,rfl,rfl,zqab _,fun _ _ _=>rfl⟩
def zak {a b c:World}{r:Option Nat}{g:Nat}(h:a.grownBy b r)(k:b.grownBy c (some g))(hg:a.heap.size<=g):a.grownBy c r :=
 ⟨k.os.trans h.os,k.tape.trans h.tape,k.output.trans h.output,zqam h.size k.size,fun i hi hne=>(k.block i (zqba hi h.size) (by simp;omega)).trans (h.block i hi hne)⟩
open Go.RowKit
def One (w:World)(g n:Nat):Prop:=w.heap[g]?=some (.cells #[.int .u64 (n:Int)] 158 (0,0))
def zvb (q:Nat×Nat)(gc:Nat)(w:World)(e:Ending)(w':World):Prop:=e=.returned (.int .u64 (q.2:Nat))/\One w' gc q.1/\w.grownBy w' (some gc)
def zrP {a b:Int}(h:a=b):Ending.returned (.int .u64 a)=.returned (.int .u64 b):=by rw[h]
def zoY {w:World}{g:Nat}{x:Int}{n:Nat}(h:w.heap[g]?=some (.cells #[.int .u64 x] 158 (0,0)))(e:x=(n:Int)):One w g n:=by rw[e] at h;exact h
def zJJ (f c a b gc gf:Nat)(w:World)(hf:f<=1000000000)(hc:c<=1000000000)(ha:a<1000000000)(hb:b<1000000000)(hne:gf≠gc)(hgc:One w gc c)(hgf:One w gf f) :
  Calls prog 261 #[.int .u64 a,.int .u64 b,.pointer (some ⟨gc,0,none⟩),.pointer (some ⟨gf,0,none⟩)] w (zvb (zbp f c a b) gc w):=by
 have hp:=znQ f b hf hb;obtain⟨p,hpe⟩:∃ p,f*b=p:=⟨_,rfl⟩;have hpi:(f:Int)*(b:Int)=(p:Int):=by rw[<- hpe];push_cast;rfl
 rw[hpe] at hp;have c1:=cell_of_one hgc;have c2:=cell_of_one hgf;have c3:=free_of_one hgc;have HC:=zHd hgc;clear hgc hgf;go_enter func261,ntmps261;go_wp2;go_ret;have e1:(zbp f c a b).2=(c+(a+p))%1000000000:=by unfold zbp;rw[hpe]
 have e2:(zbp f c a b).1=(c+(a+p))/1000000000:=by unfold zbp;rw[hpe]
 refine⟨?_,?_,?_⟩;rw[e1];exact zrP (by omega);rw[e2];exact zoY (one_setCell (one_setCell HC.out)) (by omega);exact zaa (zac _ _ _) (zac _ _ _)
def zJK (f c a b gc gf:Nat)(w:World)(hf:f<=1000000000)(hc:c<=1000000000)(ha:a<1000000000)(hb:b<1000000000)(hne:gf≠gc)(hgc:One w gc c)(hgf:One w gf f) :
  Calls prog 254 #[.int .u64 a,.int .u64 b,.pointer (some ⟨gc,0,none⟩),.pointer (some ⟨gf,0,none⟩)] w (zvb (zaU f c a b) gc w):=by
 have hp:=znQ f b hf hb;obtain⟨p,hpe⟩:∃ p,f*b=p:=⟨_,rfl⟩;have hpi:(f:Int)*(b:Int)=(p:Int):=by rw[<- hpe];push_cast;rfl
 rw[hpe] at hp;have c1:=cell_of_one hgc;have c2:=cell_of_one hgf;have c3:=free_of_one hgc;have HC:=zHd hgc;have HE:=zHd hpe;clear hgc hgf hpe
 by_cases hlt:a<(c+p)%1000000000
 ·have hlt':(a:Int)<((c:Int)+(p:Int))%1000000000:=by omega
  go_enter func254,ntmps254;go_wp2;go_ret;have e1:(zaU f c a b).2=a+1000000000-(c+p)%1000000000:=by unfold zaU;rw[HE.out,if_pos hlt]
  have e2:(zaU f c a b).1=(c+p)/1000000000+1:=by unfold zaU;rw[HE.out,if_pos hlt]
  refine⟨?_,?_,?_⟩;rw[e1];exact zrP (by omega);rw[e2];exact zoY (one_setCell (one_setCell (one_setCell HC.out))) (by omega);exact zaa (zaa (zac _ _ _) (zac _ _ _)) (zac _ _ _)
 have hlt':¬ (a:Int)<((c:Int)+(p:Int))%1000000000:=by omega
 go_enter func254,ntmps254;go_wp2;go_ret;have e1:(zaU f c a b).2=a-(c+p)%1000000000:=by unfold zaU;rw[HE.out,if_neg hlt]
 have e2:(zaU f c a b).1=(c+p)/1000000000:=by unfold zaU;rw[HE.out,if_neg hlt]
 refine⟨?_,?_,?_⟩;rw[e1];exact zrP (by omega);rw[e2];exact zoY (one_setCell (one_setCell HC.out)) (by omega);exact zaa (zac _ _ _) (zac _ _ _)
open Go.RowKit
def zgx (w:World)(v:Value)(xs:List Nat):Prop:=(v=.slice none 0 0/\xs=[]) ∨
 ∃ g off cap,v=.slice (some ⟨g,off,none⟩) xs.length cap/\∀ k,k<xs.length->w.cell? ⟨g,off+k,none⟩=some (.int .u64 (xs.getD k 0:Nat))
def zaF.sees {B:Nat}{w:World}{v:Value}{xs:List Nat}(h:zaF B w v xs):zgx w v xs:=by
 rcases h.form with hn|⟨g,cap,cur,rfl,hb,hg,hc,hm,hs,ht⟩;exact .inl hn;exact .inr ⟨g,0,cap,rfl,fun k hk=>by rw[zqat,zhF hg,take_at ht k hk]⟩
def zcm (xs:List Nat)(i:Int):Nat:=if i<0 then 0 else xs.getD i.toNat 0
def zeS (w:World)(v:Value)(xs:List Nat)(i:Int)(h:zgx w v xs)(hn:xs.length<=1000000)(hi : -1000000<=i)(hi2:i<=1000000) :
  Calls prog 263 #[v,.int .i64 i] w fun e w'=>e=.returned (.int .u64 (zcm xs i:Nat))/\w=w':=by
 by_cases h0:i<0
 ·have e1:zcm xs i=0:=by unfold zcm;rw[if_pos h0]
  rw[e1]
  obtain⟨A,cap,rfl⟩:∃ A cap,v=.slice A xs.length cap:=by
   rcases h with⟨rfl,rfl⟩|⟨g,off,cap,rfl,_⟩;exact⟨none,0,rfl⟩;exact⟨_,_,rfl⟩
  clear h e1;go_enter func263,ntmps263;exact zQaB
 obtain⟨k,rfl⟩:∃ k:Nat,i=k:=⟨i.toNat,by omega⟩;have e1:zcm xs (k:Int)=xs.getD k 0:=by unfold zcm;rw[if_neg h0];rfl
 rw[e1]
 by_cases hk:k<xs.length
 ·rcases h with⟨rfl,rfl⟩|⟨g,off,cap,rfl,hc⟩
  ·exact absurd hk (by simp)
  have zE:=hc k hk;generalize xs.getD k 0=x at *;clear e1 hc;go_enter func263,ntmps263;exact zQaB
 rw[zjh xs k hk]
 obtain⟨A,cap,rfl⟩:∃ A cap,v=.slice A xs.length cap:=by
  rcases h with⟨rfl,rfl⟩|⟨g,off,cap,rfl,_⟩;exact⟨none,0,rfl⟩;exact⟨_,_,rfl⟩
 clear h e1;go_enter func263,ntmps263;exact zQaB
open Go.RowKit
structure zel (g h:Nat)(w w':World):Prop where
 os:w'.os=w.os
 tape:w'.tape=w.tape
 output:w'.output=w.output
 size:w.heap.size<=w'.heap.size
 block:∀ k,k<w.heap.size->k≠g->k≠h->w'.heap[k]?=w.heap[k]?
def zel.refl (g h:Nat)(w:World):zel g h w w:=⟨rfl,rfl,rfl,zqab _,fun _ _ _ _=>rfl⟩
def zel.left {g h:Nat}{a b c:World}(k:zel g h a b)(m:b.grownBy c (some g)):zel g h a c :=
 ⟨m.os.trans k.os,m.tape.trans k.tape,m.output.trans k.output,zqam k.size m.size,fun i hi h1 h2=>(m.block i (zqba hi k.size) (by simpa using h1)).trans (k.block i hi h1 h2)⟩
def zel.right {g h:Nat}{a b c:World}(k:zel g h a b)(m:b.grownBy c (some h)):zel g h a c :=
 ⟨m.os.trans k.os,m.tape.trans k.tape,m.output.trans k.output,zqam k.size m.size,fun i hi h1 h2=>(m.block i (zqba hi k.size) (by simpa using h2)).trans (k.block i hi h1 h2)⟩
def zaJ (w:World)(g:Nat)(l:List Value):Prop:=w.heap[g]?=some (.cells l.toArray 158 (0,0))
def zaJ.cell {w:World}{g:Nat}{l:List Value}(h:zaJ w g l)(k:Nat):w.cell? ⟨g,k,none⟩=l[k]?:=by
 rw[zhF h];simp
def zaJ.free {w:World}{g:Nat}{l:List Value}(h:zaJ w g l)(k:Nat):w.frozen? ⟨g,k,none⟩=false:=zqbx w g k _ _ h
def zaJ.set {w:World}{g:Nat}{l:List Value}(h:zaJ w g l)(k:Nat)(u:Value):zaJ (w.setCell ⟨g,k,none⟩ u) g (l.set k u):=by
 unfold zaJ;exact zQbW
def zaJ.lt {w:World}{g:Nat}{l:List Value}(h:zaJ w g l):g<w.heap.size:=lt_of_block h
def zaJ.grown {w w':World}{g:Nat}{l:List Value}{r:Option Nat}(h:zaJ w g l)(hg:w.grownBy w' r)(hr:some g≠r):zaJ w' g l:=(hg.block g h.lt hr).trans h
def zyL (pre post:List Value)(zs xs:List Nat)(k:Nat)(hz:zs.length=k)(hk:k<xs.length) :
  (pre++uv (zs++xs.drop k)++post)[pre.length+k]?=some (.int .u64 (xs.getD k 0:Nat)):=by
 rw[zmq xs k hk,zcb,zqbj,zqaq (by omega),Nat.add_sub_cancel_left,zqbj,zqaq (by rw[zaC];omega),zaC,hz,zqbr];rfl
def zyM (pre post:List Value)(zs xs:List Nat)(k x:Nat)(hz:zs.length=k)(hk:k<xs.length) :
  (pre++uv (zs++xs.drop k)++post).set (pre.length+k) (.int .u64 (x:Int))=pre++uv ((zs++[x])++xs.drop (k+1))++post:=by
 rw[zmq xs k hk,zcb,zqbj,List.set_append_right _ _ (by omega),Nat.add_sub_cancel_left,zqbj,List.set_append_right _ _ (by rw[zaC];omega),zaC,hz,zqbr];simp[uv]
def zvc (q:List Nat×Nat)(pre post:List Value)(g gc:Nat)(w:World)(e:Ending)(w':World):Prop :=
 e=.returned (.tuple #[])/\zaJ w' g (pre++uv q.1++post)/\One w' gc q.2/\zel g gc w w'
def zjN (q:List Nat×Nat)(pre post:List Value)(g:Nat)(w:World)(e:Ending)(w':World):Prop :=
 e=.returned (.int .u64 (q.2:Nat))/\zaJ w' g (pre++uv q.1++post)/\w.grownBy w' (some g)
def zJL (f c0 g gc gf cap:Nat)(pre post:List Value)(xs ys:List Nat)(vy:Value)(w:World)
  (hf:f<=1000000000) (hc0:c0<=1000000000) (hx:∀ x∈xs,x<1000000000) (hy:∀ y∈ys,y<1000000000)
  (hn:xs.length<=1000000) (hp:pre.length<=1000000) (hm:ys.length<=1000000) (hcap:cap<=maxLen)
  (hg:zaJ w g (pre++uv xs++post)) (hgc:One w gc c0) (hgf:One w gf f) (hB:zaF 0 w vy ys)
  (h1:g≠gc) (h2:gf≠gc) (h3:gf≠g) (h4:∀ b,vy.ownBlock=some b->b≠g/\b≠gc) :
  Calls prog 253 #[.slice (some ⟨g,pre.length,none⟩) xs.length cap,vy,.func (.func 261) #[] #[.pointer (some ⟨gc,0,none⟩),.pointer (some ⟨gf,0,none⟩)]] w
   (zvc (zaz (zbp f) xs ys c0 xs.length) pre post g gc w):=by
 have hI:=zji f xs ys hf hx hy c0 hc0;have hbnd:∀ k,(zaz (zbp f) xs ys c0 k).2<=1000000000:=fun k=>(hI k).2.1;have HG:=zHd hg;have HC:=zHd hgc;have HF:=zHd hgf;have HB:=zHd hB;have HX:=zHd hx;have HY:=zHd hy;have HBN:=zHd hbnd;have H4:=zHd h4;clear hg hgc hgf hB hI hbnd hx hy h4;unfold maxLen at hcap;go_enter func253,ntmps253;go_wp2
 go_loopw [9] (fun i wr=>∃ (k:Nat),i=.int .i64 k/\k<=xs.length/\zaJ wr g (pre++uv ((zaz (zbp f) xs ys c0 k).1++xs.drop k)++post)/\One wr gc (zaz (zbp f) xs ys c0 k).2/\zel g gc w wr) (fun i _=>xs.length-(intOf i).toNat)
 case atStart=>exact⟨0,rfl,by omega,by simpa [zaz] using HG.out,HC.out,zel.refl _ _ _⟩
 case round =>
  obtain⟨k,rfl,hk,hgr,hcr,hkr⟩:=hrel
  by_cases hlt:k<xs.length
  ·have zE:wr.cell? ⟨g,pre.length+k,none⟩=some (.int .u64 (xs.getD k 0:Nat)):=by rw[hgr.cell];exact zyL pre post _ xs k (zbw _ _ _ _ _) hlt
   have hz:=zbw (zbp f) xs ys c0 k;have hyr:zaF 0 wr vy ys:=HB.out.keep fun b hb=>hkr.block b (HB.out.lt b hb).2 (H4.out b hb).1 (H4.out b hb).2;have hfr:One wr gf f:=(hkr.block gf (lt_of_block HF.out) h3 h2).trans HF.out;have hblk:=fun w' (h:zgx w' vy ys)=>zeS w' vy ys (k:Int) h hm (by omega) (by omega);have eb:zcm ys (k:Int)=ys.getD k 0:=by unfold zcm;rw[if_neg (by omega)];rfl
   rw[eb] at hblk;have hst:=fun w' (h5:One w' gc (zaz (zbp f) xs ys c0 k).2) (h6:One w' gf f)=>zJJ f (zaz (zbp f) xs ys c0 k).2 (xs.getD k 0) (ys.getD k 0) gc gf w' hf (HBN.out k) (zaY _ (by decide) xs HX.out k) (zaY _ (by decide) ys HY.out k) h2 h5 h6;have HS:=zHd (show zaz (zbp f) xs ys c0 (k+1)=((zaz (zbp f) xs ys c0 k).1++[(zbp f (zaz (zbp f) xs ys c0 k).2 (xs.getD k 0) (ys.getD k 0)).2],(zbp f (zaz (zbp f) xs ys c0 k).2 (xs.getD k 0) (ys.getD k 0)).1) from rfl);have HSE:=zHd (show zgx wr.drew vy ys from hyr.sees);generalize zbp f (zaz (zbp f) xs ys c0 k).2 (xs.getD k 0) (ys.getD k 0)=q at *;generalize (zaz (zbp f) xs ys c0 k).2=c at *;generalize (zaz (zbp f) xs ys c0 k).1=zs at *;have HST:=zHd (fun r=>zyM pre post zs xs k r hz hlt);have hk1:(k:Int)<(xs.length:Int):=by omega
   generalize hxa:xs.getD k 0=a at *;generalize hyb:ys.getD k 0=b at *;have HHG:=zHd (show zaJ wr.drew g _ from hgr);have HHC:=zHd (show One wr.drew gc c from hcr);have HHF:=zHd (show One wr.drew gf f from hfr);have HK:=zHd (show zel g gc w wr.drew from⟨hkr.os,hkr.tape,hkr.output,hkr.size,hkr.block⟩);have HBL:=zHd hblk;have HSTP:=zHd hst;clear hgr hcr hfr hkr hyr eb hblk hst hz hxa hyb;go_wp2
   go_region_with (first
    | (go_at_call 263;refine(HBL.out _ HSE.out).mono ?_;rintro e w' ⟨rfl,rfl⟩)
    | (go_at_call 261;refine(HSTP.out _ HHC.out HHF.out).mono ?_;rintro e w' ⟨rfl,ho,hgw⟩;have HO:=zHd ho;have HGW:=zHd hgw;have HCG:=zHd (HHG.out.grown hgw (by simpa using h1));have hcell2:=zE;rw[show wr.cell? ⟨g,pre.length+k,none⟩=wr.drew.cell? ⟨g,pre.length+k,none⟩ from rfl,HHG.out.cell,<- HCG.out.cell] at hcell2;have hfree2:=HCG.out.free (pre.length+k);clear ho hgw))
   all_goals
    have hnew:=(HCG.out.set (pre.length+k) (.int .u64 (q.2:Int)));rw[HST.out q.2] at hnew;have hend:zaJ (w'.setCell ⟨g,pre.length+k,none⟩ (.int .u64 (q.2:Int))) g (pre++uv ((zaz (zbp f) xs ys c0 (k+1)).1++xs.drop (k+1))++post):=by rw[HS.out];exact hnew
    have hone:One (w'.setCell ⟨g,pre.length+k,none⟩ (.int .u64 (q.2:Int))) gc (zaz (zbp f) xs ys c0 (k+1)).2:=by
     exact zQbQ
    have hkept:zel g gc w (w'.setCell ⟨g,pre.length+k,none⟩ (.int .u64 (q.2:Int))):=(HK.out.right HGW.out).left (zac _ _ _);have HEND:=zHd hend;have HONE:=zHd hone;have HKEPT:=zHd hkept;clear hnew hend hone hkept zE hcell2 hfree2;go_wp2
    go_roundw
    case rel=>exact⟨k+1,by go_num,by omega,HEND.out,HONE.out,HKEPT.out⟩
    case measure=>simp[intOf];omega
  have e:k=xs.length:=by omega
  subst e;rw[List.drop_length,List.append_nil] at hgr;have HHG:=zHd hgr;have HHC:=zHd hcr;have HK:=zHd hkr;clear hgr hcr hkr;go_wp2
  go_end0
  exact⟨rfl,HHG.out,HHC.out,HK.out⟩
def zjn (f g cap:Nat)(pre post:List Value)(xs ys:List Nat)(vy:Value)(w:World)
  (hf:f<=1000000000) (hx:∀ x∈xs,x<1000000000) (hy:∀ y∈ys,y<1000000000)
  (hn:xs.length<=1000000) (hp:pre.length<=1000000) (hm:ys.length<=1000000) (hcap:cap<=maxLen)
  (hg:zaJ w g (pre++uv xs++post)) (hB:zaF 0 w vy ys) (h4:vy.ownBlock≠some g) :
  Calls prog 250 #[.slice (some ⟨g,pre.length,none⟩) xs.length cap,vy,.int .u64 f] w
   (zjN (zaz (zbp f) xs ys 0 xs.length) pre post g w):=by
 have hlt:=hg.lt
 have hc:=zJL f 0 g (w.heap.size+1) w.heap.size cap pre post xs ys vy ((w.alloc (.cells #[.int .u64 (f:Int)] 158)).alloc (.cells #[.int .u64 0] 158)) hf (by omega) hx hy hn hp hm hcap
  (hg.grown (zaa (zGA _ _ none) (zGA _ _ none)) (by simp))
  (by have:=zqce (w.alloc (.cells #[.int .u64 (f:Int)] 158)) (.cells #[.int .u64 0] 158);rw[World.size_alloc] at this;exact this)
  ((heap_alloc_old (w.alloc (.cells #[.int .u64 (f:Int)] 158)) (.cells #[.int .u64 0] 158) (by simp)).trans (zqce _ _))
  (hB.grown (zaa (zGA _ _ none) (zGA _ _ none)) (by simp))
  (by omega) (by omega) (by omega) (fun b hb=>⟨fun e=>h4 (by rw[hb,e]),by have:=(hB.lt b hb).2;omega⟩)
 have HC:=zHd hc;clear hc hg hB h4 hx hy;unfold maxLen at hcap;have hmf := @zMF prog;go_enter func250,ntmps250;go_wp2_with fail;refine HC.out.mono ?_;rintro e w' ⟨rfl,ze,hone,hk⟩;have hc1:=cell_of_one hone;have hc2:=free_of_one hone;have HCE:=zHd ze;have HO:=zHd hone;have HK:=zHd hk;clear ze hone hk HC;generalize zaz (zbp f) xs ys 0 xs.length=q at *;go_wp2;have hc3:=cell_of_one (one_setCell (u:=.int .u64 (q.2:Int)) HO.out);refine zqby (v:=.int .u64 (q.2:Int)) (by simp[results,results250,go_sem,hc3]) rfl ⟨rfl,?_,?_⟩;exact(Below.heap_setCell _ _ _ _ (by simp;omega)).trans HCE.out;have hk:=HK.out;refine⟨hk.os,hk.tape,hk.output,?_,fun i hi hne=>?_⟩;have:=hk.size;simp[World.setCell] at this ⊢;omega;exact zQaX
def zJM (f c0 g gc gf cap:Nat)(pre post:List Value)(xs ys:List Nat)(vy:Value)(w:World)
  (hf:f<=1000000000) (hc0:c0<=1000000000) (hx:∀ x∈xs,x<1000000000) (hy:∀ y∈ys,y<1000000000)
  (hn:xs.length<=1000000) (hp:pre.length<=1000000) (hm:ys.length<=1000000) (hcap:cap<=maxLen)
  (hg:zaJ w g (pre++uv xs++post)) (hgc:One w gc c0) (hgf:One w gf f) (hB:zaF 0 w vy ys)
  (h1:g≠gc) (h2:gf≠gc) (h3:gf≠g) (h4:∀ b,vy.ownBlock=some b->b≠g/\b≠gc) :
  Calls prog 253 #[.slice (some ⟨g,pre.length,none⟩) xs.length cap,vy,.func (.func 254) #[] #[.pointer (some ⟨gc,0,none⟩),.pointer (some ⟨gf,0,none⟩)]] w
   (zvc (zaz (zaU f) xs ys c0 xs.length) pre post g gc w):=by
 have hI:=zlc f xs ys hf hx hy c0 hc0;have hbnd:∀ k,(zaz (zaU f) xs ys c0 k).2<=1000000000:=fun k=>(hI k).2.1;have HG:=zHd hg;have HC:=zHd hgc;have HF:=zHd hgf;have HB:=zHd hB;have HX:=zHd hx;have HY:=zHd hy;have HBN:=zHd hbnd;have H4:=zHd h4;clear hg hgc hgf hB hI hbnd hx hy h4;unfold maxLen at hcap;go_enter func253,ntmps253;go_wp2
 go_loopw [9] (fun i wr=>∃ (k:Nat),i=.int .i64 k/\k<=xs.length/\zaJ wr g (pre++uv ((zaz (zaU f) xs ys c0 k).1++xs.drop k)++post)/\One wr gc (zaz (zaU f) xs ys c0 k).2/\zel g gc w wr) (fun i _=>xs.length-(intOf i).toNat)
 case atStart=>exact⟨0,rfl,by omega,by simpa [zaz] using HG.out,HC.out,zel.refl _ _ _⟩
 case round =>
  obtain⟨k,rfl,hk,hgr,hcr,hkr⟩:=hrel
  by_cases hlt:k<xs.length
  ·have zE:wr.cell? ⟨g,pre.length+k,none⟩=some (.int .u64 (xs.getD k 0:Nat)):=by rw[hgr.cell];exact zyL pre post _ xs k (zbw _ _ _ _ _) hlt
   have hz:=zbw (zaU f) xs ys c0 k;have hyr:zaF 0 wr vy ys:=HB.out.keep fun b hb=>hkr.block b (HB.out.lt b hb).2 (H4.out b hb).1 (H4.out b hb).2;have hfr:One wr gf f:=(hkr.block gf (lt_of_block HF.out) h3 h2).trans HF.out;have hblk:=fun w' (h:zgx w' vy ys)=>zeS w' vy ys (k:Int) h hm (by omega) (by omega);have eb:zcm ys (k:Int)=ys.getD k 0:=by unfold zcm;rw[if_neg (by omega)];rfl
   rw[eb] at hblk;have hst:=fun w' (h5:One w' gc (zaz (zaU f) xs ys c0 k).2) (h6:One w' gf f)=>zJK f (zaz (zaU f) xs ys c0 k).2 (xs.getD k 0) (ys.getD k 0) gc gf w' hf (HBN.out k) (zaY _ (by decide) xs HX.out k) (zaY _ (by decide) ys HY.out k) h2 h5 h6;have HS:=zHd (show zaz (zaU f) xs ys c0 (k+1)=((zaz (zaU f) xs ys c0 k).1++[(zaU f (zaz (zaU f) xs ys c0 k).2 (xs.getD k 0) (ys.getD k 0)).2],(zaU f (zaz (zaU f) xs ys c0 k).2 (xs.getD k 0) (ys.getD k 0)).1) from rfl);have HSE:=zHd (show zgx wr.drew vy ys from hyr.sees);generalize zaU f (zaz (zaU f) xs ys c0 k).2 (xs.getD k 0) (ys.getD k 0)=q at *;generalize (zaz (zaU f) xs ys c0 k).2=c at *;generalize (zaz (zaU f) xs ys c0 k).1=zs at *;have HST:=zHd (fun r=>zyM pre post zs xs k r hz hlt);have hk1:(k:Int)<(xs.length:Int):=by omega
   generalize hxa:xs.getD k 0=a at *;generalize hyb:ys.getD k 0=b at *;have HHG:=zHd (show zaJ wr.drew g _ from hgr);have HHC:=zHd (show One wr.drew gc c from hcr);have HHF:=zHd (show One wr.drew gf f from hfr);have HK:=zHd (show zel g gc w wr.drew from⟨hkr.os,hkr.tape,hkr.output,hkr.size,hkr.block⟩);have HBL:=zHd hblk;have HSTP:=zHd hst;clear hgr hcr hfr hkr hyr eb hblk hst hz hxa hyb;go_wp2
   go_region_with (first
    | (go_at_call 263;refine(HBL.out _ HSE.out).mono ?_;rintro e w' ⟨rfl,rfl⟩)
    | (go_at_call 254;refine(HSTP.out _ HHC.out HHF.out).mono ?_;rintro e w' ⟨rfl,ho,hgw⟩;have HO:=zHd ho;have HGW:=zHd hgw;have HCG:=zHd (HHG.out.grown hgw (by simpa using h1));have hcell2:=zE;rw[show wr.cell? ⟨g,pre.length+k,none⟩=wr.drew.cell? ⟨g,pre.length+k,none⟩ from rfl,HHG.out.cell,<- HCG.out.cell] at hcell2;have hfree2:=HCG.out.free (pre.length+k);clear ho hgw))
   all_goals
    have hnew:=(HCG.out.set (pre.length+k) (.int .u64 (q.2:Int)));rw[HST.out q.2] at hnew;have hend:zaJ (w'.setCell ⟨g,pre.length+k,none⟩ (.int .u64 (q.2:Int))) g (pre++uv ((zaz (zaU f) xs ys c0 (k+1)).1++xs.drop (k+1))++post):=by rw[HS.out];exact hnew
    have hone:One (w'.setCell ⟨g,pre.length+k,none⟩ (.int .u64 (q.2:Int))) gc (zaz (zaU f) xs ys c0 (k+1)).2:=by
     exact zQbQ
    have hkept:zel g gc w (w'.setCell ⟨g,pre.length+k,none⟩ (.int .u64 (q.2:Int))):=(HK.out.right HGW.out).left (zac _ _ _);have HEND:=zHd hend;have HONE:=zHd hone;have HKEPT:=zHd hkept;clear hnew hend hone hkept zE hcell2 hfree2;go_wp2
    go_roundw
    case rel=>exact⟨k+1,by go_num,by omega,HEND.out,HONE.out,HKEPT.out⟩
    case measure=>simp[intOf];omega
  have e:k=xs.length:=by omega
  subst e;rw[List.drop_length,List.append_nil] at hgr;have HHG:=zHd hgr;have HHC:=zHd hcr;have HK:=zHd hkr;clear hgr hcr hkr;go_wp2
  go_end0
  exact⟨rfl,HHG.out,HHC.out,HK.out⟩
def zmw (f g cap:Nat)(pre post:List Value)(xs ys:List Nat)(vy:Value)(w:World)
  (hf:f<=1000000000) (hx:∀ x∈xs,x<1000000000) (hy:∀ y∈ys,y<1000000000)
  (hn:xs.length<=1000000) (hp:pre.length<=1000000) (hm:ys.length<=1000000) (hcap:cap<=maxLen)
  (hg:zaJ w g (pre++uv xs++post)) (hB:zaF 0 w vy ys) (h4:vy.ownBlock≠some g) :
  Calls prog 241 #[.slice (some ⟨g,pre.length,none⟩) xs.length cap,vy,.int .u64 f] w
   (zjN (zaz (zaU f) xs ys 0 xs.length) pre post g w):=by
 have hlt:=hg.lt
 have hc:=zJM f 0 g (w.heap.size+1) w.heap.size cap pre post xs ys vy ((w.alloc (.cells #[.int .u64 (f:Int)] 158)).alloc (.cells #[.int .u64 0] 158)) hf (by omega) hx hy hn hp hm hcap
  (hg.grown (zaa (zGA _ _ none) (zGA _ _ none)) (by simp))
  (by have:=zqce (w.alloc (.cells #[.int .u64 (f:Int)] 158)) (.cells #[.int .u64 0] 158);rw[World.size_alloc] at this;exact this)
  ((heap_alloc_old (w.alloc (.cells #[.int .u64 (f:Int)] 158)) (.cells #[.int .u64 0] 158) (by simp)).trans (zqce _ _))
  (hB.grown (zaa (zGA _ _ none) (zGA _ _ none)) (by simp))
  (by omega) (by omega) (by omega) (fun b hb=>⟨fun e=>h4 (by rw[hb,e]),by have:=(hB.lt b hb).2;omega⟩)
 have HC:=zHd hc;clear hc hg hB h4 hx hy;unfold maxLen at hcap;have hmf := @zMF prog;go_enter func241,ntmps241;go_wp2_with fail;refine HC.out.mono ?_;rintro e w' ⟨rfl,ze,hone,hk⟩;have hc1:=cell_of_one hone;have hc2:=free_of_one hone;have HCE:=zHd ze;have HO:=zHd hone;have HK:=zHd hk;clear ze hone hk HC;generalize zaz (zaU f) xs ys 0 xs.length=q at *;go_wp2;have hc3:=cell_of_one (one_setCell (u:=.int .u64 (q.2:Int)) HO.out);refine zqby (v:=.int .u64 (q.2:Int)) (by simp[results,results241,go_sem,hc3]) rfl ⟨rfl,?_,?_⟩;exact(Below.heap_setCell _ _ _ _ (by simp;omega)).trans HCE.out;have hk:=HK.out;refine⟨hk.os,hk.tape,hk.output,?_,fun i hi hne=>?_⟩;have:=hk.size;simp[World.setCell] at this ⊢;omega;exact zQaX
open Go.RowKit
def zjo:(prog.info? 158).map (fun i=>(i.zero,i.size,i.bytes))=some (some (.int .u64 0),1,8):=by kernel_rfl
def zaJ.of_full {w:World}{B g n:Nat}{l:List Value}(h:w.ownsRow B 158 1 (.slice (some ⟨g,0,none⟩) n n) n l):zaJ w g l/\B<=g:=by
 rcases h.2 with⟨h',_⟩|⟨g',cap',cur,h',hb,hg,_,_,hs,ht⟩;simp at h';simp only[Value.slice.injEq,Option.some.injEq,Addr.mk.injEq,and_true,true_and] at h';obtain⟨rfl,rfl⟩:=h';rw[zqaf (by rw[zqbs,hs];exact zqab _)] at ht;subst ht;exact⟨by unfold zaJ;rw[hg],hb⟩
def zfC (n:Nat):(madeCells #[Value.int .u64 0] n).toList=uv (List.replicate n 0):=by
 rw[toList_madeCells_one];simp[uv]
def zaF.of_cells {w:World}{B g cap:Nat}{l:List Value}{xs:List Nat}(h:zaJ w g l)(hB:B<=g)(hl:l.length=cap)(hm:cap<=maxLen)(hx:l.take xs.length=uv xs)(hle:xs.length<=cap):zaF B w (.slice (some ⟨g,0,none⟩) xs.length cap) xs :=
 zaF.mk hB h hle hm (by simpa using hl) (by simpa using hx)
def zaF.cells {w:World}{B g n cap:Nat}{xs:List Nat}(h:zaF B w (.slice (some ⟨g,0,none⟩) n cap) xs):n=xs.length/\B<=g/\xs.length<=cap/\cap<=maxLen/\∃ post,zaJ w g (uv xs++post)/\post.length=cap-xs.length:=by
 rcases h.form with⟨h',_⟩|⟨g',cap',cur,h',hb,hg,hc,hm,hs,ht⟩;simp at h';simp only[Value.slice.injEq,Option.some.injEq,Addr.mk.injEq,and_true,true_and] at h';obtain⟨rfl,rfl,rfl⟩:=h';refine⟨rfl,hb,hc,hm,cur.toList.drop xs.length,?_,by simp[hs]⟩;rw[<- ht,List.take_append_drop];unfold zaJ;rw[hg]
def zqd (xs:List Nat)(i n:Nat):(uv xs).set i (.int .u64 (n:Int))=uv (xs.set i n):=by simp[uv,List.map_set]
def znU (xs:List Nat)(m:Nat):(uv xs).take m=uv (xs.take m):=by simp[uv,List.map_take]
def zGq (g cap:Nat)(xs:List Nat)(w:World)(e:Ending)(w':World):Prop :=
 ∃ m,m<=xs.length/\e=.returned (.slice (some ⟨g,0,none⟩) m cap)/\w=w'/\vl 1000000000 (xs.take m)=vl 1000000000 xs/\zcx (xs.take m)
def zlf (B g cap:Nat)(xs:List Nat)(w:World)(h:zaF B w (.slice (some ⟨g,0,none⟩) xs.length cap) xs)(hn:xs.length<=1000000) :
  Calls prog 251 #[.slice (some ⟨g,0,none⟩) xs.length cap] w (zGq g cap xs w):=by
 obtain⟨_,hb,hle,hm,post,hcs,_⟩:=h.cells;unfold maxLen at hm
 have zE:∀ k,k<xs.length->w.cell? ⟨g,k,none⟩=some (.int .u64 (xs.getD k 0:Nat)):=fun k hk=>by
  rw[hcs.cell,zqal (by rw[zaC];exact hk),zjm xs k hk]
 have HC:=zHd zE;clear zE hcs h;go_enter func251,ntmps251;go_wp2
 go_loop [0] (fun v=>∃ m,v=.slice (some ⟨g,0,none⟩) m cap/\m<=xs.length/\vl 1000000000 (xs.take m)=vl 1000000000 xs) (fun v=>match v with | .slice _ m _=>m|_=>0)
 case atStart=>exact⟨xs.length,rfl,zqab _,by rw[List.take_length]⟩
 case round =>
  obtain⟨m,rfl,hmx,hv⟩:=hrel;have HV:=zHd hv;clear hv
  by_cases h0:m=0
  ·subst h0
   go_wp2;go_ret;exact⟨0,by omega,rfl,rfl,HV.out,by rw[List.take_zero];exact zCr⟩
  obtain⟨k,rfl⟩:∃ k,m=k+1:=⟨m-1,by omega⟩;have zE:=HC.out k (by omega)
  by_cases hz:xs.getD k 0=0
  ·rw[hz] at zE
   have HZ:=zHd hz;clear hz;go_wp2;go_round
   case rel=>exact⟨k,by simp,by omega,by
    have e:=zaM 1000000000 xs k;rw[HZ.out,Nat.mul_zero] at e;have:=HV.out;omega⟩
   case measure=>simp
  have hz':((xs.getD k 0:Nat):Int)≠0:=by omega
  have HZ:=zHd hz;clear hz;generalize hxk:xs.getD k 0=x at *;have HX:=zHd hxk;clear hxk;have f1:((x:Int)==0)=false:=(by simpa using hz');go_wp2;go_ret;refine⟨k+1,hmx,rfl,rfl,HV.out,zuq _ ?_⟩;have zN:(xs.take (k+1)).length=k+1:=(by rw[zqan];omega);rw[zN,Nat.add_sub_cancel];rw[zqaa,List.getElem?_take,if_pos (by omega),<- zqaa];rw[HX.out];exact HZ.out
def zlg (s:ByteArray)(k:Nat)(h:k<s.size):s.data.toList.take (k+1)=s.data.toList.take k++[s[k]]:=by
 rw[List.take_succ_eq_append_getElem (by simpa using h)];rfl
def zkN (s:ByteArray)(h:zao s=true)(k:Nat)(hk:k<s.size):48<=s[k].toNat/\s[k].toNat<=57:=by
 unfold zao zms at h;simp only[zqbb,List.all_eq_true] at h;have:=h.1.2 s[k] (by show s.data[k]∈_;simp);unfold zck at this;simpa using this
def zcc (s:ByteArray)(h:zao s=true):1<=s.size/\s.size<=1000:=by
 unfold zao zms at h;simp only[zqbb,zqca] at h;have e:s.data.toList.length=s.size:=by simp
 rw[e] at h;exact⟨h.1.1.1,h.1.1.2⟩
def zGr (n B:Nat)(w:World)(e:Ending)(w':World):Prop :=
 ∃ g cap xs,e=.returned (.slice (some ⟨g,0,none⟩) xs.length cap)/\zaF B w' (.slice (some ⟨g,0,none⟩) xs.length cap) xs/\w.heap.size<=g /\
  (∀ x∈xs,x<1000000000)/\vl 1000000000 xs=n/\zcx xs/\xs.length<=112/\w.grownBy w' none
def zev (s:ByteArray)(w:World)(hs:zao s=true) :
  Calls prog 238 #[.string s] w (zGr (nv s) w.heap.size w):=by
 obtain⟨i0,hi,hz0,hz1,hz2⟩:=info_parts zjo;obtain⟨hs1,hs2⟩:=zcc s hs;have hdg:=zkN s hs;have HD:=zHd hdg;clear hdg hs;go_enter func238,ntmps238;go_wp2_with (at_make;refine wpList_make_full _ rfl _ _ 212 rfl w.heap.size 158 i0 (.int .u64 0) 1 underlying212 hi hz0 hz1 _ _ _ _ ((s.size+8)/9) rfl rfl ?c0 ?c1 ?c2 ?c3 ?c4 ?_)
 case c0=>omega
 case c1=>omega
 case c2=>rw[hz2];omega
 case c3=>unfold maxLen;omega
 case c4=>omega
 intro w1 zO hgr;rw[zfC] at zO;have hc0:=(zaJ.of_full zO).1;have HG:=zHd hgr;clear zO hgr;go_wp2
 go_loopw [14] (fun i wr=>∃ (k:Nat) (xs:List Nat),i=.int .i64 k/\k<=s.size/\zhb s.size k (zcK (s.data.toList.take k)) xs/\zaJ wr w.heap.size (uv xs)/\w.grownBy wr none) (fun i _=>s.size-(intOf i).toNat)
 case atStart=>exact⟨0,_,rfl,by omega,zhb.start s.size,hc0,HG.out⟩
 case round =>
  obtain⟨k,xs,rfl,hk,zI,hcr,hgr⟩:=hrel;have hxl:=zI.length
  by_cases hlt:k<s.size
  ·have hd:=HD.out k hlt
   have hbd:=zI.bound hlt;have hlx:(s.size-1-k)/9<xs.length:=by omega
   have zE:wr.cell? ⟨w.heap.size,(s.size-1-k)/9,none⟩=some (.int .u64 (xs.getD ((s.size-1-k)/9) 0:Nat)):=by rw[hcr.cell,zjm _ _ hlx]
   have hfree:=hcr.free ((s.size-1-k)/9);have zS':=zI.step hlt (s[k].toNat-48) (by omega);have hset:=hcr.set ((s.size-1-k)/9) (.int .u64 ((xs.getD ((s.size-1-k)/9) 0*10+(s[k].toNat-48):Nat):Int));rw[zqd,show((xs.getD ((s.size-1-k)/9) 0*10+(s[k].toNat-48):Nat):Int)=(xs.getD ((s.size-1-k)/9) 0:Nat)*10+((s[k].toNat:Int)-48) by omega] at hset;rw[<- zeR,<- zlg s k hlt] at zS';have HST:=zHd zS';have HSET:=zHd hset;have HTS:=zHd (zlg s k hlt);have HGR:=zHd hgr;clear zI hcr zS' hset hgr;have hd1:(48:Int)<=(s[k].toNat:Int):=by omega
   have hd2:(s[k].toNat:Int)<=57:=by omega
   generalize hxv:xs.getD ((s.size-1-k)/9) 0=x at *;clear hxv;have hi1:(0:Int)<=((s.size:Int)-1-k)/9:=by omega
   have hi2:((s.size:Int)-1-k)/9<(((s.size+8)/9:Nat):Int):=by omega
   go_wp2
   go_region
   go_wp2
   go_roundw
   case rel=>exact⟨k+1,_,by go_num,by omega,HST.out,HSET.out,zak (g:=w.heap.size) HGR.out (zaa (zac wr ⟨w.heap.size,(s.size-1-k)/9,none⟩ _) (zaf _ _)) (zqab _)⟩
   case measure=>simp[intOf];omega
  have e:k=s.size:=by omega
  subst e;rw[zqaf (by simp)] at zI;have hfin:=zI.fin;have hlt9:=zI.lt;have hbk:zaF w.heap.size wr (.slice (some ⟨w.heap.size,0,none⟩) xs.length xs.length) xs:=zaF.of_cells hcr (zqab _) (zaC xs) (by unfold maxLen;omega) (by rw[zqaf (by rw[zaC];exact zqab _)]) (zqab _);have htr:=zlf w.heap.size w.heap.size xs.length xs wr hbk (by omega);rw[hxl] at htr;have HT:=zHd htr;have HF:=zHd hfin;have HL:=zHd hlt9;have HCR:=zHd hcr;have HGR:=zHd hgr;have HXL:=zHd hxl;clear zI hfin hlt9 hbk htr hcr hgr hxl;go_wp2_with fail;refine HT.out.mono ?_;rintro e w' ⟨m,hm,rfl,rfl,hv,ht⟩;have HV:=zHd hv;have HTT:=zHd ht;clear hv ht;go_wp2;go_ret;have hxl:=HXL.out;have hml:(xs.take m).length=m:=by rw[zqan];omega
  refine⟨w.heap.size,(s.size+8)/9,xs.take m,by rw[hml];rfl,?_,zqab _,fun x hx=>HL.out x (zqau hx),by rw[HV.out,<- HF.out];rfl,HTT.out,by rw[hml];omega,HGR.out⟩;exact zaF.of_cells HCR.out (zqab _) (by rw[zaC,hxl]) (by unfold maxLen;omega) (by rw[hml];exact znU xs m) (by rw[hml];omega)
open Go.RowKit
open Go.Lib (dg decDigits nDigits)
def ub (l:List UInt8):List Value:=l.map fun b=>Value.int .u8 (b.toNat:Int)
def zLg (l:List UInt8)(k:Nat)(h:k<l.length):(ub l)[k]?=some (.int .u8 (l[k].toNat:Int)):=by
 unfold ub;rw[zqaj,zqac h];rfl
def Bytes (w:World)(g:Nat)(l:List UInt8):Prop:=w.heap[g]?=some (.cells (ub l).toArray 5 (0,0))
def Bytes.cell {w:World}{g:Nat}{l:List UInt8}(h:Bytes w g l)(k:Nat)(hk:k<l.length):w.cell? ⟨g,k,none⟩=some (.int .u8 (l[k].toNat:Int)):=by
 rw[zhF h,<- zLg l k hk];simp
def Bytes.free {w:World}{g:Nat}{l:List UInt8}(h:Bytes w g l)(k:Nat):w.frozen? ⟨g,k,none⟩=false:=zqbx w g k _ _ h
def Bytes.set {w:World}{g:Nat}{l:List UInt8}(h:Bytes w g l)(k:Nat)(u:UInt8):Bytes (w.setCell ⟨g,k,none⟩ (.int .u8 (u.toNat:Int))) g (l.set k u):=by
 unfold Bytes;rw[heap_setCell_same w g k _ _ _ h];simp[ub,List.map_set]
def Bytes.conv {w:World}{g cap:Nat}{l:List UInt8}(h:Bytes w g l) :
  (convert 145 9 (.slice (some ⟨g,0,none⟩) l.length cap)).run prog w=.ok (.string ⟨l.toArray⟩) w:=by
 refine run_convert_bytes_back w 145 9 5 ⟨g,0,none⟩ cap l underlying145 underlying5 underlying9 (fun j hj=>?_);have hadd:(⟨g,0,none⟩:Addr).add j=⟨g,j,none⟩:=by unfold Addr.add;split <;> simp_all
 rw[hadd];exact h.cell j hj
def zJN:(prog.info? 5).map (fun i=>(i.zero,i.size,i.bytes))=some (some (.int .u8 0),1,1):=by kernel_rfl
def Bytes.of_full {w:World}{B g n:Nat}(h:w.ownsRow B 5 1 (.slice (some ⟨g,0,none⟩) n n) n (madeCells #[Value.int .u8 0] n).toList):Bytes w g (List.replicate n 0):=by
 rcases h.2 with⟨h',_⟩|⟨g',cap',cur,h',hb,hg,_,_,hs,ht⟩;simp at h';simp only[Value.slice.injEq,Option.some.injEq,Addr.mk.injEq,and_true,true_and] at h';obtain⟨rfl,rfl⟩:=h';rw[zqaf (by rw[zqbs,hs];exact zqab _),toList_madeCells_one] at ht;unfold Bytes;rw[hg]
 have e:cur=(ub (List.replicate n 0)).toArray:=by
  apply Array.toList_inj.1;rw[ht];simp[ub]
 rw[e]
structure zkp (V L t:Nat)(ds:List UInt8):Prop where
 length:ds.length=L
 le:t<=L
 done:∀ s,s<t->ds[L-1-s]?=some (dg V s)
def zkp.start (V L:Nat):zkp V L 0 (List.replicate L 0):=⟨by simp,zqaw _,fun s hs=>by omega⟩
def zkp.step {V L t:Nat}{ds:List UInt8}(h:zkp V L t ds)(ht:t<L):zkp V L (t+1) (ds.set (L-1-t) (dg V t)):=by
 refine⟨by rw[List.length_set];exact h.length,by omega,fun s hs=>?_⟩;rw[List.getElem?_set]
 by_cases e:s=t
 subst e;rw[if_pos rfl,if_pos (by rw[h.length];omega)];rw[if_neg (by omega)];exact h.done s (by omega)
def zkp.fin {V L:Nat}{ds:List UInt8}(h:zkp V L L ds):ds=pad L V:=by
 apply List.ext_getElem?;intro j
 by_cases hj:j<L
 ·have:=h.done (L-1-j) (by omega)
  rw[show L-1-(L-1-j)=j by omega] at this;rw[this];unfold pad;rw[zqaj,zqbe hj];rfl
 rw[zqas (by rw[h.length];omega),zqas (by rw[zpS];omega)]
def zGs (V t x:Nat)(h:dg V t=UInt8.ofNat (48+x%10)):((dg V t).toNat:Int)=48+(x:Int)%10:=by
 rw[h,UInt8.toNat_ofNat'];omega
def zmx (n:Nat)(w:World)(e:Ending)(w':World):Prop:=e=.returned (.string (zai n))/\w.grownBy w' none
def ztk {B:Nat}{w:World}{v:Value}{xs:List Nat}(h:zaF B w v xs) :
  ∃ A cap,v=.slice A xs.length cap/\∀ w':World,(∀ k,k<w.heap.size->w'.heap[k]?=w.heap[k]?)->∀ k,k<xs.length->∃ gy,A=some ⟨gy,0,none⟩/\w'.cell? ⟨gy,k,none⟩=some (.int .u64 (xs.getD k 0:Nat)):=by
 rcases h.form with⟨rfl,rfl⟩|⟨g,cap,cur,rfl,hb,hg,hc,hm,hs,ht⟩;exact⟨none,0,rfl,fun _ _ k hk=>absurd hk (by simp)⟩;exact⟨_,_,rfl,fun w' hw k hk=>⟨g,rfl,by rw[zhF ((hw g (lt_of_block hg)).trans hg),take_at ht k hk]⟩⟩
def zik (v:Value)(xs:List Nat)(w:World)(h:zaF 0 w v xs)(hx:∀ x∈xs,x<1000000000)(hn:xs.length<=10000) :
  Calls prog 242 #[v] w (zmx (vl 1000000000 xs) w):=by
 obtain⟨i0,hi,hz0,hz1,hz2⟩:=info_parts zJN;obtain⟨A,cap,rfl,hrd⟩:=ztk h;have HR:=zHd hrd;have HX:=zHd hx;have hdig:=fun i j hj=>zGg xs i j hx hj;have hten:=zCt xs hx;have hgl:=fun k=>zaY 1000000000 (by decide) xs hx k;obtain⟨V,hV⟩:∃ V,vl 1000000000 xs=V:=⟨_,rfl⟩;rw[hV] at hten ⊢;simp only[hV] at hdig;have HD:=zHd hdig;have HT:=zHd hten;have HGL:=zHd hgl;clear hrd hx hdig hten hV h hgl;go_enter func242,ntmps242;go_wp2_with (at_make;refine wpList_make_full _ rfl _ _ 145 rfl w.heap.size 5 i0 (.int .u8 0) 1 underlying145 hi hz0 hz1 _ _ _ _ (xs.length*9) rfl rfl ?c0 ?c1 ?c2 ?c3 ?c4 ?_)
 case c0=>omega
 case c1=>omega
 case c2=>rw[hz2];omega
 case c3=>unfold maxLen;omega
 case c4=>omega
 intro w1 zO hgr;have hc0:Bytes w1 w.heap.size (List.replicate (xs.length*9) 0):=Bytes.of_full zO;have HG:=zHd hgr;clear zO hgr;go_wp2
 go_loopw [4,16] (fun at_ i wr=>∃ (k p:Nat) (ds:List UInt8),i=.int .i64 k/\k<=xs.length/\at_=.int .i64 p/\p+9*k=xs.length*9/\zkp V (xs.length*9) (9*k) ds/\Bytes wr w.heap.size ds/\w.grownBy wr none) (fun _ i _=>xs.length-(intOf i).toNat)
 case atStart=>exact⟨0,xs.length*9,_,rfl,by omega,by go_num,by omega,zkp.start _ _,hc0,HG.out⟩
 case round =>
  obtain⟨k,p,ds,rfl,hk,rfl,hp,zI,hbr,hgr⟩:=hrel
  by_cases hlt:k<xs.length
  ·obtain⟨gy,rfl,zE⟩:=HR.out wr (fun i hi=>hgr.block i hi (by simp)) k hlt
   have hxk:=HGL.out k;have hdk:=fun j hj=>HD.out k j hj;generalize xs.getD k 0=x at *;have HI:=zHd zI;have HB:=zHd hbr;have HGR:=zHd hgr;have HDK:=zHd hdk;have HP:=zHd hp;clear zI hbr hgr hdk hc0 hp;generalize wr=w2 at *;have hk1:(k:Int)<(xs.length:Int):=by omega
   go_wp2
   go_loopw [4,6,20] (fun at_ re j wr=>∃ (m p r:Nat) (ds:List UInt8),j=.int .i64 m/\m<=9/\at_=.int .i64 p/\p+(9*k+m)=xs.length*9/\re=.int .u64 r/\r=x/10 ^ m/\zkp V (xs.length*9) (9*k+m) ds/\Bytes wr w.heap.size ds/\w.grownBy wr none) (fun _ _ j _=>9-(intOf j).toNat)
   case atStart=>exact⟨0,p,x,ds,rfl,by omega,rfl,by have:=HP.out;omega,rfl,by simp,by simpa using HI.out,HB.out,HGR.out⟩
   case round =>
    obtain⟨m,q,r,ds2,rfl,hm,rfl,hq,rfl,hr,zI,hbr,hgr⟩:=hrel
    by_cases hm9:m<9
    ·have hlL:9*k+m<xs.length*9:=by omega
     have eq1:xs.length*9-1-(9*k+m)=q-1:=(by omega);have hst:=zI.step hlL;have hset:=hbr.set (q-1) (dg V (9*k+m));rw[zGs V (9*k+m) r (by rw[hr];exact HDK.out m hm9)] at hset;rw[eq1] at hst;have zN:=zI.length;obtain⟨old,hcell2⟩:∃ old:Int,wr.cell? ⟨w.heap.size,q-1,none⟩=some (.int .u8 old):=⟨_,hbr.cell (q-1) (by omega)⟩;have hfree:=hbr.free (q-1);have hr10:r/10=x/10 ^ (m+1):=(by rw[hr,zqbp,Nat.div_div_eq_div_mul]);have hr9:r<1000000000:=(by rw[hr];exact Nat.lt_of_le_of_lt (Nat.div_le_self _ _) hxk);have hq1:1<=q:=(by omega);have hq2:q<=xs.length*9:=(by omega);have HST:=zHd hst;have HSET:=zHd hset;have HGR2:=zHd hgr;have HQ:=zHd hq;have HRE:=zHd hr10;clear zI hbr hst hset hgr zN hq hr hr10 eq1;go_wp2
     go_roundw
     case rel=>exact⟨m+1,q-1,r/10,_,by go_num,by omega,by go_num,by have:=HQ.out;omega,by go_num,HRE.out,HST.out,HSET.out,zak (g:=w.heap.size) HGR2.out (zac _ ⟨w.heap.size,q-1,none⟩ _) (zqab _)⟩
     case measure=>simp[intOf];omega
    have e:m=9:=(by omega);subst e;have HST:=zHd zI;have HSET:=zHd hbr;have HGR2:=zHd hgr;have HQ:=zHd hq;clear zI hbr hgr hq hr;go_wp2
    go_roundw
    case rel=>exact⟨k+1,q,_,by go_num,by omega,rfl,by have:=HQ.out;omega,by rw[zqbh];exact HST.out,HSET.out,HGR2.out⟩
    case measure=>simp[intOf];omega
  have e:k=xs.length:=by omega
  subst e
  have hds:ds=pad (xs.length*9) V:=by
   rw[show 9*xs.length=xs.length*9 by omega] at zI;exact zI.fin
  subst hds;have hcv:=hbr.conv (cap:=xs.length*9);rw[zpS] at hcv;have htl:=fun w=>Tryz.strings_TrimLeft_one ⟨(pad (xs.length*9) V).toArray⟩ 48 (by decide) w;have est:Lib.trimLeftB (ByteArray.mk (pad (xs.length*9) V).toArray).data.toList 48=if V=0 then [] else decDigits V:=zCs (xs.length*9) V (by rw[zqbc];exact HT.out)
  rw[est] at htl;have HGR:=zHd hgr;clear zI hbr hgr hp est;generalize pad (xs.length*9) V=D at *
  by_cases hz:V=0
  ·subst hz
   rw[if_pos rfl] at htl;go_wp2_with (go_at_call 255;refine(htl _).mono ?_;rintro e w' ⟨rfl,rfl⟩);go_ret;exact⟨by rw[show zai 0=⟨#[48]⟩ from by unfold zai;rw[Lib.decDigits_one (by decide)];rfl];rfl,HGR.out⟩
  rw[if_neg hz] at htl;have hne:decDigits V≠[]:=(by intro e;have:=Lib.decDigits_length V;rw[e] at this;have h2:=Lib.nDigits_pos V;simp at this;omega);have htl2:∀ w,Calls prog 255 #[.string ⟨D.toArray⟩,.string ⟨#[48]⟩] w fun e w'=>e=.returned (.string (zai V))/\w'=w:=htl
  have hne2:(zai V).toList.isEmpty=false:=by
   rw[Lib.toList_data];unfold zai;cases hd:decDigits V with
   | nil=>exact absurd hd hne
   | cons a b=>rfl
  clear htl hne;obtain⟨S,hS⟩:∃ S,zai V=S:=⟨_,rfl⟩;rw[hS] at hne2;simp only[hS] at htl2;have HS:=zHd hS;clear hS;go_wp2_with (go_at_call 255;refine(htl2 _).mono ?_;rintro e w' ⟨rfl,rfl⟩);go_ret;exact⟨by rw[HS.out];rfl,HGR.out⟩
open Go.RowKit
def zLh (s:ByteArray)(h:∀ k (hk:k<s.size),zck s[k]=true):s.data.toList.all zck=true:=by
 rw[List.all_eq_true];intro c hc;obtain⟨k,hk,rfl⟩:=List.mem_iff_getElem.1 hc;exact h k (by simpa using hk)
def zyN (s:ByteArray)(h:0<s.size):s.data.toList.headD 0=s[0]:=by
 have hl:0<s.data.toList.length:=by simpa using h
 rw[List.headD_eq_head?_getD,List.head?_eq_getElem?,zqac hl];rfl
def znV (s:ByteArray)(h1:1<=s.size)(h2:s.size<=1000)(ha:∀ k (hk:k<s.size),zck s[k]=true)(hz:s.size=1∨s[0].toNat≠48):zao s=true:=by
 unfold zao zms;have e:s.data.toList.length=s.size:=by simp
 rw[e,zLh s ha,zyN s (by omega)]
 have hz':s.size=1∨¬ s[0]=48:=by
  rcases hz with hz|hz;exact .inl hz;exact .inr (fun e=>hz (by rw[e];rfl))
 simp;exact⟨⟨by omega,h2⟩,hz'⟩
def zhY (s:ByteArray)(h:¬ (1<=s.size/\s.size<=1000)):zao s=false:=by
 cases hn:zao s;rfl;exact absurd (zcc s hn) h
def zfU (s:ByteArray)(k:Nat)(hk:k<s.size)(h:zck s[k]=false):zao s=false:=by
 cases hn:zao s;rfl;have:=zkN s hn k hk;unfold zck at h;simp at h;omega
def zoC (s:ByteArray)(h1:1<s.size)(h:s[0].toNat=48):zao s=false:=by
 cases hn:zao s;rfl;unfold zao zms at hn;have e:s.data.toList.length=s.size:=by simp
 rw[e,zyN s (by omega)] at hn;have h0:s[0]=48:=UInt8.toNat_inj.1 h;rw[h0] at hn;simp at hn;omega
def znW (c:UInt8)(h1:(48:Int)<=(c.toNat:Int))(h2:(c.toNat:Int)<=57):zck c=true:=by unfold zck;simp;omega
def zgI (c:UInt8)(h:(c.toNat:Int)<48∨57<(c.toNat:Int)):zck c=false:=by unfold zck;simp;omega
def zxE (s:ByteArray)(h:1<=s.size):s.toList.isEmpty=false:=by
 rw[Lib.toList_data];cases hl:s.data.toList with
 | nil=>have e:s.data.toList.length=s.size:=by simp
        rw[hl] at e;simp at e;omega
 | cons a b=>rfl
def zcB (s:ByteArray)(w:World)(hs:s.size<=maxLen) :
  Calls prog 225 #[.string s] w fun e w'=>e=.returned (.bool (zao s))/\w=w':=by
 unfold maxLen at hs
 by_cases h0:s.size=0
 ·rw[zhY s (by omega)]
  have e0:s=⟨#[]⟩:=by
   cases s with
   | mk d=>congr 1;exact Array.eq_empty_of_size_eq_zero h0
  subst e0;clear h0 hs;go_enter func225,ntmps225;exact zQaB
 have hne:=zxE s (by omega)
 by_cases h1:s.size<=1000
 ·have h1':¬ (1000:Int)<(s.size:Int):=by omega
  go_enter func225,ntmps225;go_wp2
  go_loop [13] (fun i=>∃ k:Nat,i=.int .i64 k/\k<=s.size/\∀ j (hj:j<s.size),j<k->zck s[j]=true) (fun i=>s.size-(intOf i).toNat)
  case atStart=>exact⟨0,rfl,by omega,fun j hj h=>by omega⟩
  case round =>
   obtain⟨k,rfl,hk,hall⟩:=hrel;have HALL:=zHd hall;clear hall
   by_cases hlt:k<s.size
   ·by_cases hd:(48:Int)<=(s[k].toNat:Int)
    ·by_cases hd2:(s[k].toNat:Int)<=57
     ·have HN:=zHd (znW s[k] hd hd2)
      go_wp2;go_round
      case rel=>exact⟨k+1,by go_num,by omega,fun j hj h=>by
       by_cases e:j=k
       subst e;exact HN.out;exact HALL.out j hj (by omega)⟩
      case measure=>simp[intOf];omega
     have HN:=zHd (zfU s k hlt (zgI s[k] (.inr (by omega))));exact zQaA
    have HN:=zHd (zfU s k hlt (zgI s[k] (.inl (by omega))));exact zQaA
   have hsz:0<s.size:=by omega
   by_cases hz:(s[0].toNat:Int)=48
   ·have f1:((s[0].toNat:Int) != 48)=false:=by simpa using hz
    by_cases hs1:s.size=1
    ·have e0:s=⟨#[48]⟩:=by
      cases s with
      | mk d =>
       congr 1;obtain⟨c,hc⟩:∃ c,d=#[c]:=Array.size_eq_one_iff.1 hs1;subst hc
       have:c.toNat=48:=by
        have hz2:((ByteArray.mk #[c])[0].toNat:Int)=48:=hz;have:(ByteArray.mk #[c])[0]=c:=rfl;rw[this] at hz2;omega
       rw[UInt8.toNat_inj.1 (show c.toNat=(48:UInt8).toNat from this)]
     have HN:=zHd (znV s (by omega) h1 (fun j hj=>HALL.out j hj (by omega)) (.inl hs1));have f2:(s.toList==[48])=true:=(by rw[e0,Lib.toList_data];rfl);clear e0 hz;exact zQaA
    have HN:=zHd (zoC s (by omega) (by omega))
    have f2:(s.toList==[48])=false:=by
     rw[Lib.toList_data];apply beq_eq_false_iff_ne.2;intro e;have:=zqbz List.length e;simp at this;omega
    clear hz;exact zQaA
   have f1:((s[0].toNat:Int) != 48)=true:=by simpa using hz
   have HN:=zHd (znV s (by omega) h1 (fun j hj=>HALL.out j hj (by omega)) (.inr (by omega)));clear hz;exact zQaA
 have h1':(1000:Int)<(s.size:Int):=by omega
 rw[zhY s (by omega)];go_enter func225,ntmps225;exact zQaB
open Go.RowKit
open Go.Lib (dg decDigits nDigits)
def zbF (m n:Nat):Int:=if m<n then -1 else if n<m then 1 else 0
def zfn (m n:Nat):zbF m n<0↔m<n:=by unfold zbF;split <;> (try split) <;> omega
def zCF (m n k:Nat):(dg m k<dg n k↔m/10 ^ k%10<n/10 ^ k%10)/\(dg m k=dg n k↔m/10 ^ k%10=n/10 ^ k%10):=by
 unfold dg;have h1:m/10 ^ k%10<10:=Nat.mod_lt _ (by decide);have h2:n/10 ^ k%10<10:=Nat.mod_lt _ (by decide);constructor;rw[UInt8.lt_iff_toNat_lt,UInt8.toNat_ofNat',UInt8.toNat_ofNat'];omega;rw[<- UInt8.toNat_inj,UInt8.toNat_ofNat',UInt8.toNat_ofNat'];omega
def zyO (m n:Nat):∀ k,Lib.compareBytes (pad k m) (pad k n)=zbF (m%10 ^ k) (n%10 ^ k)
 | 0=>by simp[pad,Lib.compareBytes,zbF,Nat.mod_one]
 | k+1=>by
  rw[zjj,zjj,Lib.compareBytes,zyO m n k];obtain⟨h1,h2⟩:=zCF m n k;obtain⟨h3,h4⟩:=zCF n m k;have em:m%10 ^ (k+1)=m%10 ^ k+10 ^ k*(m/10 ^ k%10):=by rw[zqbp,Nat.mod_mul]
  have en:n%10 ^ (k+1)=n%10 ^ k+10 ^ k*(n/10 ^ k%10):=by rw[zqbp,Nat.mod_mul]
  have hm:m%10 ^ k<10 ^ k:=Nat.mod_lt _ (Nat.pow_pos (by decide));have hn:n%10 ^ k<10 ^ k:=Nat.mod_lt _ (Nat.pow_pos (by decide));rw[em,en];generalize m/10 ^ k%10=a at *;generalize n/10 ^ k%10=b at *;generalize m%10 ^ k=x at *;generalize n%10 ^ k=y at *;generalize 10 ^ k=P at *
  by_cases hab:a<b
  ·rw[if_pos (h1.2 hab)]
   have:P*(a+1)<=P*b:=zqbd _ hab;rw[zqbh,Nat.mul_one] at this;unfold zbF;rw[if_pos (by omega)]
  rw[if_neg (fun h=>hab (h1.1 h))]
  by_cases hba:b<a
  ·rw[if_pos (h3.2 hba)]
   have:P*(b+1)<=P*a:=zqbd _ hba;rw[zqbh,Nat.mul_one] at this;unfold zbF;rw[if_neg (by omega),if_pos (by omega)]
  rw[if_neg (fun h=>hba (h3.1 h))];have e:a=b:=(by omega);subst e;unfold zbF;simp only[Nat.add_lt_add_iff_right]
def zrQ (m n:Nat)(h:nDigits m=nDigits n):Lib.compareBytes (decDigits m) (decDigits n)=zbF m n:=by
 rw[znS,znS,h,zyO,Nat.mod_eq_of_lt (Lib.lt_pow_nDigits n),Nat.mod_eq_of_lt];rw[<- h];exact Lib.lt_pow_nDigits m
def ziM {m n:Nat}(h:nDigits m<nDigits n):m<n:=by
 rcases Nat.lt_or_ge m n with h'|h';exact h';have:=zbA h';omega
def zxF (m n:Nat):(if Lib.compareInt (nDigits m:Int) (nDigits n:Int)≠0 then Lib.compareInt (nDigits m:Int) (nDigits n:Int) else Lib.compareBytes (decDigits m) (decDigits n))=zbF m n:=by
 by_cases h1:nDigits m<nDigits n
 ·have e:Lib.compareInt (nDigits m:Int) (nDigits n:Int) = -1:=by unfold Lib.compareInt;rw[if_pos (by omega)]
  have:=ziM h1;rw[e,if_pos (by decide)];unfold zbF;rw[if_pos this]
 by_cases h2:nDigits n<nDigits m
 ·have e:Lib.compareInt (nDigits m:Int) (nDigits n:Int)=1:=by unfold Lib.compareInt;rw[if_neg (by omega),if_pos (by omega)]
  have:=ziM h2;rw[e,if_pos (by decide)];unfold zbF;rw[if_neg (by omega),if_pos this]
 have e:Lib.compareInt (nDigits m:Int) (nDigits n:Int)=0:=by unfold Lib.compareInt;rw[if_neg (by omega),if_neg (by omega)]
 rw[e,if_neg (by decide)];exact zrQ m n (by omega)
def zLi (x y:Int)(g:Nat)(w:World)(h0:w.cell? ⟨g,0,none⟩=some (.int .i64 x))(h1:w.cell? ⟨g,1,none⟩=some (.int .i64 y)) :
  Calls prog 239 #[.slice (some ⟨g,0,none⟩) 2 2] w fun e w'=>e=.returned (.int .i64 (if x≠0 then x else y))/\w=w':=by
 by_cases hx:x=0
 ·subst hx
  by_cases hy:y=0
  ·subst hy
   go_enter func239,ntmps239;go_wp2
   go_loop [8] (fun i=>∃ k:Nat,i=.int .i64 k/\k<=2) (fun i=>2-(intOf i).toNat)
   case atStart=>exact⟨0,rfl,by omega⟩
   case round =>
    obtain⟨k,rfl,hk⟩:=hrel;rcases (show k=0∨k=1∨k=2 by omega) with rfl|rfl|rfl
    ·go_wp2
     go_round
     case rel=>exact⟨1,by go_num,by omega⟩
     case measure=>simp[intOf]
    ·go_wp2
     go_round
     case rel=>exact⟨2,by go_num,by omega⟩
     case measure=>simp[intOf]
    go_wp2;go_ret;exact⟨by simp,rfl⟩
  have f1:(y != 0)=true:=by simpa using hy
  go_enter func239,ntmps239;go_wp2
  go_loop [8] (fun i=>∃ k:Nat,i=.int .i64 k/\k<=1) (fun i=>2-(intOf i).toNat)
  case atStart=>exact⟨0,rfl,by omega⟩
  case round =>
   obtain⟨k,rfl,hk⟩:=hrel;rcases (show k=0∨k=1 by omega) with rfl|rfl
   ·go_wp2
    go_round
    case rel=>exact⟨1,by go_num,by omega⟩
    case measure=>simp[intOf]
   go_wp2;go_ret;exact⟨by simp,rfl⟩
 have f1:(x != 0)=true:=by simpa using hx
 rw[if_pos hx];go_enter func239,ntmps239;go_wp2
 go_loop [8] (fun i=>∃ k:Nat,i=.int .i64 k/\k=0) (fun i=>2-(intOf i).toNat)
 case atStart=>exact⟨0,rfl,rfl⟩
 case round =>
  obtain⟨k,rfl,rfl⟩:=hrel;exact zQaB
def zeG (a b:ByteArray):Int:=if zao a&&zao b then zbF (nv a) (nv b) else 0
def zlh (n:Nat):(zai n).data.toList=decDigits n:=by unfold zai;simp
def znX (a b:ByteArray)(w:World)(ha:a.size<=maxLen)(hb:b.size<=maxLen) :
  Calls prog 227 #[.string a,.string b] w fun e w'=>e=.returned (.int .i64 (zeG a b))/\w.grownBy w' none:=by
 have va:=fun w=>zcB a w ha;have vb:=fun w=>zcB b w hb;unfold maxLen at ha hb;cases hna:zao a
 ·have e:zeG a b=0:=by unfold zeG;rw[hna];rfl
  rw[e];simp only[hna] at va;clear vb hna e;go_enter func227,ntmps227;go_wp2_with (go_at_call 225;refine(va _).mono ?_;rintro e w' ⟨rfl,rfl⟩);go_ret;exact⟨rfl,zae _ _⟩
 cases hnb:zao b
 ·have e:zeG a b=0:=by unfold zeG;rw[hnb,Bool.and_false];rfl
  rw[e];simp only[hna] at va;simp only[hnb] at vb;clear hna hnb e;go_enter func227,ntmps227;go_wp2_with fail;refine(va _).mono ?_;rintro e w' ⟨rfl,rfl⟩;go_wp2_with fail;refine(vb _).mono ?_;rintro e w' ⟨rfl,rfl⟩;exact zQaN
 have e:zeG a b=zbF (nv a) (nv b):=by unfold zeG;rw[hna,hnb];rfl
 have hc:=zxF (nv a) (nv b);rw[<- zlh,<- zlh,<- zcs,<- zcs,<- (zbZ a hna).1,<- (zbZ b hnb).1,<- e] at hc;simp only[hna] at va;simp only[hnb] at vb;have h1:=fun w=>Tryz.cmp_Compare_int (a.size:Int) (b.size:Int) w;have h2:=fun w=>Tryz.strings_Compare a b w;generalize Lib.compareInt (a.size:Int) (b.size:Int)=x at *;generalize Lib.compareBytes a.data.toList b.data.toList=y at *;have h3:=zLi x y w.heap.size (w.alloc (.cells #[.int .i64 x,.int .i64 y] 3)) (World.cell?_alloc_at _ _ _ _ rfl) (World.cell?_alloc_at _ _ _ _ rfl);rw[hc] at h3;have H3:=zHd h3;clear hna hnb e hc h3;go_enter func227,ntmps227;go_wp2_with fail;refine(va _).mono ?_;rintro e w' ⟨rfl,rfl⟩;go_wp2_with fail;refine(vb _).mono ?_;rintro e w' ⟨rfl,rfl⟩
 go_wp2_with (first
  | (go_at_call 164;refine(h1 _).mono ?_;rintro e w' ⟨rfl,rfl⟩)
  | (go_at_call 240;refine(h2 _).mono ?_;rintro e w' ⟨rfl,rfl⟩)
  | (go_at_call 239;refine H3.out.mono ?_;rintro e w' ⟨rfl,rfl⟩))
 go_ret;exact⟨rfl,zGA _ _ _⟩
open Go.RowKit
def zvd (P z c S:Nat)(h:z+P*c=S)(hS:S<P):c=0/\z=S:=by
 rcases Nat.eq_zero_or_pos c with rfl|hc;simp at h;exact⟨rfl,h⟩;have:P*1<=P*c:=zqbd _ hc;omega
def zLj (B:Nat)(xs:List Nat)(n:Nat):vl B (xs++List.replicate n 0)=vl B xs:=by rw[zdp,zhz];simp
def zyP {B n:Nat}{xs:List Nat}(hB:0<B)(hx:∀ x∈xs,x<B):∀ x∈xs++List.replicate n 0,x<B:=by
 intro x h;rcases zqbo.1 h with h|h
 exact hx x h;rw[(List.mem_replicate.1 h).2];exact hB
def zyQ (n m:Nat)(w:World)(e:Ending)(w':World):Prop :=
 ∃ g zs,e=.returned (.slice (some ⟨g,0,none⟩) zs.length zs.length)/\zaF w.heap.size w' (.slice (some ⟨g,0,none⟩) zs.length zs.length) zs /\
  (∀ z∈zs,z<1000000000)/\vl 1000000000 zs=n/\zs.length<=m/\w.grownBy w' none
def zGt (xs ys:List Nat)(hx:∀ x∈xs,x<1000000000)(hy:∀ y∈ys,y<1000000000)(n:Nat)(hn:n=max xs.length ys.length+1) :
  (∀ z∈(zaz (zbp 1) (xs++List.replicate (n-xs.length) 0) ys 0 n).1,z<1000000000)/\vl 1000000000 (zaz (zbp 1) (xs++List.replicate (n-xs.length) 0) ys 0 n).1=vl 1000000000 xs+vl 1000000000 ys:=by
 obtain⟨h1,h2,h3⟩:=zji 1 (xs++List.replicate (n-xs.length) 0) ys (by decide) (zyP (by decide) hx) hy 0 (by decide) n;refine⟨h1,?_⟩;rw[zqaf (by simp;omega),zqaf (by omega),zLj,Nat.one_mul,Nat.add_zero] at h3;have a1:=zbP 1000000000 xs hx;have a2:=zbP 1000000000 ys hy;have b1:(1000000000:Nat) ^ xs.length<=1000000000 ^ (n-1):=zqay (by decide) (by omega);have b2:(1000000000:Nat) ^ ys.length<=1000000000 ^ (n-1):=zqay (by decide) (by omega);have b3:(1000000000:Nat) ^ n=1000000000 ^ (n-1)*1000000000:=by rw[<- zqbp];congr 1;omega
 exact(zvd _ _ _ _ h3 (by omega)).2
def zAc (xs:List Nat)(n:Nat)(h:xs.length<=n):splice (uv (List.replicate n 0)) 0 (uv xs)=uv (xs++List.replicate (n-xs.length) 0):=by
 unfold splice;rw[zcb];simp[uv,h]
def add_plain (g j:Nat):(⟨g,0,none⟩:Addr).add j=⟨g,j,none⟩:=by unfold Addr.add;split <;> simp_all
def zLk (xs:List Nat):∀ v∈uv xs,v.oneCell'=true:=by
 intro v hv;unfold uv at hv;obtain⟨n,_,rfl⟩:=zqbf.1 hv;rfl
def zGu (w:World)(g gx cx m:Nat)(xs:List Nat)(post:List Value)(hg:zaJ w g (uv (List.replicate m 0)))(hx:zaJ w gx (uv xs++post))(hle:xs.length<=m) :
  ∃ w',(Builtin.copy_ #[212,212] 3 #[.slice (some ⟨g,0,none⟩) m m,.slice (some ⟨gx,0,none⟩) xs.length cx]).run prog w=.ok (.int .i64 (xs.length:Nat)) w'/\zaJ w' g (uv (xs++List.replicate (m-xs.length) 0))/\w.grownBy w' (some g):=by
 have hrun:=run_copy_row (P:=prog) w 212 212 3 158 g 0 m m ⟨gx,0,none⟩ xs.length cx (uv (List.replicate m 0)).toArray 158 (uv xs) underlying212 (by kernel_rfl) hg
   (by rw[zaC];exact(Nat.min_eq_left (by omega)).symm) (fun j v hj=>by
    rw[add_plain,hx.cell,zqal (zqae.1 hj).1];exact hj) (by simp[uv];omega) (zLk xs)
 rw[zaC] at hrun;refine⟨w.setRow g _,hrun,?_,⟨rfl,rfl,rfl,by simp[World.setRow],fun k hk hne=>setRow_other w g k _ (fun e=>hne (by rw[e]))⟩⟩;unfold zaJ;rw[setRow_heap w g _ _ _ _ hg];have:=zAc xs m hle;unfold splice at this;rw[<- this];simp[uv]
def zJO (gx cx:Nat)(xs ys:List Nat)(vy:Value)(w:World)(hxb:zaF 0 w (.slice (some ⟨gx,0,none⟩) xs.length cx) xs)(hyb:zaF 0 w vy ys)
  (hx:∀ x∈xs,x<1000000000) (hy:∀ y∈ys,y<1000000000) (hnx:xs.length<=10000) (hny:ys.length<=10000) :
  Calls prog 237 #[.slice (some ⟨gx,0,none⟩) xs.length cx,vy] w (zyQ (vl 1000000000 xs+vl 1000000000 ys) (max xs.length ys.length+1) w):=by
 obtain⟨i0,hi,hz0,hz1,hz2⟩:=info_parts zjo;obtain⟨A,capy,hvy,hrdy⟩:=zqc hyb;obtain⟨_,_,_,hcx,post,ze,_⟩:=hxb.cells;obtain⟨m,hm⟩:∃ m,max xs.length ys.length=m:=⟨_,rfl⟩;have hmx:xs.length<=m:=by omega
 have hmy:ys.length<=m:=by omega
 have hm2:m<=10000:=by omega
 have hsm:=zGt xs ys hx hy (m+1) (by rw[hm]);have hgx:=ze.lt;rw[hm];have zN:(xs++List.replicate (m+1-xs.length) 0).length=m+1:=by rw[zqag,zqax];omega
 have hadd:=fun(w':World) (hg:zaJ w' w.heap.size (uv (xs++List.replicate (m+1-xs.length) 0))) (hb:zaF 0 w' (.slice A ys.length capy) ys) =>
  zjn 1 w.heap.size (m+1) [] [] (xs++List.replicate (m+1-xs.length) 0) ys (.slice A ys.length capy) w' (by decide) (zyP (by decide) hx) hy (by omega) (by simp) (by omega) (by unfold maxLen;omega) (by simpa using hg) hb
   (fun e=>by have:=(hyb.lt w.heap.size (by rw[hvy];exact e)).2;omega)
 rw[zN] at hadd;have hcl:=zbw (zbp 1) (xs++List.replicate (m+1-xs.length) 0) ys 0 (m+1);have hsp:xs++List.replicate (m+1-xs.length) 0=xs++List.replicate (m+1-xs.length) 0:=rfl;generalize zaz (zbp 1) (xs++List.replicate (m+1-xs.length) 0) ys 0 (m+1)=q at *;obtain⟨xp,hxp⟩:∃ xp,xs++List.replicate (m+1-xs.length) 0=xp:=⟨_,rfl⟩;clear hsp;have hsp:=hxp;rw[hxp] at zN;simp only[hxp] at hadd;clear hxp;subst hvy;have hsz:(prog.info? 158).map (·.size)=some 1:=by kernel_rfl
 have huvl:=zaC xs;have HM:=zHd hm;have HS:=zHd hsm;have HX:=zHd hx;have HY:=zHd hy;have HYB:=zHd hyb;have HC:=zHd ze;have HLEN:=zHd zN;have HADD:=zHd hadd;have HCL:=zHd hcl;have HSP:=zHd hsp;have HUL:=zHd huvl;clear hm hsm hx hy hyb ze hxb zN hadd hcl hsp huvl;unfold maxLen at hcx;rcases Nat.lt_or_ge xs.length ys.length with hxy|hxy
 all_goals
  go_enter func237,ntmps237;go_wp2_with (at_make;refine wpList_make_full _ rfl _ _ 212 rfl w.heap.size 158 i0 (.int .u64 0) 1 underlying212 hi hz0 hz1 _ _ _ _ (m+1) rfl rfl ?c0 ?c1 ?c2 (by unfold maxLen;omega) (zqab _) ?_)
  case c0=>have:=HM.out;omega
  case c1=>have:=HM.out;omega
  case c2=>first|omega|(rw[hz2];omega)
  intro w1 zO hgr;rw[zfC] at zO;have hc0:=(zaJ.of_full zO).1;have hcx1:zaJ w1 gx (uv xs++post):=HC.out.grown hgr (by simp);have HG:=zHd hgr;have HC0:=zHd hc0;have HCX:=zHd hcx1;clear zO hgr hc0 hcx1;obtain⟨w2,hrun,hc2,hg2⟩:=zGu w1 w.heap.size gx cx (m+1) xs post HC0.out HCX.out (by omega);have h9:=HADD.out w2 (by rw[<- HSP.out];exact hc2) ((HYB.out.grown HG.out (by simp)).grown hg2 (fun g e=>by have:=(HYB.out.lt g e).2;simp;omega));have H9:=zHd h9;have HG2:=zHd hg2;clear hc2 hg2 h9;go_wp2_with fail;refine H9.out.mono ?_;rintro e w3 ⟨rfl,hc3,hg3⟩;have HC3:=zHd hc3;have HG3:=zHd hg3;clear hc3 hg3;go_wp2;go_ret;have hcl:=HCL.out;obtain⟨hs1,hs2⟩:=HS.out;have hc3:=HC3.out;simp only[List.nil_append,List.append_nil] at hc3;refine⟨w.heap.size,q.1,by rw[hcl];rfl,zaF.of_cells hc3 (zqab _) (zaC _) (by rw[hcl];unfold maxLen;omega) (by rw[zqaf (by rw[zaC];exact zqab _)]) (zqab _),hs1,hs2,by rw[hcl];exact zqab _,zak (g:=w.heap.size) (zak (g:=w.heap.size) HG.out HG2.out (zqab _)) HG3.out (zqab _)⟩
def zur (xs:List Nat)(k:Nat)(hk:k<=xs.length)(hz:∀ j,k<=j->xs.getD j 0=0):vl 1000000000 (xs.drop k)=0:=by
 have e:xs.drop k=List.replicate (xs.length-k) 0:=by
  apply List.ext_getElem?;intro j;rw[List.getElem?_drop,zqbg]
  by_cases hj:j<xs.length-k
  ·rw[if_pos hj]
   have:=hz (k+j) (by omega);rw[zqaa,zqac (by omega)] at this;rw[zqac (by omega)];exact zqbz some this
  rw[if_neg hj,zqas (by omega)]
 rw[e,zhz]
structure zfV (xs ys:List Nat)(k:Nat)(zs:List Nat):Prop where
 length:zs.length=xs.length+ys.length
 lt:∀ z∈zs,z<1000000000
 val:vl 1000000000 zs=vl 1000000000 (xs.take k)*vl 1000000000 ys
 zero:∀ j,k+ys.length<=j->zs.getD j 0=0
def zfV.start (xs ys:List Nat):zfV xs ys 0 (List.replicate (xs.length+ys.length) 0) :=
 ⟨by simp,fun z hz=>by rw[(List.mem_replicate.1 hz).2];decide,by rw[zhz];simp[vl],fun j _=>zfS _ _⟩
def zfV.step {xs ys zs:List Nat}{k:Nat}(h:zfV xs ys k zs)(hk:k<xs.length)(hx:∀ x∈xs,x<1000000000)(hy:∀ y∈ys,y<1000000000)(q:List Nat×Nat)
  (hq:q=zaz (zbp (xs.getD k 0)) ((zs.drop k).take (ys.length+1)) ys 0 (ys.length+1)) :
  zfV xs ys (k+1) (zs.take k++q.1++zs.drop (k+(ys.length+1))):=by
 have hl:=h.length;have hxk:=zaY 1000000000 (by decide) xs hx k;have hpl:((zs.drop k).take (ys.length+1)).length=ys.length+1:=by rw[zqan,List.length_drop];omega
 have hpm:∀ z∈(zs.drop k).take (ys.length+1),z<1000000000:=fun z hz=>h.lt z (List.mem_of_mem_drop (zqau hz));obtain⟨c1,c2,c3⟩:=zji (xs.getD k 0) ((zs.drop k).take (ys.length+1)) ys (by omega) hpm hy 0 (by decide) (ys.length+1);have c4:=zbw (zbp (xs.getD k 0)) ((zs.drop k).take (ys.length+1)) ys 0 (ys.length+1);rw[<- hq] at c1 c2 c3 c4;rw[zqaf (by rw[hpl];exact zqab _),zqaf (by omega:ys.length<=ys.length+1),Nat.add_zero] at c3
 have htop:((zs.drop k).take (ys.length+1)).getD ys.length 0=0:=by
  rw[zqaa,List.getElem?_take,if_pos (by omega),List.getElem?_drop,<- zqaa];exact h.zero _ (by omega)
 have hpv:vl 1000000000 ((zs.drop k).take (ys.length+1))<1000000000 ^ ys.length:=by
  have e:=zaM 1000000000 ((zs.drop k).take (ys.length+1)) ys.length;rw[htop,zqaf (by rw[hpl];exact zqab _),Nat.mul_zero] at e;have h2:=zbP 1000000000 (((zs.drop k).take (ys.length+1)).take ys.length) (fun z hz=>hpm z (zqau hz));rw[zqan,Nat.min_eq_left (by omega)] at h2;omega
 have hyv:=zbP 1000000000 ys hy;have hxy:xs.getD k 0*vl 1000000000 ys<=999999999*vl 1000000000 ys:=Nat.mul_le_mul_right _ (by omega);obtain⟨_,c5⟩:=zvd _ _ _ _ c3 (by rw[zqbp];omega);simp only[Nat.add_zero] at c5;have hdr:vl 1000000000 (zs.drop (k+(ys.length+1)))=0:=zur zs _ (by omega) (fun j hj=>h.zero j (by omega));have hsp1:=zgu 1000000000 zs k (by omega);have hsp2:=zgu 1000000000 (zs.drop k) (ys.length+1) (by rw[List.length_drop];omega);rw[List.drop_drop,hdr,Nat.mul_zero,Nat.add_zero] at hsp2;refine⟨?_,?_,?_,fun j hj=>?_⟩;rw[zqag,zqag,zqan,List.length_drop,c4];omega
 ·intro z hz
  rcases zqbo.1 hz with hz|hz
  ·rcases zqbo.1 hz with hz|hz
   ·exact h.lt z (zqau hz)
   exact c1 z hz
  exact h.lt z (List.mem_of_mem_drop hz)
 rw[zdp,zdp,hdr,Nat.mul_zero,Nat.add_zero,c5,zqan,Nat.min_eq_left (by omega),<- hsp2,zqbh,<- Nat.add_assoc,<- hsp1,h.val,zaM,Nat.add_mul,zqav];rw[zqaa,zqaq (by rw[zqag,zqan,c4];omega),List.getElem?_drop,<- zqaa];apply h.zero;rw[zqag,zqan,c4];omega
def zfV.fin {xs ys zs:List Nat}(h:zfV xs ys xs.length zs):vl 1000000000 zs=vl 1000000000 xs*vl 1000000000 ys:=by
 have:=h.val;rw[List.take_length] at this;exact this
def zxG (vx vy:Value)(xs ys:List Nat)(w:World)(hxb:zaF 0 w vx xs)(hyb:zaF 0 w vy ys)
  (hx:∀ x∈xs,x<1000000000) (hy:∀ y∈ys,y<1000000000) (hnx:xs.length<=10000) (hny:ys.length<=10000) :
  Calls prog 245 #[vx,vy] w (zyQ (vl 1000000000 xs*vl 1000000000 ys) (xs.length+ys.length) w):=by
 obtain⟨i0,hi,hz0,hz1,hz2⟩:=info_parts zjo;obtain⟨A,capy,hvy,_⟩:=zqc hyb;obtain⟨Ax,capx,hvx,hrx⟩:=ztk hxb;subst hvx;subst hvy;have HX:=zHd hx;have HY:=zHd hy;have HYB:=zHd hyb;have HRX:=zHd hrx;clear hx hy hyb hrx hxb;go_enter func245,ntmps245;go_wp2_with (at_make;refine wpList_make_full _ rfl _ _ 212 rfl w.heap.size 158 i0 (.int .u64 0) 1 underlying212 hi hz0 hz1 _ _ _ _ (xs.length+ys.length) rfl rfl ?c0 ?c1 ?c2 (by unfold maxLen;omega) (zqab _) ?_)
 case c0=>omega
 case c1=>omega
 case c2=>first|omega|(rw[hz2];omega)
 intro w1 zO hgr;rw[zfC] at zO;have hc0:=(zaJ.of_full zO).1;have HG:=zHd hgr;have HC0:=zHd hc0;clear zO hgr hc0;go_wp2
 go_loopw [15] (fun i wr=>∃ (k:Nat) (zs:List Nat),i=.int .i64 k/\k<=xs.length/\zfV xs ys k zs/\zaJ wr w.heap.size (uv zs)/\w.grownBy wr none) (fun i _=>xs.length-(intOf i).toNat)
 case atStart=>exact⟨0,_,rfl,by omega,zfV.start xs ys,HC0.out,HG.out⟩
 case round =>
  obtain⟨k,zs,rfl,hk,zI,hcr,hgr⟩:=hrel;have hzl:=zI.length
  by_cases hlt:k<xs.length
  ·obtain⟨gx,rfl,zE⟩:=HRX.out wr (fun i hi=>hgr.block i hi (by simp)) k hlt
   have hyr:zaF 0 wr (.slice A ys.length capy) ys:=HYB.out.grown hgr (by simp);have zS':=zI.step hlt HX.out HY.out _ rfl;have hxk:=zaY 1000000000 (by decide) xs HX.out k;have hpl:((zs.drop k).take (ys.length+1)).length=ys.length+1:=by rw[zqan,List.length_drop];omega
   have hpr:(uv (zs.take k)).length=k:=by rw[zaC,zqan];omega
   have hsplit:uv zs=uv (zs.take k)++uv ((zs.drop k).take (ys.length+1))++uv (zs.drop (k+(ys.length+1))):=by
    exact zQbD
   have hcr2:=hcr;rw[hsplit] at hcr2
   have hadd:=zjn (xs.getD k 0) w.heap.size (xs.length+ys.length-k) (uv (zs.take k)) (uv (zs.drop (k+(ys.length+1)))) ((zs.drop k).take (ys.length+1)) ys (.slice A ys.length capy) wr.drew (by omega)
    (fun z hz=>zI.lt z (List.mem_of_mem_drop (zqau hz))) HY.out (by omega) (by omega) (by omega) (by unfold maxLen;omega) hcr2 hyr (fun e=>by have:=(HYB.out.lt w.heap.size e).2;omega)
   rw[hpl,hpr] at hadd;have HADD:=zHd hadd;have HST:=zHd zS';have HGR:=zHd hgr;have HZL:=zHd hzl;generalize zaz (zbp (xs.getD k 0)) ((zs.drop k).take (ys.length+1)) ys 0 (ys.length+1)=q at *;generalize xs.getD k 0=x at *;clear zI hcr hgr hyr zS' hpl hpr hsplit hcr2 hadd hzl;have i1:(0:Int)<=(k:Int):=by omega
   have i2:(k:Int)<=(k:Int)+(ys.length:Int)+1:=by omega
   have i3:(k:Int)+(ys.length:Int)+1<=((xs.length+ys.length:Nat):Int):=by omega
   have i4:(k:Int)<(xs.length:Int):=by omega
   have i5:decide (xs.length+ys.length=k)=false:=by simp;omega
   have i6:¬ (xs.length+ys.length=k):=by omega
   have j1:IntKind.i64.wrap ((k:Int)+(ys.length:Int))=(k:Int)+(ys.length:Int):=IntWalk.i64_in _ (by omega);have j2:IntKind.i64.wrap ((k:Int)+(ys.length:Int)+1)=(k:Int)+(ys.length:Int)+1:=IntWalk.i64_in _ (by omega);have j3:k+ys.length+1-k=ys.length+1:=by omega
   go_wp2
   go_region_with (go_at_call 250;refine HADD.out.mono ?_;rintro e w' ⟨rfl,hcg,hgg⟩;have HCG:=zHd hcg;have HGG:=zHd hgg;clear hcg hgg)
   all_goals
    clear j1 j2 j3 i5;have hcg:=HCG.out;rw[<- zcb,<- zcb] at hcg;have HC2:=zHd hcg;clear hcg;go_wp2
    go_roundw
    case rel=>exact⟨k+1,_,by go_num,by omega,HST.out,HC2.out,zak (g:=w.heap.size) HGR.out (zaa (zaf wr _) HGG.out) (zqab _)⟩
    case measure=>simp[intOf];omega
  have e:k=xs.length:=by omega
  subst e;have hf:=zI.fin;have hl:=zI.lt;have hb:zaF w.heap.size wr (.slice (some ⟨w.heap.size,0,none⟩) zs.length zs.length) zs:=zaF.of_cells hcr (zqab _) (zaC _) (by unfold maxLen;omega) (by rw[zqaf (by rw[zaC];exact zqab _)]) (zqab _);have HF:=zHd hf;have HL:=zHd hl;have HB:=zHd hb;have HGR:=zHd hgr;have HZL:=zHd hzl;clear zI hf hl hb hgr hcr hzl;go_wp2;go_ret;exact⟨w.heap.size,zs,by rw[HZL.out];rfl,HB.out,HL.out,HF.out,by rw[HZL.out];exact zqab _,HGR.out⟩
open Go.RowKit
open Go.Lib (nDigits)
def ziD:Value:=.tuple #[.string ⟨#[]⟩,.int .i64 1]
def zee (n:Nat):Value:=if nDigits n<=1000 then .tuple #[.string (zai n),.int .i64 0] else .tuple #[.string ⟨#[]⟩,.int .i64 2]
def zef (a b:ByteArray):Value:=if zao a&&zao b then zee (nv a+nv b) else ziD
def zew (a b:ByteArray):Value:=if zao a&&zao b then zee (nv a*nv b) else ziD
def zdJ (a b:ByteArray):Value:=if zao a&&zao b then (if nv a<nv b then .tuple #[.string ⟨#[]⟩,.int .i64 4] else .tuple #[.string (zai (nv a-nv b)),.int .i64 0]) else ziD
def zgi (u:Nat):∀ k,k+1<=nDigits u->k=0∨10 ^ k<=u:=by
 induction u using Nat.strongRecOn with
 | _ u ih =>
  intro k hk
  by_cases h:u<10
  rw[Lib.nDigits_small h] at hk;exact .inl (by omega);rw[Lib.nDigits_big h] at hk;cases k with
  | zero=>exact .inl rfl
  | succ k =>
   right;rcases ih (u/10) (by omega) k (by omega) with rfl|h1
   omega;rw[zqbp];omega
def zab (v:Value)(w:World)(e:Ending)(w':World):Prop:=e=.returned v/\w.grownBy w' none
def zqe (v:Value)(xs:List Nat)(w:World)(h:zaF 0 w v xs)(hx:∀ x∈xs,x<1000000000)(hn:xs.length<=10000) :
  Calls prog 236 #[v] w (zab (zee (vl 1000000000 xs)) w):=by
 have hw:=zik v xs w h hx hn;have h2:=zcs (vl 1000000000 xs)
 have hlt:nDigits (vl 1000000000 xs)<=100000:=by
  have:=zCt xs hx;rcases Nat.lt_or_ge 100000 (nDigits (vl 1000000000 xs)) with h'|h'
  ·rcases zgi (vl 1000000000 xs) (9*xs.length+1) (by omega) with h3|h3
   ·omega
   have h4:10 ^ (9*xs.length)<=10 ^ (9*xs.length+1):=zqay (by decide) (by omega);omega
  exact h'
 by_cases hl:nDigits (vl 1000000000 xs)<=1000
 ·have HL:=zHd (show zee (vl 1000000000 xs)=.tuple #[.string (zai (vl 1000000000 xs)),.int .i64 0] by unfold zee;rw[if_pos hl])
  rw[<- h2] at hl hlt;obtain⟨S,hS⟩:∃ S,zai (vl 1000000000 xs)=S:=⟨_,rfl⟩;unfold zmx at hw;rw[hS] at hw hl hlt;have HS:=zHd hS;clear hS h2 h hx;have hl1:¬ (1000:Int)<(S.size:Int):=by omega
  go_enter func236,ntmps236;go_wp2_with (go_at_call 242;refine hw.mono ?_;rintro e w' ⟨rfl,hg⟩);go_ret2;exact⟨by rw[HL.out,HS.out];rfl,‹_›⟩
 have HL:=zHd (show zee (vl 1000000000 xs)=.tuple #[.string ⟨#[]⟩,.int .i64 2] by unfold zee;rw[if_neg hl]);rw[<- h2] at hl hlt;obtain⟨S,hS⟩:∃ S,zai (vl 1000000000 xs)=S:=⟨_,rfl⟩;unfold zmx at hw;rw[hS] at hw hl hlt;have HS:=zHd hS;clear hS h2 h hx;have hl1:(1000:Int)<(S.size:Int):=by omega
 go_enter func236,ntmps236;go_wp2_with (go_at_call 242;refine hw.mono ?_;rintro e w' ⟨rfl,hg⟩);go_ret2;exact⟨by rw[HL.out];rfl,‹_›⟩
def zbo {s:ByteArray}(h:zao s=true):s.size<=maxLen:=by have:=(zcc s h).2;unfold maxLen;omega
def zve (n:Nat):∃ S E,zee n=.tuple #[.string S,.int .i64 E]:=by unfold zee;split <;> exact⟨_,_,rfl⟩
def zCG (xs ys:List Nat)(hx:∀ x∈xs,x<1000000000)(hyt:zcx ys)(h:vl 1000000000 ys<=vl 1000000000 xs):ys.length<=xs.length:=by
 by_cases h0:ys=[]
 subst h0;simp;have h1:=zmr 1000000000 ys h0 hyt;have h2:=zbP 1000000000 xs hx;rcases Nat.lt_or_ge xs.length ys.length with h3|h3
 ·have h4:(1000000000:Nat) ^ xs.length<=1000000000 ^ (ys.length-1):=zqay (by decide) (by omega)
  omega
 exact h3
def zGv (xs ys:List Nat)(hx:∀ x∈xs,x<1000000000)(hy:∀ y∈ys,y<1000000000)(hyt:zcx ys)(h:vl 1000000000 ys<=vl 1000000000 xs) :
  (∀ z∈(zaz (zaU 1) xs ys 0 xs.length).1,z<1000000000)/\True/\vl 1000000000 (zaz (zaU 1) xs ys 0 xs.length).1=vl 1000000000 xs-vl 1000000000 ys:=by
 obtain⟨h1,h2,h3⟩:=zlc 1 xs ys (by decide) hx hy 0 (by decide) xs.length;have hl:=zCG xs ys hx hyt h;rw[List.take_length,zqaf hl,Nat.one_mul,Nat.add_zero] at h3;have hz:=zbP 1000000000 _ h1;rw[zbw] at hz;refine⟨h1,trivial,?_⟩;rcases Nat.eq_zero_or_pos (zaz (zaU 1) xs ys 0 xs.length).2 with e|e;rw[e,Nat.mul_zero] at h3;omega;have:1000000000 ^ xs.length*1<=1000000000 ^ xs.length*(zaz (zaU 1) xs ys 0 xs.length).2:=zqbd _ e;omega
def zJP (a b:ByteArray)(w:World)(ha:a.size<=maxLen)(hb:b.size<=maxLen) :
  Calls prog 226 #[.string a,.string b] w (zab (zef a b) w):=by
 have va:=fun w=>zcB a w ha;have vb:=fun w=>zcB b w hb;unfold maxLen at ha hb;cases hna:zao a
 ·have HV:=zHd (show zef a b=ziD by unfold zef;rw[hna];rfl)
  simp only[hna] at va;clear vb hna;go_enter func226,ntmps226;exact zQaI
 cases hnb:zao b
 ·have HV:=zHd (show zef a b=ziD by unfold zef;rw[hnb,Bool.and_false];rfl)
  simp only[hna] at va;simp only[hnb] at vb;clear hna hnb;go_enter func226,ntmps226;exact zQav
 have HV:=zHd (show zef a b=zee (nv a+nv b) by unfold zef;rw[hna,hnb];rfl);have ra:=fun w=>zev a w hna;have rb:=fun w=>zev b w hnb;simp only[hna] at va;simp only[hnb] at vb;clear hna hnb;go_enter func226,ntmps226;go_wp2_with fail;refine(va _).mono ?_;rintro e w' ⟨rfl,rfl⟩;go_wp2_with fail;refine(vb _).mono ?_;rintro e w' ⟨rfl,rfl⟩;go_wp2_with fail;refine(ra _).mono ?_;rintro e w1 ⟨gx,cx,xs,rfl,hbx,hgx,hxl,hxv,hxt,hxn,hg1⟩;have HBX:=zHd hbx;have HXL:=zHd hxl;have HXV:=zHd hxv;have HG1:=zHd hg1;have HXT:=zHd hxt;clear hbx hxl hxv hxt hg1 ra va vb;go_wp2_with fail;refine(rb _).mono ?_;rintro e w2 ⟨gy,cy,ys,rfl,hby,hgy,hyl,hyv,hyt,hyn,hg2⟩;have hs:=zJO gx cx xs ys _ w2 ((HBX.out.grown hg2 (by simp)).base (zqaw _)) (hby.base (zqaw _)) HXL.out hyl (by omega) (by omega);rw[HXV.out,hyv] at hs;have HS:=zHd hs;have HG2:=zHd hg2;clear hby hyl hyv hyt hg2 hs rb;go_wp2_with fail;refine HS.out.mono ?_;rintro e w3 ⟨g,zs,rfl,hbz,hzl,hzv,hzn,hg3⟩;have hw:=zqe _ zs w3 (hbz.base (zqaw _)) hzl (by omega);rw[hzv] at hw;obtain⟨S,E,hE⟩:=zve (nv a+nv b);exact zQaM
def zJQ (a b:ByteArray)(w:World)(ha:a.size<=maxLen)(hb:b.size<=maxLen) :
  Calls prog 232 #[.string a,.string b] w (zab (zew a b) w):=by
 have va:=fun w=>zcB a w ha;have vb:=fun w=>zcB b w hb;unfold maxLen at ha hb;cases hna:zao a
 ·have HV:=zHd (show zew a b=ziD by unfold zew;rw[hna];rfl)
  simp only[hna] at va;clear vb hna;go_enter func232,ntmps232;exact zQaI
 cases hnb:zao b
 ·have HV:=zHd (show zew a b=ziD by unfold zew;rw[hnb,Bool.and_false];rfl)
  simp only[hna] at va;simp only[hnb] at vb;clear hna hnb;go_enter func232,ntmps232;exact zQav
 have HV:=zHd (show zew a b=zee (nv a*nv b) by unfold zew;rw[hna,hnb];rfl);have ra:=fun w=>zev a w hna;have rb:=fun w=>zev b w hnb;simp only[hna] at va;simp only[hnb] at vb;clear hna hnb;go_enter func232,ntmps232;go_wp2_with fail;refine(va _).mono ?_;rintro e w' ⟨rfl,rfl⟩;go_wp2_with fail;refine(vb _).mono ?_;rintro e w' ⟨rfl,rfl⟩;go_wp2_with fail;refine(ra _).mono ?_;rintro e w1 ⟨gx,cx,xs,rfl,hbx,hgx,hxl,hxv,hxt,hxn,hg1⟩;have HBX:=zHd hbx;have HXL:=zHd hxl;have HXV:=zHd hxv;have HG1:=zHd hg1;have HXT:=zHd hxt;clear hbx hxl hxv hxt hg1 ra va vb;go_wp2_with fail;refine(rb _).mono ?_;rintro e w2 ⟨gy,cy,ys,rfl,hby,hgy,hyl,hyv,hyt,hyn,hg2⟩;have hs:=zxG _ _ xs ys w2 ((HBX.out.grown hg2 (by simp)).base (zqaw _)) (hby.base (zqaw _)) HXL.out hyl (by omega) (by omega);rw[HXV.out,hyv] at hs;have HS:=zHd hs;have HG2:=zHd hg2;clear hby hyl hyv hyt hg2 hs rb;go_wp2_with fail;refine HS.out.mono ?_;rintro e w3 ⟨g,zs,rfl,hbz,hzl,hzv,hzn,hg3⟩;have hw:=zqe _ zs w3 (hbz.base (zqaw _)) hzl (by omega);rw[hzv] at hw;obtain⟨S,E,hE⟩:=zve (nv a*nv b);exact zQaM
def zyR (a b:ByteArray)(w:World)(ha:a.size<=maxLen)(hb:b.size<=maxLen) :
  Calls prog 228 #[.string a,.string b] w (zab (zdJ a b) w):=by
 have va:=fun w=>zcB a w ha;have vb:=fun w=>zcB b w hb;unfold maxLen at ha hb;cases hna:zao a
 ·have HV:=zHd (show zdJ a b=ziD by unfold zdJ;rw[hna];rfl)
  simp only[hna] at va;clear vb hna;go_enter func228,ntmps228;exact zQaI
 cases hnb:zao b
 ·have HV:=zHd (show zdJ a b=ziD by unfold zdJ;rw[hnb,Bool.and_false];rfl)
  simp only[hna] at va;simp only[hnb] at vb;clear hna hnb;go_enter func228,ntmps228;exact zQav
 have hcm:=fun w=>znX a b w (zbo hna) (zbo hnb);have hce:zeG a b=zbF (nv a) (nv b):=by unfold zeG;rw[hna,hnb];rfl
 simp only[hce] at hcm;clear hce
 by_cases hlt:nv a<nv b
 ·have HV:=zHd (show zdJ a b=.tuple #[.string ⟨#[]⟩,.int .i64 4] by unfold zdJ;rw[hna,hnb];simp only[Bool.and_self,if_true];rw[if_pos hlt])
  have hc:zbF (nv a) (nv b) = -1:=by unfold zbF;rw[if_pos hlt]
  simp only[hc] at hcm;simp only[hna] at va;simp only[hnb] at vb;clear hna hnb hc hlt;go_enter func228,ntmps228;go_wp2_with fail;refine(va _).mono ?_;rintro e w' ⟨rfl,rfl⟩;go_wp2_with fail;refine(vb _).mono ?_;rintro e w' ⟨rfl,rfl⟩;go_wp2_with fail;refine(hcm _).mono ?_;rintro e w1 ⟨rfl,hg1⟩;go_wp2;go_ret2;exact⟨by rw[HV.out];rfl,hg1⟩
 have HV:=zHd (show zdJ a b=.tuple #[.string (zai (nv a-nv b)),.int .i64 0] by unfold zdJ;rw[hna,hnb];simp only[Bool.and_self,if_true];rw[if_neg hlt]);obtain⟨c,hc,hc0⟩:∃ c:Int,zbF (nv a) (nv b)=c/\0<=c:=⟨_,rfl,by have:=zfn (nv a) (nv b);omega⟩;simp only[hc] at hcm;have HLT:=zHd hlt;clear hc hlt;have ra:=fun w=>zev a w hna;have rb:=fun w=>zev b w hnb;simp only[hna] at va;simp only[hnb] at vb;clear hna hnb;go_enter func228,ntmps228;go_wp2_with fail;refine(va _).mono ?_;rintro e w' ⟨rfl,rfl⟩;go_wp2_with fail;refine(vb _).mono ?_;rintro e w' ⟨rfl,rfl⟩;go_wp2_with fail;refine(hcm _).mono ?_;rintro e w0 ⟨rfl,hg0⟩;have HG0:=zHd hg0;clear hcm va vb hg0;go_wp2_with fail;refine(ra _).mono ?_;rintro e w1 ⟨gx,cx,xs,rfl,hbx,hgx,hxl,hxv,hxt,hxn,hg1⟩;have HBX:=zHd hbx;have HXL:=zHd hxl;have HXV:=zHd hxv;have HG1:=zHd hg1;have HXT:=zHd hxt;clear hbx hxl hxv hxt hg1 ra;go_wp2_with fail;refine(rb _).mono ?_;rintro e w2 ⟨gy,cy,ys,rfl,hby,hgy,hyl,hyv,hyt,hyn,hg2⟩;have hbx2:=HBX.out.grown hg2 (by simp);obtain⟨_,hgB,hcx1,hcx2,post,ze,hpost⟩:=hbx2.cells;have hst:=zmw 1 gx cx [] post xs ys _ w2 (by decide) HXL.out hyl (by omega) (by simp) (by omega) hcx2 (by simpa using ze) (hby.base (zqaw _)) (by simp[Value.ownBlock];have:=(HBX.out.lt gx rfl).2;omega);have hmath:=zGv xs ys HXL.out hyl hyt (by rw[HXV.out,hyv];have:=HLT.out;omega);have hql:=zbw (zaU 1) xs ys 0 xs.length;generalize zaz (zaU 1) xs ys 0 xs.length=q at *;obtain⟨hm1,hm2,hm3⟩:=hmath;rw[HXV.out,hyv] at hm3;have HST:=zHd hst;have HG2:=zHd hg2;have HM1:=zHd hm1;have HM3:=zHd hm3;have HQL:=zHd hql;have HPO:=zHd hpost;have HCX1:=zHd hcx1;have HCX2:=zHd hcx2;clear hby hyl hyv hyt hg2 rb hbx2 ze hst hm1 hm2 hm3 hql hpost hcx1 hcx2;unfold zjN at HST;go_wp2_with fail;refine HST.out.mono ?_;rintro e w3 ⟨rfl,hc3,hg3⟩;have hb3:zaF 0 w3 (.slice (some ⟨gx,0,none⟩) q.1.length cx) q.1:=zaF.of_cells hc3 (zqaw _) (by have:=HPO.out;have:=HQL.out;have:=HCX1.out;simp only[List.nil_append,zqag,zaC];omega) HCX2.out (by simp[zaC]) (by rw[HQL.out];exact HCX1.out);have hwr:=zik _ q.1 w3 hb3 HM1.out (by rw[HQL.out];omega);rw[HM3.out,HQL.out] at hwr;have HWR:=zHd hwr;have HG3:=zHd hg3;clear hc3 hg3 hb3 hwr HST;go_wp2_with fail;refine HWR.out.mono ?_;rintro e w4 ⟨rfl,hg4⟩;have HG4:=zHd hg4;clear hg4 HWR;go_wp2;go_ret2;have hz:=HG0.out.size;exact⟨by rw[HV.out];rfl,zaa HG0.out (zaB (zak (g:=gx) (zaa HG1.out (zaB HG2.out)) (zaa HG3.out (zaB HG4.out)) hgx))⟩
open Go.RowKit
def zvf (n:Nat)(h:n<18446744073709551616):bits BinOp.and IntKind.u64 (n:Int) 4294967295=((n%4294967296:Nat):Int):=by
 have:=bits_and_u64_nat n 4294967295 h (by decide);rw[show(4294967295:Nat)=2 ^ 32-1 by decide,Nat.and_two_pow_sub_one_eq_mod] at this;exact this
def zfD (n:Nat)(e:Int)(h:e=(n:Int))(hn:n<18446744073709551616):IntKind.u64.wrap e=(n:Int):=by
 rw[h,IntKind.wrap_u64];omega
def zoZ (y s:Nat):((y*2 ^ s:Nat):Int)=(y:Int)*2 ^ s:=by push_cast;rfl
structure D64 (hi lo y s Y c d H L U M m1 m0:Nat):Prop where
 e1:IntKind.u64.wrap ((y:Int)*2 ^ s)=(Y:Int)
 e2:bits BinOp.and IntKind.u64 (Y:Int) 4294967295=(d:Int)
 e3:(Y:Int)/4294967296=(c:Int)
 e4:IntKind.u64.wrap ((hi:Int)*2 ^ s)=(H:Int)
 e5:(lo:Int)/2 ^ (64-s)=(L:Int)
 e6:bits BinOp.or IntKind.u64 (H:Int) (L:Int)=(U:Int)
 e7:IntKind.u64.wrap ((lo:Int)*2 ^ s)=(M:Int)
 e8:(M:Int)/4294967296=(m1:Int)
 e9:bits BinOp.and IntKind.u64 (M:Int) 4294967295=(m0:Int)
 hY:Y=4294967296*c+d
 hc:2147483648<=c
 hc2:c<4294967296
 hd:d<4294967296
 hm1:m1<4294967296
 hm0:m0<4294967296
 hM:M=4294967296*m1+m0
 hU:U<Y
 hq:(18446744073709551616*hi+lo)/y=(18446744073709551616*U+(4294967296*m1+m0))/Y
def D64.mk' (hi lo y s:Nat)(hs:s<=63)(h2:hi<y)(hlo:lo<18446744073709551616)(hY:y*2 ^ s<18446744073709551616)(hY2:9223372036854775808<=y*2 ^ s) :
  ∃ Y c d H L U M m1 m0,D64 hi lo y s Y c d H L U M m1 m0:=by
 obtain⟨a1,a2,a3,a4,a5⟩:=zCv hi lo y s hs h2 hlo hY;have hp:2 ^ s<=2 ^ 63:=zqay (by decide) hs;have hm:lo*2 ^ s%18446744073709551616<18446744073709551616:=Nat.mod_lt _ (by decide)
 refine⟨y*2 ^ s,y*2 ^ s/4294967296,y*2 ^ s%4294967296,hi*2 ^ s,lo/2 ^ (64-s),hi*2 ^ s+lo/2 ^ (64-s),lo*2 ^ s%18446744073709551616,
  lo*2 ^ s%18446744073709551616/4294967296,lo*2 ^ s%18446744073709551616%4294967296,?_,zvf _ hY,by omega,?_,by push_cast;rfl,?_,?_,by omega,zvf _ hm,by omega,by omega,by omega,by omega,by omega,by omega,by omega,a4,?_⟩
 exact zfD _ _ (zoZ y s).symm hY;exact zfD _ _ (zoZ hi s).symm (by omega);rw[bits_or_u64_nat _ _ (by omega) (by omega),a3];rw[<- zoZ,IntKind.wrap_u64];omega;rw[<- Nat.mul_div_mul_right (18446744073709551616*hi+lo) y (Nat.two_pow_pos s),a5];congr 2;omega
structure zGw (U m1 m0 Y Q1 V Q0 g1 g2 g3 g5 R:Nat):Prop where
 x1:IntKind.u64.wrap ((U:Int)*4294967296)=(g1:Int)
 x2:IntKind.u64.wrap ((g1:Int)+(m1:Int))=(g2:Int)
 x3:IntKind.u64.wrap ((Q1:Int)*(Y:Int))=(g3:Int)
 x4:IntKind.u64.wrap ((g2:Int)-(g3:Int))=(V:Int)
 x5:IntKind.u64.wrap ((Q1:Int)*4294967296)=(g5:Int)
 x6:IntKind.u64.wrap ((g5:Int)+(Q0:Int))=(R:Int)
 hV:V<Y
 hR:R=(18446744073709551616*U+(4294967296*m1+m0))/Y
def zGw.mk' (U m1 m0 Y:Nat)(hU:U<Y)(hY:Y<=18446744073709551615)(hm1:m1<4294967296)(hm0:m0<4294967296) :
  ∃ Q1 V Q0 g1 g2 g3 g5 R,Q1=(4294967296*U+m1)/Y/\Q0=(4294967296*V+m0)/Y/\zGw U m1 m0 Y Q1 V Q0 g1 g2 g3 g5 R:=by
 have hY0:0<Y:=by omega
 have hV:=Nat.mod_lt (4294967296*U+m1) hY0;have hdm:=zqbt (4294967296*U+m1) Y;have hq1:=zth U m1 Y hY0 hU hm1;have hq0:=zth ((4294967296*U+m1)%Y) m0 Y hY0 hV hm0;have hR:=zGh U m1 m0 Y hY0;refine⟨_,(4294967296*U+m1)%Y,_,(4294967296*U)%18446744073709551616,((4294967296*U)%18446744073709551616+m1)%18446744073709551616,(Y*((4294967296*U+m1)/Y))%18446744073709551616,4294967296*((4294967296*U+m1)/Y),_,rfl,rfl,?_,?_,?_,?_,?_,?_,hV,hR.symm⟩;rw[IntKind.wrap_u64,Int.mul_comm,Int.natCast_emod,Int.natCast_mul];rfl
 ·generalize 4294967296*U%18446744073709551616=g
  rw[IntKind.wrap_u64,Int.natCast_emod,Int.natCast_add];rfl
 rw[IntKind.wrap_u64,Int.mul_comm,<- Int.natCast_mul];exact(Int.natCast_emod _ _).symm
 ·rw[IntKind.wrap_u64]
  generalize Y*((4294967296*U+m1)/Y)=t at *;generalize (4294967296*U+m1)%Y=V at *;omega
 refine zfD _ _ (by rw[Int.mul_comm];exact(Int.natCast_mul 4294967296 _).symm) (by omega);refine zfD _ _ ?_ ?_
 ·exact(Int.natCast_add _ _).symm
 omega
def zCH (hi lo y s:Nat)(h1:1<=hi)(h2:hi<y)(hlo:lo<18446744073709551616)(hs:s<=63)
  (hY:y*2 ^ s<18446744073709551616) (hY2:9223372036854775808<=y*2 ^ s)
  (hlz:∀ w,Calls prog 275 #[.int .u64 y] w fun e w'=>e=.returned (.int .i64 s)/\w=w') :
  ∃ r,∀ w,Calls prog 271 #[.int .u64 hi,.int .u64 lo,.int .u64 y] w fun e w'=>e=.returned (.tuple #[.int .u64 ((18446744073709551616*hi+lo)/y:Nat),.int .u64 r])/\w=w':=by
 obtain⟨Y,c,d,H,L,U,M,m1,m0,hD⟩:=D64.mk' hi lo y s hs h2 hlo hY hY2;have HD:=zHd hD;have hds:=zeW.start hD.hY hD.hc hD.hd hD.hm1 hD.hU;have hrl:=zeW.rest_lt (U:=U) hD.hc;have e1:=hD.e1;have e2:=hD.e2;have e3:=hD.e3;have e4:=hD.e4;have e5:=hD.e5;have e6:=hD.e6;have e7:=hD.e7;have e8:=hD.e8;have e9:=hD.e9;have hc:=hD.hc;have hc2:=hD.hc2;have hd:=hD.hd;have hm1:=hD.hm1;have hm0:=hD.hm0;have hU:=hD.hU;have hy:y<18446744073709551616:=by have:=hD.hY;have:y*1<=y*2 ^ s:=zqbd _ (Nat.two_pow_pos s);omega
 have ea:(U:Int)/(c:Int)=((U/c:Nat):Int):=by push_cast;rfl
 have ep:((U/c:Nat):Int)*(c:Int)=((c*(U/c):Nat):Int):=by push_cast;rw[Int.mul_comm]
 have hpU:c*(U/c)<=U:=Nat.mul_div_le U c;have hYl:Y<=18446744073709551615:=by have:=hD.hY;omega
 have eq:=hD.hq;rw[eq];clear hD eq hY hY2;generalize U/c=a0 at *;generalize c*a0=p0 at *;have ha0:=hds.le;obtain⟨r0,hr0⟩:∃ r0,U-p0=r0:=⟨_,rfl⟩;have er:(U:Int)-(p0:Int)=(r0:Int):=by omega
 rw[hr0] at hds hrl;have HDS:=zHd hds;clear hds hr0;have f1:((hi:Int)==0)=false:=by simp;omega
 have f2:((y:Int)==0)=false:=by simp;omega
 have hc1:(1:Int)<=(c:Int):=by omega
 obtain⟨Q1,V,Q0,g1,g2,g3,g5,R,hQ1,hQ0,hT⟩:=zGw.mk' U m1 m0 Y hU hYl hm1 hm0;rw[<- hT.hR];have HQ1:=zHd hQ1.symm;have HQ0:=zHd hQ0.symm;have HT:=zHd hT;clear hQ1 hQ0 hT;refine⟨IntKind.u64.wrap (IntKind.u64.wrap (IntKind.u64.wrap ((V:Int)*4294967296)+(m0:Int))-IntKind.u64.wrap ((Q0:Int)*(Y:Int)))/2 ^ (min s 64),fun w=>?_⟩;go_enter func271,ntmps271
 go_upto_block 0 with(go_at_call 275;refine(hlz _).mono ?_;rintro e w' ⟨rfl,rfl⟩)
 go_cut [15] (fun q wx=>q=.int .u64 Q1/\w=wx)
 case first =>
  go_wp2_with fail;clear e1 e2 e3 e4 e5 e6 e7 e8 e9 ea ep er hpU h1 h2 hlo hs hlz f1 f2 hy ha0
  go_loop [15,16] (fun q rh=>∃ a r:Nat,q=.int .u64 a/\rh=.int .u64 r/\zeW U m1 c Y a r/\r<4294967296) (fun q _=>(intOf q).toNat)
  case atStart=>exact⟨_,_,rfl,rfl,HDS.out,by omega⟩
  case round =>
   obtain⟨a,r,rfl,rfl,zI,hr⟩:=hrel;have hle:=zI.le;have hpr:=zI.prod hd;have epp:(a:Int)*(d:Int)=((d*a:Nat):Int):=by push_cast;rw[Int.mul_comm]
   obtain⟨R,hR⟩:∃ R,4294967296*r=R:=⟨_,rfl⟩;have eR:IntKind.u64.wrap ((4294967296:Int)*(r:Int))=(R:Int):=zfD R _ (by omega) (by omega);have hr2:r<=4294967296000:=by omega
   have hRb:R<=18446744069414584320:=by omega
   have HR:=zHd hr;clear hr
   by_cases ht:4294967296<=a∨R+m1<d*a
   ·obtain⟨ha1,hnew⟩:=zI.down HD.out.hY hc hd hm1 hU (by rw[hR];exact ht)
    have HN:=zHd hnew;clear zI hnew hR;have hle2:=HN.out.le;generalize d*a=p at *
    by_cases hrr:4294967296<=r+c
    ·have HQ:=zHd (HN.out.out HD.out.hY hc hd (by omega) hrr)
     by_cases hta:4294967296<=a
     ·clear ht
      have g1:¬ ((a:Int)<4294967296):=(by omega);have g1':(4294967296:Int)<=(a:Int):=(by omega);have g3:(4294967296:Int)<=(r:Int)+(c:Int):=(by omega);have g3':¬ ((r:Int)+(c:Int)<4294967296):=(by omega);go_wp2
      go_meet
      case rel=>exact⟨by rw[<- HQ1.out,<- HQ.out];go_num,rfl⟩
     have htb:R+m1<p:=(by omega);clear ht;have g1:(a:Int)<4294967296:=(by omega);have g1':¬ ((4294967296:Int)<=(a:Int)):=(by omega);have g2:(R:Int)+(m1:Int)<(p:Int):=(by omega);have g3:(4294967296:Int)<=(r:Int)+(c:Int):=(by omega);have g3':¬ ((r:Int)+(c:Int)<4294967296):=(by omega);go_wp2
     go_meet
     case rel=>exact⟨by rw[<- HQ1.out,<- HQ.out];go_num,rfl⟩
    by_cases hta:4294967296<=a
    ·clear ht
     have g1:¬ ((a:Int)<4294967296):=(by omega);have g1':(4294967296:Int)<=(a:Int):=(by omega);have g3:¬ ((4294967296:Int)<=(r:Int)+(c:Int)):=(by omega);have g3':(r:Int)+(c:Int)<4294967296:=(by omega);go_wp2;go_round
     case rel=>exact⟨a-1,r+c,by go_num,by go_num,HN.out,by omega⟩
     case measure=>simp[intOf];omega
    have htb:R+m1<p:=(by omega);clear ht;have g1:(a:Int)<4294967296:=(by omega);have g1':¬ ((4294967296:Int)<=(a:Int)):=(by omega);have g2:(R:Int)+(m1:Int)<(p:Int):=(by omega);have g3:¬ ((4294967296:Int)<=(r:Int)+(c:Int)):=(by omega);have g3':(r:Int)+(c:Int)<4294967296:=(by omega);go_wp2;go_round
    case rel=>exact⟨a-1,r+c,by go_num,by go_num,HN.out,by omega⟩
    case measure=>simp[intOf];omega
   have hta:a<4294967296:=by omega
   have htb:d*a<=R+m1:=(by omega);have HQ:=zHd (zI.done HD.out.hY hc (by rw[hR];exact htb));clear ht zI hR;generalize d*a=p at *;have g1:(a:Int)<4294967296:=(by omega);have g1':¬ ((4294967296:Int)<=(a:Int)):=(by omega);have g2:¬ ((R:Int)+(m1:Int)<(p:Int)):=(by omega);have g2':(p:Int)<=(R:Int)+(m1:Int):=(by omega);go_wp2
   go_meet
   case rel=>exact⟨by rw[<- HQ1.out,<- HQ.out],rfl⟩
 case rest =>
  obtain⟨rfl,rfl⟩:=hcut;clear e1 e2 e3 e4 e5 e6 e7 e8 e9 ea ep er hpU ha0 HDS hrl hlz f1 f2 hlo hs HQ1;have x1:=HT.out.x1;have x2:=HT.out.x2;have x3:=HT.out.x3;have x4:=HT.out.x4;have hV:=HT.out.hV;have hds:=zeW.start HD.out.hY hc hd hm0 hV;have hrl:=zeW.rest_lt (U:=V) hc;have ea:(V:Int)/(c:Int)=((V/c:Nat):Int):=by push_cast;rfl
  have ep:((V/c:Nat):Int)*(c:Int)=((c*(V/c):Nat):Int):=by push_cast;rw[Int.mul_comm]
  have hpU:c*(V/c)<=V:=Nat.mul_div_le V c;generalize V/c=a1 at *;generalize c*a1=p1 at *;have ha1:=hds.le;obtain⟨r1,hr1⟩:∃ r1,V-p1=r1:=⟨_,rfl⟩;have er:(V:Int)-(p1:Int)=(r1:Int):=by omega
  rw[hr1] at hds hrl;have HDS:=zHd hds;clear hds hr1
  go_upto_block 2 with(fail)
  go_cut [18] (fun q wx=>q=.int .u64 Q0/\w=wx)
  case first =>
   go_wp2_with fail;clear x1 x2 x3 x4 ea ep er hpU ha1
   go_loop [18,16] (fun q rh=>∃ a r:Nat,q=.int .u64 a/\rh=.int .u64 r/\zeW V m0 c Y a r/\r<4294967296) (fun q _=>(intOf q).toNat)
   case atStart=>exact⟨_,_,rfl,rfl,HDS.out,by omega⟩
   case round =>
    obtain⟨a,r,rfl,rfl,zI,hr⟩:=hrel;have hle:=zI.le;have hpr:=zI.prod hd;have epp:(a:Int)*(d:Int)=((d*a:Nat):Int):=(by push_cast;rw[Int.mul_comm]);obtain⟨R,hR⟩:∃ R,4294967296*r=R:=⟨_,rfl⟩;have eR:IntKind.u64.wrap ((4294967296:Int)*(r:Int))=(R:Int):=zfD R _ (by omega) (by omega);have hr2:r<=4294967296000:=(by omega);have hRb:R<=18446744069414584320:=(by omega);have HR:=zHd hr;clear hr
    by_cases ht:4294967296<=a∨R+m0<d*a
    ·obtain⟨ha1,hnew⟩:=zI.down HD.out.hY hc hd hm0 hV (by rw[hR];exact ht)
     have HN:=zHd hnew;clear zI hnew hR;have hle2:=HN.out.le;generalize d*a=p at *
     by_cases hrr:4294967296<=r+c
     ·have HQ:=zHd (HN.out.out HD.out.hY hc hd (by omega) hrr)
      by_cases hta:4294967296<=a
      ·clear ht
       have g1:¬ ((a:Int)<4294967296):=(by omega);have g1':(4294967296:Int)<=(a:Int):=(by omega);have g3:(4294967296:Int)<=(r:Int)+(c:Int):=(by omega);have g3':¬ ((r:Int)+(c:Int)<4294967296):=(by omega);go_wp2
       go_meet
       case rel=>exact⟨by rw[<- HQ0.out,<- HQ.out];go_num,rfl⟩
      have htb:R+m0<p:=(by omega);clear ht;have g1:(a:Int)<4294967296:=(by omega);have g1':¬ ((4294967296:Int)<=(a:Int)):=(by omega);have g2:(R:Int)+(m0:Int)<(p:Int):=(by omega);have g3:(4294967296:Int)<=(r:Int)+(c:Int):=(by omega);have g3':¬ ((r:Int)+(c:Int)<4294967296):=(by omega);go_wp2
      go_meet
      case rel=>exact⟨by rw[<- HQ0.out,<- HQ.out];go_num,rfl⟩
     by_cases hta:4294967296<=a
     ·clear ht
      have g1:¬ ((a:Int)<4294967296):=(by omega);have g1':(4294967296:Int)<=(a:Int):=(by omega);have g3:¬ ((4294967296:Int)<=(r:Int)+(c:Int)):=(by omega);have g3':(r:Int)+(c:Int)<4294967296:=(by omega);go_wp2;go_round
      case rel=>exact⟨a-1,r+c,by go_num,by go_num,HN.out,by omega⟩
      case measure=>simp[intOf];omega
     have htb:R+m0<p:=(by omega);clear ht;have g1:(a:Int)<4294967296:=(by omega);have g1':¬ ((4294967296:Int)<=(a:Int)):=(by omega);have g2:(R:Int)+(m0:Int)<(p:Int):=(by omega);have g3:¬ ((4294967296:Int)<=(r:Int)+(c:Int)):=(by omega);have g3':(r:Int)+(c:Int)<4294967296:=(by omega);go_wp2;go_round
     case rel=>exact⟨a-1,r+c,by go_num,by go_num,HN.out,by omega⟩
     case measure=>simp[intOf];omega
    have hta:a<4294967296:=(by omega);have htb:d*a<=R+m0:=(by omega);have HQ:=zHd (zI.done HD.out.hY hc (by rw[hR];exact htb));clear ht zI hR;generalize d*a=p at *;have g1:(a:Int)<4294967296:=(by omega);have g1':¬ ((4294967296:Int)<=(a:Int)):=(by omega);have g2:¬ ((R:Int)+(m0:Int)<(p:Int)):=(by omega);have g2':(p:Int)<=(R:Int)+(m0:Int):=(by omega);go_wp2
    go_meet
    case rel=>exact⟨by rw[<- HQ0.out,<- HQ.out],rfl⟩
  case rest =>
   obtain⟨rfl,rfl⟩:=hcut;clear x1 x2 x3 x4 ea ep er hpU ha1 HDS hrl HQ0;have x5:=HT.out.x5;have x6:=HT.out.x6;go_wp2;go_ret2;exact⟨rfl,rfl⟩
open Go.RowKit
def zAd (hi lo y:Nat)(h2:hi<y)(hy:y<18446744073709551616)(hlo:lo<18446744073709551616) :
  ∃ r,∀ w,Calls prog 271 #[.int .u64 hi,.int .u64 lo,.int .u64 y] w fun e w'=>e=.returned (.tuple #[.int .u64 ((18446744073709551616*hi+lo)/y:Nat),.int .u64 r])/\∃ n,w'=w.drewN n:=by
 by_cases h1:1<=hi
 ·have hb:=Lib.bitLenAux_bounds 64 y hy (by omega)
  change 1<=Lib.bitLen y/\2 ^ (Lib.bitLen y-1)<=y/\y<2 ^ Lib.bitLen y at hb;obtain⟨b1,b2,b3⟩:=hb;have b4:=Lib.bitLen_le y 64 (zqab _) hy
  have hlz:∀ w,Calls prog 275 #[.int .u64 y] w fun e w'=>e=.returned (.int .i64 ((64-Lib.bitLen y:Nat):Int))/\w=w':=by
   intro w;refine(Tryz.bits_LeadingZeros64 (y:Int) w (by omega) (by omega)).mono ?_;rintro e w' ⟨rfl,rfl⟩;refine⟨?_,rfl⟩;rw[Int.toNat_natCast,Int.natCast_sub b4];rfl
  have p1:y*2 ^ (64-Lib.bitLen y)<18446744073709551616:=by
   have:y*2 ^ (64-Lib.bitLen y)<2 ^ Lib.bitLen y*2 ^ (64-Lib.bitLen y):=Nat.mul_lt_mul_of_pos_right b3 (Nat.two_pow_pos _);rw[<- Nat.pow_add,show Lib.bitLen y+(64-Lib.bitLen y)=64 by omega] at this;exact this
  have p2:9223372036854775808<=y*2 ^ (64-Lib.bitLen y):=by
   have:2 ^ (Lib.bitLen y-1)*2 ^ (64-Lib.bitLen y)<=y*2 ^ (64-Lib.bitLen y):=Nat.mul_le_mul_right _ b2;rw[<- Nat.pow_add,show Lib.bitLen y-1+(64-Lib.bitLen y)=63 by omega] at this;exact this
  obtain⟨r,hr⟩:=zCH hi lo y (64-Lib.bitLen y) h1 h2 hlo (by omega) p1 p2 hlz;refine⟨r,fun w=>(hr w).mono ?_⟩;rintro e w' ⟨rfl,rfl⟩;exact⟨rfl,0,rfl⟩
 obtain rfl:hi=0:=by omega
 rw[Nat.mul_zero,zqat];have f2:((y:Int)==0)=false:=by simp;omega
 have hy1:(1:Int)<=(y:Int):=by omega
 have f3:(y:Int)≠0:=by omega
 have ea:(lo:Int)/(y:Int)=((lo/y:Nat):Int):=by push_cast;rfl
 have hq:lo/y<=lo:=Nat.div_le_self _ _;refine⟨(lo:Int)%(y:Int),fun w=>?_⟩;generalize lo/y=q at *;go_enter func271,ntmps271;go_wp2
 go_quiet (fail)
 go_wp2;go_ret2;exact⟨rfl,_,rfl⟩
def zCI (xs:List Nat)(i:Int)(hx:∀ x∈xs,x<1000000000):bAt xs i<1000000000:=by
 unfold bAt;split;decide;exact zaY _ (by decide) xs hx _
def zqf {f:FuncId}{args:Array Value}{w:World}{a n:Nat}{v:Value}
  (h:Calls prog f args (w.drewN (a+n)) fun e w'=>e=.returned v/\∃ k,w'=(w.drewN (a+n)).drewN k) :
  Calls prog f args (w.drewN (a+n)) fun e w'=>e=.returned v/\∃ m,w'=w.drewN (a+m):=by
 refine h.mono ?_;rintro e w' ⟨rfl,k,rfl⟩;exact⟨rfl,n+k,by rw[World.drewN_drewN,Nat.add_assoc]⟩
def zmy (n:Nat)(e:Int)(h:e=(n:Int))(hn:n<18446744073709551616):IntKind.u64.wrap e=(n:Int):=zfD n e h hn
def zCJ (w:World)(g off capx gy offy capy m lx ly:Nat)(xs ys:List Nat)(hlx:lx=m+2)(hly:ly=m+1)(hxl:xs.length=m+2)(hyl:ys.length=m+1)
  (hx:∀ x∈xs,x<1000000000) (hy:∀ y∈ys,y<1000000000) (hyt:zcx ys) (hlt:vl 1000000000 xs<1000000000*vl 1000000000 ys) (hm:m<=100000)
  (hcx:∀ k,k<xs.length->w.cell? ⟨g,off+k,none⟩=some (.int .u64 (xs.getD k 0:Nat))) (hcy:∀ k,k<ys.length->w.cell? ⟨gy,offy+k,none⟩=some (.int .u64 (ys.getD k 0:Nat))) :
  Calls prog 258 #[.slice (some ⟨g,off,none⟩) lx capx,.slice (some ⟨gy,offy,none⟩) ly capy] w fun e w' =>
   e=.returned (.int .u64 (((1000000000*(1000000000*xs.getD (m+1) 0+xs.getD m 0)+bAt xs ((m:Int)-1))/(1000000000*ys.getD m 0+bAt ys ((m:Int)-1)):Nat):Int))/\∃ n,w'=w.drewN n:=by
 have hG:=zuX xs ys m hyl hxl hx hy hyt hlt;have kc1:=hcx (m+1) (by omega);have kc2:=hcx m (by omega);have kc3:=hcy m (by omega);have sx:∀ n,zgx (w.drewN n) (.slice (some ⟨g,off,none⟩) lx capx) xs:=fun n=>.inr ⟨g,off,capx,by rw[hxl,hlx],hcx⟩;have sy:∀ n,zgx (w.drewN n) (.slice (some ⟨gy,offy,none⟩) ly capy) ys:=fun n=>.inr ⟨gy,offy,capy,by rw[hyl,hly],hcy⟩;have bx:=fun n=>zeS (w.drewN n) _ xs ((lx:Int)-1-2) (sx n) (by omega) (by omega) (by omega);have by_:=fun n=>zeS (w.drewN n) _ ys ((ly:Int)-2) (sy n) (by omega) (by omega) (by omega);have ex:zcm xs ((lx:Int)-1-2)=bAt xs ((m:Int)-1):=by rw[show(lx:Int)-1-2=(m:Int)-1 by omega];rfl
 have ey:zcm ys ((ly:Int)-2)=bAt ys ((m:Int)-1):=by rw[show(ly:Int)-2=(m:Int)-1 by omega];rfl
 simp only[ex] at bx;simp only[ey] at by_;have b1:xs.getD (m+1) 0<1000000000:=zaY _ (by decide) xs hx _;have b2:xs.getD m 0<1000000000:=zaY _ (by decide) xs hx _;have b3:ys.getD m 0<1000000000:=zaY _ (by decide) ys hy _;have b4:=zCI xs ((m:Int)-1) hx;have b5:=zCI ys ((m:Int)-1) hy;have hGle:=hG.le;have hGlt:=hG.lt;have hGge:=hG.ge;clear hG sx sy hcx hcy hx hy hyt hlt ex ey;generalize xs.getD (m+1) 0=x1 at *;generalize xs.getD m 0=x2 at *;generalize bAt xs ((m:Int)-1)=x3 at *;generalize ys.getD m 0=y1 at *;generalize bAt ys ((m:Int)-1)=y2 at *;obtain⟨P,hP⟩:∃ P,P=1000000000*x1+x2:=⟨_,rfl⟩;obtain⟨Y2,hY2⟩:∃ Y2,Y2=1000000000*y1+y2:=⟨_,rfl⟩;rw[<- hP,<- hY2] at hGle hGlt ⊢;rw[<- hY2] at hGge;have e1:IntKind.u64.wrap ((x1:Int)*1000000000)=((1000000000*x1:Nat):Int):=zmy _ _ (by rw[Int.mul_comm];exact(Int.natCast_mul 1000000000 _).symm) (by omega);have e2:IntKind.u64.wrap (((1000000000*x1:Nat):Int)+(x2:Int))=(P:Int):=zmy _ _ (by rw[hP];exact(Int.natCast_add _ _).symm) (by omega);have e3:IntKind.u64.wrap ((y1:Int)*1000000000)=((1000000000*y1:Nat):Int):=zmy _ _ (by rw[Int.mul_comm];exact(Int.natCast_mul 1000000000 _).symm) (by omega);have e4:IntKind.u64.wrap (((1000000000*y1:Nat):Int)+(y2:Int))=(Y2:Int):=zmy _ _ (by rw[hY2];exact(Int.natCast_add _ _).symm) (by omega);have hPl:P<18446744073709551616:=by omega
 have hmul:=fun w=>Tryz.bits_Mul64 P 1000000000 hPl (by decide) w;have hmul2:∀ w,Calls prog 153 #[.int .u64 P,.int .u64 1000000000] w fun e w'=>e=.returned (.tuple #[.int .u64 ((P*1000000000/18446744073709551616:Nat):Int),.int .u64 ((P*1000000000%18446744073709551616:Nat):Int)])/\w'=w:=hmul
 have hN:18446744073709551616*(P*1000000000/18446744073709551616)+P*1000000000%18446744073709551616=1000000000*P:=by
  rw[zqbc P];exact zqbt _ _
 have hl0:P*1000000000%18446744073709551616<18446744073709551616:=Nat.mod_lt _ (by decide);clear hmul;generalize P*1000000000/18446744073709551616=h0 at *;generalize P*1000000000%18446744073709551616=l0 at *;have hadd:=fun w=>Tryz.bits_Add64 l0 x3 w;have hN2:18446744073709551616*((l0+x3)/18446744073709551616)+(l0+x3)%18446744073709551616=l0+x3:=zqbt _ _;have hl1:(l0+x3)%18446744073709551616<18446744073709551616:=Nat.mod_lt _ (by decide);generalize (l0+x3)/18446744073709551616=c1 at *;generalize (l0+x3)%18446744073709551616=l1 at *;have hN3:18446744073709551616*(h0+c1)+l1=1000000000*P+x3:=by omega
 obtain⟨h1,hh1⟩:∃ h1,h0+c1=h1:=⟨_,rfl⟩;rw[hh1] at hN3;have hh2:h1<Y2:=by omega
 have e5:IntKind.u64.wrap ((h0:Int)+(c1:Int))=(h1:Int):=zmy _ _ (by rw[<- hh1];exact(Int.natCast_add _ _).symm) (by omega);obtain⟨r,hdiv⟩:=zAd h1 l1 Y2 hh2 (by omega) hl1;rw[hN3] at hdiv;generalize (1000000000*P+x3)/Y2=q at *;have HD:=zHd hdiv;have HBX:=zHd bx;have HBY:=zHd by_;have HM:=zHd hmul2;have HA:=zHd hadd;clear hN hN2 hN3 hl0 hl1 hh1 hh2 hdiv bx by_ hmul2 hPl hP hY2 hGle hGlt hGge b1 b2 b3 b4 b5;generalize ((1000000000*x1:Nat):Int)=A1 at *;generalize ((1000000000*y1:Nat):Int)=A2 at *;have i1:(0:Int)<=(lx:Int)-1:=by omega
 have i2:(0:Int)<=(lx:Int)-1-1:=by omega
 have i3:(lx:Int)-1<(lx:Int):=by omega
 have i5:(0:Int)<=(ly:Int)-1:=by omega
 have i6:(ly:Int)-1<(ly:Int):=by omega
 have k1:w.cell? ⟨g,off+(lx-1),none⟩=some (.int .u64 x1):=by rw[show lx-1=m+1 by omega];exact kc1
 have k2:w.cell? ⟨g,off+(lx-1-1),none⟩=some (.int .u64 x2):=by rw[show lx-1-1=m by omega];exact kc2
 have k3:w.cell? ⟨gy,offy+(ly-1),none⟩=some (.int .u64 y1):=by rw[show ly-1=m by omega];exact kc3
 have HLX:=zHd hlx;have HLY:=zHd hly;have l1:2<=lx:=by omega
 have l2:lx<=100002:=by omega
 have l3:1<=ly:=by omega
 have l4:ly<=100001:=by omega
 clear kc1 kc2 kc3 hlx hly hm;have j1:IntKind.i64.wrap ((lx:Int)-1)=(lx:Int)-1:=IntWalk.i64_in _ (by omega);have j2:IntKind.i64.wrap ((lx:Int)-1-1)=(lx:Int)-1-1:=IntWalk.i64_in _ (by omega);have j3:IntKind.i64.wrap ((ly:Int)-1)=(ly:Int)-1:=IntWalk.i64_in _ (by omega);have j4:IntKind.i64.wrap ((ly:Int)-2)=(ly:Int)-2:=IntWalk.i64_in _ (by omega);go_enter func258,ntmps258;go_wp2
 go_quiet ((go_at_call 153;exact Calls.quiet_of_same (HM.out _)))
 go_wp2_with (go_at_call 263;refine(HBX.out _).mono ?_;rintro e w' ⟨rfl,rfl⟩)
 go_quiet (first
  | (go_at_call 263;exact zqf ((HBY.out _).mono (fun e w' h=>⟨h.1,0,h.2.symm⟩)))
  | (go_at_call 271;exact zqf (HD.out _)))
 go_wp2;go_ret;exact⟨rfl,_,World.drewN_drewN _ _ _⟩
open Go.RowKit
structure zqg (B gx gy:Nat)(xs ys:List Nat)(w w':World)(qv:Value)(qs:List Nat)(gr cr:Nat)(rs:List Nat):Prop where
 qb:zaF 0 w' qv qs
 qlt:∀ z∈qs,z<1000000000
 qv:vl 1000000000 qs=vl 1000000000 xs/vl 1000000000 ys
 qn:qs.length<=xs.length+1
 rb:zaF B w' (.slice (some ⟨gr,0,none⟩) rs.length cr) rs
 rne:gr≠gy
 rlt:∀ z∈rs,z<1000000000
 rv:vl 1000000000 rs=vl 1000000000 xs%vl 1000000000 ys
 rt:zcx rs
 rn:rs.length<=xs.length+1
 gr:w.grownBy w' (some gx)
def zrR (B gx gy:Nat)(xs ys:List Nat)(w:World)(e:Ending)(w':World):Prop :=
 ∃ qv qs gr cr rs,e=.returned (.tuple #[qv,.slice (some ⟨gr,0,none⟩) rs.length cr])/\zqg B gx gy xs ys w w' qv qs gr cr rs
def zmz {a b c:World}{g h:Nat}(k:a.grownBy b (some g))(m:b.grownBy c (some h))(e:h=g∨a.heap.size<=h):a.grownBy c (some g):=by
 rcases e with rfl|e;exact zaa k m;exact zak k m e
def zGx (xs ys:List Nat)(hx:∀ x∈xs,x<1000000000)(hyt:zcx ys)(h:xs.length<ys.length):vl 1000000000 xs<vl 1000000000 ys:=by
 have h1:=zmr 1000000000 ys (by intro e;rw[e] at h;simp at h) hyt;have h2:=zbP 1000000000 xs hx;have h4:(1000000000:Nat) ^ xs.length<=1000000000 ^ (ys.length-1):=zqay (by decide) (by omega);omega
def zvg (B gx cx gy cy:Nat)(xs ys:List Nat)(w:World)(hxb:zaF B w (.slice (some ⟨gx,0,none⟩) xs.length cx) xs)(hne:gx≠gy)
  (hx:∀ x∈xs,x<1000000000) (hxt:zcx xs) (hyt:zcx ys) (h:xs.length<ys.length) :
  Calls prog 244 #[.slice (some ⟨gx,0,none⟩) xs.length cx,.slice (some ⟨gy,0,none⟩) ys.length cy] w (zrR B gx gy xs ys w):=by
 have hlt:=zGx xs ys hx hyt h;have HP:Hid (zqg B gx gy xs ys w w (.slice none 0 0) [] gx cx xs):=⟨World.ownsRow_nil _ _ _ _,by simp,by rw[Nat.div_eq_of_lt hlt];rfl,by simp,hxb,hne,hx,(Nat.mod_eq_of_lt hlt).symm,hxt,by omega,zae _ _⟩;clear hlt hxb hx hxt hyt;have h':(xs.length:Int)<(ys.length:Int):=by omega
 go_enter func244,ntmps244;go_wp2;go_ret2;exact⟨_,_,_,_,_,rfl,HP.out⟩
def zAe (zs:List Nat)(k n:Nat):uv zs=uv (zs.take k)++uv ((zs.drop k).take n)++uv (zs.drop (k+n)):=by
 exact zQbD
def zCK (zs:List Nat)(k n t:Nat)(ht:t<n):((zs.drop k).take n).getD t 0=zs.getD (k+t) 0:=by
 rw[zqaa,List.getElem?_take,if_pos ht,List.getElem?_drop,<- zqaa]
def zxH (B gx cx gy cy m:Nat)(xs ys:List Nat)(w:World)(hxb:zaF B w (.slice (some ⟨gx,0,none⟩) xs.length cx) xs)(hyb:zaF B w (.slice (some ⟨gy,0,none⟩) ys.length cy) ys)(hne:gx≠gy)
  (hx:∀ x∈xs,x<1000000000) (hy:∀ y∈ys,y<1000000000) (hyt:zcx ys) (hym:ys.length=m+1) (hle:ys.length<=xs.length) (hn:xs.length<=10000) (hBw:B<=w.heap.size) :
  Calls prog 244 #[.slice (some ⟨gx,0,none⟩) xs.length cx,.slice (some ⟨gy,0,none⟩) ys.length cy] w (zrR B gx gy xs ys w):=by
 obtain⟨i0,hi,hz0,hz1,hz2⟩:=info_parts zjo;have h0:ys≠[]:=by intro e;rw[e] at hym;simp at hym
 have hst:=zfA.start hx hyt h0 hle
 have hv:0<vl 1000000000 ys:=by
  have:=zmr 1000000000 ys h0 hyt;have:0<(1000000000:Nat) ^ (ys.length-1):=Nat.pow_pos (by decide);omega
 obtain⟨n,hnn⟩:∃ n,xs.length-ys.length+1=n:=⟨_,rfl⟩;rw[hnn] at hst;have en:(xs.length:Int)-(ys.length:Int)+1=(n:Int):=by omega
 have hn1:n<=10001:=by omega
 have hgx:=hxb.lt gx rfl;have hgy:=hyb.lt gy rfl;have HST:=zHd hst;have HX:=zHd hx;have HY:=zHd hy;have HXB:=zHd hxb;have HYB:=zHd hyb;have HNN:=zHd hnn;have HYM:=zHd hym;have HYT:=zHd hyt;clear hst hx hy hxb hyb hnn hym hyt h0;have hge:¬ (xs.length:Int)<(ys.length:Int):=by omega
 go_enter func244,ntmps244;go_wp2_with (at_make;refine wpList_make_full _ rfl _ _ 212 rfl w.heap.size 158 i0 (.int .u64 0) 1 underlying212 hi hz0 hz1 _ _ _ _ n rfl rfl ?c0 ?c1 ?c2 (by unfold maxLen;omega) (zqab _) ?_)
 case c0=>omega
 case c1=>omega
 case c2=>first|omega|(rw[hz2];omega)
 intro w1 zO hgr;rw[zfC] at zO;have hcq:=(zaJ.of_full zO).1;have hs1:=hcq.lt;have hxb1:zaF B (w1.alloc (.cells #[.int .u64 0] 158)) (.slice (some ⟨gx,0,none⟩) xs.length cx) xs:=(HXB.out.grown hgr (by simp)).grown (zGA _ _ none) (by simp);have hcq1:zaJ (w1.alloc (.cells #[.int .u64 0] 158)) w.heap.size (uv (List.replicate n 0)):=hcq.grown (zGA _ _ none) (by simp);have hg1:w.grownBy (w1.alloc (.cells #[.int .u64 0] 158)) none:=zaa hgr (zGA _ _ none)
 have hnew:∀ j u,[Value.int .u64 0][j]?=some u->(w1.alloc (.cells #[.int .u64 0] 158)).cell? ((⟨w1.heap.size,0,none⟩:Addr).add j)=some u:=by
  intro j u hu
  match j,hu with
  | 0,hu =>
   simp at hu;subst hu;rw[add_plain,World.cell?_alloc_at _ _ _ _ rfl];rfl
 have HG1:=zHd hg1;have HCQ:=zHd hcq1;have HXB1:=zHd hxb1;have HNEW:=zHd hnew;have hsz1:w.heap.size<w1.heap.size:=hs1;clear zO hgr hcq hxb1 hcq1 hg1 hnew hs1;go_wp2_with (at_builtin;refine wpList_append_lies _ rfl _ _ _ rfl B 158 i0 (.int .u64 0) 1 8 underlying212 hi hz0 hz1 hz2 rfl (by omega) _ xs.length (uv xs) rfl HXB1.out ⟨w1.heap.size,0,none⟩ 1 1 [Value.int .u64 0] rfl rfl HNEW.out ?h1 ?h2 ?h3 ?h4 ?h5 (w1.heap.size+1) ?h6 ?_)
 case h1=>intro u hu;simp at hu;subst hu;rfl
 case h2=>decide
 case h3=>unfold maxLen;omega
 case h4=>omega
 case h5=>simp;omega
 case h6=>simp
 intro gz cap w2 hown2 hg2 hat hlt2
 have hgz:gz=gx∨gz=w1.heap.size+1:=by
  rcases hat with hat|hat;simp[Value.ownBlock] at hat;exact .inl hat.symm;exact .inr hat
 have hgz2:gz≠gy:=by rcases hgz with h|h <;> omega
 have hgz3:gz≠w.heap.size:=by rcases hgz with h|h <;> omega
 have hgz4:gz=gx∨w.heap.size<=gz:=by rcases hgz with h|h <;> omega
 have hgzB:B<=gz:=by rcases hgz with h|h <;> omega
 have hb2:zaF B w2 (.slice (some ⟨gz,0,none⟩) (xs++[0]).length cap) (xs++[0]):=by
  have e:(xs++[0]).length=xs.length+1:=by simp
  unfold zaF;rw[e,zcb];exact hown2
 obtain⟨_,_,hcap1,hcap2,spare,hcz,hspl⟩:=hb2.cells;have hcq2:zaJ w2 w.heap.size (uv (List.replicate n 0)):=HCQ.out.grown hg2 (by simp[Value.ownBlock];omega);have hg02:w.grownBy w2 (some gx):=zaa (zaB HG1.out) hg2;have hcap3:xs.length+1<=cap:=by simpa using hcap1
 unfold maxLen at hcap2;have hspl2:spare.length=cap-(xs.length+1):=by simpa using hspl
 have HCZ:=zHd hcz;have HCQ2:=zHd hcq2;have HG02:=zHd hg02;have HSPL:=zHd hspl2;clear hown2 hg2 hat hlt2 hgz hb2 hcap1 hspl hcz hcq2 hg02 hspl2 HCQ HXB1 HNEW HG1;go_wp2
 go_loopw [28] (fun i wr=>∃ (j k:Nat) (zs qs:List Nat),i=.int .i64 j/\j+k=n/\zfA xs ys k zs qs/\zaJ wr gz (uv zs++spare)/\zaJ wr w.heap.size (uv qs)/\w.grownBy wr (some gx)) (fun i _=>n-(intOf i).toNat)
 case atStart=>exact⟨0,n,_,_,rfl,by omega,HST.out,HCZ.out,HCQ2.out,HG02.out⟩
 case round =>
  obtain⟨j,k,zs,qs,rfl,hjk,zI,hcz,hcq,hgr⟩:=hrel;have hzl:=zI.zlen;have hql:=zI.qlen;cases k with
  | succ k =>
   have hk1:k+1<=xs.length-ys.length+1:=by have:=HNN.out;omega
   obtain⟨a1,a2,a3,a4,a5⟩:=zI.part hk1 hle HY.out;have hyr:zaF B wr (.slice (some ⟨gy,0,none⟩) ys.length cy) ys:=HYB.out.grown hgr (by simp[Value.ownBlock];omega);have hpr:(uv (zs.take k)).length=k:=by rw[zaC,zqan];have:=HNN.out;omega
   have hcz2:=hcz;rw[zAe zs k (ys.length+1),zqbj] at hcz2;obtain⟨part,hpart⟩:∃ part,(zs.drop k).take (ys.length+1)=part:=⟨_,rfl⟩
   have hpc:∀ t,t<part.length->wr.cell? ⟨gz,k+t,none⟩=some (.int .u64 (part.getD t 0:Nat)):=by
    intro t ht;have ht':t<ys.length+1:=(by rw[<- hpart,a2] at ht;exact ht);have hkt:k+t<zs.length:=(by have:=HNN.out;omega);rw[hcz.cell,zqal (by rw[zaC];exact hkt),zjm _ _ hkt,<- hpart,zCK _ _ _ _ ht']
   have hyc:∀ t,t<ys.length->wr.cell? ⟨gy,0+t,none⟩=some (.int .u64 (ys.getD t 0:Nat)):=by
    intro t ht;obtain⟨_,_,_,_,py,hcy,_⟩:=hyr.cells;rw[hcy.cell,zqat,zqal (by rw[zaC];exact ht),zjm _ _ ht]
   rw[hpart] at a2 a3 a4 a5 hcz2;have hgu:=zCJ wr gz k (cap-k) gy 0 cy m (ys.length+1) ys.length part ys (by rw[HYM.out]) HYM.out (by rw[a2,HYM.out]) HYM.out a3 HY.out HYT.out a4 (by have:=HYM.out;omega) hpc hyc;have hgok:=zuX part ys m HYM.out (by rw[a2,HYM.out]) a3 HY.out HYT.out a4;have hg1:=hgok.lo;have hg2:=hgok.hi;have hg3:=hgok.le;clear hgok hpc hyc;generalize (1000000000*(1000000000*part.getD (m+1) 0+part.getD m 0)+bAt part ((m:Int)-1))/(1000000000*ys.getD m 0+bAt ys ((m:Int)-1))=qh at *;have hro:=zGi part ys qh a3 HY.out a2 hv hg1 hg2 hg3;obtain⟨q1,hq1⟩:∃ q1,zaz (zaU qh) part ys 0 (ys.length+1)=q1:=⟨_,rfl⟩;obtain⟨q2,hq2⟩:∃ q2,zaz (zbp 1) q1.1 ys 0 (ys.length+1)=q2:=⟨_,rfl⟩;have hl1:q1.1.length=ys.length+1:=by rw[<- hq1,zbw]
   have hl2:q2.1.length=ys.length+1:=by rw[<- hq2,zbw]
   rw[hq1,hq2] at hro;obtain⟨hp1,hp2,hro1,hro2⟩:=hro;have hcap:cap-k<=maxLen:=by unfold maxLen;omega
   have hsub:∀ n',Calls prog 241 #[.slice (some ⟨gz,k,none⟩) (ys.length+1) (cap-k),.slice (some ⟨gy,0,none⟩) ys.length cy,.int .u64 (qh:Nat)] ((wr.setCell ⟨w.heap.size,k,none⟩ (.int .u64 (qh:Nat))).drewN n')
     (zjN q1 (uv (zs.take k)) (uv (zs.drop (k+(ys.length+1)))++spare) gz ((wr.setCell ⟨w.heap.size,k,none⟩ (.int .u64 (qh:Nat))).drewN n')):=by
    intro n';have hg':wr.grownBy ((wr.setCell ⟨w.heap.size,k,none⟩ (.int .u64 (qh:Nat))).drewN n') (some w.heap.size):=zaa (zac _ _ _) (zcg _ _ _)
    have h:=zmw qh gz (cap-k) (uv (zs.take k)) (uv (zs.drop (k+(ys.length+1)))++spare) part ys (.slice (some ⟨gy,0,none⟩) ys.length cy) ((wr.setCell ⟨w.heap.size,k,none⟩ (.int .u64 (qh:Nat))).drewN n') hg3 a3 HY.out (by omega) (by omega) (by omega) hcap
     (hcz2.grown hg' (by simp;omega)) ((hyr.base (zqaw _)).grown hg' (by simp[Value.ownBlock];omega)) (by simp[Value.ownBlock];omega)
    rw[a2,hpr,hq1] at h;exact h
   have hcqs:∀ n' x,zaJ ((wr.setCell ⟨w.heap.size,k,none⟩ (.int .u64 (x:Nat))).drewN n') w.heap.size (uv (qs.set k x)):=fun n' x=>by
    have:=hcq.set k (.int .u64 (x:Nat));rw[zqd] at this;exact this
   have hgq:∀ n',w.grownBy ((wr.setCell ⟨w.heap.size,k,none⟩ (.int .u64 (qh:Nat))).drewN n') (some gx):=fun n'=>zak (g:=w.heap.size) hgr (zaa (zac _ _ _) (zcg _ _ _)) (zqab _);have hkq:k<qs.length:=by omega
   have hqcell:∃ old:Nat,wr.cell? ⟨w.heap.size,k,none⟩=some (.int .u64 old):=⟨_,by rw[hcq.cell,zjm _ _ hkq]⟩;obtain⟨old,hqcell⟩:=hqcell;have hqfree:=hcq.free k;have HGU:=zHd hgu;have HSUB:=zHd hsub;have HCQS:=zHd hcqs;have HGQ:=zHd hgq;have zi:=zHd zI;have HP1:=zHd hp1;have HP2:=zHd hp2;have HR1:=zHd hro1;have HR2:=zHd hro2;have HQ2:=zHd hq2;have HL1:=zHd hl1;have HL2:=zHd hl2;have HPR:=zHd hpr;have HYR:=zHd hyr;have HKQ:=zHd hkq;have HPART:=zHd hpart;have HK1:=zHd hk1;have HJK:=zHd hjk;have hjn:j<n:=by omega
   have hkc:k+ys.length+1<=cap:=by have:=HNN.out;omega
   have eat:(n:Int)-1-(j:Int)=(k:Int):=by omega
   have el:k+ys.length+1-k=ys.length+1:=by omega
   have i6:¬ cap=k:=by omega
   have i5:decide (cap=k)=false:=by simp;omega
   have hkn:k<n:=by omega
   clear hgu hsub hcqs hgq zI hp1 hp2 hro1 hro2 hq1 hq2 hl1 hl2 hpr hyr hkq hpart hk1 hjk a1 a2 a3 a4 a5 hcz hcq hgr hcz2 hzl hql hg1 hg2 hcap;clear HST HCZ HCQ2 HG02;go_wp2_with fail;refine HGU.out.mono ?_;rintro e wg ⟨rfl,nn,rfl⟩;go_wp2_with fail;refine(HSUB.out nn).mono ?_;rintro e w3 ⟨rfl,hc3,hg3'⟩;have hcq3:zaJ w3 w.heap.size (uv (qs.set k qh)):=(HCQS.out nn qh).grown hg3' (by simp;omega);have hgr3:w.grownBy w3 (some gx):=zmz (HGQ.out nn) hg3' hgz4
   by_cases hc:q1.2=0
   ·have hst:=zi.out.step HK1.out hle HY.out hv q1.1 qh HL1.out HP1.out (by rw[HPART.out];exact(HR1.out hc).1) (by rw[HPART.out];exact(HR1.out hc).2)
    have hcz3:zaJ w3 gz (uv (zs.take k++q1.1++zs.drop (k+(ys.length+1)))++spare):=by
     rw[zcb,zcb,zqbj (uv (zs.take k)++uv q1.1)];exact hc3
    have HST:=zHd hst;have HCZ:=zHd hcz3;have HCQ:=zHd hcq3;have HGR:=zHd hgr3;clear hst hcz3 hcq3 hgr3 hc3 hg3';rw[hc];go_wp2
    go_roundw
    case rel=>exact⟨j+1,k,_,_,by go_num,by have:=HJK.out;omega,HST.out,HCZ.out,HCQ.out,HGR.out⟩
    case measure=>simp[intOf];omega
   have hc':(0:Int)<(q1.2:Int):=by omega
   obtain⟨hr1,hr2⟩:=HR2.out (by omega);have hq1p:1<=qh:=(by rw[hr1];exact Nat.succ_le_succ (zqaw _));have eq1:(qh:Int)-1=((qh-1:Nat):Int):=(by omega);have hst:=zi.out.step HK1.out hle HY.out hv q2.1 (qh-1) HL2.out HP2.out (by rw[HPART.out,hr1];simp) (by rw[HPART.out];exact hr2);have hkl:k<(qs.set k qh).length:=by rw[List.length_set];exact HKQ.out
   have hcell3:w3.cell? ⟨w.heap.size,k,none⟩=some (.int .u64 (qh:Nat)):=by
    rw[hcq3.cell,zjm _ _ hkl,zfz _ _ _ _ HKQ.out,if_pos rfl]
   have hfree3:=hcq3.free k
   have hcq4:zaJ (w3.setCell ⟨w.heap.size,k,none⟩ (.int .u64 ((qh-1:Nat):Int))) w.heap.size (uv (qs.set k (qh-1))):=by
    have:=hcq3.set k (.int .u64 ((qh-1:Nat):Int));rw[zqd,List.set_set] at this;exact this
   have hgr4:w.grownBy (w3.setCell ⟨w.heap.size,k,none⟩ (.int .u64 ((qh-1:Nat):Int))) (some gx):=zak (g:=w.heap.size) hgr3 (zac _ _ _) (zqab _);have hg34:w3.grownBy (w3.setCell ⟨w.heap.size,k,none⟩ (.int .u64 ((qh-1:Nat):Int))) (some w.heap.size):=zac _ _ _
   have hyr4:zaF 0 (w3.setCell ⟨w.heap.size,k,none⟩ (.int .u64 ((qh-1:Nat):Int))) (.slice (some ⟨gy,0,none⟩) ys.length cy) ys :=
    ((((HYB.out.base (zqaw _)).grown hgr4 (by simp[Value.ownBlock];omega))))
   have hadd:=zjn 1 gz (cap-k) (uv (zs.take k)) (uv (zs.drop (k+(ys.length+1)))++spare) q1.1 ys (.slice (some ⟨gy,0,none⟩) ys.length cy) (w3.setCell ⟨w.heap.size,k,none⟩ (.int .u64 ((qh-1:Nat):Int))) (by decide) HP1.out HY.out (by rw[HL1.out];omega) (by rw[HPR.out];omega) (by omega) (by unfold maxLen;omega)
    (hc3.grown hg34 (by simp;omega)) hyr4 (by simp[Value.ownBlock];omega)
   rw[HL1.out,HPR.out,HQ2.out] at hadd;have HADD:=zHd hadd;have HST:=zHd hst;have HCQ4:=zHd hcq4;have HGR4:=zHd hgr4;clear hadd hst hcq4 hgr4 hg34 hyr4 hcq3 hgr3 hc3 hg3' hr1 hr2 hkl;generalize ((qh-1:Nat):Int)=qm at *;go_wp2_with fail;refine HADD.out.mono ?_;rintro e w4 ⟨rfl,hc4,hg4⟩
   have hcz4:zaJ w4 gz (uv (zs.take k++q2.1++zs.drop (k+(ys.length+1)))++spare):=by
    rw[zcb,zcb,zqbj (uv (zs.take k)++uv q2.1)];exact hc4
   have hcq5:zaJ w4 w.heap.size (uv (qs.set k (qh-1))):=HCQ4.out.grown hg4 (by simp;omega);have hgr5:w.grownBy w4 (some gx):=zmz HGR4.out hg4 hgz4;have HCZ:=zHd hcz4;have HCQ:=zHd hcq5;have HGR:=zHd hgr5;clear hcz4 hcq5 hgr5 hc4 hg4 hcell3 hfree3;go_wp2
   go_roundw
   case rel=>exact⟨j+1,k,_,_,by go_num,by have:=HJK.out;omega,HST.out,HCZ.out,HCQ.out,HGR.out⟩
   case measure=>simp[intOf];omega
  | zero =>
   obtain⟨hf1,hf2⟩:=zI.fin;have hzb:zaF B wr (.slice (some ⟨gz,0,none⟩) zs.length cap) zs:=zaF.of_cells hcz hgzB (by rw[zqag,zaC];have:=HSPL.out;omega) (by unfold maxLen;omega) (by rw[List.take_append_of_le_length (by rw[zaC];exact zqab _),zqaf (by rw[zaC];exact zqab _)]) (by omega);have htr:=zlf B gz cap zs wr hzb (by omega);rw[hzl] at htr;have hqb:zaF 0 wr (.slice (some ⟨w.heap.size,0,none⟩) qs.length n) qs:=zaF.of_cells hcq (zqaw _) (by rw[zaC,hql];exact HNN.out) (by unfold maxLen;omega) (by rw[zqaf (by rw[zaC];exact zqab _)]) (by have:=HNN.out;omega);have HT:=zHd htr;have HF1:=zHd hf1;have HF2:=zHd hf2;have HZB:=zHd hzb;have HQB:=zHd hqb;have HGR:=zHd hgr;have zi:=zHd zI;have HZL:=zHd hzl;have HCZ:=zHd hcz;have hjn:¬ ((j:Int)<(n:Int)):=by omega
   have hqln:qs.length=n:=by rw[hql];exact HNN.out
   have HQL:=zHd hqln;clear hf1 hf2 hzb htr hqb hgr zI hcz hcq hzl hql hqln hjk;go_wp2_with fail;refine HT.out.mono ?_;rintro e w3 ⟨t,ht,rfl,rfl,hv',ht'⟩;have htl:(zs.take t).length=t:=by rw[zqan];omega
   have HOK:Hid (zqg B gx gy xs ys w wr (.slice (some ⟨w.heap.size,0,none⟩) n n) qs gz cap (zs.take t)):=by
    have hzl:=HZL.out;refine⟨by have:=HQB.out;rw[HQL.out] at this;exact this,zi.out.qlt,HF1.out,by rw[HQL.out];have:=HNN.out;omega,?_,hgz2,fun z hz=>zi.out.zlt z (zqau hz),by rw[hv'];exact HF2.out,ht',by rw[htl];omega,HGR.out⟩;refine zaF.of_cells HCZ.out hgzB (by rw[zqag,zaC];have:=HSPL.out;omega) (by unfold maxLen;omega) ?_ (by rw[htl];omega);rw[htl,List.take_append_of_le_length (by rw[zaC];exact ht),znU]
   have HTL:=zHd htl;clear hv' ht' htl;go_wp2;go_ret2;exact⟨_,qs,gz,cap,zs.take t,by rw[HTL.out];rfl,HOK.out⟩
open Go.RowKit
def ziE (xs:List Nat)(i:Int):Nat:=zcm xs (i-1)*1000000000+zcm xs (i-2)
def zli {xs:List Nat}(hx:∀ x∈xs,x<1000000000)(i:Int):zcm xs i<1000000000:=by
 unfold zcm;split;decide;exact zaY 1000000000 (by decide) xs hx _
def znY {xs:List Nat}(hx:∀ x∈xs,x<1000000000)(i:Int):ziE xs i<1000000000000000000:=by
 unfold ziE;have h1:=zli hx (i-1);have h2:=zli hx (i-2);omega
def znZ (w:World)(v:Value)(xs:List Nat)(i:Int)(h:zgx w v xs)(hx:∀ x∈xs,x<1000000000)(hn:xs.length<=10000)(hi:0<=i)(hi2:i<=10000) :
  Calls prog 257 #[v,.int .i64 i] w fun e w'=>e=.returned (.int .u64 (ziE xs i:Nat))/\w=w':=by
 have b1:=zeS w v xs (i-1) h (by omega) (by omega) (by omega);have b2:=zeS w v xs (i-2) h (by omega) (by omega) (by omega);have l1:=zli hx (i-1);have l2:=zli hx (i-2);have hT:ziE xs i=zcm xs (i-1)*1000000000+zcm xs (i-2):=rfl;generalize zcm xs (i-1)=p at *;generalize zcm xs (i-2)=q at *;have n1:IntKind.i64.wrap (i-1)=i-1:=by rw[zqah];omega
 have n2:IntKind.i64.wrap (i-2)=i-2:=by rw[zqah];omega
 obtain⟨t,ht⟩:∃ t,p*1000000000=t:=⟨_,rfl⟩;obtain⟨T,hTT⟩:∃ T,ziE xs i=T:=⟨_,rfl⟩;rw[hTT];have n3:IntKind.u64.wrap ((p:Int)*1000000000)=(t:Int):=by rw[IntKind.wrap_u64];omega
 have n4:IntKind.u64.wrap ((t:Int)+(q:Int))=(T:Int):=by rw[IntKind.wrap_u64];omega
 clear hTT ht l1 l2;have B1:=zHd b1;have B2:=zHd b2;clear b1 b2 h hT;go_enter func257,ntmps257;go_wp2_with fail;refine B1.out.mono ?_;rintro e w' ⟨rfl,rfl⟩;go_wp2_with fail;refine B2.out.mono ?_;rintro e w' ⟨rfl,rfl⟩;exact zQaB
def stV (a b c d:Nat)(sw:Bool):Array Value:=#[.int .u64 (a:Int),.int .u64 (b:Int),.int .u64 (c:Int),.int .u64 (d:Int),.bool sw]
def zbB (w:World)(g a b c d:Nat)(sw:Bool):Prop:=w.heap[g]?=some (.cells (stV a b c d sw) 235 (0,0))
structure zCL (w:World)(g a b c d:Nat)(sw:Bool):Prop where
 c0:w.cell? ⟨g,0,none⟩=some (.int .u64 (a:Int))
 c1:w.cell? ⟨g,1,none⟩=some (.int .u64 (b:Int))
 c2:w.cell? ⟨g,2,none⟩=some (.int .u64 (c:Int))
 c3:w.cell? ⟨g,3,none⟩=some (.int .u64 (d:Int))
 c4:w.cell? ⟨g,4,none⟩=some (.bool sw)
 f0:w.frozen? ⟨g,0,none⟩=false
 f1:w.frozen? ⟨g,1,none⟩=false
 f2:w.frozen? ⟨g,2,none⟩=false
 f3:w.frozen? ⟨g,3,none⟩=false
 f4:w.frozen? ⟨g,4,none⟩=false
def zbB.cells {w:World}{g a b c d:Nat}{sw:Bool}(h:zbB w g a b c d sw):zCL w g a b c d sw :=
 ⟨by rw[zqbw w g 0 _ _ (0,0) h];rfl,by rw[zqbw w g 1 _ _ (0,0) h];rfl,by rw[zqbw w g 2 _ _ (0,0) h];rfl,by rw[zqbw w g 3 _ _ (0,0) h];rfl,by rw[zqbw w g 4 _ _ (0,0) h];rfl,
  zqbx w g 0 _ _ h,zqbx w g 1 _ _ h,zqbx w g 2 _ _ h,zqbx w g 3 _ _ h,zqbx w g 4 _ _ h⟩
def zbB.drewN {w:World}{g a b c d:Nat}{sw:Bool}(h:zbB w g a b c d sw)(n:Nat):zbB (w.drewN n) g a b c d sw:=h
def zbB.set0 {w:World}{g a b c d:Nat}{sw:Bool}(h:zbB w g a b c d sw)(n:Nat):zbB (w.setCell ⟨g,0,none⟩ (.int .u64 (n:Int))) g n b c d sw:=heap_setCell_same w g 0 _ _ _ h
def zbB.set1 {w:World}{g a b c d:Nat}{sw:Bool}(h:zbB w g a b c d sw)(n:Nat):zbB (w.setCell ⟨g,1,none⟩ (.int .u64 (n:Int))) g a n c d sw:=heap_setCell_same w g 1 _ _ _ h
def zbB.set2 {w:World}{g a b c d:Nat}{sw:Bool}(h:zbB w g a b c d sw)(n:Nat):zbB (w.setCell ⟨g,2,none⟩ (.int .u64 (n:Int))) g a b n d sw:=heap_setCell_same w g 2 _ _ _ h
def zbB.set3 {w:World}{g a b c d:Nat}{sw:Bool}(h:zbB w g a b c d sw)(n:Nat):zbB (w.setCell ⟨g,3,none⟩ (.int .u64 (n:Int))) g a b c n sw:=heap_setCell_same w g 3 _ _ _ h
def zbB.set4 {w:World}{g a b c d:Nat}{sw:Bool}(h:zbB w g a b c d sw)(n:Bool):zbB (w.setCell ⟨g,4,none⟩ (.bool n)) g a b c d n:=heap_setCell_same w g 4 _ _ _ h
def zeH {w wr w':World}{u0 u1 u2 u3 u4:Value}(h:w.grownBy wr none)(k:wr.grownBy w' none) :
  w.grownBy (((((w'.setCell ⟨w.heap.size,0,none⟩ u0).setCell ⟨w.heap.size,1,none⟩ u1).setCell ⟨w.heap.size,2,none⟩ u2).setCell ⟨w.heap.size,3,none⟩ u3).setCell ⟨w.heap.size,4,none⟩ u4) none :=
 zak (zak (zak (zak (zak (zaa h k) (zac _ _ _) (zqab _)) (zac _ _ _) (zqab _)) (zac _ _ _) (zqab _)) (zac _ _ _) (zqab _)) (zac _ _ _) (zqab _)
def zGy (hx hy:Nat)(w:World)(e:Ending)(w':World):Prop :=
 ∃ x y a b c d ee f sw,e=.returned (.agg (stV a b c d sw))/\ziC hx hy x y a b c d ee f sw/\w.grownBy w' none
def zxI (hx hy:Nat)(w:World)(h1:hx<1000000000000000000)(h2:hy<1000000000000000000) :
  Calls prog 268 #[.int .u64 (hx:Int),.int .u64 (hy:Int)] w (zGy hx hy w):=by
 have h1':=zHd (zAI h1 h2);have H18:=h1;clear h1 h2;go_enter func268,ntmps268;go_wp2;go_wp2;go_wp2
 go_loopw [0,1,5,6] (fun xv yv ev fv wr=>∃ (x y a b c d ee f:Nat) (sw:Bool),xv=.int .u64 (x:Int)/\yv=.int .u64 (y:Int)/\ev=.int .u64 (ee:Int)/\fv=.int .u64 (f:Int)/\ziC hx hy x y a b c d ee f sw/\zbB wr w.heap.size a b c d sw/\w.grownBy wr none/\y<1000000000000000000) (fun _ yv _ _ _=>(intOf yv).toNat)
 case atStart =>
  refine⟨hx,hy,0,1,0,0,0,1,true,rfl,rfl,rfl,rfl,zzZ hx hy,?_,?_,h1'.out.2⟩
  ·show(w.heap.push _)[w.heap.size]?=_
   rw[zqaz];rfl
  exact zGA _ _ _
 case round =>
  obtain⟨x,y,a,b,c,d,ee,f,sw,rfl,rfl,rfl,rfl,hf,hst,hg,hyx⟩:=hrel;obtain⟨k0,k1,k2,k3,k4,z0,z1,z2,z3,z4⟩:=hst.cells;have hfh:=hf.fh;have hdl:=hf.dl
  by_cases t1:f<=y
  ·have hy0:¬ (y:Int)=0:=by have:=hf.f1;omega
   obtain⟨s1,hs1⟩:∃ s1,y+d=s1:=⟨_,rfl⟩;obtain⟨s2,hs2⟩:∃ s2,s1+f=s2:=⟨_,rfl⟩;have n1:IntKind.u64.wrap ((y:Int)+(d:Int))=(s1:Int):=by rw[IntKind.wrap_u64];omega
   have n2:IntKind.u64.wrap ((s1:Int)+(f:Int))=(s2:Int):=by rw[IntKind.wrap_u64];omega
   have b1:decide ((f:Int)<=(y:Int))=true:=by simpa using t1
   have b1n:decide (f<=y)=true:=by simpa using t1
   have HF:=zHd hf;have HST:=zHd hst;have HG:=zHd hg;have HS:=zHd (zAI hs1 hs2);have HR:=zHd (zAI hfh (zAI hdl (zAI hyx t1)));clear hf hst hg hs1 hs2 hfh hdl hyx t1
   by_cases t2:s2<=x
   ·have b2:decide (s2<=x)=true:=by simpa using t2
    have b3:decide ((s2:Int)<=(x:Int))=true:=(by simpa using t2);obtain⟨hs1,hs2⟩:=HS.out;obtain⟨hfh,hdl,hyx,t1⟩:=HR.out;obtain⟨zS',hlt,hfb⟩:=HF.out.step H18 t1 (by omega);have hq1:=zS'.fh;have hef:=zS'.ef;obtain⟨q,hq⟩:∃ q,x/y=q:=⟨_,rfl⟩;obtain⟨r,hr⟩:∃ r,x%y=r:=⟨_,rfl⟩;rw[hq,hr] at zS';rw[hq] at hq1 hef;rw[hr] at hlt;have hxx:=HF.out.whole
    have m0:IntKind.u64.wrap ((x:Int)/(y:Int))=(q:Int):=by
     have hqx:q<=x:=by rw[<- hq];exact Nat.div_le_self x y
     have hx18:x<=hx:=by
      have h1:=Nat.mul_le_mul_right x HF.out.f1;omega
     rw[<- Int.natCast_ediv,hq,IntKind.wrap_u64];omega
    have m1:IntKind.u64.wrap ((x:Int)%(y:Int))=(r:Int):=by
     rw[<- Int.natCast_emod,hr,IntKind.wrap_u64];omega
    obtain⟨p1,hp1⟩:∃ p1,q*ee=p1:=⟨_,rfl⟩;obtain⟨p2,hp2⟩:∃ p2,b+p1=p2:=⟨_,rfl⟩;obtain⟨p3,hp3⟩:∃ p3,q*f=p3:=⟨_,rfl⟩;obtain⟨p4,hp4⟩:∃ p4,d+p3=p4:=⟨_,rfl⟩;rw[hp3,hp4] at hq1;rw[hp1,hp2,hp3,hp4] at hef zS';have m2:IntKind.u64.wrap ((q:Int)*(ee:Int))=(p1:Int):=(by rw[<- Int.natCast_mul,hp1,IntKind.wrap_u64];omega);have m3:IntKind.u64.wrap ((b:Int)+(p1:Int))=(p2:Int):=(by rw[IntKind.wrap_u64];omega);have m4:IntKind.u64.wrap ((q:Int)*(f:Int))=(p3:Int):=(by rw[<- Int.natCast_mul,hp3,IntKind.wrap_u64];omega);have m5:IntKind.u64.wrap ((d:Int)+(p3:Int))=(p4:Int):=(by rw[IntKind.wrap_u64];omega);have HSt:=zHd (zAI zS' hlt);have HQ:=zHd (zAI hq hr);clear t2 hs1 hs2 hfh hdl hyx t1 zS' hlt hfb hq1 hef hq hr hxx hp1 hp2 hp3 hp4;go_wp2
    go_quiet (fail)
    go_wp2;have e1:((x:Int)%(y:Int))=(r:Int):=(by rw[<- Int.natCast_emod,HQ.out.2]);obtain⟨hst2,hlt2⟩:=HSt.out;have hr18:r<1000000000000000000:=(by have:=HR.out.2.2.1;omega);refine⟨⟨y,r,b,ee,d,f,p2,p4,!sw,rfl,by rw[e1],rfl,rfl,hst2,?_,?_,hr18⟩,by rw[e1];simpa [intOf] using hlt2⟩;exact(((((zbB.drewN HST.out _).set0 b).set1 ee).set2 d).set3 f).set4 (!sw);exact zeH HG.out (zcg wr none _)
   have b2:decide (s2<=x)=false:=by simpa using t2
   have b3:decide ((s2:Int)<=(x:Int))=false:=(by simpa using t2);clear t2;go_wp2;refine zqby (v:=.agg (stV a b c d sw)) ?_ rfl ⟨x,y,a,b,c,d,ee,f,sw,rfl,HF.out,?_⟩
   ·simp[results,results268,go_sem,k0,k1,k2,k3,k4,stV]
   exact zeH HG.out (zae wr none)
  have b1:decide ((f:Int)<=(y:Int))=false:=by simpa using t1
  have b1n:decide (f<=y)=false:=by simpa using t1
  have HF:=zHd hf;have HST:=zHd hst;have HG:=zHd hg;clear hf hst hg hfh hdl hyx t1;go_wp2;refine zqby (v:=.agg (stV a b c d sw)) ?_ rfl ⟨x,y,a,b,c,d,ee,f,sw,rfl,HF.out,?_⟩
  ·simp[results,results268,go_sem,k0,k1,k2,k3,k4,stV]
  exact zeH HG.out (zae wr none)
open Go.RowKit
def zJR (R n:Nat)(w:World)(e:Ending)(w':World):Prop :=
 ∃ g zs,e=.returned (.slice (some ⟨g,0,none⟩) zs.length n)/\zaF w.heap.size w' (.slice (some ⟨g,0,none⟩) zs.length n) zs /\
  (∀ z∈zs,z<1000000000)/\vl 1000000000 zs=R/\zcx zs/\zs.length<=n/\w.grownBy w' none
structure zqh (f g:Nat)(xs ys:List Nat)(n k:Nat)(w wr:World):Prop where
 row:zaJ wr w.heap.size (uv ((dif f g xs ys k).1++List.replicate (n-k) 0))
 gr:w.grownBy wr none
def zqh.put {f g:Nat}{xs ys:List Nat}{n k:Nat}{w wr:World}(h:zqh f g xs ys n k w wr)(hk:k<n)(hl:(dif f g xs ys k).1.length=k){z:Nat}(hz:(dif f g xs ys (k+1)).1=(dif f g xs ys k).1++[z]) :
  zqh f g xs ys n (k+1) w (wr.setCell ⟨w.heap.size,k,none⟩ (.int .u64 (z:Int))):=by
 refine⟨?_,zak h.gr (zac _ _ _) (zqab _)⟩;have h1:=h.row.set k (.int .u64 (z:Int));rw[zqd] at h1
 have e:((dif f g xs ys k).1++List.replicate (n-k) 0).set k z=(dif f g xs ys (k+1)).1++List.replicate (n-(k+1)) 0:=by
  rw[hz,List.set_append_right _ _ (by omega),hl,zqbr,show n-k=(n-(k+1))+1 by omega,List.replicate_succ,List.set_cons_zero,zqbj];rfl
 rw[e] at h1;exact h1
def zrS (f g n R:Nat)(A1 A2:Option Addr)(c1 c2:Nat)(xs ys:List Nat)(w:World)(hsx:∀ w1,w.grownBy w1 none->zgx w1 (.slice A1 xs.length c1) xs)(hsy:∀ w1,w.grownBy w1 none->zgx w1 (.slice A2 ys.length c2) ys)
  (hf:f<=1000000000) (hg:g<=1000000000) (hx:∀ x∈xs,x<1000000000) (hy:∀ y∈ys,y<1000000000) (hm:max xs.length ys.length=n) (hn:n<=10000)
  (hR:R+g*vl 1000000000 ys=f*vl 1000000000 xs) (hlt:R<1000000000 ^ n) :
  Calls prog 269 #[.slice A1 xs.length c1,.int .u64 (f:Int),.slice A2 ys.length c2,.int .u64 (g:Int)] w (zJR R n w):=by
 obtain⟨i0,hi,hz0,hz1,hz2⟩:=info_parts zjo;have hend:=zJG (n:=n) hf hg hx hy (by omega) (by omega) hR hlt;have hb1:=fun(w1:World) (k:Nat) (hk:k<n) (h:w.grownBy w1 none)=>zeS w1 _ xs (k:Int) (hsx w1 h) (by omega) (by omega) (by omega);have hb2:=fun(w1:World) (k:Nat) (hk:k<n) (h:w.grownBy w1 none)=>zeS w1 _ ys (k:Int) (hsy w1 h) (by omega) (by omega) (by omega);have hd:=zva hf hg hx hy;have hrange:=fun k=>zpX hf hg hx hy k (hd k).lo (hd k).hi;have HE:=zHd hend;have HB1:=zHd hb1;have HB2:=zHd hb2;have HD:=zHd hd;have HR:=zHd hrange;have HM:=zHd hm;have HN:=zHd hn;have HF:=zHd (zAI hf hg);clear hend hb1 hb2 hd hrange hsx hsy hx hy hR hlt hm hn hf hg;rcases Nat.lt_or_ge xs.length ys.length with hxy|hxy
 all_goals
  go_enter func269,ntmps269;go_wp2_with (at_make;refine wpList_make_full _ rfl _ _ 212 rfl w.heap.size 158 i0 (.int .u64 0) 1 underlying212 hi hz0 hz1 _ _ _ _ n rfl rfl ?c0 ?c1 ?c2 (by have:=HN.out;unfold maxLen;omega) (zqab _) ?_)
  case c0=>have:=HM.out;omega
  case c1=>have:=HM.out;omega
  case c2=>have:=HN.out;first|omega|(rw[hz2];omega)
  intro w1 zO hgr;rw[zfC] at zO;have hc0:=(zaJ.of_full zO).1;have HG:=zHd hgr;have HC0:=zHd hc0;clear zO hgr hc0;go_wp2
  go_loopw [10,21] (fun cv iv wr=>∃ k:Nat,cv=.int .i64 (dif f g xs ys k).2/\iv=.int .i64 (k:Int)/\k<=n/\zqh f g xs ys n k w wr) (fun _ iv _=>n-(intOf iv).toNat)
  case atStart=>exact⟨0,rfl,rfl,zqaw _,⟨by simpa [dif] using HC0.out,HG.out⟩⟩
  case round =>
   obtain⟨k,rfl,rfl,hk,zW⟩:=hrel
   by_cases hkn:k<n
   ·have t1:decide (k<n)=true:=by simpa using hkn
    have t1':decide ((k:Int)<(n:Int))=true:=(by simpa using hkn);obtain⟨r1,r2,r3,r4⟩:=HR.out k;have hb1:=HB1.out wr k hkn zW.gr;have hb2:=HB2.out wr k hkn zW.gr;have ea:zcm xs (k:Int)=xs.getD k 0:=(by unfold zcm;rw[if_neg (by omega)];rfl);have eb:zcm ys (k:Int)=ys.getD k 0:=(by unfold zcm;rw[if_neg (by omega)];rfl);rw[ea] at hb1;rw[eb] at hb2;have hS:zed f g xs ys k (dif f g xs ys k).2=(dif f g xs ys k).2+(((f*xs.getD k 0:Nat):Int)-((g*ys.getD k 0:Nat):Int)):=rfl;have hnext:(dif f g xs ys (k+1)).1=(dif f g xs ys k).1++[(zed f g xs ys k (dif f g xs ys k).2%1000000000).toNat]:=rfl;have hnext2:(dif f g xs ys (k+1)).2=zed f g xs ys k (dif f g xs ys k).2/1000000000:=rfl;have hlow:=zCA (zed f g xs ys k (dif f g xs ys k).2);have zN:=(HD.out k).len;have hlo:=(HD.out k).lo;have hhi:=(HD.out k).hi;have hm0:=Int.emod_nonneg (zed f g xs ys k (dif f g xs ys k).2) (show(1000000000:Int)≠0 by decide);have hm1:=Int.emod_lt_of_pos (zed f g xs ys k (dif f g xs ys k).2) (show(0:Int)<1000000000 by decide);generalize zed f g xs ys k (dif f g xs ys k).2=S at *;obtain⟨c,hc⟩:∃ c,(dif f g xs ys k).2=c:=⟨_,rfl⟩;rw[hc] at hS hlo hhi ⊢;generalize xs.getD k 0=x at *;generalize ys.getD k 0=y at *;obtain⟨p,hp⟩:∃ p,f*x=p:=⟨_,rfl⟩;obtain⟨q,hq⟩:∃ q,g*y=q:=⟨_,rfl⟩;rw[hp] at r1 hS;rw[hq] at r2 hS;have n1:IntKind.u64.wrap ((f:Int)*(x:Int))=(p:Int):=(by rw[<- Int.natCast_mul,hp,IntKind.wrap_u64];omega);have n2:IntKind.u64.wrap ((g:Int)*(y:Int))=(q:Int):=(by rw[<- Int.natCast_mul,hq,IntKind.wrap_u64];omega);have n3:IntKind.i64.wrap (p:Int)=(p:Int):=(by rw[zqah];omega);have n4:IntKind.i64.wrap (q:Int)=(q:Int):=(by rw[zqah];omega);obtain⟨u,hu⟩:∃ u:Int,(p:Int)-(q:Int)=u:=⟨_,rfl⟩;have n5:IntKind.i64.wrap ((p:Int)-(q:Int))=u:=(by rw[zqah];omega);have n6:IntKind.i64.wrap (c+u)=S:=(by rw[zqah];omega);have n7:IntKind.i64.wrap ((k:Int)+1)=((k+1:Nat):Int):=(by have:=HN.out;rw[zqah];omega);have hik:(k:Int)<(n:Int):=(by omega);have hfree:=zW.row.free k
    have zE:wr.cell? ⟨w.heap.size,k,none⟩=some (.int .u64 0):=by
     rw[zW.row.cell,zcb,zqaq (by rw[zaC];omega),zaC,zN,zqbr,show n-k=(n-(k+1))+1 by omega];rfl
    have HROW:=zHd zW;have HX:=zHd (zAI hlow (zAI zN (zAI hm0 hm1)));have HNX:=zHd (zAI hnext hnext2);have HS:=zHd (zAI r3 (zAI r4 (zAI hkn hk)));clear zW hnext hnext2 zN hm0 hm1 r1 r2 r3 r4 hS hlo hhi hp hq hu ea eb hkn hk hc;rcases hlow with⟨l1,l2,l3⟩|⟨l1,l2,l3⟩
    ·obtain⟨L,hL⟩:∃ L,Int.tmod S 1000000000=L:=⟨_,rfl⟩
     obtain⟨Q,hQ⟩:∃ Q,Int.tdiv S 1000000000=Q:=⟨_,rfl⟩;obtain⟨r3,r4,hkn,hk⟩:=HS.out;obtain⟨_,zN,hm0,hm1⟩:=HX.out;rw[hL] at l1 l2;rw[hQ] at l3;obtain⟨z,hz⟩:∃ z:Nat,S%1000000000=(z:Int):=⟨(S%1000000000).toNat,(Int.toNat_of_nonneg hm0).symm⟩;have m1:IntKind.i64.wrap (Int.tmod S 1000000000)=L:=(by rw[hL,zqah];omega);have m2:IntKind.i64.wrap (Int.tdiv S 1000000000)=Q:=(by rw[hQ,zqah];omega);have m3:IntKind.i64.wrap (L+1000000000)=(z:Int):=(by rw[zqah];omega);have m4:IntKind.i64.wrap (Q-1)=S/1000000000:=(by rw[zqah];omega);have m5:IntKind.u64.wrap (z:Int)=(z:Int):=(by rw[IntKind.wrap_u64];omega);have t2:decide (L<0)=true:=(by simpa using l1);have t2':decide (S.tmod 1000000000<0)=true:=(by rw[hL];exact t2);have HZ:=zHd hz;clear r3 r4 hkn hk zN hm0 hm1 l1 l2 l3 hL hQ hz;go_wp2_with fail;refine hb1.mono ?_;rintro e w' ⟨rfl,rfl⟩;go_wp2_with fail;refine hb2.mono ?_;rintro e w' ⟨rfl,rfl⟩;clear hb1 hb2;go_wp2;have ez:S.tmod 1000000000+1000000000=(z:Int):=(by have:=HX.out.1;have:=HZ.out;have:=of_decide_eq_true t2';omega);obtain⟨_,_,hkn,hk⟩:=HS.out;refine⟨⟨k+1,by rw[HNX.out.2],rfl,hkn,?_⟩,by simp[intOf];omega⟩;rw[ez];exact HROW.out.put hkn (HX.out.2.1) (by rw[HNX.out.1,HZ.out];rfl)
    obtain⟨L,hL⟩:∃ L,Int.tmod S 1000000000=L:=⟨_,rfl⟩;obtain⟨Q,hQ⟩:∃ Q,Int.tdiv S 1000000000=Q:=⟨_,rfl⟩;obtain⟨r3,r4,hkn,hk⟩:=HS.out;obtain⟨_,zN,hm0,hm1⟩:=HX.out;rw[hL] at l1 l2;rw[hQ] at l3;obtain⟨z,hz⟩:∃ z:Nat,S%1000000000=(z:Int):=⟨(S%1000000000).toNat,(Int.toNat_of_nonneg hm0).symm⟩;have m1:IntKind.i64.wrap (Int.tmod S 1000000000)=L:=(by rw[hL,zqah];omega);have m2:IntKind.i64.wrap (Int.tdiv S 1000000000)=Q:=(by rw[hQ,zqah];omega);have m5:IntKind.u64.wrap L=L:=(by rw[IntKind.wrap_u64];omega);have t2:decide (L<0)=false:=(by simpa using l1);have t2':decide (S.tmod 1000000000<0)=false:=(by rw[hL];exact t2);have eQ:Q=S/1000000000:=l3.symm;have eL:L=(z:Int):=(by omega);have HZ:=zHd (zAI hz (zAI eQ (zAI eL (zAI hL hQ))));clear r3 r4 hkn hk zN hm0 hm1 l1 l2 l3 hL hQ hz eQ eL;go_wp2_with fail;refine hb1.mono ?_;rintro e w' ⟨rfl,rfl⟩;go_wp2_with fail;refine hb2.mono ?_;rintro e w' ⟨rfl,rfl⟩;clear hb1 hb2;go_wp2;obtain⟨hz,eQ,eL,hL,hQ⟩:=HZ.out;have ez:S.tmod 1000000000=(z:Int):=(by rw[hL,eL]);have ez2:IntKind.u64.wrap (S.tmod 1000000000)=(z:Int):=(by rw[hL,m5,eL]);obtain⟨_,_,hkn,hk⟩:=HS.out;refine⟨⟨k+1,by rw[HNX.out.2,eQ],rfl,hkn,?_⟩,by simp[intOf];omega⟩
    first|rw[ez2]|rw[ez]
    exact HROW.out.put hkn (HX.out.2.1) (by rw[HNX.out.1,hz];rfl)
   obtain rfl:k=n:=by omega
   have t1:decide (k<k)=false:=(by simp);have t1':decide ((k:Int)<(k:Int))=false:=(by simp);have hc:=zW.row;rw[zqbr,List.replicate_zero,List.append_nil] at hc;have zN:=(HD.out k).len
   have hblk:zaF w.heap.size wr (.slice (some ⟨w.heap.size,0,none⟩) (dif f g xs ys k).1.length k) (dif f g xs ys k).1 :=
    zaF.of_cells hc (zqab _) (by rw[zaC,zN]) (by have:=HN.out;unfold maxLen;omega) (by rw[zqaf (by rw[zaC];exact zqab _)]) (by omega)
   have htr:=zlf w.heap.size w.heap.size k (dif f g xs ys k).1 wr hblk (by have:=HN.out;omega);rw[zN] at htr;have HROW:=zHd zW;have HBLK:=zHd hblk;have HL:=zHd zN;have HTR:=zHd htr;clear zW hblk zN hc hk hkn htr;go_wp2_with fail;refine HTR.out.mono ?_;rintro e w' ⟨m,hm,rfl,rfl,hv,ht⟩;have HP:=zHd (zAI hm (zAI hv ht));clear hm hv ht;go_wp2;go_ret;obtain⟨hm,hv,ht⟩:=HP.out;have zN:=HL.out;have hl2:((dif f g xs ys k).1.take m).length=m:=(by rw[zqan];omega);refine⟨w.heap.size,(dif f g xs ys k).1.take m,by rw[hl2];rfl,?_,fun z hz=>(HD.out k).lt z (zqau hz),by rw[hv];exact HE.out,ht,by rw[hl2,<- zN];exact hm,HROW.out.gr⟩;have hc:=HROW.out.row;rw[zqbr,List.replicate_zero,List.append_nil] at hc;exact zaF.of_cells hc (zqab _) (by rw[zaC,zN]) (by have:=HN.out;unfold maxLen;omega) (by rw[znU,hl2]) (by rw[hl2,<- zN];exact hm)
end Go.Proofs.YtiblmbpfcmcccaaGreatDoor
