/- WE03 -/
import Derived.Test.YtaogepcaoogpgaaGreatDoorKE02
import Derived.Test.YtaogepcaoogpgaaGreatDoorRows
import Derived.Deep.AppendLies
import Derived.WalkSpells
import Derived.WalkLawsBesides
import Derived.BigQuiet
set_option linter.unusedVariables false
set_option linter.unusedSimpArgs false
set_option maxRecDepth 100000
set_option maxHeartbeats 16000000
namespace Go.Proofs.YtaogepcaoogpgaaGreatDoor
open Go.RowKit
def uv (xs:List Nat):List Value:=xs.map fun n:Nat=>Value.int .u64 (n:Int)
theorem zas (xs:List Nat):(uv xs).length=xs.length:=by simp[uv]
theorem zbr (xs ys:List Nat):uv (xs++ys)=uv xs++uv ys:=by simp[uv]
theorem zgV (xs:List Nat)(k:Nat)(h:k<xs.length):(uv xs)[k]? = some (.int .u64 (xs.getD k 0:Nat)):=by
 unfold uv;rw[List.getElem?_map,List.getD_eq_getElem?_getD,List.getElem?_eq_getElem h];rfl
def Blks (B:Nat)(w:World)(v:Value)(xs:List Nat):Prop:=w.ownsRow B 181 1 v xs.length (uv xs)
section
variable {B B':Nat} {w w':World} {v:Value} {xs:List Nat}
theorem Blks.keep (h:Blks B w v xs)(hk:∀ g,v.ownBlock=some g→w'.heap[g]? = w.heap[g]?):Blks B w' v xs:=by
 refine⟨h.1,?_⟩;rcases h.2 with hn|⟨g,cap,cur,rfl,hb,hgg,rest⟩
 ·exact .inl hn
 ·exact .inr ⟨g,cap,cur,rfl,hb,(hk g rfl).trans hgg,rest⟩
theorem Blks.base (h:Blks B w v xs)(hB:B'≤B):Blks B' w v xs:=by
 refine⟨h.1,?_⟩;rcases h.2 with hn|⟨g,cap,cur,rfl,hb,rest⟩
 ·exact .inl hn
 ·exact .inr ⟨g,cap,cur,rfl,by omega,rest⟩
theorem Blks.lt (h:Blks B w v xs):∀ g,v.ownBlock=some g→B≤g∧g<w.heap.size:=World.ownsRow.lt h
theorem Blks.form (h:Blks B w v xs):(v = .slice none 0 0∧xs=[]) ∨
  ∃ g cap cur,v = .slice (some ⟨g,0,none⟩) xs.length cap∧B≤g∧w.heap[g]? = some (.cells cur 181 (0,0))∧xs.length≤cap∧cap≤maxLen∧cur.size=cap∧cur.toList.take xs.length=uv xs:=by
 rcases h.2 with⟨hv,hn⟩|⟨g,cap,cur,rfl,hb,hg,hc,hm,hs,ht⟩
 ·exact .inl ⟨hv,List.eq_nil_of_length_eq_zero hn⟩
 ·rw[Nat.mul_one] at hs ht
  exact .inr ⟨g,cap,cur,rfl,hb,hg,hc,hm,hs,ht⟩
theorem Blks.mk {g cap:Nat}{cur:Array Value}(hb:B≤g)(hg:w.heap[g]? = some (.cells cur 181 (0,0)))(hc:xs.length≤cap)(hm:cap≤maxLen)(hs:cur.size=cap)(ht:cur.toList.take xs.length=uv xs):Blks B w (.slice (some ⟨g,0,none⟩) xs.length cap) xs :=
 ⟨by rw[zas,Nat.mul_one],.inr ⟨g,cap,cur,rfl,hb,hg,hc,hm,by rw[Nat.mul_one];exact hs,by rw[Nat.mul_one];exact ht⟩⟩
theorem zmL (h:Blks B w v xs):∃ A cap,v = .slice A xs.length cap∧True:=by
 rcases h.form with⟨rfl,rfl⟩|⟨g,cap,cur,rfl,_⟩
 ·exact⟨none,0,rfl,trivial⟩
 ·exact⟨_,_,rfl,trivial⟩
theorem Blks.grown {row:Option Nat}(h:Blks B w v xs)(hg:w.grownBy w' row)(hr:∀ g,v.ownBlock=some g→some g≠row):Blks B w' v xs :=
 h.keep fun g e=>hg.block g (h.lt g e).2 (hr g e)
end
theorem zfA {w:World}{g k:Nat}{cur:Array Value}{e:TypeId}(h:w.heap[g]? = some (.cells cur e (0,0))):w.cell? ⟨g,k,none⟩=cur[k]? := cell_of_row w g k cur e (0,0) h
theorem take_at {cur:Array Value}{xs:List Nat}(ht:cur.toList.take xs.length=uv xs)(k:Nat)(hk:k<xs.length):cur[k]? = some (.int .u64 (xs.getD k 0:Nat)):=by
 rw[← zgV xs k hk,← ht,List.getElem?_take,if_pos hk];simp
theorem zaa {a b c:World}{r:Option Nat}(h:a.grownBy b r)(k:b.grownBy c r):a.grownBy c r :=
 ⟨k.os.trans h.os,k.tape.trans h.tape,k.output.trans h.output,Nat.le_trans h.size k.size,fun i hi hne=>(k.block i (Nat.lt_of_lt_of_le hi h.size) hne).trans (h.block i hi hne)⟩
theorem zag (a:World)(r:Option Nat):a.grownBy a r:=⟨rfl,rfl,rfl,Nat.le_refl _,fun _ _ _=>rfl⟩
theorem zaC {a b:World}{r:Option Nat}(h:a.grownBy b none):a.grownBy b r:=⟨h.os,h.tape,h.output,h.size,fun i hi _=>h.block i hi (by simp)⟩
theorem zac (w:World)(a:Addr)(u:Value):w.grownBy (w.setCell a u) (some a.block) :=
 ⟨rfl,rfl,rfl,by simp[World.setCell],fun k hk hne=>Below.heap_setCell _ _ _ _ (fun e=>hne (by rw[e]))⟩
theorem below_grown {B:Nat}{a b:World}{r:Option Nat}(h:a.grownBy b r)(hB:B≤a.heap.size)(hr:∀ k,r=some k→B≤k):Below B a b:=(Below.refl B a).grown h hB hr
theorem zaI {a b:World}(h:Below a.heap.size a b):a.grownBy b none:=⟨h.os,h.tape,h.output,h.size,fun i hi _=>h.block i hi⟩
theorem zae (a:World)(r:Option Nat):a.grownBy a.drew r:=⟨rfl,rfl,rfl,Nat.le_refl _,fun _ _ _=>rfl⟩
theorem zbv (a:World)(r:Option Nat)(n:Nat):a.grownBy (a.drewN n) r:=⟨rfl,rfl,rfl,Nat.le_refl _,fun _ _ _=>rfl⟩
theorem zai {a b c:World}{r:Option Nat}{g:Nat}(h:a.grownBy b r)(k:b.grownBy c (some g))(hg:a.heap.size≤g):a.grownBy c r :=
 ⟨k.os.trans h.os,k.tape.trans h.tape,k.output.trans h.output,Nat.le_trans h.size k.size,fun i hi hne=>(k.block i (Nat.lt_of_lt_of_le hi h.size) (by simp;omega)).trans (h.block i hi hne)⟩
open Go.RowKit
def One (w:World)(g n:Nat):Prop:=w.heap[g]? = some (.cells #[.int .u64 (n:Int)] 181 (0,0))
def zrB (q:Nat × Nat)(gc:Nat)(w:World)(e:Ending)(w':World):Prop:=e = .returned (.int .u64 (q.2:Nat))∧One w' gc q.1∧w.grownBy w' (some gc)
theorem zoo {a b:Int}(h:a=b):Ending.returned (.int .u64 a) = .returned (.int .u64 b):=by rw[h]
theorem zlV {w:World}{g:Nat}{x:Int}{n:Nat}(h:w.heap[g]? = some (.cells #[.int .u64 x] 181 (0,0)))(e:x=(n:Int)):One w g n:=by rw[e] at h;exact h
theorem zEO (f c a b gc gf:Nat)(w:World)(hf:f≤1000000000)(hc:c≤1000000000)(ha:a<1000000000)(hb:b<1000000000)(hne:gf≠gc)(hgc:One w gc c)(hgf:One w gf f) :
  Calls Tryz.prog 280 #[.int .u64 a,.int .u64 b,.pointer (some ⟨gc,0,none⟩),.pointer (some ⟨gf,0,none⟩)] w (zrB (addT f c a b) gc w):=by
 have hp:=zkS f b hf hb;obtain⟨p,hpe⟩:∃ p,f * b=p:=⟨_,rfl⟩;have hpi:(f:Int) * (b:Int)=(p:Int):=by rw[← hpe];push_cast;rfl
 rw[hpe] at hp;have c1:=cell_of_one hgc;have c2:=cell_of_one hgf;have c3:=free_of_one hgc;have HC:=zHd hgc;clear hgc hgf;go_enter Tryz.func280,Tryz.ntmps280;go_wp2;go_ret;have e1:(addT f c a b).2=(c+(a+p)) % 1000000000:=by unfold addT;rw[hpe]
 have e2:(addT f c a b).1=(c+(a+p)) / 1000000000:=by unfold addT;rw[hpe]
 refine⟨?_,?_,?_⟩
 ·rw[e1];exact zoo (by omega)
 ·rw[e2];exact zlV (one_setCell (one_setCell HC.out)) (by omega)
 ·exact zaa (zac _ _ _) (zac _ _ _)
theorem zEP (f c a b gc gf:Nat)(w:World)(hf:f≤1000000000)(hc:c≤1000000000)(ha:a<1000000000)(hb:b<1000000000)(hne:gf≠gc)(hgc:One w gc c)(hgf:One w gf f) :
  Calls Tryz.prog 272 #[.int .u64 a,.int .u64 b,.pointer (some ⟨gc,0,none⟩),.pointer (some ⟨gf,0,none⟩)] w (zrB (subT f c a b) gc w):=by
 have hp:=zkS f b hf hb;obtain⟨p,hpe⟩:∃ p,f * b=p:=⟨_,rfl⟩;have hpi:(f:Int) * (b:Int)=(p:Int):=by rw[← hpe];push_cast;rfl
 rw[hpe] at hp;have c1:=cell_of_one hgc;have c2:=cell_of_one hgf;have c3:=free_of_one hgc;have HC:=zHd hgc;have HE:=zHd hpe;clear hgc hgf hpe
 by_cases hlt:a<(c+p) % 1000000000
 ·have hlt':(a:Int)<((c:Int)+(p:Int)) % 1000000000:=by omega
  go_enter Tryz.func272,Tryz.ntmps272;go_wp2;go_ret;have e1:(subT f c a b).2=a+1000000000 - (c+p) % 1000000000:=by unfold subT;rw[HE.out,if_pos hlt]
  have e2:(subT f c a b).1=(c+p) / 1000000000+1:=by unfold subT;rw[HE.out,if_pos hlt]
  refine⟨?_,?_,?_⟩
  ·rw[e1];exact zoo (by omega)
  ·rw[e2];exact zlV (one_setCell (one_setCell (one_setCell HC.out))) (by omega)
  ·exact zaa (zaa (zac _ _ _) (zac _ _ _)) (zac _ _ _)
 ·have hlt':¬ (a:Int)<((c:Int)+(p:Int)) % 1000000000:=by omega
  go_enter Tryz.func272,Tryz.ntmps272;go_wp2;go_ret;have e1:(subT f c a b).2=a - (c+p) % 1000000000:=by unfold subT;rw[HE.out,if_neg hlt]
  have e2:(subT f c a b).1=(c+p) / 1000000000:=by unfold subT;rw[HE.out,if_neg hlt]
  refine⟨?_,?_,?_⟩
  ·rw[e1];exact zoo (by omega)
  ·rw[e2];exact zlV (one_setCell (one_setCell HC.out)) (by omega)
  ·exact zaa (zac _ _ _) (zac _ _ _)
open Go.RowKit
def Sees (w:World)(v:Value)(xs:List Nat):Prop:=(v = .slice none 0 0∧xs=[]) ∨
 ∃ g off cap,v = .slice (some ⟨g,off,none⟩) xs.length cap∧∀ k,k<xs.length→w.cell? ⟨g,off+k,none⟩=some (.int .u64 (xs.getD k 0:Nat))
theorem Blks.sees {B:Nat}{w:World}{v:Value}{xs:List Nat}(h:Blks B w v xs):Sees w v xs:=by
 rcases h.form with hn|⟨g,cap,cur,rfl,hb,hg,hc,hm,hs,ht⟩
 ·exact .inl hn
 ·exact .inr ⟨g,0,cap,rfl,fun k hk=>by rw[Nat.zero_add,zfA hg,take_at ht k hk]⟩
def zby (xs:List Nat)(i:Int):Nat:=if i<0 then 0 else xs.getD i.toNat 0
theorem zdo (w:World)(v:Value)(xs:List Nat)(i:Int)(h:Sees w v xs)(hn:xs.length≤1000000)(hi : -1000000≤i)(hi2:i≤1000000) :
  Calls Tryz.prog 282 #[v,.int .i64 i] w fun e w'=>e = .returned (.int .u64 (zby xs i:Nat))∧w=w':=by
 by_cases h0:i<0
 ·have e1:zby xs i=0:=by unfold zby;rw[if_pos h0]
  rw[e1]
  obtain⟨A,cap,rfl⟩:∃ A cap,v = .slice A xs.length cap:=by
   rcases h with⟨rfl,rfl⟩|⟨g,off,cap,rfl,_⟩
   ·exact⟨none,0,rfl⟩
   ·exact⟨_,_,rfl⟩
  clear h e1;go_enter Tryz.func282,Tryz.ntmps282;go_wp2;go_ret;exact⟨rfl,rfl⟩
 ·obtain⟨k,rfl⟩:∃ k:Nat,i=k:=⟨i.toNat,by omega⟩
  have e1:zby xs (k:Int)=xs.getD k 0:=by unfold zby;rw[if_neg h0];rfl
  rw[e1]
  by_cases hk:k<xs.length
  ·rcases h with⟨rfl,rfl⟩|⟨g,off,cap,rfl,hc⟩
   ·exact absurd hk (by simp)
   ·have hcell:=hc k hk
    generalize xs.getD k 0=x at *;clear e1 hc;go_enter Tryz.func282,Tryz.ntmps282;go_wp2;go_ret;exact⟨rfl,rfl⟩
  ·rw[zgQ xs k hk]
   obtain⟨A,cap,rfl⟩:∃ A cap,v = .slice A xs.length cap:=by
    rcases h with⟨rfl,rfl⟩|⟨g,off,cap,rfl,_⟩
    ·exact⟨none,0,rfl⟩
    ·exact⟨_,_,rfl⟩
   clear h e1;go_enter Tryz.func282,Tryz.ntmps282;go_wp2;go_ret;exact⟨rfl,rfl⟩
open Go.RowKit
structure zcO (g h:Nat)(w w':World):Prop where
 os:w'.os=w.os
 tape:w'.tape=w.tape
 output:w'.output=w.output
 size:w.heap.size≤w'.heap.size
 block:∀ k,k<w.heap.size→k≠g→k≠h→w'.heap[k]? = w.heap[k]?
theorem zcO.refl (g h:Nat)(w:World):zcO g h w w:=⟨rfl,rfl,rfl,Nat.le_refl _,fun _ _ _ _=>rfl⟩
theorem zcO.left {g h:Nat}{a b c:World}(k:zcO g h a b)(m:b.grownBy c (some g)):zcO g h a c :=
 ⟨m.os.trans k.os,m.tape.trans k.tape,m.output.trans k.output,Nat.le_trans k.size m.size,fun i hi h1 h2=>(m.block i (Nat.lt_of_lt_of_le hi k.size) (by simpa using h1)).trans (k.block i hi h1 h2)⟩
theorem zcO.right {g h:Nat}{a b c:World}(k:zcO g h a b)(m:b.grownBy c (some h)):zcO g h a c :=
 ⟨m.os.trans k.os,m.tape.trans k.tape,m.output.trans k.output,Nat.le_trans k.size m.size,fun i hi h1 h2=>(m.block i (Nat.lt_of_lt_of_le hi k.size) (by simpa using h2)).trans (k.block i hi h1 h2)⟩
def zav (w:World)(g:Nat)(l:List Value):Prop:=w.heap[g]? = some (.cells l.toArray 181 (0,0))
theorem zav.cell {w:World}{g:Nat}{l:List Value}(h:zav w g l)(k:Nat):w.cell? ⟨g,k,none⟩=l[k]? := by
 rw[zfA h];simp
theorem zav.free {w:World}{g:Nat}{l:List Value}(h:zav w g l)(k:Nat):w.frozen? ⟨g,k,none⟩=false:=frozen_of_row w g k _ _ h
theorem zav.set {w:World}{g:Nat}{l:List Value}(h:zav w g l)(k:Nat)(u:Value):zav (w.setCell ⟨g,k,none⟩ u) g (l.set k u):=by
 unfold zav;rw[heap_setCell_same w g k _ _ u h];simp
theorem zav.lt {w:World}{g:Nat}{l:List Value}(h:zav w g l):g<w.heap.size:=lt_of_block h
theorem zav.grown {w w':World}{g:Nat}{l:List Value}{r:Option Nat}(h:zav w g l)(hg:w.grownBy w' r)(hr:some g≠r):zav w' g l:=(hg.block g h.lt hr).trans h
theorem zva (pre post:List Value)(zs xs:List Nat)(k:Nat)(hz:zs.length=k)(hk:k<xs.length) :
  (pre++uv (zs++xs.drop k)++post)[pre.length+k]? = some (.int .u64 (xs.getD k 0:Nat)):=by
 rw[zjE xs k hk,zbr,List.append_assoc,List.getElem?_append_right (by omega),Nat.add_sub_cancel_left,List.append_assoc,List.getElem?_append_right (by rw[zas];omega),zas,hz,Nat.sub_self]
 rfl
theorem zvb (pre post:List Value)(zs xs:List Nat)(k x:Nat)(hz:zs.length=k)(hk:k<xs.length) :
  (pre++uv (zs++xs.drop k)++post).set (pre.length+k) (.int .u64 (x:Int))=pre++uv ((zs++[x])++xs.drop (k+1))++post:=by
 rw[zjE xs k hk,zbr,List.append_assoc,List.set_append_right _ _ (by omega),Nat.add_sub_cancel_left,List.append_assoc,List.set_append_right _ _ (by rw[zas];omega),zas,hz,Nat.sub_self];simp[uv]
def zrC (q:List Nat × Nat)(pre post:List Value)(g gc:Nat)(w:World)(e:Ending)(w':World):Prop :=
 e = .returned (.tuple #[])∧zav w' g (pre++uv q.1++post)∧One w' gc q.2∧zcO g gc w w'
def zht (q:List Nat × Nat)(pre post:List Value)(g:Nat)(w:World)(e:Ending)(w':World):Prop :=
 e = .returned (.int .u64 (q.2:Nat))∧zav w' g (pre++uv q.1++post)∧w.grownBy w' (some g)
theorem zEQ (f c0 g gc gf cap:Nat)(pre post:List Value)(xs ys:List Nat)(vy:Value)(w:World)
  (hf:f≤1000000000) (hc0:c0≤1000000000) (hx:∀ x∈xs,x<1000000000) (hy:∀ y∈ys,y<1000000000)
  (hn:xs.length≤1000000) (hp:pre.length≤1000000) (hm:ys.length≤1000000) (hcap:cap≤maxLen)
  (hg:zav w g (pre++uv xs++post)) (hgc:One w gc c0) (hgf:One w gf f) (hB:Blks 0 w vy ys)
  (h1:g≠gc) (h2:gf≠gc) (h3:gf≠g) (h4:∀ b,vy.ownBlock=some b→b≠g∧b≠gc) :
  Calls Tryz.prog 271 #[.slice (some ⟨g,pre.length,none⟩) xs.length cap,vy,.func (.func 280) #[] #[.pointer (some ⟨gc,0,none⟩),.pointer (some ⟨gf,0,none⟩)]] w
   (zrC (comb (addT f) xs ys c0 xs.length) pre post g gc w):=by
 have hI:=zgR f xs ys hf hx hy c0 hc0;have hbnd:∀ k,(comb (addT f) xs ys c0 k).2≤1000000000:=fun k=>(hI k).2.1;have HG:=zHd hg;have HC:=zHd hgc;have HF:=zHd hgf;have HB:=zHd hB;have HX:=zHd hx;have HY:=zHd hy;have HBN:=zHd hbnd;have H4:=zHd h4;clear hg hgc hgf hB hI hbnd hx hy h4;unfold maxLen at hcap;go_enter Tryz.func271,Tryz.ntmps271;go_wp2
 go_loopw [9] (fun i wr=>∃ (k:Nat),i = .int .i64 k∧k≤xs.length∧zav wr g (pre++uv ((comb (addT f) xs ys c0 k).1++xs.drop k)++post)∧One wr gc (comb (addT f) xs ys c0 k).2∧zcO g gc w wr) (fun i _=>xs.length - (intOf i).toNat)
 case atStart=>exact⟨0,rfl,by omega,by simpa [comb] using HG.out,HC.out,zcO.refl _ _ _⟩
 case round =>
  obtain⟨k,rfl,hk,hgr,hcr,hkr⟩:=hrel
  by_cases hlt:k<xs.length
  ·have hcell:wr.cell? ⟨g,pre.length+k,none⟩=some (.int .u64 (xs.getD k 0:Nat)):=by rw[hgr.cell];exact zva pre post _ xs k (zaY _ _ _ _ _) hlt
   have hz:=zaY (addT f) xs ys c0 k;have hyr:Blks 0 wr vy ys:=HB.out.keep fun b hb=>hkr.block b (HB.out.lt b hb).2 (H4.out b hb).1 (H4.out b hb).2;have hfr:One wr gf f:=(hkr.block gf (lt_of_block HF.out) h3 h2).trans HF.out;have hblk:=fun w' (h:Sees w' vy ys)=>zdo w' vy ys (k:Int) h hm (by omega) (by omega);have eb:zby ys (k:Int)=ys.getD k 0:=by unfold zby;rw[if_neg (by omega)];rfl
   rw[eb] at hblk;have hst:=fun w' (h5:One w' gc (comb (addT f) xs ys c0 k).2) (h6:One w' gf f)=>zEO f (comb (addT f) xs ys c0 k).2 (xs.getD k 0) (ys.getD k 0) gc gf w' hf (HBN.out k) (zaG _ (by decide) xs HX.out k) (zaG _ (by decide) ys HY.out k) h2 h5 h6;have HS:=zHd (show comb (addT f) xs ys c0 (k+1)=((comb (addT f) xs ys c0 k).1++[(addT f (comb (addT f) xs ys c0 k).2 (xs.getD k 0) (ys.getD k 0)).2],(addT f (comb (addT f) xs ys c0 k).2 (xs.getD k 0) (ys.getD k 0)).1) from rfl);have HSE:=zHd (show Sees wr.drew vy ys from hyr.sees);generalize addT f (comb (addT f) xs ys c0 k).2 (xs.getD k 0) (ys.getD k 0)=q at *;generalize (comb (addT f) xs ys c0 k).2=c at *;generalize (comb (addT f) xs ys c0 k).1=zs at *;have HST:=zHd (fun r=>zvb pre post zs xs k r hz hlt);have hk1:(k:Int)<(xs.length:Int):=by omega
   generalize hxa:xs.getD k 0=a at *;generalize hyb:ys.getD k 0=b at *;have HHG:=zHd (show zav wr.drew g _ from hgr);have HHC:=zHd (show One wr.drew gc c from hcr);have HHF:=zHd (show One wr.drew gf f from hfr);have HK:=zHd (show zcO g gc w wr.drew from⟨hkr.os,hkr.tape,hkr.output,hkr.size,hkr.block⟩);have HBL:=zHd hblk;have HSTP:=zHd hst;clear hgr hcr hfr hkr hyr eb hblk hst hz hxa hyb;go_wp2
   go_region_with (first
    | (go_at_call 282;refine(HBL.out _ HSE.out).mono ?_;rintro e w' ⟨rfl,rfl⟩)
    | (go_at_call 280;refine(HSTP.out _ HHC.out HHF.out).mono ?_;rintro e w' ⟨rfl,ho,hgw⟩;have HO:=zHd ho;have HGW:=zHd hgw;have HCG:=zHd (HHG.out.grown hgw (by simpa using h1));have hcell2:=hcell;rw[show wr.cell? ⟨g,pre.length+k,none⟩=wr.drew.cell? ⟨g,pre.length+k,none⟩ from rfl,HHG.out.cell,← HCG.out.cell] at hcell2;have hfree2:=HCG.out.free (pre.length+k);clear ho hgw))
   all_goals
    have hnew:=(HCG.out.set (pre.length+k) (.int .u64 (q.2:Int)));rw[HST.out q.2] at hnew;have hend:zav (w'.setCell ⟨g,pre.length+k,none⟩ (.int .u64 (q.2:Int))) g (pre++uv ((comb (addT f) xs ys c0 (k+1)).1++xs.drop (k+1))++post):=by rw[HS.out];exact hnew
    have hone:One (w'.setCell ⟨g,pre.length+k,none⟩ (.int .u64 (q.2:Int))) gc (comb (addT f) xs ys c0 (k+1)).2:=by
     rw[HS.out];exact(Below.heap_setCell _ _ _ _ (fun e=>h1 e.symm)).trans HO.out
    have hkept:zcO g gc w (w'.setCell ⟨g,pre.length+k,none⟩ (.int .u64 (q.2:Int))):=(HK.out.right HGW.out).left (zac _ _ _);have HEND:=zHd hend;have HONE:=zHd hone;have HKEPT:=zHd hkept;clear hnew hend hone hkept hcell hcell2 hfree2;go_wp2
    go_roundw
    case rel=>exact⟨k+1,by go_num,by omega,HEND.out,HONE.out,HKEPT.out⟩
    case measure=>simp[intOf];omega
  ·have e:k=xs.length:=by omega
   subst e;rw[List.drop_length,List.append_nil] at hgr;have HHG:=zHd hgr;have HHC:=zHd hcr;have HK:=zHd hkr;clear hgr hcr hkr;go_wp2
   go_end0
   exact⟨rfl,HHG.out,HHC.out,HK.out⟩
theorem zgW (f g cap:Nat)(pre post:List Value)(xs ys:List Nat)(vy:Value)(w:World)
  (hf:f≤1000000000) (hx:∀ x∈xs,x<1000000000) (hy:∀ y∈ys,y<1000000000)
  (hn:xs.length≤1000000) (hp:pre.length≤1000000) (hm:ys.length≤1000000) (hcap:cap≤maxLen)
  (hg:zav w g (pre++uv xs++post)) (hB:Blks 0 w vy ys) (h4:vy.ownBlock≠some g) :
  Calls Tryz.prog 268 #[.slice (some ⟨g,pre.length,none⟩) xs.length cap,vy,.int .u64 f] w
   (zht (comb (addT f) xs ys 0 xs.length) pre post g w):=by
 have hlt:=hg.lt
 have hc:=zEQ f 0 g (w.heap.size+1) w.heap.size cap pre post xs ys vy ((w.alloc (.cells #[.int .u64 (f:Int)] 181)).alloc (.cells #[.int .u64 0] 181)) hf (by omega) hx hy hn hp hm hcap
  (hg.grown (zaa (zGA _ _ none) (zGA _ _ none)) (by simp))
  (by have:=heap_alloc_new (w.alloc (.cells #[.int .u64 (f:Int)] 181)) (.cells #[.int .u64 0] 181);rw[World.size_alloc] at this;exact this)
  ((heap_alloc_old (w.alloc (.cells #[.int .u64 (f:Int)] 181)) (.cells #[.int .u64 0] 181) (by simp)).trans (heap_alloc_new _ _))
  (hB.grown (zaa (zGA _ _ none) (zGA _ _ none)) (by simp))
  (by omega) (by omega) (by omega) (fun b hb=>⟨fun e=>h4 (by rw[hb,e]),by have:=(hB.lt b hb).2;omega⟩)
 have HC:=zHd hc;clear hc hg hB h4 hx hy;unfold maxLen at hcap;have hmf:∀ (fn:Fn) (first cap:Array Value) (w:World),(Instr.makeFunc fn first cap).run Tryz.prog w = .ok (.func fn first cap) w:=fun _ _ _ _=>rfl;go_enter Tryz.func268,Tryz.ntmps268;go_wp2_with fail;refine HC.out.mono ?_;rintro e w' ⟨rfl,hcells,hone,hk⟩;have hc1:=cell_of_one hone;have hc2:=free_of_one hone;have HCE:=zHd hcells;have HO:=zHd hone;have HK:=zHd hk;clear hcells hone hk HC;generalize comb (addT f) xs ys 0 xs.length=q at *;go_wp2;have hc3:=cell_of_one (one_setCell (u := .int .u64 (q.2:Int)) HO.out);refine bodyPost_ret (v := .int .u64 (q.2:Int)) (by simp[results,Tryz.results268,go_sem,hc3]) rfl ⟨rfl,?_,?_⟩
 ·exact(Below.heap_setCell _ _ _ _ (by simp;omega)).trans HCE.out
 ·have hk:=HK.out
  refine⟨hk.os,hk.tape,hk.output,?_,fun i hi hne => ?_⟩
  ·have:=hk.size;simp[World.setCell] at this ⊢;omega
  ·rw[Below.heap_setCell _ _ _ _ (by simp;omega),hk.block i (by simp;omega) (by simpa using hne) (by omega)]
   exact(heap_alloc_old _ _ (by simp;omega)).trans (heap_alloc_old _ _ hi)
theorem zER (f c0 g gc gf cap:Nat)(pre post:List Value)(xs ys:List Nat)(vy:Value)(w:World)
  (hf:f≤1000000000) (hc0:c0≤1000000000) (hx:∀ x∈xs,x<1000000000) (hy:∀ y∈ys,y<1000000000)
  (hn:xs.length≤1000000) (hp:pre.length≤1000000) (hm:ys.length≤1000000) (hcap:cap≤maxLen)
  (hg:zav w g (pre++uv xs++post)) (hgc:One w gc c0) (hgf:One w gf f) (hB:Blks 0 w vy ys)
  (h1:g≠gc) (h2:gf≠gc) (h3:gf≠g) (h4:∀ b,vy.ownBlock=some b→b≠g∧b≠gc) :
  Calls Tryz.prog 271 #[.slice (some ⟨g,pre.length,none⟩) xs.length cap,vy,.func (.func 272) #[] #[.pointer (some ⟨gc,0,none⟩),.pointer (some ⟨gf,0,none⟩)]] w
   (zrC (comb (subT f) xs ys c0 xs.length) pre post g gc w):=by
 have hI:=ziz f xs ys hf hx hy c0 hc0;have hbnd:∀ k,(comb (subT f) xs ys c0 k).2≤1000000000:=fun k=>(hI k).2.1;have HG:=zHd hg;have HC:=zHd hgc;have HF:=zHd hgf;have HB:=zHd hB;have HX:=zHd hx;have HY:=zHd hy;have HBN:=zHd hbnd;have H4:=zHd h4;clear hg hgc hgf hB hI hbnd hx hy h4;unfold maxLen at hcap;go_enter Tryz.func271,Tryz.ntmps271;go_wp2
 go_loopw [9] (fun i wr=>∃ (k:Nat),i = .int .i64 k∧k≤xs.length∧zav wr g (pre++uv ((comb (subT f) xs ys c0 k).1++xs.drop k)++post)∧One wr gc (comb (subT f) xs ys c0 k).2∧zcO g gc w wr) (fun i _=>xs.length - (intOf i).toNat)
 case atStart=>exact⟨0,rfl,by omega,by simpa [comb] using HG.out,HC.out,zcO.refl _ _ _⟩
 case round =>
  obtain⟨k,rfl,hk,hgr,hcr,hkr⟩:=hrel
  by_cases hlt:k<xs.length
  ·have hcell:wr.cell? ⟨g,pre.length+k,none⟩=some (.int .u64 (xs.getD k 0:Nat)):=by rw[hgr.cell];exact zva pre post _ xs k (zaY _ _ _ _ _) hlt
   have hz:=zaY (subT f) xs ys c0 k;have hyr:Blks 0 wr vy ys:=HB.out.keep fun b hb=>hkr.block b (HB.out.lt b hb).2 (H4.out b hb).1 (H4.out b hb).2;have hfr:One wr gf f:=(hkr.block gf (lt_of_block HF.out) h3 h2).trans HF.out;have hblk:=fun w' (h:Sees w' vy ys)=>zdo w' vy ys (k:Int) h hm (by omega) (by omega);have eb:zby ys (k:Int)=ys.getD k 0:=by unfold zby;rw[if_neg (by omega)];rfl
   rw[eb] at hblk;have hst:=fun w' (h5:One w' gc (comb (subT f) xs ys c0 k).2) (h6:One w' gf f)=>zEP f (comb (subT f) xs ys c0 k).2 (xs.getD k 0) (ys.getD k 0) gc gf w' hf (HBN.out k) (zaG _ (by decide) xs HX.out k) (zaG _ (by decide) ys HY.out k) h2 h5 h6;have HS:=zHd (show comb (subT f) xs ys c0 (k+1)=((comb (subT f) xs ys c0 k).1++[(subT f (comb (subT f) xs ys c0 k).2 (xs.getD k 0) (ys.getD k 0)).2],(subT f (comb (subT f) xs ys c0 k).2 (xs.getD k 0) (ys.getD k 0)).1) from rfl);have HSE:=zHd (show Sees wr.drew vy ys from hyr.sees);generalize subT f (comb (subT f) xs ys c0 k).2 (xs.getD k 0) (ys.getD k 0)=q at *;generalize (comb (subT f) xs ys c0 k).2=c at *;generalize (comb (subT f) xs ys c0 k).1=zs at *;have HST:=zHd (fun r=>zvb pre post zs xs k r hz hlt);have hk1:(k:Int)<(xs.length:Int):=by omega
   generalize hxa:xs.getD k 0=a at *;generalize hyb:ys.getD k 0=b at *;have HHG:=zHd (show zav wr.drew g _ from hgr);have HHC:=zHd (show One wr.drew gc c from hcr);have HHF:=zHd (show One wr.drew gf f from hfr);have HK:=zHd (show zcO g gc w wr.drew from⟨hkr.os,hkr.tape,hkr.output,hkr.size,hkr.block⟩);have HBL:=zHd hblk;have HSTP:=zHd hst;clear hgr hcr hfr hkr hyr eb hblk hst hz hxa hyb;go_wp2
   go_region_with (first
    | (go_at_call 282;refine(HBL.out _ HSE.out).mono ?_;rintro e w' ⟨rfl,rfl⟩)
    | (go_at_call 272;refine(HSTP.out _ HHC.out HHF.out).mono ?_;rintro e w' ⟨rfl,ho,hgw⟩;have HO:=zHd ho;have HGW:=zHd hgw;have HCG:=zHd (HHG.out.grown hgw (by simpa using h1));have hcell2:=hcell;rw[show wr.cell? ⟨g,pre.length+k,none⟩=wr.drew.cell? ⟨g,pre.length+k,none⟩ from rfl,HHG.out.cell,← HCG.out.cell] at hcell2;have hfree2:=HCG.out.free (pre.length+k);clear ho hgw))
   all_goals
    have hnew:=(HCG.out.set (pre.length+k) (.int .u64 (q.2:Int)));rw[HST.out q.2] at hnew;have hend:zav (w'.setCell ⟨g,pre.length+k,none⟩ (.int .u64 (q.2:Int))) g (pre++uv ((comb (subT f) xs ys c0 (k+1)).1++xs.drop (k+1))++post):=by rw[HS.out];exact hnew
    have hone:One (w'.setCell ⟨g,pre.length+k,none⟩ (.int .u64 (q.2:Int))) gc (comb (subT f) xs ys c0 (k+1)).2:=by
     rw[HS.out];exact(Below.heap_setCell _ _ _ _ (fun e=>h1 e.symm)).trans HO.out
    have hkept:zcO g gc w (w'.setCell ⟨g,pre.length+k,none⟩ (.int .u64 (q.2:Int))):=(HK.out.right HGW.out).left (zac _ _ _);have HEND:=zHd hend;have HONE:=zHd hone;have HKEPT:=zHd hkept;clear hnew hend hone hkept hcell hcell2 hfree2;go_wp2
    go_roundw
    case rel=>exact⟨k+1,by go_num,by omega,HEND.out,HONE.out,HKEPT.out⟩
    case measure=>simp[intOf];omega
  ·have e:k=xs.length:=by omega
   subst e;rw[List.drop_length,List.append_nil] at hgr;have HHG:=zHd hgr;have HHC:=zHd hcr;have HK:=zHd hkr;clear hgr hcr hkr;go_wp2
   go_end0
   exact⟨rfl,HHG.out,HHC.out,HK.out⟩
theorem zjK (f g cap:Nat)(pre post:List Value)(xs ys:List Nat)(vy:Value)(w:World)
  (hf:f≤1000000000) (hx:∀ x∈xs,x<1000000000) (hy:∀ y∈ys,y<1000000000)
  (hn:xs.length≤1000000) (hp:pre.length≤1000000) (hm:ys.length≤1000000) (hcap:cap≤maxLen)
  (hg:zav w g (pre++uv xs++post)) (hB:Blks 0 w vy ys) (h4:vy.ownBlock≠some g) :
  Calls Tryz.prog 254 #[.slice (some ⟨g,pre.length,none⟩) xs.length cap,vy,.int .u64 f] w
   (zht (comb (subT f) xs ys 0 xs.length) pre post g w):=by
 have hlt:=hg.lt
 have hc:=zER f 0 g (w.heap.size+1) w.heap.size cap pre post xs ys vy ((w.alloc (.cells #[.int .u64 (f:Int)] 181)).alloc (.cells #[.int .u64 0] 181)) hf (by omega) hx hy hn hp hm hcap
  (hg.grown (zaa (zGA _ _ none) (zGA _ _ none)) (by simp))
  (by have:=heap_alloc_new (w.alloc (.cells #[.int .u64 (f:Int)] 181)) (.cells #[.int .u64 0] 181);rw[World.size_alloc] at this;exact this)
  ((heap_alloc_old (w.alloc (.cells #[.int .u64 (f:Int)] 181)) (.cells #[.int .u64 0] 181) (by simp)).trans (heap_alloc_new _ _))
  (hB.grown (zaa (zGA _ _ none) (zGA _ _ none)) (by simp))
  (by omega) (by omega) (by omega) (fun b hb=>⟨fun e=>h4 (by rw[hb,e]),by have:=(hB.lt b hb).2;omega⟩)
 have HC:=zHd hc;clear hc hg hB h4 hx hy;unfold maxLen at hcap;have hmf:∀ (fn:Fn) (first cap:Array Value) (w:World),(Instr.makeFunc fn first cap).run Tryz.prog w = .ok (.func fn first cap) w:=fun _ _ _ _=>rfl;go_enter Tryz.func254,Tryz.ntmps254;go_wp2_with fail;refine HC.out.mono ?_;rintro e w' ⟨rfl,hcells,hone,hk⟩;have hc1:=cell_of_one hone;have hc2:=free_of_one hone;have HCE:=zHd hcells;have HO:=zHd hone;have HK:=zHd hk;clear hcells hone hk HC;generalize comb (subT f) xs ys 0 xs.length=q at *;go_wp2;have hc3:=cell_of_one (one_setCell (u := .int .u64 (q.2:Int)) HO.out);refine bodyPost_ret (v := .int .u64 (q.2:Int)) (by simp[results,Tryz.results254,go_sem,hc3]) rfl ⟨rfl,?_,?_⟩
 ·exact(Below.heap_setCell _ _ _ _ (by simp;omega)).trans HCE.out
 ·have hk:=HK.out
  refine⟨hk.os,hk.tape,hk.output,?_,fun i hi hne => ?_⟩
  ·have:=hk.size;simp[World.setCell] at this ⊢;omega
  ·rw[Below.heap_setCell _ _ _ _ (by simp;omega),hk.block i (by simp;omega) (by simpa using hne) (by omega)]
   exact(heap_alloc_old _ _ (by simp;omega)).trans (heap_alloc_old _ _ hi)
open Go.RowKit
theorem zgX:(Tryz.prog.info? 181).map (fun i=>(i.zero,i.size,i.bytes))=some (some (.int .u64 0),1,8):=by kernel_rfl
theorem zav.of_full {w:World}{B g n:Nat}{l:List Value}(h:w.ownsRow B 181 1 (.slice (some ⟨g,0,none⟩) n n) n l):zav w g l∧B≤g:=by
 rcases h.2 with⟨h',_⟩|⟨g',cap',cur,h',hb,hg,_,_,hs,ht⟩
 ·simp at h'
 ·simp only[Value.slice.injEq,Option.some.injEq,Addr.mk.injEq,and_true,true_and] at h'
  obtain⟨rfl,rfl⟩:=h';rw[List.take_of_length_le (by rw[Array.length_toList,hs];exact Nat.le_refl _)] at ht;subst ht;exact⟨by unfold zav;rw[hg],hb⟩
theorem zdP (n:Nat):(madeCells #[Value.int .u64 0] n).toList=uv (List.replicate n 0):=by
 rw[toList_madeCells_one];simp[uv]
theorem Blks.of_cells {w:World}{B g cap:Nat}{l:List Value}{xs:List Nat}(h:zav w g l)(hB:B≤g)(hl:l.length=cap)(hm:cap≤maxLen)(hx:l.take xs.length=uv xs)(hle:xs.length≤cap):Blks B w (.slice (some ⟨g,0,none⟩) xs.length cap) xs :=
 Blks.mk hB h hle hm (by simpa using hl) (by simpa using hx)
theorem Blks.cells {w:World}{B g n cap:Nat}{xs:List Nat}(h:Blks B w (.slice (some ⟨g,0,none⟩) n cap) xs):n=xs.length∧B≤g∧xs.length≤cap∧cap≤maxLen∧∃ post,zav w g (uv xs++post)∧post.length=cap - xs.length:=by
 rcases h.form with⟨h',_⟩|⟨g',cap',cur,h',hb,hg,hc,hm,hs,ht⟩
 ·simp at h'
 ·simp only[Value.slice.injEq,Option.some.injEq,Addr.mk.injEq,and_true,true_and] at h'
  obtain⟨rfl,rfl,rfl⟩:=h';refine⟨rfl,hb,hc,hm,cur.toList.drop xs.length,?_,by simp[hs]⟩;rw[← ht,List.take_append_drop];unfold zav;rw[hg]
theorem zmM (xs:List Nat)(i n:Nat):(uv xs).set i (.int .u64 (n:Int))=uv (xs.set i n):=by simp[uv,List.map_set]
theorem zkX (xs:List Nat)(m:Nat):(uv xs).take m=uv (xs.take m):=by simp[uv,List.map_take]
def zBV (g cap:Nat)(xs:List Nat)(w:World)(e:Ending)(w':World):Prop :=
 ∃ m,m≤xs.length∧e = .returned (.slice (some ⟨g,0,none⟩) m cap)∧w=w'∧vl 1000000000 (xs.take m)=vl 1000000000 xs∧zbK (xs.take m)
theorem ziC (B g cap:Nat)(xs:List Nat)(w:World)(h:Blks B w (.slice (some ⟨g,0,none⟩) xs.length cap) xs)(hn:xs.length≤1000000) :
  Calls Tryz.prog 269 #[.slice (some ⟨g,0,none⟩) xs.length cap] w (zBV g cap xs w):=by
 obtain⟨_,hb,hle,hm,post,hcs,_⟩:=h.cells;unfold maxLen at hm
 have hcell:∀ k,k<xs.length→w.cell? ⟨g,k,none⟩=some (.int .u64 (xs.getD k 0:Nat)):=fun k hk=>by
  rw[hcs.cell,List.getElem?_append_left (by rw[zas];exact hk),zgV xs k hk]
 have HC:=zHd hcell;clear hcell hcs h;go_enter Tryz.func269,Tryz.ntmps269;go_wp2
 go_loop [0] (fun v=>∃ m,v = .slice (some ⟨g,0,none⟩) m cap∧m≤xs.length∧vl 1000000000 (xs.take m)=vl 1000000000 xs) (fun v=>match v with | .slice _ m _=>m|_=>0)
 case atStart=>exact⟨xs.length,rfl,Nat.le_refl _,by rw[List.take_length]⟩
 case round =>
  obtain⟨m,rfl,hmx,hv⟩:=hrel;have HV:=zHd hv;clear hv
  by_cases h0:m=0
  ·subst h0
   go_wp2;go_ret;exact⟨0,by omega,rfl,rfl,HV.out,by rw[List.take_zero];exact zyn⟩
  ·obtain⟨k,rfl⟩:∃ k,m=k+1:=⟨m - 1,by omega⟩
   have hcell:=HC.out k (by omega)
   by_cases hz:xs.getD k 0=0
   ·rw[hz] at hcell
    have HZ:=zHd hz;clear hz;go_wp2
    go_round
    case rel=>exact⟨k,by simp,by omega,by
     have e:=zaw 1000000000 xs k;rw[HZ.out,Nat.mul_zero] at e;have:=HV.out
     omega⟩
    case measure=>simp
   ·have hz':((xs.getD k 0:Nat):Int)≠0:=by omega
    have HZ:=zHd hz;clear hz;generalize hxk:xs.getD k 0=x at *;have HX:=zHd hxk;clear hxk;have f1:((x:Int) == 0)=false:=by simpa using hz'
    go_wp2;go_ret;refine⟨k+1,hmx,rfl,rfl,HV.out,zqO _ ?_⟩;have hlen:(xs.take (k+1)).length=k+1:=by rw[List.length_take];omega
    rw[hlen,Nat.add_sub_cancel];rw[List.getD_eq_getElem?_getD,List.getElem?_take,if_pos (by omega),← List.getD_eq_getElem?_getD];rw[HX.out];exact HZ.out
theorem ziD (s:ByteArray)(k:Nat)(h:k<s.size):s.data.toList.take (k+1)=s.data.toList.take k++[s[k]]:=by
 rw[List.take_succ_eq_append_getElem (by simpa using h)];rfl
theorem zig (s:ByteArray)(h:numB s=true)(k:Nat)(hk:k<s.size):48≤s[k].toNat∧s[k].toNat≤57:=by
 unfold numB numL at h;simp only[Bool.and_eq_true,List.all_eq_true] at h;have:=h.1.2 s[k] (by show s.data[k]∈_;simp);unfold isDg at this
 simpa using this
theorem zbs (s:ByteArray)(h:numB s=true):1≤s.size∧s.size≤1000:=by
 unfold numB numL at h;simp only[Bool.and_eq_true,decide_eq_true_eq] at h;have e:s.data.toList.length=s.size:=by simp
 rw[e] at h;exact⟨h.1.1.1,h.1.1.2⟩
def zBW (n B:Nat)(w:World)(e:Ending)(w':World):Prop :=
 ∃ g cap xs,e = .returned (.slice (some ⟨g,0,none⟩) xs.length cap)∧Blks B w' (.slice (some ⟨g,0,none⟩) xs.length cap) xs∧w.heap.size≤g ∧
  (∀ x∈xs,x<1000000000)∧vl 1000000000 xs=n∧zbK xs∧xs.length≤112∧w.grownBy w' none
theorem zcV (s:ByteArray)(w:World)(hs:numB s=true) :
  Calls Tryz.prog 251 #[.string s] w (zBW (nv s) w.heap.size w):=by
 obtain⟨i0,hi,hz0,hz1,hz2⟩:=info_parts zgX;obtain⟨hs1,hs2⟩:=zbs s hs;have hdg:=zig s hs;have HD:=zHd hdg;clear hdg hs;go_enter Tryz.func251,Tryz.ntmps251;go_wp2_with (at_make;refine wpList_make_full _ rfl _ _ 209 rfl w.heap.size 181 i0 (.int .u64 0) 1 Tryz.underlying209 hi hz0 hz1 _ _ _ _ ((s.size+8) / 9) rfl rfl ?c0 ?c1 ?c2 ?c3 ?c4 ?_)
 case c0=>omega
 case c1=>omega
 case c2=>rw[hz2];omega
 case c3=>unfold maxLen;omega
 case c4=>omega
 intro w1 hown hgr;rw[zdP] at hown;have hc0:=(zav.of_full hown).1;have HG:=zHd hgr;clear hown hgr;go_wp2
 go_loopw [14] (fun i wr=>∃ (k:Nat) (xs:List Nat),i = .int .i64 k∧k≤s.size∧zfd s.size k (dval (s.data.toList.take k)) xs∧zav wr w.heap.size (uv xs)∧w.grownBy wr none) (fun i _=>s.size - (intOf i).toNat)
 case atStart=>exact⟨0,_,rfl,by omega,zfd.start s.size,hc0,HG.out⟩
 case round =>
  obtain⟨k,xs,rfl,hk,hinv,hcr,hgr⟩:=hrel;have hxl:=hinv.length
  by_cases hlt:k<s.size
  ·have hd:=HD.out k hlt
   have hbd:=hinv.bound hlt;have hlx:(s.size - 1 - k) / 9<xs.length:=by omega
   have hcell:wr.cell? ⟨w.heap.size,(s.size - 1 - k) / 9,none⟩=some (.int .u64 (xs.getD ((s.size - 1 - k) / 9) 0:Nat)):=by rw[hcr.cell,zgV _ _ hlx]
   have hfree:=hcr.free ((s.size - 1 - k) / 9);have hstep:=hinv.step hlt (s[k].toNat - 48) (by omega);have hset:=hcr.set ((s.size - 1 - k) / 9) (.int .u64 ((xs.getD ((s.size - 1 - k) / 9) 0 * 10+(s[k].toNat - 48):Nat):Int));rw[zmM,show((xs.getD ((s.size - 1 - k) / 9) 0 * 10+(s[k].toNat - 48):Nat):Int)=(xs.getD ((s.size - 1 - k) / 9) 0:Nat) * 10+((s[k].toNat:Int) - 48) by omega] at hset;rw[← zdn,← ziD s k hlt] at hstep;have HST:=zHd hstep;have HSET:=zHd hset;have HTS:=zHd (ziD s k hlt);have HGR:=zHd hgr;clear hinv hcr hstep hset hgr;have hd1:(48:Int)≤(s[k].toNat:Int):=by omega
   have hd2:(s[k].toNat:Int)≤57:=by omega
   generalize hxv:xs.getD ((s.size - 1 - k) / 9) 0=x at *;clear hxv;have hi1:(0:Int)≤((s.size:Int) - 1 - k) / 9:=by omega
   have hi2:((s.size:Int) - 1 - k) / 9<(((s.size+8) / 9:Nat):Int):=by omega
   go_wp2
   go_region
   go_wp2
   go_roundw
   case rel=>exact⟨k+1,_,by go_num,by omega,HST.out,HSET.out,zai (g:=w.heap.size) HGR.out (zaa (zac wr ⟨w.heap.size,(s.size - 1 - k) / 9,none⟩ _) (zae _ _)) (Nat.le_refl _)⟩
   case measure=>simp[intOf];omega
  ·have e:k=s.size:=by omega
   subst e;rw[List.take_of_length_le (by simp)] at hinv;have hfin:=hinv.fin;have hlt9:=hinv.lt;have hbk:Blks w.heap.size wr (.slice (some ⟨w.heap.size,0,none⟩) xs.length xs.length) xs:=Blks.of_cells hcr (Nat.le_refl _) (zas xs) (by unfold maxLen;omega) (by rw[List.take_of_length_le (by rw[zas];exact Nat.le_refl _)]) (Nat.le_refl _);have htr:=ziC w.heap.size w.heap.size xs.length xs wr hbk (by omega);rw[hxl] at htr;have HT:=zHd htr;have HF:=zHd hfin;have HL:=zHd hlt9;have HCR:=zHd hcr;have HGR:=zHd hgr;have HXL:=zHd hxl;clear hinv hfin hlt9 hbk htr hcr hgr hxl;go_wp2_with fail;refine HT.out.mono ?_;rintro e w' ⟨m,hm,rfl,rfl,hv,ht⟩;have HV:=zHd hv;have HTT:=zHd ht;clear hv ht;go_wp2;go_ret;have hxl:=HXL.out;have hml:(xs.take m).length=m:=by rw[List.length_take];omega
   refine⟨w.heap.size,(s.size+8) / 9,xs.take m,by rw[hml];rfl,?_,Nat.le_refl _,fun x hx=>HL.out x (List.mem_of_mem_take hx),by rw[HV.out,← HF.out];rfl,HTT.out,by rw[hml];omega,HGR.out⟩;exact Blks.of_cells HCR.out (Nat.le_refl _) (by rw[zas,hxl]) (by unfold maxLen;omega) (by rw[hml];exact zkX xs m) (by rw[hml];omega)
open Go.RowKit
open Go.Lib (dg decDigits nDigits)
def ub (l:List UInt8):List Value:=l.map fun b=>Value.int .u8 (b.toNat:Int)
theorem zGd (l:List UInt8)(k:Nat)(h:k<l.length):(ub l)[k]? = some (.int .u8 (l[k].toNat:Int)):=by
 unfold ub;rw[List.getElem?_map,List.getElem?_eq_getElem h];rfl
def Bytes (w:World)(g:Nat)(l:List UInt8):Prop:=w.heap[g]? = some (.cells (ub l).toArray 5 (0,0))
theorem Bytes.cell {w:World}{g:Nat}{l:List UInt8}(h:Bytes w g l)(k:Nat)(hk:k<l.length):w.cell? ⟨g,k,none⟩=some (.int .u8 (l[k].toNat:Int)):=by
 rw[zfA h,← zGd l k hk];simp
theorem Bytes.free {w:World}{g:Nat}{l:List UInt8}(h:Bytes w g l)(k:Nat):w.frozen? ⟨g,k,none⟩=false:=frozen_of_row w g k _ _ h
theorem Bytes.set {w:World}{g:Nat}{l:List UInt8}(h:Bytes w g l)(k:Nat)(u:UInt8):Bytes (w.setCell ⟨g,k,none⟩ (.int .u8 (u.toNat:Int))) g (l.set k u):=by
 unfold Bytes;rw[heap_setCell_same w g k _ _ _ h];simp[ub,List.map_set]
theorem Bytes.conv {w:World}{g cap:Nat}{l:List UInt8}(h:Bytes w g l) :
  (convert 149 9 (.slice (some ⟨g,0,none⟩) l.length cap)).run Tryz.prog w = .ok (.string ⟨l.toArray⟩) w:=by
 refine run_convert_bytes_back w 149 9 5 ⟨g,0,none⟩ cap l Tryz.underlying149 Tryz.underlying5 Tryz.underlying9 (fun j hj => ?_);have hadd:(⟨g,0,none⟩:Addr).add j=⟨g,j,none⟩:=by unfold Addr.add;split <;> simp_all
 rw[hadd];exact h.cell j hj
theorem zES:(Tryz.prog.info? 5).map (fun i=>(i.zero,i.size,i.bytes))=some (some (.int .u8 0),1,1):=by kernel_rfl
theorem Bytes.of_full {w:World}{B g n:Nat}(h:w.ownsRow B 5 1 (.slice (some ⟨g,0,none⟩) n n) n (madeCells #[Value.int .u8 0] n).toList):Bytes w g (List.replicate n 0):=by
 rcases h.2 with⟨h',_⟩|⟨g',cap',cur,h',hb,hg,_,_,hs,ht⟩
 ·simp at h'
 ·simp only[Value.slice.injEq,Option.some.injEq,Addr.mk.injEq,and_true,true_and] at h'
  obtain⟨rfl,rfl⟩:=h';rw[List.take_of_length_le (by rw[Array.length_toList,hs];exact Nat.le_refl _),toList_madeCells_one] at ht;unfold Bytes;rw[hg]
  have e:cur=(ub (List.replicate n 0)).toArray:=by
   apply Array.toList_inj.1
   rw[ht];simp[ub]
  rw[e]
structure WInv (V L t:Nat)(ds:List UInt8):Prop where
 length:ds.length=L
 le:t≤L
 done:∀ s,s<t→ds[L - 1 - s]? = some (dg V s)
theorem WInv.start (V L:Nat):WInv V L 0 (List.replicate L 0):=⟨by simp,Nat.zero_le _,fun s hs=>by omega⟩
theorem WInv.step {V L t:Nat}{ds:List UInt8}(h:WInv V L t ds)(ht:t<L):WInv V L (t+1) (ds.set (L - 1 - t) (dg V t)):=by
 refine⟨by rw[List.length_set];exact h.length,by omega,fun s hs => ?_⟩;rw[List.getElem?_set]
 by_cases e:s=t
 ·subst e;rw[if_pos rfl,if_pos (by rw[h.length];omega)]
 ·rw[if_neg (by omega)];exact h.done s (by omega)
theorem WInv.fin {V L:Nat}{ds:List UInt8}(h:WInv V L L ds):ds=pad L V:=by
 apply List.ext_getElem?
 intro j
 by_cases hj:j<L
 ·have:=h.done (L - 1 - j) (by omega)
  rw[show L - 1 - (L - 1 - j)=j by omega] at this;rw[this];unfold pad;rw[List.getElem?_map,List.getElem?_range hj]
  rfl
 ·rw[List.getElem?_eq_none (by rw[h.length];omega),List.getElem?_eq_none (by rw[zmG];omega)]
theorem zBX (V t x:Nat)(h:dg V t=UInt8.ofNat (48+x % 10)):((dg V t).toNat:Int)=48+(x:Int) % 10:=by
 rw[h,UInt8.toNat_ofNat']
 omega
def zjL (n:Nat)(w:World)(e:Ending)(w':World):Prop:=e = .returned (.string (decS n))∧w.grownBy w' none
theorem zpI {B:Nat}{w:World}{v:Value}{xs:List Nat}(h:Blks B w v xs) :
  ∃ A cap,v = .slice A xs.length cap∧∀ w':World,(∀ k,k<w.heap.size→w'.heap[k]? = w.heap[k]?)→∀ k,k<xs.length→∃ gy,A=some ⟨gy,0,none⟩∧w'.cell? ⟨gy,k,none⟩=some (.int .u64 (xs.getD k 0:Nat)):=by
 rcases h.form with⟨rfl,rfl⟩|⟨g,cap,cur,rfl,hb,hg,hc,hm,hs,ht⟩
 ·exact⟨none,0,rfl,fun _ _ k hk=>absurd hk (by simp)⟩
 ·exact⟨_,_,rfl,fun w' hw k hk=>⟨g,rfl,by rw[zfA ((hw g (lt_of_block hg)).trans hg),take_at ht k hk]⟩⟩
theorem zfZ (v:Value)(xs:List Nat)(w:World)(h:Blks 0 w v xs)(hx:∀ x∈xs,x<1000000000)(hn:xs.length≤10000) :
  Calls Tryz.prog 255 #[v] w (zjL (vl 1000000000 xs) w):=by
 obtain⟨i0,hi,hz0,hz1,hz2⟩:=info_parts zES;obtain⟨A,cap,rfl,hrd⟩:=zpI h;have HR:=zHd hrd;have HX:=zHd hx;have hdig:=fun i j hj=>zBK xs i j hx hj;have hten:=zyp xs hx;have hgl:=fun k=>zaG 1000000000 (by decide) xs hx k;obtain⟨V,hV⟩:∃ V,vl 1000000000 xs=V:=⟨_,rfl⟩;rw[hV] at hten ⊢;simp only[hV] at hdig;have HD:=zHd hdig;have HT:=zHd hten;have HGL:=zHd hgl;clear hrd hx hdig hten hV h hgl;go_enter Tryz.func255,Tryz.ntmps255;go_wp2_with (at_make;refine wpList_make_full _ rfl _ _ 149 rfl w.heap.size 5 i0 (.int .u8 0) 1 Tryz.underlying149 hi hz0 hz1 _ _ _ _ (xs.length * 9) rfl rfl ?c0 ?c1 ?c2 ?c3 ?c4 ?_)
 case c0=>omega
 case c1=>omega
 case c2=>rw[hz2];omega
 case c3=>unfold maxLen;omega
 case c4=>omega
 intro w1 hown hgr;have hc0:Bytes w1 w.heap.size (List.replicate (xs.length * 9) 0):=Bytes.of_full hown;have HG:=zHd hgr;clear hown hgr;go_wp2
 go_loopw [4,16] (fun at_ i wr=>∃ (k p:Nat) (ds:List UInt8),i = .int .i64 k∧k≤xs.length∧at_ = .int .i64 p∧p+9 * k=xs.length * 9∧WInv V (xs.length * 9) (9 * k) ds∧Bytes wr w.heap.size ds∧w.grownBy wr none) (fun _ i _=>xs.length - (intOf i).toNat)
 case atStart=>exact⟨0,xs.length * 9,_,rfl,by omega,by go_num,by omega,WInv.start _ _,hc0,HG.out⟩
 case round =>
  obtain⟨k,p,ds,rfl,hk,rfl,hp,hinv,hbr,hgr⟩:=hrel
  by_cases hlt:k<xs.length
  ·obtain⟨gy,rfl,hcell⟩:=HR.out wr (fun i hi=>hgr.block i hi (by simp)) k hlt
   have hxk:=HGL.out k;have hdk:=fun j hj=>HD.out k j hj;generalize xs.getD k 0=x at *;have HI:=zHd hinv;have HB:=zHd hbr;have HGR:=zHd hgr;have HDK:=zHd hdk;have HP:=zHd hp;clear hinv hbr hgr hdk hc0 hp;generalize wr=w2 at *;have hk1:(k:Int)<(xs.length:Int):=by omega
   go_wp2
   go_loopw [4,6,20] (fun at_ re j wr=>∃ (m p r:Nat) (ds:List UInt8),j = .int .i64 m∧m≤9∧at_ = .int .i64 p∧p+(9 * k+m)=xs.length * 9∧re = .int .u64 r∧r=x / 10 ^ m∧WInv V (xs.length * 9) (9 * k+m) ds∧Bytes wr w.heap.size ds∧w.grownBy wr none) (fun _ _ j _=>9 - (intOf j).toNat)
   case atStart=>exact⟨0,p,x,ds,rfl,by omega,rfl,by have:=HP.out;omega,rfl,by simp,by simpa using HI.out,HB.out,HGR.out⟩
   case round =>
    obtain⟨m,q,r,ds2,rfl,hm,rfl,hq,rfl,hr,hinv,hbr,hgr⟩:=hrel
    by_cases hm9:m<9
    ·have hlL:9 * k+m<xs.length * 9:=by omega
     have eq1:xs.length * 9 - 1 - (9 * k+m)=q - 1:=by omega
     have hst:=hinv.step hlL;have hset:=hbr.set (q - 1) (dg V (9 * k+m));rw[zBX V (9 * k+m) r (by rw[hr];exact HDK.out m hm9)] at hset;rw[eq1] at hst;have hlen:=hinv.length;obtain⟨old,hcell2⟩:∃ old:Int,wr.cell? ⟨w.heap.size,q - 1,none⟩=some (.int .u8 old):=⟨_,hbr.cell (q - 1) (by omega)⟩;have hfree:=hbr.free (q - 1);have hr10:r / 10=x / 10 ^ (m+1):=by rw[hr,Nat.pow_succ,Nat.div_div_eq_div_mul]
     have hr9:r<1000000000:=by rw[hr];exact Nat.lt_of_le_of_lt (Nat.div_le_self _ _) hxk
     have hq1:1≤q:=by omega
     have hq2:q≤xs.length * 9:=by omega
     have HST:=zHd hst;have HSET:=zHd hset;have HGR2:=zHd hgr;have HQ:=zHd hq;have HRE:=zHd hr10;clear hinv hbr hst hset hgr hlen hq hr hr10 eq1;go_wp2
     go_roundw
     case rel=>exact⟨m+1,q - 1,r / 10,_,by go_num,by omega,by go_num,by have:=HQ.out;omega,by go_num,HRE.out,HST.out,HSET.out,zai (g:=w.heap.size) HGR2.out (zac _ ⟨w.heap.size,q - 1,none⟩ _) (Nat.le_refl _)⟩
     case measure=>simp[intOf];omega
    ·have e:m=9:=by omega
     subst e;have HST:=zHd hinv;have HSET:=zHd hbr;have HGR2:=zHd hgr;have HQ:=zHd hq;clear hinv hbr hgr hq hr;go_wp2
     go_roundw
     case rel=>exact⟨k+1,q,_,by go_num,by omega,rfl,by have:=HQ.out;omega,by rw[Nat.mul_add];exact HST.out,HSET.out,HGR2.out⟩
     case measure=>simp[intOf];omega
  ·have e:k=xs.length:=by omega
   subst e
   have hds:ds=pad (xs.length * 9) V:=by
    rw[show 9 * xs.length=xs.length * 9 by omega] at hinv;exact hinv.fin
   subst hds;have hcv:=hbr.conv (cap:=xs.length * 9);rw[zmG] at hcv;have htl:=fun w=>Tryz.strings_TrimLeft_one ⟨(pad (xs.length * 9) V).toArray⟩ 48 (by decide) w;have est:Lib.trimLeftB (ByteArray.mk (pad (xs.length * 9) V).toArray).data.toList 48=if V=0 then [] else decDigits V:=zyo (xs.length * 9) V (by rw[Nat.mul_comm];exact HT.out)
   rw[est] at htl;have HGR:=zHd hgr;clear hinv hbr hgr hp est;generalize pad (xs.length * 9) V=D at *
   by_cases hz:V=0
   ·subst hz
    rw[if_pos rfl] at htl;go_wp2_with (go_at_call 273;refine(htl _).mono ?_;rintro e w' ⟨rfl,rfl⟩);go_ret;exact⟨by rw[show decS 0=⟨#[48]⟩ from by unfold decS;rw[Lib.decDigits_one (by decide)];rfl];rfl,HGR.out⟩
   ·rw[if_neg hz] at htl
    have hne:decDigits V≠[]:=by intro e;have:=Lib.decDigits_length V;rw[e] at this;have h2:=Lib.nDigits_pos V;simp at this;omega
    have htl2:∀ w,Calls Tryz.prog 273 #[.string ⟨D.toArray⟩,.string ⟨#[48]⟩] w fun e w'=>e = .returned (.string (decS V))∧w'=w:=htl
    have hne2:(decS V).toList.isEmpty=false:=by
     rw[Lib.toList_data];unfold decS;cases hd:decDigits V with
     | nil=>exact absurd hd hne
     | cons a b=>rfl
    clear htl hne;obtain⟨S,hS⟩:∃ S,decS V=S:=⟨_,rfl⟩;rw[hS] at hne2;simp only[hS] at htl2;have HS:=zHd hS;clear hS;go_wp2_with (go_at_call 273;refine(htl2 _).mono ?_;rintro e w' ⟨rfl,rfl⟩);go_ret;exact⟨by rw[HS.out];rfl,HGR.out⟩
open Go.RowKit
theorem zGe (s:ByteArray)(h:∀ k (hk:k<s.size),isDg s[k]=true):s.data.toList.all isDg=true:=by
 rw[List.all_eq_true];intro c hc;obtain⟨k,hk,rfl⟩:=List.mem_iff_getElem.1 hc;exact h k (by simpa using hk)
theorem zvc (s:ByteArray)(h:0<s.size):s.data.toList.headD 0=s[0]:=by
 have hl:0<s.data.toList.length:=by simpa using h
 rw[List.headD_eq_head?_getD,List.head?_eq_getElem?,List.getElem?_eq_getElem hl]
 rfl
theorem zkY (s:ByteArray)(h1:1≤s.size)(h2:s.size≤1000)(ha:∀ k (hk:k<s.size),isDg s[k]=true)(hz:s.size=1∨s[0].toNat≠48):numB s=true:=by
 unfold numB numL;have e:s.data.toList.length=s.size:=by simp
 rw[e,zGe s ha,zvc s (by omega)]
 have hz':s.size=1∨¬ s[0]=48:=by
  rcases hz with hz|hz
  ·exact .inl hz
  ·exact .inr (fun e=>hz (by rw[e];rfl))
 simp;exact⟨⟨by omega,h2⟩,hz'⟩
theorem zfN (s:ByteArray)(h:¬ (1≤s.size∧s.size≤1000)):numB s=false:=by
 cases hn:numB s
 ·rfl
 ·exact absurd (zbs s hn) h
theorem zee (s:ByteArray)(k:Nat)(hk:k<s.size)(h:isDg s[k]=false):numB s=false:=by
 cases hn:numB s
 ·rfl
 ·have:=zig s hn k hk
  unfold isDg at h;simp at h
  omega
theorem zlB (s:ByteArray)(h1:1<s.size)(h:s[0].toNat=48):numB s=false:=by
 cases hn:numB s
 ·rfl
 ·unfold numB numL at hn
  have e:s.data.toList.length=s.size:=by simp
  rw[e,zvc s (by omega)] at hn;have h0:s[0]=48:=UInt8.toNat_inj.1 h;rw[h0] at hn;simp at hn
  omega
theorem zop (c:UInt8)(h1:(48:Int)≤(c.toNat:Int))(h2:(c.toNat:Int)≤57):isDg c=true:=by unfold isDg;simp;omega
theorem zgG (c:UInt8)(h:(c.toNat:Int)<48∨57<(c.toNat:Int)):isDg c=false:=by unfold isDg;simp;omega
theorem ztV (s:ByteArray)(h:1≤s.size):s.toList.isEmpty=false:=by
 rw[Lib.toList_data];cases hl:s.data.toList with
 | nil=>have e:s.data.toList.length=s.size:=by simp
        rw[hl] at e;simp at e;omega
 | cons a b=>rfl
theorem zbL (s:ByteArray)(w:World)(hs:s.size≤maxLen) :
  Calls Tryz.prog 225 #[.string s] w fun e w'=>e = .returned (.bool (numB s))∧w=w':=by
 unfold maxLen at hs
 by_cases h0:s.size=0
 ·rw[zfN s (by omega)]
  have e0:s=⟨#[]⟩:=by
   cases s with
   | mk d=>congr 1;exact Array.eq_empty_of_size_eq_zero h0
  subst e0;clear h0 hs;go_enter Tryz.func225,Tryz.ntmps225;go_wp2;go_ret;exact⟨rfl,rfl⟩
 have hne:=ztV s (by omega)
 by_cases h1:s.size≤1000
 ·have h1':¬ (1000:Int)<(s.size:Int):=by omega
  go_enter Tryz.func225,Tryz.ntmps225;go_wp2
  go_loop [13] (fun i=>∃ k:Nat,i = .int .i64 k∧k≤s.size∧∀ j (hj:j<s.size),j<k→isDg s[j]=true) (fun i=>s.size - (intOf i).toNat)
  case atStart=>exact⟨0,rfl,by omega,fun j hj h=>by omega⟩
  case round =>
   obtain⟨k,rfl,hk,hall⟩:=hrel;have HALL:=zHd hall;clear hall
   by_cases hlt:k<s.size
   ·by_cases hd:(48:Int)≤(s[k].toNat:Int)
    ·by_cases hd2:(s[k].toNat:Int)≤57
     ·have HN:=zHd (zop s[k] hd hd2)
      go_wp2
      go_round
      case rel=>exact⟨k+1,by go_num,by omega,fun j hj h=>by
       by_cases e:j=k
       ·subst e;exact HN.out
       ·exact HALL.out j hj (by omega)⟩
      case measure=>simp[intOf];omega
     ·have HN:=zHd (zee s k hlt (zgG s[k] (.inr (by omega))))
      go_wp2;go_ret;exact⟨by rw[HN.out];rfl,rfl⟩
    ·have HN:=zHd (zee s k hlt (zgG s[k] (.inl (by omega))))
     go_wp2;go_ret;exact⟨by rw[HN.out];rfl,rfl⟩
   ·have hsz:0<s.size:=by omega
    by_cases hz:(s[0].toNat:Int)=48
    ·have f1:((s[0].toNat:Int) != 48)=false:=by simpa using hz
     by_cases hs1:s.size=1
     ·have e0:s=⟨#[48]⟩:=by
       cases s with
       | mk d =>
        congr 1
        obtain⟨c,hc⟩:∃ c,d=#[c]:=Array.size_eq_one_iff.1 hs1;subst hc
        have:c.toNat=48:=by
         have hz2:((ByteArray.mk #[c])[0].toNat:Int)=48:=hz;have:(ByteArray.mk #[c])[0]=c:=rfl;rw[this] at hz2
         omega
        rw[UInt8.toNat_inj.1 (show c.toNat=(48:UInt8).toNat from this)]
      have HN:=zHd (zkY s (by omega) h1 (fun j hj=>HALL.out j hj (by omega)) (.inl hs1));have f2:(s.toList == [48])=true:=by rw[e0,Lib.toList_data];rfl
      clear e0 hz;go_wp2;go_ret;exact⟨by rw[HN.out];rfl,rfl⟩
     ·have HN:=zHd (zlB s (by omega) (by omega))
      have f2:(s.toList == [48])=false:=by
       rw[Lib.toList_data]
       apply beq_eq_false_iff_ne.2
       intro e;have:=congrArg List.length e;simp at this
       omega
      clear hz;go_wp2;go_ret;exact⟨by rw[HN.out];rfl,rfl⟩
    ·have f1:((s[0].toNat:Int) != 48)=true:=by simpa using hz
     have HN:=zHd (zkY s (by omega) h1 (fun j hj=>HALL.out j hj (by omega)) (.inr (by omega)));clear hz;go_wp2;go_ret;exact⟨by rw[HN.out];rfl,rfl⟩
 ·have h1':(1000:Int)<(s.size:Int):=by omega
  rw[zfN s (by omega)];go_enter Tryz.func225,Tryz.ntmps225;go_wp2;go_ret;exact⟨rfl,rfl⟩
end Go.Proofs.YtaogepcaoogpgaaGreatDoor
