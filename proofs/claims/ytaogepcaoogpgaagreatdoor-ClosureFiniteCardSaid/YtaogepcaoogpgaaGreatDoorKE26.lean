/- THE CARD OF ClosureFinite: for every input, in every world in which the listed tables read as the program's text lays them, the call returns true, and what was there before it has not turned. Conditions: the row's own (the listed package-level variables, tied to the program's text). -/
import Derived.Test.YtaogepcaoogpgaaGreatDoorKE25
set_option linter.unusedVariables false
set_option linter.unusedSimpArgs false
set_option maxRecDepth 100000
set_option maxHeartbeats 16000000
namespace Go.Proofs.YtaogepcaoogpgaaGreatDoor
open Go.RowKit
theorem zEj {W:World}{B c n cap j:Nat}{T:TypeId}{xs:List Value}(h:W.ownsRow B T 1 (.slice (some ⟨c,0,none⟩) n cap) n xs)(hj:j<n)(u:Value) :
  (W.setCell ⟨c,j,none⟩ u).ownsRow B T 1 (.slice (some ⟨c,0,none⟩) n cap) n (xs.set j u):=by
 refine⟨by rw[List.length_set];exact h.1,?_⟩;rcases h.2 with⟨e,h0⟩|⟨g',cap',cur,e,hb,hg,h1,h2,h3,h4⟩
 ·omega
 ·simp only[Value.slice.injEq,Option.some.injEq,Addr.mk.injEq,and_true,true_and] at e
  obtain⟨rfl,rfl⟩:=e;refine .inr ⟨c,cap,cur.setIfInBounds j u,rfl,hb,heap_setCell_same W c j _ _ u hg,h1,h2,by rw[Array.size_setIfInBounds];exact h3,?_⟩;rw[Array.toList_setIfInBounds,← h4]
  apply List.ext_getElem?
  intro i;simp only[List.getElem?_take,List.getElem?_set,List.length_take]
  by_cases hi:i<n * 1
  ·rw[if_pos hi]
   by_cases e:j=i
   ·rw[if_pos e,if_pos e]
    subst e;have:j<cur.toList.length:=by rw[Array.length_toList];omega
    rw[if_pos this,if_pos (by omega)]
   ·rw[if_neg e,if_neg e,if_pos hi]
  ·rw[if_neg hi,if_neg (by omega),if_neg hi]
theorem zBG {n i j:Nat}{G:Nat→Nat→ByteArray}{s:ByteArray}(hi:i<n)(hj:j<n)(x:Nat):zbj n (putG G i j s) n 0 x=if x=i then (zbj n G n 0 i).set j (.string s) else zbj n G n 0 x:=by
 by_cases e:x=i
 ·subst e
  rw[if_pos rfl];unfold zbj;rw[zev hi]
  apply List.ext_getElem?
  intro y;rw[List.getElem?_set];simp only[List.getElem?_map,List.length_map,List.length_range]
  by_cases hy:y<n
  ·rw[List.getElem?_range hy]
   by_cases e2:j=y
   ·subst e2;rw[if_pos rfl,if_pos hj];simp[putG]
   ·rw[if_neg e2];simp[putG,Ne.symm e2]
  ·rw[List.getElem?_eq_none (by simpa using hy),if_neg (by omega)];rfl
 ·rw[if_neg e]
  unfold zbj;refine List.map_congr_left (fun y hy => ?_);unfold putG;rw[if_neg (by omega)]
theorem zaR.get {r:Option Nat}{n:Nat}{w:World}{g i j:Nat}{vs:List Value}{G:Nat→Nat→ByteArray}{wr:World}(h:zaR r n w g n 0 vs G wr)(hi:i<n)(hj:j<n) :
  ∃ c cap,vs[i]? = some (.slice (some ⟨c,0,none⟩) n cap)∧wr.cell? ⟨g,i,none⟩=some (.slice (some ⟨c,0,none⟩) n cap)∧wr.cell? ⟨c,j,none⟩=some (.string (G i j))∧wr.frozen? ⟨c,j,none⟩=false∧g<c∧c<wr.heap.size:=by
 have hv:vs[i]? = some (vs[i]'(by rw[h.len];exact hi)):=List.getElem?_eq_getElem (by rw[h.len];exact hi);have ho:=h.grid.own i _ hv;rw[zfc,zev hi] at ho;have hc0:=h.grid.cell hv;rcases ho.2 with⟨e,h0⟩|⟨c,cap,cur,e,hb,hg,h1,h2,h3,h4⟩
 ·omega
 ·have hc:=ho.cells (g:=c) (by rw[e];rfl) j (.string (G i j)) (by
   unfold zbj;rw[List.getElem?_map,List.getElem?_range (by rw[zev hi];exact hj)]
   rfl)
  rw[zbA,Nat.zero_add] at hc;rw[e] at hv hc0;exact⟨c,cap,hv,hc0,hc,frozen_of_row wr c j _ _ hg,by omega,(Array.getElem?_eq_some_iff.1 hg).1⟩
theorem zaR.set {r:Option Nat}{n:Nat}{w:World}{g i j c cap:Nat}{vs:List Value}{G:Nat→Nat→ByteArray}{wr:World}{s:ByteArray}(h:zaR r n w g n 0 vs G wr)(hi:i<n)(hj:j<n)(hv:vs[i]? = some (.slice (some ⟨c,0,none⟩) n cap)) :
  zaR r n w g n 0 vs (putG G i j s) (wr.setCell ⟨c,j,none⟩ (.string s)):=by
 have ho:=h.grid.own i _ hv;rw[zfc,zev hi] at ho;have hc:=(ho.lt c rfl).1;have hfar:=h.far;have gs:=zac wr ⟨c,j,none⟩ (.string s);refine⟨h.len,⟨(gs.block g h.grid.lt (by show some g≠some c;intro e;cases e;omega)).trans h.grid.row,fun x u hx => ?_,h.grid.dis⟩,zai h.gr gs (by show w.heap.size≤c;omega),h.far,h.low⟩;rw[zBG hi hj x]
 by_cases e:x=i
 ·subst e
  rw[hv] at hx;cases hx;rw[if_pos rfl,List.length_set,zfc,zev hi];exact zEj ho hj _
 ·rw[if_neg e]
  refine(h.grid.own x u hx).kept gs ?_;have:=h.grid.dis x i u _ e hx hv;rcases this with h1|h1
  ·exact .inl h1
  ·exact .inr h1
open Go.RowKit
theorem zmF {k:Int}(hk:zad k)(sb n:Nat)(bad:Bool)(w:World)(hn:n≤9)(hb:zbT k sb bad w) :
  Calls Tryz.prog 30 #[.pointer (some ⟨sb,0,none⟩),.int .i64 (n:Int)] w (zmE sb n bad (idm (srE k hk)) w):=by
 obtain⟨i0,hi,hz0,hz1,hz2⟩:=info_parts zcF;obtain⟨j0,ji,jz0,jz1,jz2⟩:=info_parts zdt;have n0:¬ (n:Int)<0:=by omega
 have HN:=zHd hn;have HB:=zHd hb;have HBL:=zHd hb.lt;clear hn hb;go_enter Tryz.func30,Tryz.ntmps30;go_wp2_with (at_make;refine wpList_make_full _ rfl _ _ 22 rfl w.heap.size 33 i0 (.slice none 0 0) 1 Tryz.underlying22 hi hz0 hz1 _ _ _ _ n rfl rfl ?c0 ?c1 ?c2 (by have:=HN.out;unfold maxLen;omega) (Nat.le_refl _) ?_)
 case c0=>omega
 case c1=>omega
 case c2=>have:=HN.out;first|omega|(rw[hz2];omega)
 intro w1 hown hgr;have hfill:=zaq.start hown hgr;have HF:=zHd (zAI (zaR.start (r:=some sb) hfill (fun b e=>by cases e;exact HBL.out)) (HB.out.kept hgr));clear hown hgr hfill;go_wp2
 go_loopw [6] (fun iv wr=>∃ (i:Nat) (vs:List Value) (G:Nat→Nat→ByteArray),i≤n∧iv = .int .i64 (i:Int)∧zaR (some sb) n w w.heap.size i 0 vs G wr∧zbT k sb bad wr∧Told bad n i 0 (idm (srE k hk)) G bad) (fun iv _=>n - (intOf iv).toNat)
 case atStart=>exact⟨0,_,_,Nat.zero_le _,rfl,HF.out.1,HF.out.2,Told.start⟩
 case round =>
  obtain⟨i,vs,G,hi',rfl,hf,hs,ht⟩:=hrel
  by_cases hin:i<n
  ·have u1:decide (i<n)=true:=by simpa using hin
   have u1':decide ((i:Int)<(n:Int))=true:=by simpa using hin
   have u2:(i:Int)<(n:Int):=by omega
   have u3:(0:Int)≤(i:Int):=by omega
   have u4:IntKind.i64.wrap ((i:Int)+1)=(i:Int)+1:=by have:=HN.out;rw[IntKind.wrap_i64];omega
   have HI:=zHd (zAI hin (zAI hf (zAI hs ht)));clear hi' hin hf hs ht;go_wp2;generalize wr=wq at *
   go_loopw [7] (fun jv wr=>∃ (j:Nat) (vs:List Value) (G:Nat→Nat→ByteArray),j≤n∧jv = .int .i64 (j:Int)∧zaR (some sb) n w w.heap.size i j vs G wr∧zbT k sb bad wr∧Told bad n i j (idm (srE k hk)) G bad) (fun jv _=>n - (intOf jv).toNat)
   case atStart=>exact⟨0,vs,G,Nat.zero_le _,rfl,HI.out.2.1,HI.out.2.2.1,HI.out.2.2.2⟩
   case round =>
    obtain⟨j,vs2,G2,hj',rfl,hf,hs,ht⟩:=hrel
    by_cases hjn:j<n
    ·have x1:decide (j<n)=true:=by simpa using hjn
     have x1':decide ((j:Int)<(n:Int))=true:=by simpa using hjn
     have x2:(j:Int)<(n:Int):=by omega
     have x3:(0:Int)≤(j:Int):=by omega
     have x4:IntKind.i64.wrap ((j:Int)+1)=(j:Int)+1:=by have:=HN.out;rw[IntKind.wrap_i64];omega
     obtain⟨v,hv,hvc,hvo,hvn,A,c,rfl⟩:=hf.at_ HI.out.1;have k1:=cell_of_row wr sb 0 _ _ (0,0) hs;have k0:wr.drew.cell? ⟨w.heap.size,i,none⟩=some (.slice A j c):=hvc;have k1:wr.drew.cell? ⟨sb,0,none⟩=some (.int .i64 k):=k1;have HX:=zHd (zAI hjn (zAI hf (zAI hs (zAI ht hv))));clear hj' hjn hf hs ht hv hvc hvo hvn
     by_cases hij:i=j
     ·have y1:((i:Int) == (j:Int))=true:=by simp;omega
      have HIJ:=zHd hij;clear hij;go_upto_region 9 with(fail)
      refine zde (e:=14) (n:=14) (fun W':World=>W'.cell? ⟨w.heap.size,i,none⟩=some (.slice A j c)∧W'.cell? ⟨sb,0,none⟩=some (.int .i64 k)) (by kernel_rfl) (by kernel_rfl) rfl ?_;have hS0:(fun W':World=>W'.cell? ⟨w.heap.size,i,none⟩=some (.slice A j c)∧W'.cell? ⟨sb,0,none⟩=some (.int .i64 k)) wr.drew:=⟨k0,k1⟩;refine zTk 0 (.slice (some ⟨w.heap.size,0,none⟩) n n) rfl hS0 ?_
      (try simp only[zA1,zA2,zA3,Act.put,zA4,zA5,zA6])
      refine zTk 1 (.int .i64 (i:Int)) rfl hS0 ?_
      (try simp only[zA1,zA2,zA3,Act.put,zA4,zA5,zA6])
      refine zTk 2 (.slice (some ⟨w.heap.size,0,none⟩) n n) rfl hS0 ?_
      (try simp only[zA1,zA2,zA3,Act.put,zA4,zA5,zA6])
      refine zTk 3 (.int .i64 (i:Int)) rfl hS0 ?_
      (try simp only[zA1,zA2,zA3,Act.put,zA4,zA5,zA6])
      refine zTk 4 (.pointer (some ⟨w.heap.size,i,none⟩)) rfl hS0 ?_
      (try simp only[zA1,zA2,zA3,Act.put,zA4,zA5,zA6])
      refine zTk 5 (.slice A j c) rfl hS0 ?_
      (try simp only[zA1,zA2,zA3,Act.put,zA4,zA5,zA6])
      refine zTk 6 (.pointer (some ⟨sb,0,none⟩)) rfl hS0 ?_
      (try simp only[zA1,zA2,zA3,Act.put,zA4,zA5,zA6])
      refine zTk 7 (.pointer (some ⟨sb,0,none⟩)) rfl hS0 ?_
      (try simp only[zA1,zA2,zA3,Act.put,zA4,zA5,zA6])
      refine zTk 8 (.pointer (some ⟨sb,0,none⟩)) rfl hS0 ?_
      (try simp only[zA1,zA2,zA3,Act.put,zA4,zA5,zA6])
      refine zTk 9 (.int .i64 k) rfl hS0 ?_
      (try simp only[zA1,zA2,zA3,Act.put,zA4,zA5,zA6])
      refine wpAnyH_ready (rs:=[10]) (by kernel_rfl) (by simp) ?_;refine AllReadyH.cons rfl (fun K hK => ?_) AllReadyH.nil
      go_simp
      refine(ziR k _).mono ?_;rintro e w5 ⟨rfl,hg5⟩;have hf5:=HX.out.2.1.kept (zaC (zaa (zae wr none) hg5));obtain⟨v5,hv5,hvc5,hvo5,_⟩:=hf5.at_ HI.out.1;obtain rfl:v5 = .slice A j c:=by have h:=hv5.symm.trans HX.out.2.2.2.2;cases h;rfl
      have hs5:=HX.out.2.2.1.kept (zaa (zae wr none) hg5);have k15:=hg5.cell k1 (by simp);refine hK.out _ _ ⟨hvc5,k15⟩ (fun hHeld => ?_);refine wpAnyH_ready (rs:=[11]) (by kernel_rfl) (by simp) ?_;refine AllReadyH.cons rfl (fun K hK => ?_) AllReadyH.nil
      go_simp
      have hal:=zGA w5 (.cells #[.string (oneT k)] 9) none;refine hK.out _ _ ⟨hal.cell hvc5 (by simp),hal.cell k15 (by simp)⟩ (fun hHeld => ?_);refine wpAnyH_ready (rs:=[12]) (by kernel_rfl) (by simp) ?_;refine AllReadyH.cons rfl (fun K hK => ?_) AllReadyH.nil;refine step_append_lies _ (by rfl) _ _ _ (by rfl) (w.heap.size+1) 9 j0 (.string ⟨#[]⟩) 1 16 Tryz.underlying33 ji jz0 jz1 jz2 rfl (by omega) (.slice A j c) j (zbj n G2 i j i) (by rfl) (hvo5.alloc _) ⟨w5.heap.size,0,none⟩ 1 1 [.string (oneT k)] (by rfl) (by rfl) (World.news_of_block (cs:=#[.string (oneT k)]) (t:=9) (fr:=(0,0)) (heap_alloc_new w5 _)) (by simp[Value.oneCell']) (by omega) (by have:=HN.out;have:=HX.out.1;unfold maxLen;omega) (by have:=HN.out;have:=HX.out.1;omega) (by have:=hf5.grid.lt;first|(simp;omega)|(simp at this ⊢;omega)) (w5.heap.size+1) (by simp) ?_;intro g2 cap W6 hown6 hgrow hat hlt6;have hrd:=hf5.ready hv5 hgrow;have z0:=hrd.2;have q0:=hrd.1;refine hK.out _ _ ⟨hrd.1,(zap (hf5.apart hv5 hgrow (by exact HBL.out))).trans k15⟩ (fun hHeld => ?_);refine zTk 13 (.pointer (some ⟨w.heap.size,i,none⟩)) rfl hHeld ?_
      (try simp only[zA1,zA2,zA3,Act.put,zA4,zA5,zA6])
      clear hHeld;refine wpAnyH_done (by kernel_rfl) ?_ _;refine zeg (by rfl) (fun K hK => ?_)
      go_simp
      refine hK _ _ ?_;have hput:=hf5.put HI.out.1 HX.out.1 hv5 hgrow hown6 hat;have HP:=zHd hput;clear hput hgrow hown6 hat hrd;go_wp2;refine⟨⟨j+1,_,_,HX.out.1,by simp,HP.out.1,(HP.out.2 sb HBL.out).trans hs5,HX.out.2.2.2.1.put (.inl ⟨(srE k hk).one,zlm hk,(zny hk).symm⟩) (fun _ => ?_)⟩,by have:=HX.out.1;simp[intOf];omega⟩;unfold idm;rw[if_pos HIJ.out];exact⟨(zny hk).symm,zlm hk⟩
     ·have y1:((i:Int) == (j:Int))=false:=by simp;omega
      have HIJ:=zHd hij;clear hij;go_upto_region 10 with(fail)
      refine zde (e:=14) (n:=14) (fun W':World=>W'.cell? ⟨w.heap.size,i,none⟩=some (.slice A j c)∧W'.cell? ⟨sb,0,none⟩=some (.int .i64 k)) (by kernel_rfl) (by kernel_rfl) rfl ?_;have hS0:(fun W':World=>W'.cell? ⟨w.heap.size,i,none⟩=some (.slice A j c)∧W'.cell? ⟨sb,0,none⟩=some (.int .i64 k)) wr.drew:=⟨k0,k1⟩;refine zTk 0 (.slice (some ⟨w.heap.size,0,none⟩) n n) rfl hS0 ?_
      (try simp only[zA1,zA2,zA3,Act.put,zA4,zA5,zA6])
      refine zTk 1 (.int .i64 (i:Int)) rfl hS0 ?_
      (try simp only[zA1,zA2,zA3,Act.put,zA4,zA5,zA6])
      refine zTk 2 (.slice (some ⟨w.heap.size,0,none⟩) n n) rfl hS0 ?_
      (try simp only[zA1,zA2,zA3,Act.put,zA4,zA5,zA6])
      refine zTk 3 (.int .i64 (i:Int)) rfl hS0 ?_
      (try simp only[zA1,zA2,zA3,Act.put,zA4,zA5,zA6])
      refine zTk 4 (.pointer (some ⟨w.heap.size,i,none⟩)) rfl hS0 ?_
      (try simp only[zA1,zA2,zA3,Act.put,zA4,zA5,zA6])
      refine zTk 5 (.slice A j c) rfl hS0 ?_
      (try simp only[zA1,zA2,zA3,Act.put,zA4,zA5,zA6])
      refine zTk 6 (.pointer (some ⟨sb,0,none⟩)) rfl hS0 ?_
      (try simp only[zA1,zA2,zA3,Act.put,zA4,zA5,zA6])
      refine zTk 7 (.pointer (some ⟨sb,0,none⟩)) rfl hS0 ?_
      (try simp only[zA1,zA2,zA3,Act.put,zA4,zA5,zA6])
      refine zTk 8 (.pointer (some ⟨sb,0,none⟩)) rfl hS0 ?_
      (try simp only[zA1,zA2,zA3,Act.put,zA4,zA5,zA6])
      refine zTk 9 (.int .i64 k) rfl hS0 ?_
      (try simp only[zA1,zA2,zA3,Act.put,zA4,zA5,zA6])
      refine wpAnyH_ready (rs:=[10]) (by kernel_rfl) (by simp) ?_;refine AllReadyH.cons rfl (fun K hK => ?_) AllReadyH.nil
      go_simp
      refine(zhC k _).mono ?_;rintro e w5 ⟨rfl,hg5⟩;have hf5:=HX.out.2.1.kept (zaC (zaa (zae wr none) hg5));obtain⟨v5,hv5,hvc5,hvo5,_⟩:=hf5.at_ HI.out.1;obtain rfl:v5 = .slice A j c:=by have h:=hv5.symm.trans HX.out.2.2.2.2;cases h;rfl
      have hs5:=HX.out.2.2.1.kept (zaa (zae wr none) hg5);have k15:=hg5.cell k1 (by simp);refine hK.out _ _ ⟨hvc5,k15⟩ (fun hHeld => ?_);refine wpAnyH_ready (rs:=[11]) (by kernel_rfl) (by simp) ?_;refine AllReadyH.cons rfl (fun K hK => ?_) AllReadyH.nil
      go_simp
      have hal:=zGA w5 (.cells #[.string (zaf k)] 9) none;refine hK.out _ _ ⟨hal.cell hvc5 (by simp),hal.cell k15 (by simp)⟩ (fun hHeld => ?_);refine wpAnyH_ready (rs:=[12]) (by kernel_rfl) (by simp) ?_;refine AllReadyH.cons rfl (fun K hK => ?_) AllReadyH.nil;refine step_append_lies _ (by rfl) _ _ _ (by rfl) (w.heap.size+1) 9 j0 (.string ⟨#[]⟩) 1 16 Tryz.underlying33 ji jz0 jz1 jz2 rfl (by omega) (.slice A j c) j (zbj n G2 i j i) (by rfl) (hvo5.alloc _) ⟨w5.heap.size,0,none⟩ 1 1 [.string (zaf k)] (by rfl) (by rfl) (World.news_of_block (cs:=#[.string (zaf k)]) (t:=9) (fr:=(0,0)) (heap_alloc_new w5 _)) (by simp[Value.oneCell']) (by omega) (by have:=HN.out;have:=HX.out.1;unfold maxLen;omega) (by have:=HN.out;have:=HX.out.1;omega) (by have:=hf5.grid.lt;first|(simp;omega)|(simp at this ⊢;omega)) (w5.heap.size+1) (by simp) ?_;intro g2 cap W6 hown6 hgrow hat hlt6;have hrd:=hf5.ready hv5 hgrow;have z0:=hrd.2;have q0:=hrd.1;refine hK.out _ _ ⟨hrd.1,(zap (hf5.apart hv5 hgrow (by exact HBL.out))).trans k15⟩ (fun hHeld => ?_);refine zTk 13 (.pointer (some ⟨w.heap.size,i,none⟩)) rfl hHeld ?_
      (try simp only[zA1,zA2,zA3,Act.put,zA4,zA5,zA6])
      clear hHeld;refine wpAnyH_done (by kernel_rfl) ?_ _;refine zeg (by rfl) (fun K hK => ?_)
      go_simp
      refine hK _ _ ?_;have hput:=hf5.put HI.out.1 HX.out.1 hv5 hgrow hown6 hat;have HP:=zHd hput;clear hput hgrow hown6 hat hrd;go_wp2;refine⟨⟨j+1,_,_,HX.out.1,by simp,HP.out.1,(HP.out.2 sb HBL.out).trans hs5,HX.out.2.2.2.1.put (.inl ⟨(srE k hk).zero,zbR hk,(zdj hk).symm⟩) (fun _ => ?_)⟩,by have:=HX.out.1;simp[intOf];omega⟩;unfold idm;rw[if_neg HIJ.out];exact⟨(zdj hk).symm,zbR hk⟩
    ·obtain rfl:j=n:=by omega
     have v1:decide (j<j)=false:=by simp
     have v1':decide ((j:Int)<(j:Int))=false:=by simp
     have HJ:=zHd (zAI hf (zAI hs ht));clear hj' hjn hf hs ht;go_wp2;exact⟨⟨i+1,vs2,G2,HI.out.1,by simp,HJ.out.1.row,HJ.out.2.1,HJ.out.2.2.next⟩,by have:=HI.out.1;simp[intOf];omega⟩
  ·obtain rfl:i=n:=by omega
   have u1:decide (i<i)=false:=by simp
   have u1':decide ((i:Int)<(i:Int))=false:=by simp
   have HJ:=zHd (zAI hf (zAI hs ht));clear hi' hin hf hs ht;go_wp2;go_ret;exact⟨_,vs,G,bad,rfl,HJ.out.1,HJ.out.2.1,HJ.out.2.2⟩
open Go.RowKit
theorem zBH {k:Int}(hk:zad k)(sb n:Nat)(bad:Bool)(GA GB:Nat→Nat→ByteArray)(A B:Nat→Nat→El k)(av bv:Value)(w:World)(hn:n≤9)(hb:zbT k sb bad w)(ha:MatN w sb av n GA)(hbm:MatN w sb bv n GB)(hta:zdz bad n GA A)(htb:zdz bad n GB B) :
  Calls Tryz.prog 29 #[.pointer (some ⟨sb,0,none⟩),av,bv] w (zmE sb n bad (fun i j=>(srE k hk).add (A i j) (B i j)) w):=by
 obtain⟨i0,hi,hz0,hz1,hz2⟩:=info_parts zcF;obtain⟨j0,ji,jz0,jz1,jz2⟩:=info_parts zdt;have n0:¬ (n:Int)<0:=by omega
 obtain⟨Aa,ca,rfl⟩:=ha.shape;obtain⟨Ab,cb,rfl⟩:=hbm.shape;have HN:=zHd hn;have HB:=zHd hb;have HBL:=zHd hb.lt;have HA:=zHd ha;have HBM:=zHd hbm;have HTA:=zHd hta;have HTB:=zHd htb;clear hn hb ha hbm hta htb;go_enter Tryz.func29,Tryz.ntmps29;go_wp2_with (at_make;refine wpList_make_full _ rfl _ _ 22 rfl w.heap.size 33 i0 (.slice none 0 0) 1 Tryz.underlying22 hi hz0 hz1 _ _ _ _ n rfl rfl ?c0 ?c1 ?c2 (by have:=HN.out;unfold maxLen;omega) (Nat.le_refl _) ?_)
 case c0=>omega
 case c1=>omega
 case c2=>have:=HN.out;first|omega|(rw[hz2];omega)
 intro w1 hown hgr;have hfill:=zaq.start hown hgr;have HF:=zHd (zAI (zaR.start (r:=some sb) hfill (fun b e=>by cases e;exact HBL.out)) (HB.out.kept hgr));clear hown hgr hfill;go_wp2
 go_loopw [8] (fun iv wr=>∃ (i:Nat) (vs:List Value) (G:Nat→Nat→ByteArray) (b1:Bool),i≤n∧iv = .int .i64 (i:Int)∧zaR (some sb) n w w.heap.size i 0 vs G wr∧zbT k sb b1 wr∧Told bad n i 0 (fun i j=>(srE k hk).add (A i j) (B i j)) G b1) (fun iv _=>n - (intOf iv).toNat)
 case atStart=>exact⟨0,_,_,bad,Nat.zero_le _,rfl,HF.out.1,HF.out.2,Told.start⟩
 case round =>
  obtain⟨i,vs,G,b1,hi',rfl,hf,hs,ht⟩:=hrel
  by_cases hin:i<n
  ·have u1:decide (i<n)=true:=by simpa using hin
   have u1':decide ((i:Int)<(n:Int))=true:=by simpa using hin
   have u2:(i:Int)<(n:Int):=by omega
   have u3:(0:Int)≤(i:Int):=by omega
   have u4:IntKind.i64.wrap ((i:Int)+1)=(i:Int)+1:=by have:=HN.out;rw[IntKind.wrap_i64];omega
   have HI:=zHd (zAI hin (zAI hf (zAI hs ht)));clear hi' hin hf hs ht;go_wp2;generalize wr=wq at *
   go_loopw [9] (fun jv wr=>∃ (j:Nat) (vs:List Value) (G:Nat→Nat→ByteArray) (b1:Bool),j≤n∧jv = .int .i64 (j:Int)∧zaR (some sb) n w w.heap.size i j vs G wr∧zbT k sb b1 wr∧Told bad n i j (fun i j=>(srE k hk).add (A i j) (B i j)) G b1) (fun jv _=>n - (intOf jv).toNat)
   case atStart=>exact⟨0,vs,G,b1,Nat.zero_le _,rfl,HI.out.2.1,HI.out.2.2.1,HI.out.2.2.2⟩
   case round =>
    obtain⟨j,vs2,G2,b2,hj',rfl,hf,hs,ht⟩:=hrel
    by_cases hjn:j<n
    ·have x1:decide (j<n)=true:=by simpa using hjn
     have x1':decide ((j:Int)<(n:Int))=true:=by simpa using hjn
     have x2:(j:Int)<(n:Int):=by omega
     have x3:(0:Int)≤(j:Int):=by omega
     have x4:IntKind.i64.wrap ((j:Int)+1)=(j:Int)+1:=by have:=HN.out;rw[IntKind.wrap_i64];omega
     obtain⟨v,hv,hvc,hvo,hvn,A7,c,rfl⟩:=hf.at_ HI.out.1;obtain⟨ad,rd,ci,rfl,ha0,ha1,hna,hnr,hla,hlr⟩:=HA.out.at_ HI.out.1 hjn;obtain⟨bd,sd,di,rfl,hc0,hc1,hnb,hns,hlb,hls⟩:=HBM.out.at_ HI.out.1 hjn;have k0:wr.drew.cell? ⟨w.heap.size,i,none⟩=some (.slice A7 j c):=hvc;have a0:wr.drew.cell? (ad.add i)=some (.slice (some rd) n ci):=hf.gr.cell ha0 (by rw[zaj];simp;omega);have a1:wr.drew.cell? (rd.add j)=some (.string (GA i j)):=hf.gr.cell ha1 (by rw[zaj];simp;omega);have c0:wr.drew.cell? (bd.add i)=some (.slice (some sd) n di):=hf.gr.cell hc0 (by rw[zaj];simp;omega);have c1:wr.drew.cell? (sd.add j)=some (.string (GB i j)):=hf.gr.cell hc1 (by rw[zaj];simp;omega);have hpl:=zkR k sb b2 (GA i j) (GB i j) wr.drew hs (HTA.out.1 i j HI.out.1 hjn) (HTB.out.1 i j HI.out.1 hjn);have HPL:=zHd hpl;have HNE:=zHd (zAI hna (zAI hnr (zAI hnb (zAI hns (zAI hla (zAI hlr (zAI hlb hls)))))));have HX:=zHd (zAI hjn (zAI hf (zAI hs (zAI ht hv))));clear hj' hjn hf hs ht hv hvc hvo hvn ha0 ha1 hna hnr hla hlr hc0 hc1 hnb hns hlb hls hpl;go_upto_region 8 with(fail);refine zde (e:=25) (n:=25) (fun W':World=>W'.cell? ⟨w.heap.size,i,none⟩=some (.slice A7 j c)∧W'.cell? (ad.add i)=some (.slice (some rd) n ci)∧W'.cell? (rd.add j)=some (.string (GA i j))∧W'.cell? (bd.add i)=some (.slice (some sd) n di)∧W'.cell? (sd.add j)=some (.string (GB i j))) (by kernel_rfl) (by kernel_rfl) rfl ?_;have hS0:(fun W':World=>W'.cell? ⟨w.heap.size,i,none⟩=some (.slice A7 j c)∧W'.cell? (ad.add i)=some (.slice (some rd) n ci)∧W'.cell? (rd.add j)=some (.string (GA i j))∧W'.cell? (bd.add i)=some (.slice (some sd) n di)∧W'.cell? (sd.add j)=some (.string (GB i j))) wr.drew:=⟨k0,a0,a1,c0,c1⟩;refine zTk 0 (.slice (some ⟨w.heap.size,0,none⟩) n n) rfl hS0 ?_
     (try simp only[zA1,zA2,zA3,Act.put,zA4,zA5,zA6])
     refine zTk 1 (.int .i64 (i:Int)) rfl hS0 ?_
     (try simp only[zA1,zA2,zA3,Act.put,zA4,zA5,zA6])
     refine zTk 2 (.slice (some ⟨w.heap.size,0,none⟩) n n) rfl hS0 ?_
     (try simp only[zA1,zA2,zA3,Act.put,zA4,zA5,zA6])
     refine zTk 3 (.int .i64 (i:Int)) rfl hS0 ?_
     (try simp only[zA1,zA2,zA3,Act.put,zA4,zA5,zA6])
     refine zTk 4 (.pointer (some ⟨w.heap.size,i,none⟩)) rfl hS0 ?_
     (try simp only[zA1,zA2,zA3,Act.put,zA4,zA5,zA6])
     refine zTk 5 (.slice A7 j c) rfl hS0 ?_
     (try simp only[zA1,zA2,zA3,Act.put,zA4,zA5,zA6])
     refine zTk 6 (.pointer (some ⟨sb,0,none⟩)) rfl hS0 ?_
     (try simp only[zA1,zA2,zA3,Act.put,zA4,zA5,zA6])
     refine zTk 7 (.slice (some ad) n ca) rfl hS0 ?_
     (try simp only[zA1,zA2,zA3,Act.put,zA4,zA5,zA6])
     refine zTk 8 (.int .i64 (i:Int)) rfl hS0 ?_
     (try simp only[zA1,zA2,zA3,Act.put,zA4,zA5,zA6])
     refine zTk 9 (.pointer (some (ad.add i))) rfl hS0 ?_
     (try simp only[zA1,zA2,zA3,Act.put,zA4,zA5,zA6])
     refine zTk 10 (.slice (some rd) n ci) rfl hS0 ?_
     (try simp only[zA1,zA2,zA3,Act.put,zA4,zA5,zA6])
     refine zTk 11 (.int .i64 (j:Int)) rfl hS0 ?_
     (try simp only[zA1,zA2,zA3,Act.put,zA4,zA5,zA6])
     refine zTk 12 (.pointer (some (rd.add j))) rfl hS0 ?_
     (try simp only[zA1,zA2,zA3,Act.put,zA4,zA5,zA6])
     refine zTk 13 (.string (GA i j)) rfl hS0 ?_
     (try simp only[zA1,zA2,zA3,Act.put,zA4,zA5,zA6])
     refine zTk 14 (.slice (some bd) n cb) rfl hS0 ?_
     (try simp only[zA1,zA2,zA3,Act.put,zA4,zA5,zA6])
     refine zTk 15 (.int .i64 (i:Int)) rfl hS0 ?_
     (try simp only[zA1,zA2,zA3,Act.put,zA4,zA5,zA6])
     refine zTk 16 (.pointer (some (bd.add i))) rfl hS0 ?_
     (try simp only[zA1,zA2,zA3,Act.put,zA4,zA5,zA6])
     refine zTk 17 (.slice (some sd) n di) rfl hS0 ?_
     (try simp only[zA1,zA2,zA3,Act.put,zA4,zA5,zA6])
     refine zTk 18 (.int .i64 (j:Int)) rfl hS0 ?_
     (try simp only[zA1,zA2,zA3,Act.put,zA4,zA5,zA6])
     refine zTk 19 (.pointer (some (sd.add j))) rfl hS0 ?_
     (try simp only[zA1,zA2,zA3,Act.put,zA4,zA5,zA6])
     refine zTk 20 (.string (GB i j)) rfl hS0 ?_
     (try simp only[zA1,zA2,zA3,Act.put,zA4,zA5,zA6])
     refine wpAnyH_ready (rs:=[21]) (by kernel_rfl) (by simp) ?_;refine AllReadyH.cons rfl (fun K hK => ?_) AllReadyH.nil
     go_simp
     refine HPL.out.mono ?_;rintro e w5 ⟨S5,b5,rfl,hg5,hs5,hk5,hv5'⟩;have hf5:=HX.out.2.1.kept (zaa (zae wr (some sb)) hg5);obtain⟨v5,hv5,hvc5,hvo5,_⟩:=hf5.at_ HI.out.1;obtain rfl:v5 = .slice A7 j c:=by have h:=hv5.symm.trans HX.out.2.2.2.2;cases h;rfl
     have a05:=hg5.cell a0 (by have:=HNE.out;rw[zaj];simp;omega);have a15:=hg5.cell a1 (by have:=HNE.out;rw[zaj];simp;omega);have c05:=hg5.cell c0 (by have:=HNE.out;rw[zaj];simp;omega);have c15:=hg5.cell c1 (by have:=HNE.out;rw[zaj];simp;omega);refine hK.out _ _ ⟨hvc5,a05,a15,c05,c15⟩ (fun hHeld => ?_);have H5:=zHd (zAI hk5 hv5');refine wpAnyH_ready (rs:=[22]) (by kernel_rfl) (by simp) ?_;refine AllReadyH.cons rfl (fun K hK => ?_) AllReadyH.nil
     go_simp
     have hal:=zGA w5 (.cells #[.string S5] 9) none;refine hK.out _ _ ⟨hal.cell hvc5 (by simp),hal.cell a05 (by simp),hal.cell a15 (by simp),hal.cell c05 (by simp),hal.cell c15 (by simp)⟩ (fun hHeld => ?_);refine wpAnyH_ready (rs:=[23]) (by kernel_rfl) (by simp) ?_;refine AllReadyH.cons rfl (fun K hK => ?_) AllReadyH.nil;refine step_append_lies _ (by rfl) _ _ _ (by rfl) (w.heap.size+1) 9 j0 (.string ⟨#[]⟩) 1 16 Tryz.underlying33 ji jz0 jz1 jz2 rfl (by omega) (.slice A7 j c) j (zbj n G2 i j i) (by rfl) (hvo5.alloc _) ⟨w5.heap.size,0,none⟩ 1 1 [.string S5] (by rfl) (by rfl) (World.news_of_block (cs:=#[.string S5]) (t:=9) (fr:=(0,0)) (heap_alloc_new w5 _)) (by simp[Value.oneCell']) (by omega) (by have:=HN.out;have:=HX.out.1;unfold maxLen;omega) (by have:=HN.out;have:=HX.out.1;omega) (by have:=hf5.grid.lt;first|(simp;omega)|(simp at this ⊢;omega)) (w5.heap.size+1) (by simp) ?_;intro g2 cap W6 hown6 hgrow hat hlt6;have hrd:=hf5.ready hv5 hgrow;have z0:=hrd.2;have q0:=hrd.1;refine hK.out _ _ ⟨hrd.1,(zap (hf5.apart hv5 hgrow (by rw[zaj];exact HNE.out.2.2.2.2.1))).trans a05,(zap (hf5.apart hv5 hgrow (by rw[zaj];exact HNE.out.2.2.2.2.2.1))).trans a15,(zap (hf5.apart hv5 hgrow (by rw[zaj];exact HNE.out.2.2.2.2.2.2.1))).trans c05,(zap (hf5.apart hv5 hgrow (by rw[zaj];exact HNE.out.2.2.2.2.2.2.2))).trans c15⟩ (fun hHeld => ?_);refine zTk 24 (.pointer (some ⟨w.heap.size,i,none⟩)) rfl hHeld ?_
     (try simp only[zA1,zA2,zA3,Act.put,zA4,zA5,zA6])
     clear hHeld;refine wpAnyH_done (by kernel_rfl) ?_ _;refine zeg (by rfl) (fun K hK => ?_)
     go_simp
     refine hK _ _ ?_;have hput:=hf5.put HI.out.1 HX.out.1 hv5 hgrow hown6 hat;have HP:=zHd hput;clear hput hgrow hown6 hat hrd;go_wp2;refine⟨⟨j+1,_,_,b5,HX.out.1,by simp,HP.out.1,(HP.out.2 sb HBL.out).trans hs5,(HX.out.2.2.2.1.more (fun hb=>(H5.out.2 hb).1)).put H5.out.1 (fun hb => ?_)⟩,by have:=HX.out.1;simp[intOf];omega⟩;obtain⟨hb2,hk2,u2,v2,fu2,fv2,eu2,ev2,ff2,e2⟩:=H5.out.2 hb;have hbad:=(HX.out.2.2.2.1.2 hb2).1;obtain⟨ea,fa⟩:=HTA.out.2 hbad i j HI.out.1 HX.out.1;obtain⟨eb,fb⟩:=HTB.out.2 hbad i j HI.out.1 HX.out.1;obtain rfl:=zez fu2 fa (eu2.symm.trans ea);obtain rfl:=zez fv2 fb (ev2.symm.trans eb);exact⟨e2,ff2⟩
    ·obtain rfl:j=n:=by omega
     have v1:decide (j<j)=false:=by simp
     have v1':decide ((j:Int)<(j:Int))=false:=by simp
     have HJ:=zHd (zAI hf (zAI hs ht));clear hj' hjn hf hs ht;go_wp2;exact⟨⟨i+1,vs2,G2,b2,HI.out.1,by simp,HJ.out.1.row,HJ.out.2.1,HJ.out.2.2.next⟩,by have:=HI.out.1;simp[intOf];omega⟩
  ·obtain rfl:i=n:=by omega
   have u1:decide (i<i)=false:=by simp
   have u1':decide ((i:Int)<(i:Int))=false:=by simp
   have HJ:=zHd (zAI hf (zAI hs ht));clear hi' hin hf hs ht;go_wp2;go_ret;exact⟨_,vs,G,b1,rfl,HJ.out.1,HJ.out.2.1,HJ.out.2.2⟩
open Go.RowKit
theorem zBI {k:Int}(hk:zad k)(sb n:Nat)(bad:Bool)(GA GB:Nat→Nat→ByteArray)(A B:Nat→Nat→El k)(av bv:Value)(w:World)(hn:n≤9)(hb:zbT k sb bad w)(ha:MatN w sb av n GA)(hbm:MatN w sb bv n GB)(hta:zdz bad n GA A)(htb:zdz bad n GB B) :
  Calls Tryz.prog 31 #[.pointer (some ⟨sb,0,none⟩),av,bv] w (zmE sb n bad (mm (srE k hk) n A B) w):=by
 obtain⟨i0,hi,hz0,hz1,hz2⟩:=info_parts zcF;obtain⟨j0,ji,jz0,jz1,jz2⟩:=info_parts zdt;have n0:¬ (n:Int)<0:=by omega
 obtain⟨Aa,ca,rfl⟩:=ha.shape;obtain⟨Ab,cb,rfl⟩:=hbm.shape;have HN:=zHd hn;have HB:=zHd hb;have HBL:=zHd hb.lt;have HA:=zHd ha;have HBM:=zHd hbm;have HTA:=zHd hta;have HTB:=zHd htb;clear hn hb ha hbm hta htb;go_enter Tryz.func31,Tryz.ntmps31;go_wp2_with (at_make;refine wpList_make_full _ rfl _ _ 22 rfl w.heap.size 33 i0 (.slice none 0 0) 1 Tryz.underlying22 hi hz0 hz1 _ _ _ _ n rfl rfl ?c0 ?c1 ?c2 (by have:=HN.out;unfold maxLen;omega) (Nat.le_refl _) ?_)
 case c0=>omega
 case c1=>omega
 case c2=>have:=HN.out;first|omega|(rw[hz2];omega)
 intro w1 hown hgr;have hfill:=zaq.start hown hgr;have HF:=zHd (zAI (zaR.start (r:=some sb) hfill (fun b e=>by cases e;exact HBL.out)) (HB.out.kept hgr));clear hown hgr hfill;go_wp2
 go_loopw [8] (fun iv wr=>∃ (i:Nat) (vs:List Value) (G:Nat→Nat→ByteArray) (b1:Bool),i≤n∧iv = .int .i64 (i:Int)∧zaR (some sb) n w w.heap.size i 0 vs G wr∧zbT k sb b1 wr∧Told bad n i 0 (mm (srE k hk) n A B) G b1) (fun iv _=>n - (intOf iv).toNat)
 case atStart=>exact⟨0,_,_,bad,Nat.zero_le _,rfl,HF.out.1,HF.out.2,Told.start⟩
 case round =>
  obtain⟨i,vs,G,b1,hi',rfl,hf,hs,ht⟩:=hrel
  by_cases hin:i<n
  ·have u1:decide (i<n)=true:=by simpa using hin
   have u1':decide ((i:Int)<(n:Int))=true:=by simpa using hin
   have u2:(i:Int)<(n:Int):=by omega
   have u3:(0:Int)≤(i:Int):=by omega
   have u4:IntKind.i64.wrap ((i:Int)+1)=(i:Int)+1:=by have:=HN.out;rw[IntKind.wrap_i64];omega
   have HI:=zHd (zAI hin (zAI hf (zAI hs ht)));clear hi' hin hf hs ht;go_wp2;generalize wr=wq at *
   go_loopw [9] (fun jv wr=>∃ (j:Nat) (vs:List Value) (G:Nat→Nat→ByteArray) (b1:Bool),j≤n∧jv = .int .i64 (j:Int)∧zaR (some sb) n w w.heap.size i j vs G wr∧zbT k sb b1 wr∧Told bad n i j (mm (srE k hk) n A B) G b1) (fun jv _=>n - (intOf jv).toNat)
   case atStart=>exact⟨0,vs,G,b1,Nat.zero_le _,rfl,HI.out.2.1,HI.out.2.2.1,HI.out.2.2.2⟩
   case round =>
    obtain⟨j,vs2,G2,b2,hj',rfl,hf,hs,ht⟩:=hrel
    by_cases hjn:j<n
    ·have x1:decide (j<n)=true:=by simpa using hjn
     have x1':decide ((j:Int)<(n:Int))=true:=by simpa using hjn
     have x2:(j:Int)<(n:Int):=by omega
     have x3:(0:Int)≤(j:Int):=by omega
     have x4:IntKind.i64.wrap ((j:Int)+1)=(j:Int)+1:=by have:=HN.out;rw[IntKind.wrap_i64];omega
     have k1:=cell_of_row wr sb 0 _ _ (0,0) hs;have k1:wr.cell? ⟨sb,0,none⟩=some (.int .i64 k):=k1;have HX:=zHd (zAI hjn (zAI hf (zAI hs ht)));clear hj' hjn hf hs ht;go_wp2_with fail;refine(zhC k _).mono ?_;rintro e w4 ⟨rfl,hg4⟩;have H4:=zHd (zAI (HX.out.2.1.kept (zaC hg4)) (HX.out.2.2.1.kept hg4));clear hg4 k1;go_wp2_with fail
     go_loopw [10,11] (fun uv tv wr=>∃ (t:Nat) (u:ByteArray) (b3:Bool),t≤n∧uv = .string u∧tv = .int .i64 (t:Int)∧zaR (some sb) n w w.heap.size i j vs2 G2 wr∧zbT k sb b3 wr∧TxOk k u∧(b3=false→b2=false∧u=tx (sm (srE k hk) t (fun m=>(srE k hk).mul (A i m) (B m j)))∧FitE (sm (srE k hk) t (fun m=>(srE k hk).mul (A i m) (B m j))))) (fun _ tv _=>n - (intOf tv).toNat)
     case atStart=>exact⟨0,_,b2,Nat.zero_le _,rfl,rfl,H4.out.1,H4.out.2,.inl ⟨(srE k hk).zero,zbR hk,(zdj hk).symm⟩,fun hb=>⟨hb,(zdj hk).symm,zbR hk⟩⟩
     case round =>
      obtain⟨t,u,b3,ht',rfl,rfl,hf,hs,hu,hb3⟩:=hrel
      by_cases htn:t<n
      ·have y1:decide (t<n)=true:=by simpa using htn
       have y1':decide ((t:Int)<(n:Int))=true:=by simpa using htn
       have y2:(t:Int)<(n:Int):=by omega
       have y3:(0:Int)≤(t:Int):=by omega
       have y4:IntKind.i64.wrap ((t:Int)+1)=(t:Int)+1:=by have:=HN.out;rw[IntKind.wrap_i64];omega
       obtain⟨ad,rd,ci,rfl,ha0,ha1,hna,hnr,hla,hlr⟩:=HA.out.at_ HI.out.1 htn;obtain⟨bd,sd,di,rfl,hc0,hc1,hnb,hns,hlb,hls⟩:=HBM.out.at_ htn HX.out.1;have a0:wr.drew.cell? (ad.add i)=some (.slice (some rd) n ci):=hf.gr.cell ha0 (by rw[zaj];simp;omega);have a1:wr.drew.cell? (rd.add t)=some (.string (GA i t)):=hf.gr.cell ha1 (by rw[zaj];simp;omega);have c0:wr.drew.cell? (bd.add t)=some (.slice (some sd) n di):=hf.gr.cell hc0 (by rw[zaj];simp;omega);have c1:wr.drew.cell? (sd.add j)=some (.string (GB t j)):=hf.gr.cell hc1 (by rw[zaj];simp;omega);have hti:=zrk k sb b3 (GA i t) (GB t j) wr.drew hs (HTA.out.1 i t HI.out.1 htn) (HTB.out.1 t j htn HX.out.1);have HTI:=zHd hti;have HNE:=zHd (zAI hna (zAI hnr (zAI hnb hns)));have HT:=zHd (zAI htn (zAI hf (zAI hu hb3)));clear ht' htn hf hs hu hb3 ha0 ha1 hna hnr hla hlr hc0 hc1 hnb hns hlb hls hti;go_upto_region 12 with(fail)
       go_region_held2 (fun W'=>W'.cell? (ad.add i)=some (.slice (some rd) n ci)∧W'.cell? (rd.add t)=some (.string (GA i t))∧W'.cell? (bd.add t)=some (.slice (some sd) n di)∧W'.cell? (sd.add j)=some (.string (GB t j))) (first|exact⟨a0,a1,c0,c1⟩|exact S6|exact S7|go_keep)
        (first
        | (go_at_call 35;refine HTI.out.mono ?_;rintro e w6 ⟨S1,b4,rfl,hg6,hb6,hk6,hv6⟩;have S6:(fun W':World=>W'.cell? (ad.add i)=some (.slice (some rd) n ci)∧W'.cell? (rd.add t)=some (.string (GA i t))∧W'.cell? (bd.add t)=some (.slice (some sd) n di)∧W'.cell? (sd.add j)=some (.string (GB t j))) w6:=⟨hg6.cell a0 (by have:=HNE.out;rw[zaj];simp;omega),hg6.cell a1 (by have:=HNE.out;rw[zaj];simp;omega),hg6.cell c0 (by have:=HNE.out;rw[zaj];simp;omega),hg6.cell c1 (by have:=HNE.out;rw[zaj];simp;omega)⟩;have H6:=zHd (zAI hg6 (zAI hb6 (zAI hk6 hv6)));clear hg6 hb6 hk6 hv6)
        | (go_at_call 38;refine(zkR k sb b4 u S1 w6 H6.out.2.1 HT.out.2.2.1 H6.out.2.2.1).mono ?_;rintro e w7 ⟨S2,b5,rfl,hg7,hb7,hk7,hv7⟩;have S7:(fun W':World=>W'.cell? (ad.add i)=some (.slice (some rd) n ci)∧W'.cell? (rd.add t)=some (.string (GA i t))∧W'.cell? (bd.add t)=some (.slice (some sd) n di)∧W'.cell? (sd.add j)=some (.string (GB t j))) w7:=⟨hg7.cell S6.1 (by have:=HNE.out;rw[zaj];simp;omega),hg7.cell S6.2.1 (by have:=HNE.out;rw[zaj];simp;omega),hg7.cell S6.2.2.1 (by have:=HNE.out;rw[zaj];simp;omega),hg7.cell S6.2.2.2 (by have:=HNE.out;rw[zaj];simp;omega)⟩;have H7:=zHd (zAI hg7 (zAI hb7 (zAI hk7 hv7)));clear hg7 hb7 hk7 hv7))
       all_goals
        go_wp2_with fail;refine⟨⟨t+1,S2,b5,HT.out.1,rfl,by simp,HT.out.2.1.kept (zaa (zaa (zae wr (some sb)) H6.out.1) H7.out.1),H7.out.2.1,H7.out.2.2.1,fun hb => ?_⟩,by have:=HT.out.1;simp[intOf];omega⟩;obtain⟨hb1,hk1,u1,v1,fu1,fv1,eu,ev,ff,e1⟩:=H7.out.2.2.2 hb;obtain⟨hb0,hk2,u2,v2,fu2,fv2,eu2,ev2,ff2,e2⟩:=H6.out.2.2.2 hb1;obtain⟨hb9,hu,hfit⟩:=HT.out.2.2.2 hb0;have hbad:=(HX.out.2.2.2.2 hb9).1;obtain⟨ea,fa⟩:=HTA.out.2 hbad i t HI.out.1 HT.out.1;obtain⟨eb,fb⟩:=HTB.out.2 hbad t j HT.out.1 HX.out.1;have i1:=zez fu1 hfit (eu.symm.trans hu);have i2:=zez fu2 fa (eu2.symm.trans ea);have i3:=zez fv2 fb (ev2.symm.trans eb);have i4:=zez fv1 ff2 (ev.symm.trans e2)
        have e:sm (srE k hk) (t+1) (fun m=>(srE k hk).mul (A i m) (B m j))=(srE k hk1).add u1 v1:=by
         show(srE k hk).add (sm (srE k hk) t (fun m=>(srE k hk).mul (A i m) (B m j))) ((srE k hk).mul (A i t) (B t j))=_;rw[i1,i4,i2,i3]
        rw[e];exact⟨hb9,e1,ff⟩
      ·obtain rfl:t=n:=by omega
       have y1:decide (t<t)=false:=by simp
       have y1':decide ((t:Int)<(t:Int))=false:=by simp
       obtain⟨v,hv,hvc,hvo,hvn,A7,c,rfl⟩:=hf.at_ HI.out.1;have HT:=zHd (zAI hf (zAI hs (zAI hu (zAI hb3 (zAI hv hvo)))));clear ht' htn hf hs hu hb3 hv hvo hvn;go_wp2_with (at_builtin;refine wpList_append_lies _ rfl _ _ 33 rfl (w.heap.size+1) 9 j0 (.string ⟨#[]⟩) 1 16 Tryz.underlying33 ji jz0 jz1 jz2 rfl (by omega) (.slice A7 j c) j (zbj t G2 i j i) (by rfl) (HT.out.2.2.2.2.2.alloc _) ⟨wr.heap.size,0,none⟩ 1 1 [.string u] rfl rfl (cell_one_new _ _ _) (by simp[Value.oneCell']) (by omega) (by have:=HN.out;have:=HX.out.1;unfold maxLen;omega) (by have:=HN.out;have:=HX.out.1;omega) (by have:=HT.out.1.grid.lt;simp;omega) (wr.heap.size+1) (by simp) ?_;intro g2 cap W6 hown6 hgrow hat hlt6;have hrd:=HT.out.1.ready HT.out.2.2.2.2.1 hgrow;have z0:=hrd.2;have q0:=hrd.1;have hput:=HT.out.1.put HI.out.1 HX.out.1 HT.out.2.2.2.2.1 hgrow hown6 hat;have HP:=zHd hput;clear hput hgrow hown6 hat hrd);refine⟨⟨j+1,_,_,b3,HX.out.1,by simp,HP.out.1,(HP.out.2 sb HBL.out).trans HT.out.2.1,(HX.out.2.2.2.more (fun hb=>(HT.out.2.2.2.1 hb).1)).put HT.out.2.2.1 (fun hb=>(HT.out.2.2.2.1 hb).2)⟩,by have:=HX.out.1;simp[intOf];omega⟩
    ·obtain rfl:j=n:=by omega
     have v1:decide (j<j)=false:=by simp
     have v1':decide ((j:Int)<(j:Int))=false:=by simp
     have HJ:=zHd (zAI hf (zAI hs ht));clear hj' hjn hf hs ht;go_wp2;exact⟨⟨i+1,vs2,G2,b2,HI.out.1,by simp,HJ.out.1.row,HJ.out.2.1,HJ.out.2.2.next⟩,by have:=HI.out.1;simp[intOf];omega⟩
  ·obtain rfl:i=n:=by omega
   have u1:decide (i<i)=false:=by simp
   have u1':decide ((i:Int)<(i:Int))=false:=by simp
   have HJ:=zHd (zAI hf (zAI hs ht));clear hi' hin hf hs ht;go_wp2;go_ret;exact⟨_,vs,G,b1,rfl,HJ.out.1,HJ.out.2.1,HJ.out.2.2⟩
open Go.RowKit
def upT (k:Int)(G:Nat→Nat→ByteArray)(i j:Nat):ByteArray:=if i<j then G i j else zaf k
theorem zEk {k:Int}{G:Nat→Nat→ByteArray}(h:∀ i j,(G i j).size≤maxLen)(i j:Nat):(upT k G i j).size≤maxLen:=by
 unfold upT
 split
 ·exact h i j
 ·unfold zaf
  split
  ·decide
  ·split <;> decide
theorem zFY {k:Int}{n:Nat}{ln:Nat→Nat}{G:Nat→Nat→ByteArray}(h:zfr k n ln G):zfr k n (fun _=>n) (upT k G) :=
 ⟨h.1,fun _ _=>rfl,fun i j hi hj=>by
  unfold upT
  split
  ·exact h.2.2 i j hi hj
  ·exact⟨_,by rw[← zdj h.1];exact zbI (zbR h.1)⟩⟩
theorem MatN.congr {w:World}{b:Nat}{v:Value}{n:Nat}{G R:Nat→Nat→ByteArray}(h:MatN w b v n G)(e:∀ i,i<n→∀ j,j<n→G i j=R i j):MatN w b v n R:=by
 obtain⟨rs,h1,h2⟩:=h;refine⟨rs,h1,fun i hi => ?_⟩;obtain⟨A,c,e1,e2,e3,e4⟩:=h2 i hi;refine⟨A,c,e1,e2,e3,fun j hj => ?_⟩;obtain⟨ad,f1,f2,f3,f4⟩:=e4 j hj;exact⟨ad,f1,f2,f3,by show w.cell? (ad.add j)=some (.string (R i j));rw[← e i hi j hj];exact f4⟩
theorem zdz.congr {k:Int}{bad:Bool}{n:Nat}{M M':Nat→Nat→El k}{G:Nat→Nat→ByteArray}(h:zdz bad n G M)(e:∀ i j,i<n→j<n→M' i j=M i j):zdz bad n G M' :=
 ⟨h.1,fun hb i j hi hj=>by rw[e i j hi hj];exact h.2 hb i j hi hj⟩
theorem zqN {k:Int}{sb:Nat}{bad:Bool}{w:World}(h:zbT k sb bad w){ad:Addr}{v:Value}(hc:w.cell? ad=some v)(h1:∀ y,v ≠ .int .i64 y)(h2:∀ y,v ≠ .bool y):ad.block≠sb:=by
 intro e;have ha:=zjl hc;rw[ha,e,cell_of_row w sb ad.off _ _ (0,0) h] at hc
 match hz:ad.off with
 | 0=>rw[hz] at hc;simp at hc;exact h1 _ hc.symm
 | 1=>rw[hz] at hc;simp at hc;exact h2 _ hc.symm
 | x+2=>rw[hz] at hc;simp at hc
theorem MatA.apart {k:Int}{sb n:Nat}{bad:Bool}{w:World}{v:Value}{G:Nat→Nat→ByteArray}(h:MatA w v n (fun _=>n) G)(hs:zbT k sb bad w):MatN w sb v n G:=by
 obtain⟨rs,⟨A,c,e1,e2,e3,e4⟩,h2⟩:=h;refine⟨rs,⟨A,c,e1,e2,e3,fun j hj => ?_⟩,fun i hi => ?_⟩
 ·obtain⟨ad,f1,f2,f4⟩:=e4 j hj
  obtain⟨Ai,ci,he,_⟩:=h2 j hj;refine⟨ad,f1,f2,?_,f4⟩;have:=zqN hs f4 (fun y=>by rw[he];simp) (fun y=>by rw[he];simp)
  rwa [zaj] at this
 ·obtain⟨A,c,e1,e2,e3,e4⟩:=h2 i hi
  refine⟨A,c,e1,e2,e3,fun j hj => ?_⟩;obtain⟨ad,f1,f2,f4⟩:=e4 j hj;refine⟨ad,f1,f2,?_,f4⟩;have:=zqN hs f4 (fun y=>by simp) (fun y=>by simp)
  rwa [zaj] at this
theorem ztQ (k:Int)(n:Nat)(ln:Nat→Nat)(G:Nat→Nat→ByteArray)(av:Value)(w:World)(ha:MatA w av n ln G)(hs:∀ i j,(G i j).size≤maxLen) :
  Calls Tryz.prog 7 #[.int .i64 k,av] w (zab (.bool true) w):=by
 have hrd:=zBE k n ln G av w ha hs;have hsh1:∃ A c,av = .slice A n c:=by obtain⟨rs,⟨A,c,e,_⟩,_⟩:=ha;exact⟨A,c,e⟩
 obtain⟨Aa,ca,rfl⟩:=hsh1;have HRD:=zHd hrd;have HA:=zHd ha;have HS:=zHd hs;clear hrd ha hs;go_enter Tryz.func7,Tryz.ntmps7;go_wp2_with fail;refine HRD.out.mono ?_;rintro e w1 ⟨b,rfl,hb,hg1⟩;have HG1:=zHd hg1;cases b
 ·clear hb hg1
  go_wp2_with fail;refine(zfu _).mono ?_;rintro e w99 ⟨rfl,hg99⟩;have HG99:=zHd (zaa HG1.out hg99);clear hg99;go_wp2;go_ret;exact⟨rfl,HG99.out⟩
 have hrdy:=hb.1 (by simp);have HM:=zHd hrdy;clear hb hg1 hrdy;have hk:=HM.out.2.1;have hna:=MatN.of (b:=w1.heap.size) ((HA.out.grown HG1.out).square HM.out.2.2.1) (Nat.le_refl _);have HSU:=zHd (show zbT k w1.heap.size false (w1.alloc (.cells #[.int .i64 k,.bool false] 45)) from zau w1 _);have HAL:=zHd (show w1.grownBy (w1.alloc (.cells #[.int .i64 k,.bool false] 45)) (some w1.heap.size) from zGA w1 _ _);have HNA:=zHd (hna.grown HAL.out);clear hna;go_wp2_with fail;generalize hsz:w1.heap.size=sb at *;have HSZ:=zHd hsz;clear hsz;refine(zmF hk sb n false _ HM.out.1 HSU.out).mono ?_;rintro e w2 ⟨g,vs,G2,b2,rfl,hf,hs2,ht⟩;have H2:=zHd (zAI hf (zAI hs2 (zAI (fun e=>(ht.2 e).1) HSU.out.lt)));clear hf hs2 ht;generalize hwa:w1.alloc (.cells #[.int .i64 k,.bool false] 45)=wa at *;have HWA:=zHd hwa;clear hwa;go_wp2_with fail
 go_loopw [8] (fun iv wr=>∃ (i:Nat) (F:Nat→Nat→ByteArray),i≤n∧iv = .int .i64 (i:Int)∧zaR (some sb) n wa g n 0 vs F wr∧zbT k sb b2 wr∧∀ x y,x<i→y<n→F x y=upT k G x y) (fun iv _=>n - (intOf iv).toNat)
 case atStart=>exact⟨0,G2,Nat.zero_le _,rfl,H2.out.1,H2.out.2.1,fun x y hx=>absurd hx (by omega)⟩
 case round =>
  obtain⟨i,F,hi',rfl,hf,hs,ht⟩:=hrel
  by_cases hin:i<n
  ·have u1:decide (i<n)=true:=by simpa using hin
   have u1':decide ((i:Int)<(n:Int))=true:=by simpa using hin
   have u2:(i:Int)<(n:Int):=by omega
   have u3:(0:Int)≤(i:Int):=by omega
   have u4:IntKind.i64.wrap ((i:Int)+1)=(i:Int)+1:=by have:=HM.out.1;rw[IntKind.wrap_i64];omega
   have HI:=zHd (zAI hin (zAI hf (zAI hs ht)));clear hi' hin hf hs ht;go_wp2;generalize wr=wq at *
   go_loopw [9] (fun jv wr=>∃ (j:Nat) (F:Nat→Nat→ByteArray),j≤n∧jv = .int .i64 (j:Int)∧zaR (some sb) n wa g n 0 vs F wr∧zbT k sb b2 wr∧(∀ x y,x<i→y<n→F x y=upT k G x y)∧∀ y,y<j→F i y=upT k G i y) (fun jv _=>n - (intOf jv).toNat)
   case atStart=>exact⟨0,F,Nat.zero_le _,rfl,HI.out.2.1,HI.out.2.2.1,HI.out.2.2.2,fun y hy=>absurd hy (by omega)⟩
   case round =>
    obtain⟨j,F2,hj',rfl,hf,hs,ht,htj⟩:=hrel
    by_cases hjn:j<n
    ·have x1:decide (j<n)=true:=by simpa using hjn
     have x1':decide ((j:Int)<(n:Int))=true:=by simpa using hjn
     have x2:(j:Int)<(n:Int):=by omega
     have x3:(0:Int)≤(j:Int):=by omega
     have x4:IntKind.i64.wrap ((j:Int)+1)=(j:Int)+1:=by have:=HM.out.1;rw[IntKind.wrap_i64];omega
     obtain⟨c,cap,hv,hvc,hcc,hcf,hgc,hcl⟩:=hf.get HI.out.1 hjn;have k0:wr.drew.cell? ⟨g,i,none⟩=some (.slice (some ⟨c,0,none⟩) n cap):=hvc;have HX:=zHd (zAI hjn (zAI hf (zAI hs (zAI ht (zAI htj (zAI hv hgc))))));have hne:¬ g=c:=by omega
     have hbl:wr.drew.heap[c]? = wr.heap[c]? := rfl;have f0:wr.drew.frozen? ⟨c,j,none⟩=false:=hcf;have q0:wr.drew.cell? ⟨c,j,none⟩=some (.string (F2 i j)):=hcc;have HCL:=zHd hcl;clear hj' hjn hf hs ht htj hv hvc hcc hcf hgc hcl hbl;go_upto_region 12 with(fail)
     go_region_held2 (fun W'=>W'.cell? ⟨g,i,none⟩=some (.slice (some ⟨c,0,none⟩) n cap)) (first|exact k0|exact S5|exact S6|go_keep)
      (first|(go_at_call 33;refine(zhC k _).mono ?_;rintro e w5 ⟨rfl,hg5⟩;have S5:(fun W':World=>W'.cell? ⟨g,i,none⟩=some (.slice (some ⟨c,0,none⟩) n cap)) w5:=hg5.cell k0 (by simp);have q5:=hg5.cell q0 (by simp);have f5:w5.frozen? ⟨c,j,none⟩=false:=(World.frozen?_of_block (a:=⟨c,j,none⟩) (hg5.block c HCL.out (by simp))).trans f0;have S6:=zba (o:=j) (u := .string (zaf k)) hne S5;have H5:=zHd hg5;clear hg5))
     all_goals
      have hf5:=(HX.out.2.1.kept (zaC (zaa (zae wr none) H5.out))).set (s:=zaf k) HI.out.1 HX.out.1 HX.out.2.2.2.2.2.1;have hs5:=HX.out.2.2.1.kept (zaa (zae wr none) H5.out);have hs6:zbT k sb b2 (w5.setCell ⟨c,j,none⟩ (.string (zaf k))):=(heap_setCell_other w5 _ sb _ (by show sb≠c;have:=HX.out.2.2.2.2.2.2;have:=HX.out.2.1.far;have:=H2.out.2.2.2;omega)).trans hs5;have HF5:=zHd hf5;have HS6:=zHd hs6;obtain⟨c',cap',hv6,hvc6,hcc6,hcf6,_,_⟩:=hf5.get HI.out.1 HX.out.1;obtain⟨rfl,rfl⟩:c'=c∧cap'=cap:=by have h:=hv6.symm.trans HX.out.2.2.2.2.2.1;simp at h;exact h
      clear hf5 hs5 hs6 hv6 H5 S5 S6 q5 f5 k0 f0 q0;generalize w5.setCell ⟨c',j,none⟩ (.string (zaf k))=wz at *
      by_cases hij:i<j
      ·have y1:decide ((i:Int)<(j:Int))=true:=by simp;omega
       have y2:(i:Int)<(j:Int):=by omega
       have HIJ:=zHd hij;clear hij;obtain⟨ad,rd,ci,rfl,ha0,ha1,hna,hnr,hla,hlr⟩:=HNA.out.at_ HI.out.1 HX.out.1;have d0:wz.drew.cell? ⟨g,i,none⟩=some (.slice (some ⟨c',0,none⟩) n cap'):=hvc6;have a0:wz.drew.cell? (ad.add i)=some (.slice (some rd) n ci):=HF5.out.gr.cell ha0 (by rw[zaj];simp;omega);have a1:wz.drew.cell? (rd.add j)=some (.string (G i j)):=HF5.out.gr.cell ha1 (by rw[zaj];simp;omega);have f6:wz.drew.frozen? ⟨c',j,none⟩=false:=hcf6;have q6:wz.drew.cell? ⟨c',j,none⟩=some (.string (putG F2 i j (zaf k) i j)):=hcc6;have hgc2:=HX.out.2.2.2.2.2.2;have hfar:=HX.out.2.1.far;have T0:(fun W':World=>W'.cell? ⟨g,i,none⟩=some (.slice (some ⟨c',0,none⟩) n cap')∧W'.cell? (ad.add i)=some (.slice (some rd) n ci)∧W'.cell? (rd.add j)=some (.string (G i j))) wz.drew:=⟨d0,a0,a1⟩;have T1:(fun W':World=>W'.cell? ⟨g,i,none⟩=some (.slice (some ⟨c',0,none⟩) n cap')∧W'.cell? (ad.add i)=some (.slice (some rd) n ci)∧W'.cell? (rd.add j)=some (.string (G i j))) (wz.drew.setCell ⟨c',j,none⟩ (.string (G i j))):=⟨zba hne d0,(zac wz.drew ⟨c',j,none⟩ _).cell a0 (by rw[zaj];simp;omega),(zac wz.drew ⟨c',j,none⟩ _).cell a1 (by rw[zaj];simp;omega)⟩;clear ha0 ha1 hna hnr hla hlr hgc2 hfar hvc6 hcc6 hcf6;go_upto_region 14 with(fail)
       go_region_held2 (fun W'=>W'.cell? ⟨g,i,none⟩=some (.slice (some ⟨c',0,none⟩) n cap')∧W'.cell? (ad.add i)=some (.slice (some rd) n ci)∧W'.cell? (rd.add j)=some (.string (G i j))) (first|exact T0|exact T1|go_keep) (fail)
       all_goals
        go_wp2;have hf7:=(HF5.out.kept (zae wz (some sb))).set (s:=G i j) HI.out.1 HX.out.1 HX.out.2.2.2.2.2.1;refine⟨⟨j+1,_,HX.out.1,by simp,hf7,(heap_setCell_other wz.drew _ sb _ (by show sb≠c';have:=HX.out.2.2.2.2.2.2;have:=HX.out.2.1.far;have:=H2.out.2.2.2;omega)).trans (HS6.out.kept (zae wz none)),fun x y hx hy => ?_,fun y hy => ?_⟩,by have:=HX.out.1;simp[intOf];omega⟩
        ·unfold putG;rw[if_neg (by omega),if_neg (by omega)];exact HX.out.2.2.2.1 x y hx hy
        ·unfold putG
         by_cases e:y=j
         ·rw[if_pos ⟨rfl,e⟩,e];unfold upT;rw[if_pos HIJ.out]
         ·rw[if_neg (by omega),if_neg (by omega)];exact HX.out.2.2.2.2.1 y (by omega)
      ·have y1:decide ((i:Int)<(j:Int))=false:=by simp;omega
       have y2:¬ (i:Int)<(j:Int):=by omega
       have HIJ:=zHd hij;clear hij hvc6 hcc6 hcf6;go_wp2;refine⟨⟨j+1,_,HX.out.1,by simp,HF5.out,HS6.out,fun x y hx hy => ?_,fun y hy => ?_⟩,by have:=HX.out.1;simp[intOf];omega⟩
       ·unfold putG;rw[if_neg (by omega)];exact HX.out.2.2.2.1 x y hx hy
       ·unfold putG
        by_cases e:y=j
        ·rw[if_pos ⟨rfl,e⟩,e];unfold upT;rw[if_neg HIJ.out]
        ·rw[if_neg (by omega)];exact HX.out.2.2.2.2.1 y (by omega)
    ·obtain rfl:j=n:=by omega
     have v1:decide (j<j)=false:=by simp
     have v1':decide ((j:Int)<(j:Int))=false:=by simp
     have HJ:=zHd (zAI hf (zAI hs (zAI ht htj)));clear hj' hjn hf hs ht htj;go_wp2;refine⟨⟨i+1,F2,HI.out.1,by simp,HJ.out.1,HJ.out.2.1,fun x y hx hy => ?_⟩,by have:=HI.out.1;simp[intOf];omega⟩
     by_cases e:x<i
     ·exact HJ.out.2.2.1 x y e hy
     ·rw[show x=i by omega];exact HJ.out.2.2.2 y hy
  ·obtain rfl:i=n:=by omega
   have u1:decide (i<i)=false:=by simp
   have u1':decide ((i:Int)<(i:Int))=false:=by simp
   have HJ:=zHd (zAI hf (zAI hs (hf.matA (by have:=HM.out.1;omega))));have HMU:=zHd (HJ.out.2.2.congr (R:=upT k G) (fun x hx y hy=>ht x y hx hy));have HNU:=zHd (hf.mat (sb:=sb) (by have:=HM.out.1;omega) H2.out.2.2.2);have HUT:=zHd ht;clear hi' hin hf hs ht;go_wp2_with fail;refine(zjm k i (fun _=>i) (upT k G) _ wr (by have:=HM.out.1;omega) HMU.out (zEk HS.out)).mono ?_;intro e w3 hq;obtain⟨hg3,hk3,A,hA,v,c,rfl,hv⟩:=zEi (zFY HM.out.2) HM.out.1 hq;have hgr3:wa.grownBy w3 (some sb):=zaa HJ.out.1.gr (zaC hg3);have HW3:=zHd (zlT (zaa (zdG (some sb) HG1.out) (zaa HAL.out hgr3)) (by have:=HG1.out.size;rw[HSZ.out] at this;exact this));have H3:=zHd (zAI hgr3 hg3);have HV:=zHd hv;have HAE:=zHd hA;clear hq hg3 hv hA hgr3
   by_cases hc:c=0
   rotate_left 1
   ·have z1:(c != 0)=true:=by simpa using hc
    go_wp2_with fail;refine(zfu _).mono ?_;rintro e w99 ⟨rfl,hg99⟩;have HG99:=zHd (zaa HW3.out hg99);clear hg99;go_wp2;go_ret;exact⟨rfl,HG99.out⟩
   subst hc;obtain⟨hmv,hmf⟩:=HV.out rfl;obtain⟨Ab,cb,rfl⟩:=hmv.shape;have HS3:=zHd (HJ.out.2.1.kept H3.out.2);have HMF:=zHd hmf;have HMX:=zHd (MatA.apart hmv.texts HS3.out);have HTU:=zHd (show zdz b2 i (upT k G) A from⟨fun x y hx hy => .inl ⟨_,(HAE.out x hx y hy).2,(HAE.out x hx y hy).1⟩,fun _ x y hx hy=>HAE.out x hx y hy⟩);have HNU3:=zHd (MatN.congr (HNU.out.grown (zaC H3.out.2)) (R:=upT k G) (fun x hx y hy=>HUT.out x y hx hy));clear hmv hmf HV;go_wp2_with fail;refine(zmF hk sb i b2 w3 HM.out.1 HS3.out).mono ?_;rintro e w4 ⟨g4,vs4,G4,b4,rfl,hf,hs,ht⟩;have H4:=zHd (zAI hf (zAI hs (zAI ht (hf.mat (sb:=sb) (by have:=HM.out.1;omega) HS3.out.lt))));clear hf hs ht;go_wp2_with fail;refine(zmF hk sb i b4 w4 HM.out.1 H4.out.2.1).mono ?_;rintro e w5 ⟨g5,vs5,G5,b5,rfl,hf,hs,ht⟩;have H5:=zHd (zAI hf (zAI hs (zAI ht (hf.mat (sb:=sb) (by have:=HM.out.1;omega) H4.out.2.1.lt))));clear hf hs ht;go_wp2_with fail;have hT1:zdz b5 i G4 (fun x y=>sm (srE k hk) 1 (fun l=>pwM (srE k hk) i A l x y)):=(H4.out.2.2.1.tell.congr (fun x y _ _=>by show(srE k hk).add (srE k hk).zero (pwM (srE k hk) i A 0 x y)=_;rw[(srE k hk).zero_add];rfl)).more (fun e=>(H5.out.2.2.1.2 e).1);have HT1:=zHd hT1;clear hT1
   go_loopw [12,13,14] (fun tv pv kv wr=>∃ (s:Nat) (gt gp:Nat) (GT GP:Nat→Nat→ByteArray) (b6:Bool),s+1≤max i 1∧tv = .slice (some ⟨gt,0,none⟩) i i∧pv = .slice (some ⟨gp,0,none⟩) i i∧kv = .int .i64 ((s+1:Nat):Int)∧w3.grownBy wr (some sb)∧zbT k sb b6 wr∧MatN wr sb (.slice (some ⟨gt,0,none⟩) i i) i GT∧MatN wr sb (.slice (some ⟨gp,0,none⟩) i i) i GP∧zdz b6 i GT (fun x y=>sm (srE k hk) (s+1) (fun l=>pwM (srE k hk) i A l x y))∧zdz b6 i GP (pwM (srE k hk) i A s)∧(b6=false→b2=false)) (fun _ _ kv _=>i - (intOf kv).toNat)
   case atStart=>exact⟨0,g4,g5,G4,G5,b5,by omega,rfl,rfl,rfl,zaa H4.out.1.gr H5.out.1.gr,H5.out.2.1,H4.out.2.2.2.grown H5.out.1.gr,H5.out.2.2.2,HT1.out,H5.out.2.2.1.tell,fun e=>(H4.out.2.2.1.2 (H5.out.2.2.1.2 e).1).1⟩
   case round =>
    obtain⟨s,gt,gp,GT,GP,b6,hs1,rfl,rfl,rfl,hg6,hs6,hmt,hmp,htt,htp,hb6⟩:=hrel
    by_cases hsn:s+1<i
    ·have t1:decide (s+1<i)=true:=by simpa using hsn
     have t1':decide (((s+1:Nat):Int)<(i:Int))=true:=by simp;omega
     have t2:((s+1:Nat):Int)<(i:Int):=by omega
     have t4:IntKind.i64.wrap (((s+1:Nat):Int)+1)=((s+1+1:Nat):Int):=by have:=HM.out.1;rw[IntKind.wrap_i64];omega
     have HX:=zHd (zAI hsn (zAI hg6 (zAI hs6 (zAI hmt (zAI hmp (zAI htt (zAI htp hb6)))))));clear hs1 hsn hg6 hs6 hmt hmp htt htp hb6;generalize hks:((s+1:Nat):Int)=ks at *;have HKS:=zHd hks;clear hks;go_wp2_with fail;refine(zBI hk sb i b6 _ _ _ _ _ _ wr HM.out.1 HX.out.2.2.1 HX.out.2.2.2.2.1 (HNU3.out.grown HX.out.2.1) HX.out.2.2.2.2.2.2.1 (HTU.out.more HX.out.2.2.2.2.2.2.2)).mono ?_;rintro e w7 ⟨g7,vs7,G7,b7,rfl,hf,hs,ht⟩;have H7:=zHd (zAI hf (zAI hs (zAI ht (hf.mat (sb:=sb) (by have:=HM.out.1;omega) HX.out.2.2.1.lt))));clear hf hs ht;go_wp2_with fail;refine(zBH hk sb i b7 _ _ _ _ _ _ w7 HM.out.1 H7.out.2.1 (HX.out.2.2.2.1.grown H7.out.1.gr) H7.out.2.2.2 (HX.out.2.2.2.2.2.1.more (fun e=>(H7.out.2.2.1.2 e).1)) H7.out.2.2.1.tell).mono ?_;rintro e w8 ⟨g8,vs8,G8,b8,rfl,hf,hs,ht⟩;have H8:=zHd (zAI hf (zAI hs (zAI ht (hf.mat (sb:=sb) (by have:=HM.out.1;omega) H7.out.2.1.lt))));clear hf hs ht;go_wp2_with fail;have e7:b8=false→b7=false:=fun e=>(H8.out.2.2.1.2 e).1;exact⟨⟨s+1,g8,g7,G8,G7,b8,by have:=HX.out.1;omega,rfl,rfl,by first|rfl|(simp;omega),zaa (zaa HX.out.2.1 H7.out.1.gr) H8.out.1.gr,H8.out.2.1,H8.out.2.2.2,H7.out.2.2.2.grown H8.out.1.gr,H8.out.2.2.1.tell,H7.out.2.2.1.tell.more e7,fun e=>HX.out.2.2.2.2.2.2.2 (H7.out.2.2.1.2 (e7 e)).1⟩,by have:=HX.out.1;have:=HKS.out;simp[intOf];omega⟩
    ·have t1:decide (s+1<i)=false:=by simpa using hsn
     have t1':decide (((s+1:Nat):Int)<(i:Int))=false:=by simp;omega
     have t2:¬ ((s+1:Nat):Int)<(i:Int):=by omega
     have e1:=cell_of_row wr sb 1 _ _ (0,0) hs6;have HX:=zHd (zAI hs1 (zAI hsn (zAI hg6 (zAI hmt htt))));have HW:=zHd (zlT (zaa (zdG (some sb) HG1.out) (zaa HAL.out (zaa H3.out.1 hg6))) (by have:=HG1.out.size;rw[HSZ.out] at this;exact this));clear hs1 hsn hg6 hs6 hmt hmp htt htp hb6;generalize hks:((s+1:Nat):Int)=ks at *;clear hks;cases b6;rotate_left 1
     ·go_wp2_with fail
      refine(zfu _).mono ?_;rintro e w99 ⟨rfl,hg99⟩;have HG99:=zHd (zaa HW.out hg99);clear hg99;go_wp2;go_ret;exact⟨rfl,HG99.out⟩
     have s1:ztr i i (fun _=>i) (fun _=>i) (fun x y=>tx (stM (srE k hk3) A i x y)) GT:=⟨rfl,fun x hx=>⟨rfl,fun y hy=>by
      have e:s+1=i:=by have:=HX.out.1;have:=HX.out.2.1;omega
      rw[(HX.out.2.2.2.2.2 rfl x y hx hy).1];show tx (stM (srE k hk) A i x y)=tx (sm (srE k hk) (s+1) (fun l=>pwM (srE k hk) i A l x y));rw[ztS (srE k hk) (fun a b ha hb hab => ?_) hx hy,e]
      rfl
      obtain⟨ea,fa⟩:=HAE.out a ha b hb;refine zeq hk fa ?_;rw[← ea];unfold upT;rw[if_neg (by omega)]⟩⟩
     have SS:=zHd s1;clear s1;go_wp2_with fail;refine(zeu i i (fun _=>i) (fun _=>i) (fun x y=>tx (stM (srE k hk3) A i x y)) GT _ _ wr (by have:=HM.out.1;omega) (by have:=HM.out.1;omega) (fun _ _=>by have:=HM.out.1;omega) (fun _ _=>by have:=HM.out.1;omega) ?_ HX.out.2.2.2.1.mat).mono ?_
     ·exact(HMX.out.grown HX.out.2.2.1).mat
     rintro e w10 ⟨b,rfl,hb,hg10⟩;obtain rfl:=hb.2 SS.out;have HG10:=zHd (zaa HW.out hg10);clear hb hg10;go_wp2_with fail;refine(zfu _).mono ?_;rintro e w99 ⟨rfl,hg99⟩;have HG99:=zHd (zaa HG10.out hg99);clear hg99;go_wp2;go_ret;exact⟨rfl,HG99.out⟩
end Go.Proofs.YtaogepcaoogpgaaGreatDoor
namespace Go.Proofs.YtaogepcaoogpgaaGreatDoor.cClosureFinite
open Go.ChangeShapes Go.WideShapes Go.ChangeAt Go.RowKit Go.Lib
open Go.WideMaps Go.WideElems
open Go.ChangeMaps (open_string shut_string)
theorem zEl (H:Type)(enc:TypeId × Value→H)(W:World)(base:Nat)(args:Array Value)(ds gs:List (DataW H))(before:List MemPlace)
  (hval:∀ (j:Nat) t v,Tryz.f7.params[j]? = some t→args[j]? = some v→Value.okWide Tryz.prog W .any base t v)
  (hW:DataW.Whole enc Tryz.prog Tryz.f7.params.toList Rows.closureFiniteSpec.vars false W args.toList ds gs before)
  (hsz:(DataW.weightsEach Tryz.prog (Tryz.f7.params.toList++(OpenSpec.ofChange Rows.closureFiniteSpec).bare.plain.varTypes Tryz.prog) (ds++gs)).all (· ≤ reachBytes)=true) :
  Calls Tryz.prog 7 args W fun e W'=>∃ v,e = .returned v∧Rows.closureFiniteSpec.post enc Tryz.prog Tryz.f7 false true false false W args v W':=by
 have hW':=hW;obtain⟨p,q,hA0,hV,rfl,hfz,hnd⟩:=hW;have hA:DataW.TrodAll enc Tryz.prog W 0 (fun _=>true) true Tryz.f7.params.toList args.toList ds p:=hA0;rw[Tryz.params7] at hA hval hsz;obtain⟨v0,vs0,d0,ds0,p0,q0,hargs0,rfl,rfl,h0,r0⟩:=trodAll_cons hA;obtain⟨v1,vs1,d1,ds1,p1,q1,rfl,rfl,rfl,h1,r1⟩:=trodAll_cons r0;obtain⟨rfl,rfl,rfl⟩:=trodAll_nil r1;obtain rfl:args=#[v0,v1]:=by cases args;simp_all
 obtain⟨rfl,rfl⟩:=trodVars_none hV;obtain⟨s0,rfl,rfl,rfl,hs0⟩:=open_int Tryz.underlying3 (hval 0 3 v0 rfl rfl) h0;clear hA0;simp only[List.append_nil,List.nil_append] at hW';have hlt1:∀ x∈p1,x.block<W.heap.size:=fun x hx=>by simpa using hW'.lt x (by simp[hx])
 obtain⟨n1,ln1,G1,hm1,hz1⟩:=zBC (hval 1 22 v1 rfl rfl) h1;have walk:=ztQ s0 n1 ln1 G1 v1 W hm1 hz1;refine walk.mono fun e W' ⟨he,hg⟩ => ?_;subst he;have hb:=below_grown hg (Nat.le_refl _) (by simp);exact⟨_,rfl,zyj (pa:=[]++(p1++[])) (pv:=[]) hW' (fun _ _ _=>trodAll_cons_mk (shut_bool Tryz.underlying4 _) trodAll_mk0) (trodAll_cons_mk (shut_int Tryz.underlying3 hs0) (trodAll_cons_mk (zyk (by kernel_rfl) (of_decide_eq_true (by kernel_rfl)) h1 hb hlt1) trodAll_mk0)) rfl hb⟩
theorem zEm (os:Os):laidMet Tryz.prog Rows.closureFiniteRow.laid ((laidWorld os).forCall (fun _ _=>0) ⟨#[],#[Value.int .i64 0,Value.slice none 0 0],[]⟩).memory :=
 laidMet_of_run' 8 (by kernel_rfl) (by kernel_rfl)
theorem reads (os:Os){H:Type}(enc:TypeId × Value→H):∃ places,DataW.whole enc Tryz.prog ((laidWorld os).forCall (fun _ _=>0) ⟨#[],#[Value.int .i64 0,Value.slice none 0 0],[]⟩).memory Tryz.f7.params.toList Rows.closureFiniteSpec.vars false (#[Value.int .i64 0,Value.slice none 0 0]:Array Value).toList 8=some ([.lit (.int .i64 0),.nil],[],places) :=
 ⟨[],by kernel_rfl⟩
theorem lifted (os:Os)(started:os.Started)(H:Type)(enc:TypeId × Value→H)(F:Stop.Interp) :
  ReturnsInHanded {} Tryz.checked os 7 .any ((OpenSpec.ofChange Rows.closureFiniteSpec).preRow enc Tryz.prog Tryz.f7 Rows.closureFiniteRow.domain false Rows.closureFiniteRow.laid) (((OpenSpec.ofChange Rows.closureFiniteSpec).at F).post enc Tryz.prog Tryz.f7 false true false false):=by
 obtain⟨places,hx⟩:=reads os enc
 refine returnsInHanded_of_row (C:=Tryz.checked) (s:=OpenSpec.ofChange Rows.closureFiniteSpec) own started (by kernel_rfl) Tryz.func7
  (witness_row_at (enc:=enc) (C:=Tryz.checked) false (laidWorld os) #[Value.int .i64 0,Value.slice none 0 0] rfl (by kernel_rfl) (by kernel_rfl) (by kernel_rfl)
   (OpenSpec.preRow_of_cond 8 hx (by kernel_rfl) (fun k hk=>by cases hk) (by kernel_rfl) (zEm os))) ?_
 intro W base args ds gs before hval hW _ _ hsz hL _ _;exact zEl H enc W base args ds gs before hval hW hsz
theorem closed:joinedFacts Tryz.pinned.checked.prog 7 Tryz.f7 (OpenSpec.ofChange Rows.closureFiniteSpec).bare Rows.closureFiniteRow=true:=by kernel_rfl
theorem said:Rows.ClosureFiniteSaid :=
 OpenClaim.holds_of_cond 7 Tryz.f7 rfl rfl rfl rfl rfl rfl rfl ⟨rfl,rfl,rfl,rfl,rfl⟩ rfl rfl rfl rfl rfl (by kernel_rfl) Tryz.func7 closed
  (of_decide_eq_true (by kernel_rfl)) (by unfold Func.isWrapper;first|(rw[if_pos (by decide +kernel)];kernel_rfl)|(rw[if_neg (by decide +kernel)];exact⟨rfl,rfl⟩))
  (fun os started H enc _ F=>by rw[OpenClaim.pre_eq_preRow];exact lifted os started H enc F)
theorem plain (f:FuncId)(fn:Func)(hf:Tryz.pinned.checked.prog.funcNamed "abugida/abugidalaw07.ClosureFinite" = some f) (hfn:Tryz.pinned.checked.prog.funcs[f]? = some fn) :
  true=Tryz.pinned.checked.prog.looks []∧∀ (j:Nat) t,fn.params[j]? = some t→Tryz.pinned.checked.prog.wantsStandIn t=false:=by
 obtain rfl:f=7:=Option.some.inj ((show Tryz.prog.funcNamed "abugida/abugidalaw07.ClosureFinite" = some 7 by kernel_rfl).symm.trans hf) |>.symm;obtain rfl:fn=Tryz.f7:=(Option.some.inj (Tryz.func7.symm.trans hfn)).symm;refine⟨by kernel_rfl,fun j t ht => ?_⟩;rw[Tryz.params7] at ht;have hm:=Array.mem_of_getElem? ht;simp at hm;rcases hm with rfl|rfl
 ·exact(show Tryz.prog.wantsStandIn 3=false by kernel_rfl)
 ·exact(show Tryz.prog.wantsStandIn 22=false by kernel_rfl)
theorem card:Rows.ClosureFiniteCardSaid :=
 Claim7.holds_tied_plain_at .later [] _ _ _ _ said (fun _ h=>by cases h) (by kernel_rfl) (fun _ h=>by cases h) closureFinite_row_tie rfl ⟨rfl,rfl⟩ (by kernel_rfl) rfl plain (by kernel_rfl)
end Go.Proofs.YtaogepcaoogpgaaGreatDoor.cClosureFinite
