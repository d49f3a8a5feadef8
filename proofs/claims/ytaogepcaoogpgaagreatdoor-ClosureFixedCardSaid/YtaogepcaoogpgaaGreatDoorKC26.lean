/- THE CARD OF ClosureFixed: for every input, in every world in which the listed tables read as the program's text lays them, the call returns true, and what was there before it has not turned. Conditions: the row's own (the listed package-level variables, tied to the program's text). -/
import Derived.Test.YtaogepcaoogpgaaGreatDoorKC25
set_option linter.unusedVariables false
set_option linter.unusedSimpArgs false
set_option maxRecDepth 100000
set_option maxHeartbeats 16000000
namespace Go.Proofs.YtaogepcaoogpgaaGreatDoor
open Go.RowKit
theorem ztN {k:Int}(hk:zad k)(sb n:Nat)(bad:Bool)(w:World)(hn:n≤9)(hb:zbS k sb bad w) :
  Calls Tryz.prog 30 #[.pointer (some ⟨sb,0,none⟩),.int .i64 (n:Int)] w (zmz sb n bad (idm (srE k hk)) w):=by
 obtain⟨i0,hi,hz0,hz1,hz2⟩:=info_parts zcF;obtain⟨j0,ji,jz0,jz1,jz2⟩:=info_parts zdu;have n0:¬ (n:Int)<0:=by omega
 have HN:=zHd hn;have HB:=zHd hb;have HBL:=zHd hb.lt;clear hn hb;go_enter Tryz.func30,Tryz.ntmps30;go_wp2_with (at_make;refine wpList_make_full _ rfl _ _ 22 rfl w.heap.size 33 i0 (.slice none 0 0) 1 Tryz.underlying22 hi hz0 hz1 _ _ _ _ n rfl rfl ?c0 ?c1 ?c2 (by have:=HN.out;unfold maxLen;omega) (Nat.le_refl _) ?_)
 case c0=>omega
 case c1=>omega
 case c2=>have:=HN.out;first|omega|(rw[hz2];omega)
 intro w1 hown hgr;have hfill:=zaq.start hown hgr;have HF:=zHd (zAI (zbi.start (r:=some sb) hfill (fun b e=>by cases e;exact HBL.out)) (HB.out.kept hgr));clear hown hgr hfill;go_wp2
 go_loopw [6] (fun iv wr=>∃ (i:Nat) (vs:List Value) (G:Nat→Nat→ByteArray),i≤n∧iv = .int .i64 (i:Int)∧zbi (some sb) n w w.heap.size i 0 vs G wr∧zbS k sb bad wr∧Told bad n i 0 (idm (srE k hk)) G bad) (fun iv _=>n - (intOf iv).toNat)
 case atStart=>exact⟨0,_,_,Nat.zero_le _,rfl,HF.out.1,HF.out.2,Told.start⟩
 case round =>
  obtain⟨i,vs,G,hi',rfl,hf,hs,ht⟩:=hrel
  by_cases hin:i<n
  ·have u1:decide (i<n)=true:=by simpa using hin
   have u1':decide ((i:Int)<(n:Int))=true:=by simpa using hin
   have u2:(i:Int)<(n:Int):=by omega
   have u3:(0:Int)≤(i:Int):=by omega
   have u4:IntKind.i64.wrap ((i:Int)+1)=(i:Int)+1:=by have:=HN.out;rw[IntKind.wrap_i64];omega
   have HI:=zHd (zAI hin (zAI hf (zAI hs ht)));clear hi' hin hf hs ht;go_wp2;generalize wr=wq at *
   go_loopw [7] (fun jv wr=>∃ (j:Nat) (vs:List Value) (G:Nat→Nat→ByteArray),j≤n∧jv = .int .i64 (j:Int)∧zbi (some sb) n w w.heap.size i j vs G wr∧zbS k sb bad wr∧Told bad n i j (idm (srE k hk)) G bad) (fun jv _=>n - (intOf jv).toNat)
   case atStart=>exact⟨0,vs,G,Nat.zero_le _,rfl,HI.out.2.1,HI.out.2.2.1,HI.out.2.2.2⟩
   case round =>
    obtain⟨j,vs2,G2,hj',rfl,hf,hs,ht⟩:=hrel
    by_cases hjn:j<n
    ·have x1:decide (j<n)=true:=by simpa using hjn
     have x1':decide ((j:Int)<(n:Int))=true:=by simpa using hjn
     have x2:(j:Int)<(n:Int):=by omega
     have x3:(0:Int)≤(j:Int):=by omega
     have x4:IntKind.i64.wrap ((j:Int)+1)=(j:Int)+1:=by have:=HN.out;rw[IntKind.wrap_i64];omega
     obtain⟨v,hv,hvc,hvo,hvn,A,c,rfl⟩:=hf.at_ HI.out.1;have k1:=cell_of_row wr sb 0 _ _ (0,0) hs;have k0:wr.drew.cell? ⟨w.heap.size,i,none⟩=some (.slice A j c):=hvc;have k1:wr.drew.cell? ⟨sb,0,none⟩=some (.int .i64 k):=k1;have HX:=zHd (zAI hjn (zAI hf (zAI hs (zAI ht hv))));clear hj' hjn hf hs ht hv hvc hvo hvn
     by_cases hij:i=j
     ·have y1:((i:Int) == (j:Int))=true:=by simp;omega
      have HIJ:=zHd hij;clear hij;go_upto_region 9 with(fail)
      refine zdf (e:=14) (n:=14) (fun W':World=>W'.cell? ⟨w.heap.size,i,none⟩=some (.slice A j c)∧W'.cell? ⟨sb,0,none⟩=some (.int .i64 k)) (by kernel_rfl) (by kernel_rfl) rfl ?_;have hS0:(fun W':World=>W'.cell? ⟨w.heap.size,i,none⟩=some (.slice A j c)∧W'.cell? ⟨sb,0,none⟩=some (.int .i64 k)) wr.drew:=⟨k0,k1⟩;refine zTk 0 (.slice (some ⟨w.heap.size,0,none⟩) n n) rfl hS0 ?_
      (try simp only[zA1,zA2,zA3,Act.put,zA4,zA5,zA6])
      refine zTk 1 (.int .i64 (i:Int)) rfl hS0 ?_
      (try simp only[zA1,zA2,zA3,Act.put,zA4,zA5,zA6])
      refine zTk 2 (.slice (some ⟨w.heap.size,0,none⟩) n n) rfl hS0 ?_
      (try simp only[zA1,zA2,zA3,Act.put,zA4,zA5,zA6])
      refine zTk 3 (.int .i64 (i:Int)) rfl hS0 ?_
      (try simp only[zA1,zA2,zA3,Act.put,zA4,zA5,zA6])
      refine zTk 4 (.pointer (some ⟨w.heap.size,i,none⟩)) rfl hS0 ?_
      (try simp only[zA1,zA2,zA3,Act.put,zA4,zA5,zA6])
      refine zTk 5 (.slice A j c) rfl hS0 ?_
      (try simp only[zA1,zA2,zA3,Act.put,zA4,zA5,zA6])
      refine zTk 6 (.pointer (some ⟨sb,0,none⟩)) rfl hS0 ?_
      (try simp only[zA1,zA2,zA3,Act.put,zA4,zA5,zA6])
      refine zTk 7 (.pointer (some ⟨sb,0,none⟩)) rfl hS0 ?_
      (try simp only[zA1,zA2,zA3,Act.put,zA4,zA5,zA6])
      refine zTk 8 (.pointer (some ⟨sb,0,none⟩)) rfl hS0 ?_
      (try simp only[zA1,zA2,zA3,Act.put,zA4,zA5,zA6])
      refine zTk 9 (.int .i64 k) rfl hS0 ?_
      (try simp only[zA1,zA2,zA3,Act.put,zA4,zA5,zA6])
      refine wpAnyH_ready (rs:=[10]) (by kernel_rfl) (by simp) ?_;refine AllReadyH.cons rfl (fun K hK => ?_) AllReadyH.nil
      go_simp
      refine(ziN k _).mono ?_;rintro e w5 ⟨rfl,hg5⟩;have hf5:=HX.out.2.1.kept (zaG (zaa (zae wr none) hg5));obtain⟨v5,hv5,hvc5,hvo5,_⟩:=hf5.at_ HI.out.1;obtain rfl:v5 = .slice A j c:=by have h:=hv5.symm.trans HX.out.2.2.2.2;cases h;rfl
      have hs5:=HX.out.2.2.1.kept (zaa (zae wr none) hg5);have k15:=hg5.cell k1 (by simp);refine hK.out _ _ ⟨hvc5,k15⟩ (fun hHeld => ?_);refine wpAnyH_ready (rs:=[11]) (by kernel_rfl) (by simp) ?_;refine AllReadyH.cons rfl (fun K hK => ?_) AllReadyH.nil
      go_simp
      have hal:=zGA w5 (.cells #[.string (oneT k)] 9) none;refine hK.out _ _ ⟨hal.cell hvc5 (by simp),hal.cell k15 (by simp)⟩ (fun hHeld => ?_);refine wpAnyH_ready (rs:=[12]) (by kernel_rfl) (by simp) ?_;refine AllReadyH.cons rfl (fun K hK => ?_) AllReadyH.nil;refine step_append_lies _ (by rfl) _ _ _ (by rfl) (w.heap.size+1) 9 j0 (.string ⟨#[]⟩) 1 16 Tryz.underlying33 ji jz0 jz1 jz2 rfl (by omega) (.slice A j c) j (zbP n G2 i j i) (by rfl) (hvo5.alloc _) ⟨w5.heap.size,0,none⟩ 1 1 [.string (oneT k)] (by rfl) (by rfl) (World.news_of_block (cs:=#[.string (oneT k)]) (t:=9) (fr:=(0,0)) (heap_alloc_new w5 _)) (by simp[Value.oneCell']) (by omega) (by have:=HN.out;have:=HX.out.1;unfold maxLen;omega) (by have:=HN.out;have:=HX.out.1;omega) (by have:=hf5.grid.lt;first|(simp;omega)|(simp at this ⊢;omega)) (w5.heap.size+1) (by simp) ?_;intro g2 cap W6 hown6 hgrow hat hlt6;have hrd:=hf5.ready hv5 hgrow;have z0:=hrd.2;have q0:=hrd.1;refine hK.out _ _ ⟨hrd.1,(zap (hf5.apart hv5 hgrow (by exact HBL.out))).trans k15⟩ (fun hHeld => ?_);refine zTk 13 (.pointer (some ⟨w.heap.size,i,none⟩)) rfl hHeld ?_
      (try simp only[zA1,zA2,zA3,Act.put,zA4,zA5,zA6])
      clear hHeld;refine wpAnyH_done (by kernel_rfl) ?_ _;refine zeg (by rfl) (fun K hK => ?_)
      go_simp
      refine hK _ _ ?_;have hput:=hf5.put HI.out.1 HX.out.1 hv5 hgrow hown6 hat;have HP:=zHd hput;clear hput hgrow hown6 hat hrd;go_wp2;refine⟨⟨j+1,_,_,HX.out.1,by simp,HP.out.1,(HP.out.2 sb HBL.out).trans hs5,HX.out.2.2.2.1.put (.inl ⟨(srE k hk).one,zlh hk,(znv hk).symm⟩) (fun _ => ?_)⟩,by have:=HX.out.1;simp[intOf];omega⟩;unfold idm;rw[if_pos HIJ.out];exact⟨(znv hk).symm,zlh hk⟩
     ·have y1:((i:Int) == (j:Int))=false:=by simp;omega
      have HIJ:=zHd hij;clear hij;go_upto_region 10 with(fail)
      refine zdf (e:=14) (n:=14) (fun W':World=>W'.cell? ⟨w.heap.size,i,none⟩=some (.slice A j c)∧W'.cell? ⟨sb,0,none⟩=some (.int .i64 k)) (by kernel_rfl) (by kernel_rfl) rfl ?_;have hS0:(fun W':World=>W'.cell? ⟨w.heap.size,i,none⟩=some (.slice A j c)∧W'.cell? ⟨sb,0,none⟩=some (.int .i64 k)) wr.drew:=⟨k0,k1⟩;refine zTk 0 (.slice (some ⟨w.heap.size,0,none⟩) n n) rfl hS0 ?_
      (try simp only[zA1,zA2,zA3,Act.put,zA4,zA5,zA6])
      refine zTk 1 (.int .i64 (i:Int)) rfl hS0 ?_
      (try simp only[zA1,zA2,zA3,Act.put,zA4,zA5,zA6])
      refine zTk 2 (.slice (some ⟨w.heap.size,0,none⟩) n n) rfl hS0 ?_
      (try simp only[zA1,zA2,zA3,Act.put,zA4,zA5,zA6])
      refine zTk 3 (.int .i64 (i:Int)) rfl hS0 ?_
      (try simp only[zA1,zA2,zA3,Act.put,zA4,zA5,zA6])
      refine zTk 4 (.pointer (some ⟨w.heap.size,i,none⟩)) rfl hS0 ?_
      (try simp only[zA1,zA2,zA3,Act.put,zA4,zA5,zA6])
      refine zTk 5 (.slice A j c) rfl hS0 ?_
      (try simp only[zA1,zA2,zA3,Act.put,zA4,zA5,zA6])
      refine zTk 6 (.pointer (some ⟨sb,0,none⟩)) rfl hS0 ?_
      (try simp only[zA1,zA2,zA3,Act.put,zA4,zA5,zA6])
      refine zTk 7 (.pointer (some ⟨sb,0,none⟩)) rfl hS0 ?_
      (try simp only[zA1,zA2,zA3,Act.put,zA4,zA5,zA6])
      refine zTk 8 (.pointer (some ⟨sb,0,none⟩)) rfl hS0 ?_
      (try simp only[zA1,zA2,zA3,Act.put,zA4,zA5,zA6])
      refine zTk 9 (.int .i64 k) rfl hS0 ?_
      (try simp only[zA1,zA2,zA3,Act.put,zA4,zA5,zA6])
      refine wpAnyH_ready (rs:=[10]) (by kernel_rfl) (by simp) ?_;refine AllReadyH.cons rfl (fun K hK => ?_) AllReadyH.nil
      go_simp
      refine(zke k _).mono ?_;rintro e w5 ⟨rfl,hg5⟩;have hf5:=HX.out.2.1.kept (zaG (zaa (zae wr none) hg5));obtain⟨v5,hv5,hvc5,hvo5,_⟩:=hf5.at_ HI.out.1;obtain rfl:v5 = .slice A j c:=by have h:=hv5.symm.trans HX.out.2.2.2.2;cases h;rfl
      have hs5:=HX.out.2.2.1.kept (zaa (zae wr none) hg5);have k15:=hg5.cell k1 (by simp);refine hK.out _ _ ⟨hvc5,k15⟩ (fun hHeld => ?_);refine wpAnyH_ready (rs:=[11]) (by kernel_rfl) (by simp) ?_;refine AllReadyH.cons rfl (fun K hK => ?_) AllReadyH.nil
      go_simp
      have hal:=zGA w5 (.cells #[.string (zaf k)] 9) none;refine hK.out _ _ ⟨hal.cell hvc5 (by simp),hal.cell k15 (by simp)⟩ (fun hHeld => ?_);refine wpAnyH_ready (rs:=[12]) (by kernel_rfl) (by simp) ?_;refine AllReadyH.cons rfl (fun K hK => ?_) AllReadyH.nil;refine step_append_lies _ (by rfl) _ _ _ (by rfl) (w.heap.size+1) 9 j0 (.string ⟨#[]⟩) 1 16 Tryz.underlying33 ji jz0 jz1 jz2 rfl (by omega) (.slice A j c) j (zbP n G2 i j i) (by rfl) (hvo5.alloc _) ⟨w5.heap.size,0,none⟩ 1 1 [.string (zaf k)] (by rfl) (by rfl) (World.news_of_block (cs:=#[.string (zaf k)]) (t:=9) (fr:=(0,0)) (heap_alloc_new w5 _)) (by simp[Value.oneCell']) (by omega) (by have:=HN.out;have:=HX.out.1;unfold maxLen;omega) (by have:=HN.out;have:=HX.out.1;omega) (by have:=hf5.grid.lt;first|(simp;omega)|(simp at this ⊢;omega)) (w5.heap.size+1) (by simp) ?_;intro g2 cap W6 hown6 hgrow hat hlt6;have hrd:=hf5.ready hv5 hgrow;have z0:=hrd.2;have q0:=hrd.1;refine hK.out _ _ ⟨hrd.1,(zap (hf5.apart hv5 hgrow (by exact HBL.out))).trans k15⟩ (fun hHeld => ?_);refine zTk 13 (.pointer (some ⟨w.heap.size,i,none⟩)) rfl hHeld ?_
      (try simp only[zA1,zA2,zA3,Act.put,zA4,zA5,zA6])
      clear hHeld;refine wpAnyH_done (by kernel_rfl) ?_ _;refine zeg (by rfl) (fun K hK => ?_)
      go_simp
      refine hK _ _ ?_;have hput:=hf5.put HI.out.1 HX.out.1 hv5 hgrow hown6 hat;have HP:=zHd hput;clear hput hgrow hown6 hat hrd;go_wp2;refine⟨⟨j+1,_,_,HX.out.1,by simp,HP.out.1,(HP.out.2 sb HBL.out).trans hs5,HX.out.2.2.2.1.put (.inl ⟨(srE k hk).zero,zcg hk,(zdD hk).symm⟩) (fun _ => ?_)⟩,by have:=HX.out.1;simp[intOf];omega⟩;unfold idm;rw[if_neg HIJ.out];exact⟨(zdD hk).symm,zcg hk⟩
    ·obtain rfl:j=n:=by omega
     have v1:decide (j<j)=false:=by simp
     have v1':decide ((j:Int)<(j:Int))=false:=by simp
     have HJ:=zHd (zAI hf (zAI hs ht));clear hj' hjn hf hs ht;go_wp2;exact⟨⟨i+1,vs2,G2,HI.out.1,by simp,HJ.out.1.row,HJ.out.2.1,HJ.out.2.2.next⟩,by have:=HI.out.1;simp[intOf];omega⟩
  ·obtain rfl:i=n:=by omega
   have u1:decide (i<i)=false:=by simp
   have u1':decide ((i:Int)<(i:Int))=false:=by simp
   have HJ:=zHd (zAI hf (zAI hs ht));clear hi' hin hf hs ht;go_wp2;go_ret;exact⟨_,vs,G,bad,rfl,HJ.out.1,HJ.out.2.1,HJ.out.2.2⟩
open Go.RowKit
theorem zqM {k:Int}(hk:zad k)(sb n:Nat)(bad:Bool)(GA GB:Nat→Nat→ByteArray)(A B:Nat→Nat→El k)(av bv:Value)(w:World)(hn:n≤9)(hb:zbS k sb bad w)(ha:MatN w sb av n GA)(hbm:MatN w sb bv n GB)(hta:zfV bad n GA A)(htb:zfV bad n GB B) :
  Calls Tryz.prog 29 #[.pointer (some ⟨sb,0,none⟩),av,bv] w (zmz sb n bad (fun i j=>(srE k hk).add (A i j) (B i j)) w):=by
 obtain⟨i0,hi,hz0,hz1,hz2⟩:=info_parts zcF;obtain⟨j0,ji,jz0,jz1,jz2⟩:=info_parts zdu;have n0:¬ (n:Int)<0:=by omega
 obtain⟨Aa,ca,rfl⟩:=ha.shape;obtain⟨Ab,cb,rfl⟩:=hbm.shape;have HN:=zHd hn;have HB:=zHd hb;have HBL:=zHd hb.lt;have HA:=zHd ha;have HBM:=zHd hbm;have HTA:=zHd hta;have HTB:=zHd htb;clear hn hb ha hbm hta htb;go_enter Tryz.func29,Tryz.ntmps29;go_wp2_with (at_make;refine wpList_make_full _ rfl _ _ 22 rfl w.heap.size 33 i0 (.slice none 0 0) 1 Tryz.underlying22 hi hz0 hz1 _ _ _ _ n rfl rfl ?c0 ?c1 ?c2 (by have:=HN.out;unfold maxLen;omega) (Nat.le_refl _) ?_)
 case c0=>omega
 case c1=>omega
 case c2=>have:=HN.out;first|omega|(rw[hz2];omega)
 intro w1 hown hgr;have hfill:=zaq.start hown hgr;have HF:=zHd (zAI (zbi.start (r:=some sb) hfill (fun b e=>by cases e;exact HBL.out)) (HB.out.kept hgr));clear hown hgr hfill;go_wp2
 go_loopw [8] (fun iv wr=>∃ (i:Nat) (vs:List Value) (G:Nat→Nat→ByteArray) (b1:Bool),i≤n∧iv = .int .i64 (i:Int)∧zbi (some sb) n w w.heap.size i 0 vs G wr∧zbS k sb b1 wr∧Told bad n i 0 (fun i j=>(srE k hk).add (A i j) (B i j)) G b1) (fun iv _=>n - (intOf iv).toNat)
 case atStart=>exact⟨0,_,_,bad,Nat.zero_le _,rfl,HF.out.1,HF.out.2,Told.start⟩
 case round =>
  obtain⟨i,vs,G,b1,hi',rfl,hf,hs,ht⟩:=hrel
  by_cases hin:i<n
  ·have u1:decide (i<n)=true:=by simpa using hin
   have u1':decide ((i:Int)<(n:Int))=true:=by simpa using hin
   have u2:(i:Int)<(n:Int):=by omega
   have u3:(0:Int)≤(i:Int):=by omega
   have u4:IntKind.i64.wrap ((i:Int)+1)=(i:Int)+1:=by have:=HN.out;rw[IntKind.wrap_i64];omega
   have HI:=zHd (zAI hin (zAI hf (zAI hs ht)));clear hi' hin hf hs ht;go_wp2;generalize wr=wq at *
   go_loopw [9] (fun jv wr=>∃ (j:Nat) (vs:List Value) (G:Nat→Nat→ByteArray) (b1:Bool),j≤n∧jv = .int .i64 (j:Int)∧zbi (some sb) n w w.heap.size i j vs G wr∧zbS k sb b1 wr∧Told bad n i j (fun i j=>(srE k hk).add (A i j) (B i j)) G b1) (fun jv _=>n - (intOf jv).toNat)
   case atStart=>exact⟨0,vs,G,b1,Nat.zero_le _,rfl,HI.out.2.1,HI.out.2.2.1,HI.out.2.2.2⟩
   case round =>
    obtain⟨j,vs2,G2,b2,hj',rfl,hf,hs,ht⟩:=hrel
    by_cases hjn:j<n
    ·have x1:decide (j<n)=true:=by simpa using hjn
     have x1':decide ((j:Int)<(n:Int))=true:=by simpa using hjn
     have x2:(j:Int)<(n:Int):=by omega
     have x3:(0:Int)≤(j:Int):=by omega
     have x4:IntKind.i64.wrap ((j:Int)+1)=(j:Int)+1:=by have:=HN.out;rw[IntKind.wrap_i64];omega
     obtain⟨v,hv,hvc,hvo,hvn,A7,c,rfl⟩:=hf.at_ HI.out.1;obtain⟨ad,rd,ci,rfl,ha0,ha1,hna,hnr,hla,hlr⟩:=HA.out.at_ HI.out.1 hjn;obtain⟨bd,sd,di,rfl,hc0,hc1,hnb,hns,hlb,hls⟩:=HBM.out.at_ HI.out.1 hjn;have k0:wr.drew.cell? ⟨w.heap.size,i,none⟩=some (.slice A7 j c):=hvc;have a0:wr.drew.cell? (ad.add i)=some (.slice (some rd) n ci):=hf.gr.cell ha0 (by rw[zaj];simp;omega);have a1:wr.drew.cell? (rd.add j)=some (.string (GA i j)):=hf.gr.cell ha1 (by rw[zaj];simp;omega);have c0:wr.drew.cell? (bd.add i)=some (.slice (some sd) n di):=hf.gr.cell hc0 (by rw[zaj];simp;omega);have c1:wr.drew.cell? (sd.add j)=some (.string (GB i j)):=hf.gr.cell hc1 (by rw[zaj];simp;omega);have hpl:=zkL k sb b2 (GA i j) (GB i j) wr.drew hs (HTA.out.1 i j HI.out.1 hjn) (HTB.out.1 i j HI.out.1 hjn);have HPL:=zHd hpl;have HNE:=zHd (zAI hna (zAI hnr (zAI hnb (zAI hns (zAI hla (zAI hlr (zAI hlb hls)))))));have HX:=zHd (zAI hjn (zAI hf (zAI hs (zAI ht hv))));clear hj' hjn hf hs ht hv hvc hvo hvn ha0 ha1 hna hnr hla hlr hc0 hc1 hnb hns hlb hls hpl;go_upto_region 8 with(fail);refine zdf (e:=25) (n:=25) (fun W':World=>W'.cell? ⟨w.heap.size,i,none⟩=some (.slice A7 j c)∧W'.cell? (ad.add i)=some (.slice (some rd) n ci)∧W'.cell? (rd.add j)=some (.string (GA i j))∧W'.cell? (bd.add i)=some (.slice (some sd) n di)∧W'.cell? (sd.add j)=some (.string (GB i j))) (by kernel_rfl) (by kernel_rfl) rfl ?_;have hS0:(fun W':World=>W'.cell? ⟨w.heap.size,i,none⟩=some (.slice A7 j c)∧W'.cell? (ad.add i)=some (.slice (some rd) n ci)∧W'.cell? (rd.add j)=some (.string (GA i j))∧W'.cell? (bd.add i)=some (.slice (some sd) n di)∧W'.cell? (sd.add j)=some (.string (GB i j))) wr.drew:=⟨k0,a0,a1,c0,c1⟩;refine zTk 0 (.slice (some ⟨w.heap.size,0,none⟩) n n) rfl hS0 ?_
     (try simp only[zA1,zA2,zA3,Act.put,zA4,zA5,zA6])
     refine zTk 1 (.int .i64 (i:Int)) rfl hS0 ?_
     (try simp only[zA1,zA2,zA3,Act.put,zA4,zA5,zA6])
     refine zTk 2 (.slice (some ⟨w.heap.size,0,none⟩) n n) rfl hS0 ?_
     (try simp only[zA1,zA2,zA3,Act.put,zA4,zA5,zA6])
     refine zTk 3 (.int .i64 (i:Int)) rfl hS0 ?_
     (try simp only[zA1,zA2,zA3,Act.put,zA4,zA5,zA6])
     refine zTk 4 (.pointer (some ⟨w.heap.size,i,none⟩)) rfl hS0 ?_
     (try simp only[zA1,zA2,zA3,Act.put,zA4,zA5,zA6])
     refine zTk 5 (.slice A7 j c) rfl hS0 ?_
     (try simp only[zA1,zA2,zA3,Act.put,zA4,zA5,zA6])
     refine zTk 6 (.pointer (some ⟨sb,0,none⟩)) rfl hS0 ?_
     (try simp only[zA1,zA2,zA3,Act.put,zA4,zA5,zA6])
     refine zTk 7 (.slice (some ad) n ca) rfl hS0 ?_
     (try simp only[zA1,zA2,zA3,Act.put,zA4,zA5,zA6])
     refine zTk 8 (.int .i64 (i:Int)) rfl hS0 ?_
     (try simp only[zA1,zA2,zA3,Act.put,zA4,zA5,zA6])
     refine zTk 9 (.pointer (some (ad.add i))) rfl hS0 ?_
     (try simp only[zA1,zA2,zA3,Act.put,zA4,zA5,zA6])
     refine zTk 10 (.slice (some rd) n ci) rfl hS0 ?_
     (try simp only[zA1,zA2,zA3,Act.put,zA4,zA5,zA6])
     refine zTk 11 (.int .i64 (j:Int)) rfl hS0 ?_
     (try simp only[zA1,zA2,zA3,Act.put,zA4,zA5,zA6])
     refine zTk 12 (.pointer (some (rd.add j))) rfl hS0 ?_
     (try simp only[zA1,zA2,zA3,Act.put,zA4,zA5,zA6])
     refine zTk 13 (.string (GA i j)) rfl hS0 ?_
     (try simp only[zA1,zA2,zA3,Act.put,zA4,zA5,zA6])
     refine zTk 14 (.slice (some bd) n cb) rfl hS0 ?_
     (try simp only[zA1,zA2,zA3,Act.put,zA4,zA5,zA6])
     refine zTk 15 (.int .i64 (i:Int)) rfl hS0 ?_
     (try simp only[zA1,zA2,zA3,Act.put,zA4,zA5,zA6])
     refine zTk 16 (.pointer (some (bd.add i))) rfl hS0 ?_
     (try simp only[zA1,zA2,zA3,Act.put,zA4,zA5,zA6])
     refine zTk 17 (.slice (some sd) n di) rfl hS0 ?_
     (try simp only[zA1,zA2,zA3,Act.put,zA4,zA5,zA6])
     refine zTk 18 (.int .i64 (j:Int)) rfl hS0 ?_
     (try simp only[zA1,zA2,zA3,Act.put,zA4,zA5,zA6])
     refine zTk 19 (.pointer (some (sd.add j))) rfl hS0 ?_
     (try simp only[zA1,zA2,zA3,Act.put,zA4,zA5,zA6])
     refine zTk 20 (.string (GB i j)) rfl hS0 ?_
     (try simp only[zA1,zA2,zA3,Act.put,zA4,zA5,zA6])
     refine wpAnyH_ready (rs:=[21]) (by kernel_rfl) (by simp) ?_;refine AllReadyH.cons rfl (fun K hK => ?_) AllReadyH.nil
     go_simp
     refine HPL.out.mono ?_;rintro e w5 ⟨S5,b5,rfl,hg5,hs5,hk5,hv5'⟩;have hf5:=HX.out.2.1.kept (zaa (zae wr (some sb)) hg5);obtain⟨v5,hv5,hvc5,hvo5,_⟩:=hf5.at_ HI.out.1;obtain rfl:v5 = .slice A7 j c:=by have h:=hv5.symm.trans HX.out.2.2.2.2;cases h;rfl
     have a05:=hg5.cell a0 (by have:=HNE.out;rw[zaj];simp;omega);have a15:=hg5.cell a1 (by have:=HNE.out;rw[zaj];simp;omega);have c05:=hg5.cell c0 (by have:=HNE.out;rw[zaj];simp;omega);have c15:=hg5.cell c1 (by have:=HNE.out;rw[zaj];simp;omega);refine hK.out _ _ ⟨hvc5,a05,a15,c05,c15⟩ (fun hHeld => ?_);have H5:=zHd (zAI hk5 hv5');refine wpAnyH_ready (rs:=[22]) (by kernel_rfl) (by simp) ?_;refine AllReadyH.cons rfl (fun K hK => ?_) AllReadyH.nil
     go_simp
     have hal:=zGA w5 (.cells #[.string S5] 9) none;refine hK.out _ _ ⟨hal.cell hvc5 (by simp),hal.cell a05 (by simp),hal.cell a15 (by simp),hal.cell c05 (by simp),hal.cell c15 (by simp)⟩ (fun hHeld => ?_);refine wpAnyH_ready (rs:=[23]) (by kernel_rfl) (by simp) ?_;refine AllReadyH.cons rfl (fun K hK => ?_) AllReadyH.nil;refine step_append_lies _ (by rfl) _ _ _ (by rfl) (w.heap.size+1) 9 j0 (.string ⟨#[]⟩) 1 16 Tryz.underlying33 ji jz0 jz1 jz2 rfl (by omega) (.slice A7 j c) j (zbP n G2 i j i) (by rfl) (hvo5.alloc _) ⟨w5.heap.size,0,none⟩ 1 1 [.string S5] (by rfl) (by rfl) (World.news_of_block (cs:=#[.string S5]) (t:=9) (fr:=(0,0)) (heap_alloc_new w5 _)) (by simp[Value.oneCell']) (by omega) (by have:=HN.out;have:=HX.out.1;unfold maxLen;omega) (by have:=HN.out;have:=HX.out.1;omega) (by have:=hf5.grid.lt;first|(simp;omega)|(simp at this ⊢;omega)) (w5.heap.size+1) (by simp) ?_;intro g2 cap W6 hown6 hgrow hat hlt6;have hrd:=hf5.ready hv5 hgrow;have z0:=hrd.2;have q0:=hrd.1;refine hK.out _ _ ⟨hrd.1,(zap (hf5.apart hv5 hgrow (by rw[zaj];exact HNE.out.2.2.2.2.1))).trans a05,(zap (hf5.apart hv5 hgrow (by rw[zaj];exact HNE.out.2.2.2.2.2.1))).trans a15,(zap (hf5.apart hv5 hgrow (by rw[zaj];exact HNE.out.2.2.2.2.2.2.1))).trans c05,(zap (hf5.apart hv5 hgrow (by rw[zaj];exact HNE.out.2.2.2.2.2.2.2))).trans c15⟩ (fun hHeld => ?_);refine zTk 24 (.pointer (some ⟨w.heap.size,i,none⟩)) rfl hHeld ?_
     (try simp only[zA1,zA2,zA3,Act.put,zA4,zA5,zA6])
     clear hHeld;refine wpAnyH_done (by kernel_rfl) ?_ _;refine zeg (by rfl) (fun K hK => ?_)
     go_simp
     refine hK _ _ ?_;have hput:=hf5.put HI.out.1 HX.out.1 hv5 hgrow hown6 hat;have HP:=zHd hput;clear hput hgrow hown6 hat hrd;go_wp2;refine⟨⟨j+1,_,_,b5,HX.out.1,by simp,HP.out.1,(HP.out.2 sb HBL.out).trans hs5,(HX.out.2.2.2.1.more (fun hb=>(H5.out.2 hb).1)).put H5.out.1 (fun hb => ?_)⟩,by have:=HX.out.1;simp[intOf];omega⟩;obtain⟨hb2,hk2,u2,v2,fu2,fv2,eu2,ev2,ff2,e2⟩:=H5.out.2 hb;have hbad:=(HX.out.2.2.2.1.2 hb2).1;obtain⟨ea,fa⟩:=HTA.out.2 hbad i j HI.out.1 HX.out.1;obtain⟨eb,fb⟩:=HTB.out.2 hbad i j HI.out.1 HX.out.1;obtain rfl:=zew fu2 fa (eu2.symm.trans ea);obtain rfl:=zew fv2 fb (ev2.symm.trans eb);exact⟨e2,ff2⟩
    ·obtain rfl:j=n:=by omega
     have v1:decide (j<j)=false:=by simp
     have v1':decide ((j:Int)<(j:Int))=false:=by simp
     have HJ:=zHd (zAI hf (zAI hs ht));clear hj' hjn hf hs ht;go_wp2;exact⟨⟨i+1,vs2,G2,b2,HI.out.1,by simp,HJ.out.1.row,HJ.out.2.1,HJ.out.2.2.next⟩,by have:=HI.out.1;simp[intOf];omega⟩
  ·obtain rfl:i=n:=by omega
   have u1:decide (i<i)=false:=by simp
   have u1':decide ((i:Int)<(i:Int))=false:=by simp
   have HJ:=zHd (zAI hf (zAI hs ht));clear hi' hin hf hs ht;go_wp2;go_ret;exact⟨_,vs,G,b1,rfl,HJ.out.1,HJ.out.2.1,HJ.out.2.2⟩
open Go.RowKit
theorem zqN {k:Int}(hk:zad k)(sb n:Nat)(bad:Bool)(GA GB:Nat→Nat→ByteArray)(A B:Nat→Nat→El k)(av bv:Value)(w:World)(hn:n≤9)(hb:zbS k sb bad w)(ha:MatN w sb av n GA)(hbm:MatN w sb bv n GB)(hta:zfV bad n GA A)(htb:zfV bad n GB B) :
  Calls Tryz.prog 31 #[.pointer (some ⟨sb,0,none⟩),av,bv] w (zmz sb n bad (mm (srE k hk) n A B) w):=by
 obtain⟨i0,hi,hz0,hz1,hz2⟩:=info_parts zcF;obtain⟨j0,ji,jz0,jz1,jz2⟩:=info_parts zdu;have n0:¬ (n:Int)<0:=by omega
 obtain⟨Aa,ca,rfl⟩:=ha.shape;obtain⟨Ab,cb,rfl⟩:=hbm.shape;have HN:=zHd hn;have HB:=zHd hb;have HBL:=zHd hb.lt;have HA:=zHd ha;have HBM:=zHd hbm;have HTA:=zHd hta;have HTB:=zHd htb;clear hn hb ha hbm hta htb;go_enter Tryz.func31,Tryz.ntmps31;go_wp2_with (at_make;refine wpList_make_full _ rfl _ _ 22 rfl w.heap.size 33 i0 (.slice none 0 0) 1 Tryz.underlying22 hi hz0 hz1 _ _ _ _ n rfl rfl ?c0 ?c1 ?c2 (by have:=HN.out;unfold maxLen;omega) (Nat.le_refl _) ?_)
 case c0=>omega
 case c1=>omega
 case c2=>have:=HN.out;first|omega|(rw[hz2];omega)
 intro w1 hown hgr;have hfill:=zaq.start hown hgr;have HF:=zHd (zAI (zbi.start (r:=some sb) hfill (fun b e=>by cases e;exact HBL.out)) (HB.out.kept hgr));clear hown hgr hfill;go_wp2
 go_loopw [8] (fun iv wr=>∃ (i:Nat) (vs:List Value) (G:Nat→Nat→ByteArray) (b1:Bool),i≤n∧iv = .int .i64 (i:Int)∧zbi (some sb) n w w.heap.size i 0 vs G wr∧zbS k sb b1 wr∧Told bad n i 0 (mm (srE k hk) n A B) G b1) (fun iv _=>n - (intOf iv).toNat)
 case atStart=>exact⟨0,_,_,bad,Nat.zero_le _,rfl,HF.out.1,HF.out.2,Told.start⟩
 case round =>
  obtain⟨i,vs,G,b1,hi',rfl,hf,hs,ht⟩:=hrel
  by_cases hin:i<n
  ·have u1:decide (i<n)=true:=by simpa using hin
   have u1':decide ((i:Int)<(n:Int))=true:=by simpa using hin
   have u2:(i:Int)<(n:Int):=by omega
   have u3:(0:Int)≤(i:Int):=by omega
   have u4:IntKind.i64.wrap ((i:Int)+1)=(i:Int)+1:=by have:=HN.out;rw[IntKind.wrap_i64];omega
   have HI:=zHd (zAI hin (zAI hf (zAI hs ht)));clear hi' hin hf hs ht;go_wp2;generalize wr=wq at *
   go_loopw [9] (fun jv wr=>∃ (j:Nat) (vs:List Value) (G:Nat→Nat→ByteArray) (b1:Bool),j≤n∧jv = .int .i64 (j:Int)∧zbi (some sb) n w w.heap.size i j vs G wr∧zbS k sb b1 wr∧Told bad n i j (mm (srE k hk) n A B) G b1) (fun jv _=>n - (intOf jv).toNat)
   case atStart=>exact⟨0,vs,G,b1,Nat.zero_le _,rfl,HI.out.2.1,HI.out.2.2.1,HI.out.2.2.2⟩
   case round =>
    obtain⟨j,vs2,G2,b2,hj',rfl,hf,hs,ht⟩:=hrel
    by_cases hjn:j<n
    ·have x1:decide (j<n)=true:=by simpa using hjn
     have x1':decide ((j:Int)<(n:Int))=true:=by simpa using hjn
     have x2:(j:Int)<(n:Int):=by omega
     have x3:(0:Int)≤(j:Int):=by omega
     have x4:IntKind.i64.wrap ((j:Int)+1)=(j:Int)+1:=by have:=HN.out;rw[IntKind.wrap_i64];omega
     have k1:=cell_of_row wr sb 0 _ _ (0,0) hs;have k1:wr.cell? ⟨sb,0,none⟩=some (.int .i64 k):=k1;have HX:=zHd (zAI hjn (zAI hf (zAI hs ht)));clear hj' hjn hf hs ht;go_wp2_with fail;refine(zke k _).mono ?_;rintro e w4 ⟨rfl,hg4⟩;have H4:=zHd (zAI (HX.out.2.1.kept (zaG hg4)) (HX.out.2.2.1.kept hg4));clear hg4 k1;go_wp2_with fail
     go_loopw [10,11] (fun uv tv wr=>∃ (t:Nat) (u:ByteArray) (b3:Bool),t≤n∧uv = .string u∧tv = .int .i64 (t:Int)∧zbi (some sb) n w w.heap.size i j vs2 G2 wr∧zbS k sb b3 wr∧TxOk k u∧(b3=false→b2=false∧u=tx (sm (srE k hk) t (fun m=>(srE k hk).mul (A i m) (B m j)))∧FitE (sm (srE k hk) t (fun m=>(srE k hk).mul (A i m) (B m j))))) (fun _ tv _=>n - (intOf tv).toNat)
     case atStart=>exact⟨0,_,b2,Nat.zero_le _,rfl,rfl,H4.out.1,H4.out.2,.inl ⟨(srE k hk).zero,zcg hk,(zdD hk).symm⟩,fun hb=>⟨hb,(zdD hk).symm,zcg hk⟩⟩
     case round =>
      obtain⟨t,u,b3,ht',rfl,rfl,hf,hs,hu,hb3⟩:=hrel
      by_cases htn:t<n
      ·have y1:decide (t<n)=true:=by simpa using htn
       have y1':decide ((t:Int)<(n:Int))=true:=by simpa using htn
       have y2:(t:Int)<(n:Int):=by omega
       have y3:(0:Int)≤(t:Int):=by omega
       have y4:IntKind.i64.wrap ((t:Int)+1)=(t:Int)+1:=by have:=HN.out;rw[IntKind.wrap_i64];omega
       obtain⟨ad,rd,ci,rfl,ha0,ha1,hna,hnr,hla,hlr⟩:=HA.out.at_ HI.out.1 htn;obtain⟨bd,sd,di,rfl,hc0,hc1,hnb,hns,hlb,hls⟩:=HBM.out.at_ htn HX.out.1;have a0:wr.drew.cell? (ad.add i)=some (.slice (some rd) n ci):=hf.gr.cell ha0 (by rw[zaj];simp;omega);have a1:wr.drew.cell? (rd.add t)=some (.string (GA i t)):=hf.gr.cell ha1 (by rw[zaj];simp;omega);have c0:wr.drew.cell? (bd.add t)=some (.slice (some sd) n di):=hf.gr.cell hc0 (by rw[zaj];simp;omega);have c1:wr.drew.cell? (sd.add j)=some (.string (GB t j)):=hf.gr.cell hc1 (by rw[zaj];simp;omega);have hti:=zrk k sb b3 (GA i t) (GB t j) wr.drew hs (HTA.out.1 i t HI.out.1 htn) (HTB.out.1 t j htn HX.out.1);have HTI:=zHd hti;have HNE:=zHd (zAI hna (zAI hnr (zAI hnb hns)));have HT:=zHd (zAI htn (zAI hf (zAI hu hb3)));clear ht' htn hf hs hu hb3 ha0 ha1 hna hnr hla hlr hc0 hc1 hnb hns hlb hls hti;go_upto_region 12 with(fail)
       go_region_held2 (fun W'=>W'.cell? (ad.add i)=some (.slice (some rd) n ci)∧W'.cell? (rd.add t)=some (.string (GA i t))∧W'.cell? (bd.add t)=some (.slice (some sd) n di)∧W'.cell? (sd.add j)=some (.string (GB t j))) (first|exact⟨a0,a1,c0,c1⟩|exact S6|exact S7|go_keep)
        (first
        | (go_at_call 35;refine HTI.out.mono ?_;rintro e w6 ⟨S1,b4,rfl,hg6,hb6,hk6,hv6⟩;have S6:(fun W':World=>W'.cell? (ad.add i)=some (.slice (some rd) n ci)∧W'.cell? (rd.add t)=some (.string (GA i t))∧W'.cell? (bd.add t)=some (.slice (some sd) n di)∧W'.cell? (sd.add j)=some (.string (GB t j))) w6:=⟨hg6.cell a0 (by have:=HNE.out;rw[zaj];simp;omega),hg6.cell a1 (by have:=HNE.out;rw[zaj];simp;omega),hg6.cell c0 (by have:=HNE.out;rw[zaj];simp;omega),hg6.cell c1 (by have:=HNE.out;rw[zaj];simp;omega)⟩;have H6:=zHd (zAI hg6 (zAI hb6 (zAI hk6 hv6)));clear hg6 hb6 hk6 hv6)
        | (go_at_call 38;refine(zkL k sb b4 u S1 w6 H6.out.2.1 HT.out.2.2.1 H6.out.2.2.1).mono ?_;rintro e w7 ⟨S2,b5,rfl,hg7,hb7,hk7,hv7⟩;have S7:(fun W':World=>W'.cell? (ad.add i)=some (.slice (some rd) n ci)∧W'.cell? (rd.add t)=some (.string (GA i t))∧W'.cell? (bd.add t)=some (.slice (some sd) n di)∧W'.cell? (sd.add j)=some (.string (GB t j))) w7:=⟨hg7.cell S6.1 (by have:=HNE.out;rw[zaj];simp;omega),hg7.cell S6.2.1 (by have:=HNE.out;rw[zaj];simp;omega),hg7.cell S6.2.2.1 (by have:=HNE.out;rw[zaj];simp;omega),hg7.cell S6.2.2.2 (by have:=HNE.out;rw[zaj];simp;omega)⟩;have H7:=zHd (zAI hg7 (zAI hb7 (zAI hk7 hv7)));clear hg7 hb7 hk7 hv7))
       all_goals
        go_wp2_with fail;refine⟨⟨t+1,S2,b5,HT.out.1,rfl,by simp,HT.out.2.1.kept (zaa (zaa (zae wr (some sb)) H6.out.1) H7.out.1),H7.out.2.1,H7.out.2.2.1,fun hb => ?_⟩,by have:=HT.out.1;simp[intOf];omega⟩;obtain⟨hb1,hk1,u1,v1,fu1,fv1,eu,ev,ff,e1⟩:=H7.out.2.2.2 hb;obtain⟨hb0,hk2,u2,v2,fu2,fv2,eu2,ev2,ff2,e2⟩:=H6.out.2.2.2 hb1;obtain⟨hb9,hu,hfit⟩:=HT.out.2.2.2 hb0;have hbad:=(HX.out.2.2.2.2 hb9).1;obtain⟨ea,fa⟩:=HTA.out.2 hbad i t HI.out.1 HT.out.1;obtain⟨eb,fb⟩:=HTB.out.2 hbad t j HT.out.1 HX.out.1;have i1:=zew fu1 hfit (eu.symm.trans hu);have i2:=zew fu2 fa (eu2.symm.trans ea);have i3:=zew fv2 fb (ev2.symm.trans eb);have i4:=zew fv1 ff2 (ev.symm.trans e2)
        have e:sm (srE k hk) (t+1) (fun m=>(srE k hk).mul (A i m) (B m j))=(srE k hk1).add u1 v1:=by
         show(srE k hk).add (sm (srE k hk) t (fun m=>(srE k hk).mul (A i m) (B m j))) ((srE k hk).mul (A i t) (B t j))=_;rw[i1,i4,i2,i3]
        rw[e];exact⟨hb9,e1,ff⟩
      ·obtain rfl:t=n:=by omega
       have y1:decide (t<t)=false:=by simp
       have y1':decide ((t:Int)<(t:Int))=false:=by simp
       obtain⟨v,hv,hvc,hvo,hvn,A7,c,rfl⟩:=hf.at_ HI.out.1;have HT:=zHd (zAI hf (zAI hs (zAI hu (zAI hb3 (zAI hv hvo)))));clear ht' htn hf hs hu hb3 hv hvo hvn;go_wp2_with (at_builtin;refine wpList_append_lies _ rfl _ _ 33 rfl (w.heap.size+1) 9 j0 (.string ⟨#[]⟩) 1 16 Tryz.underlying33 ji jz0 jz1 jz2 rfl (by omega) (.slice A7 j c) j (zbP t G2 i j i) (by rfl) (HT.out.2.2.2.2.2.alloc _) ⟨wr.heap.size,0,none⟩ 1 1 [.string u] rfl rfl (cell_one_new _ _ _) (by simp[Value.oneCell']) (by omega) (by have:=HN.out;have:=HX.out.1;unfold maxLen;omega) (by have:=HN.out;have:=HX.out.1;omega) (by have:=HT.out.1.grid.lt;simp;omega) (wr.heap.size+1) (by simp) ?_;intro g2 cap W6 hown6 hgrow hat hlt6;have hrd:=HT.out.1.ready HT.out.2.2.2.2.1 hgrow;have z0:=hrd.2;have q0:=hrd.1;have hput:=HT.out.1.put HI.out.1 HX.out.1 HT.out.2.2.2.2.1 hgrow hown6 hat;have HP:=zHd hput;clear hput hgrow hown6 hat hrd);refine⟨⟨j+1,_,_,b3,HX.out.1,by simp,HP.out.1,(HP.out.2 sb HBL.out).trans HT.out.2.1,(HX.out.2.2.2.more (fun hb=>(HT.out.2.2.2.1 hb).1)).put HT.out.2.2.1 (fun hb=>(HT.out.2.2.2.1 hb).2)⟩,by have:=HX.out.1;simp[intOf];omega⟩
    ·obtain rfl:j=n:=by omega
     have v1:decide (j<j)=false:=by simp
     have v1':decide ((j:Int)<(j:Int))=false:=by simp
     have HJ:=zHd (zAI hf (zAI hs ht));clear hj' hjn hf hs ht;go_wp2;exact⟨⟨i+1,vs2,G2,b2,HI.out.1,by simp,HJ.out.1.row,HJ.out.2.1,HJ.out.2.2.next⟩,by have:=HI.out.1;simp[intOf];omega⟩
  ·obtain rfl:i=n:=by omega
   have u1:decide (i<i)=false:=by simp
   have u1':decide ((i:Int)<(i:Int))=false:=by simp
   have HJ:=zHd (zAI hf (zAI hs ht));clear hi' hin hf hs ht;go_wp2;go_ret;exact⟨_,vs,G,b1,rfl,HJ.out.1,HJ.out.2.1,HJ.out.2.2⟩
open Go.RowKit
theorem zuT (k:Int)(n:Nat)(ln:Nat→Nat)(G:Nat→Nat→ByteArray)(av:Value)(w:World)(ha:MatA w av n ln G)(hs:∀ i j,(G i j).size≤maxLen) :
  Calls Tryz.prog 5 #[.int .i64 k,av] w (zab (.bool true) w):=by
 have hrd:=zBB k n ln G av w ha hs;have hsh1:∃ A c,av = .slice A n c:=by obtain⟨rs,⟨A,c,e,_⟩,_⟩:=ha;exact⟨A,c,e⟩
 obtain⟨Aa,ca,rfl⟩:=hsh1;have HRD:=zHd hrd;have HA:=zHd ha;have HS:=zHd hs;clear hrd ha hs;go_enter Tryz.func5,Tryz.ntmps5;go_wp2_with fail;refine HRD.out.mono ?_;rintro e w1 ⟨b,rfl,hb,hg1⟩;have HG1:=zHd hg1;cases b
 ·clear hb hg1
  go_wp2_with fail;refine(zfq _).mono ?_;rintro e w99 ⟨rfl,hg99⟩;have HG99:=zHd (zaa HG1.out hg99);clear hg99;go_wp2;go_ret;exact⟨rfl,HG99.out⟩
 have hrdy:=hb.1 (by simp);have HM:=zHd hrdy;clear hb hg1 hrdy;go_wp2_with fail;refine(zjh k n ln G _ w1 (by have:=HM.out.1;omega) (HA.out.grown HG1.out) HS.out).mono ?_;intro e w2 hq;obtain⟨hg2,hk,A,hA,v,c,rfl,hv⟩:=zEb HM.out.2 HM.out.1 hq;have HG2:=zHd (zaa HG1.out hg2);have HV:=zHd hv;have HAE:=zHd hA;clear hq hg2 hv hA
 by_cases hc:c=0
 rotate_left 1
 ·have u1:(c != 0)=true:=by simpa using hc
  go_wp2_with fail;refine(zfq _).mono ?_;rintro e w99 ⟨rfl,hg99⟩;have HG99:=zHd (zaa HG2.out hg99);clear hg99;go_wp2;go_ret;exact⟨rfl,HG99.out⟩
 subst hc;obtain⟨hmv,hmf⟩:=HV.out rfl;obtain⟨Ab,cb,rfl⟩:=hmv.shape;have hal:=zGA w2 (.cells #[.int .i64 k,.bool false] 45) none;have HMF:=zHd hmf;have HMA:=zHd (hmv.texts);have HMI:=zHd (hmv.inM.grown hal);have HNA:=zHd (MatN.of (b:=w2.heap.size) hmv.texts (Nat.le_refl _));have HNB:=zHd (MatN.of (b:=w2.heap.size) ((HA.out.grown HG2.out).square HM.out.2.2.1) (Nat.le_refl _));have HAL:=zHd (show w2.grownBy (w2.alloc (.cells #[.int .i64 k,.bool false] 45)) (some w2.heap.size) from zGA w2 _ _);have HSU:=zHd (show zbS k w2.heap.size false (w2.alloc (.cells #[.int .i64 k,.bool false] 45)) from zau w2 _);have n1:((n:Int) != (n:Int))=false:=by simp
 clear hmv hmf HV hal;go_wp2_with fail;generalize hsz:w2.heap.size=sb at *;have HSZ:=zHd hsz;clear hsz;refine(zlO k n (fun _=>n) (inM n (fun i j=>tx (stM (srE k hk) A n i j))) _ _ (by have:=HM.out.1;omega) HMI.out (zEa HMF.out)).mono ?_;rintro e w3 ⟨b,rfl,hb,hg3⟩;obtain rfl:=hb.2 (zFP hk HMF.out);have H3:=zHd (zAI (HSU.out.kept hg3) (zaa HAL.out (zaG hg3)));have TA:=zHd (show zfV false n G A from⟨fun i j hi hj => .inl ⟨_,(HAE.out i hi j hj).2,(HAE.out i hi j hj).1⟩,fun _ i j hi hj=>HAE.out i hi j hj⟩);have TS:=zHd (show zfV false n (fun i j=>tx (stM (srE k hk) A n i j)) (stM (srE k hk) A n) from⟨fun i j hi hj => .inl ⟨_,HMF.out i hi j hj,rfl⟩,fun _ i j hi hj=>⟨rfl,HMF.out i hi j hj⟩⟩);clear hb hg3;go_wp2_with fail;refine(ztN hk sb n false w3 HM.out.1 H3.out.1).mono ?_;rintro e w4 ⟨g4,vs4,G4,b4,rfl,hf,hs,ht⟩;have H4:=zHd (zAI hf (zAI hs (zAI ht (zAI (zaa H3.out.2 hf.gr) (hf.mat (sb:=sb) (by have:=HM.out.1;omega) (zbS.lt H3.out.1))))));clear hf hs ht;go_wp2_with fail;refine(zqN hk sb n b4 _ _ _ _ _ _ w4 HM.out.1 H4.out.2.1 (HNB.out.grown H4.out.2.2.2.1) (HNA.out.grown H4.out.2.2.2.1) (TA.out.more (fun _=>rfl)) (TS.out.more (fun _=>rfl))).mono ?_;rintro e w5 ⟨g5,vs5,G5,b5,rfl,hf,hs,ht⟩;have H5:=zHd (zAI hf (zAI hs (zAI ht (zAI (zaa H4.out.2.2.2.1 hf.gr) (hf.mat (sb:=sb) (by have:=HM.out.1;omega) (zbS.lt H4.out.2.1))))));clear hf hs ht;go_wp2_with fail;refine(zqM hk sb n b5 _ _ _ _ _ _ w5 HM.out.1 H5.out.2.1 (H4.out.2.2.2.2.grown H5.out.1.gr) H5.out.2.2.2.2 (H4.out.2.2.1.tell.more (fun e=>(H5.out.2.2.1.2 e).1)) H5.out.2.2.1.tell).mono ?_;rintro e w6 ⟨g6,vs6,G6,b6,rfl,hf,hs,ht⟩;have H6:=zHd (zAI hf (zAI hs (zAI ht (zAI (zaa H5.out.2.2.2.1 hf.gr) (hf.mat (sb:=sb) (by have:=HM.out.1;omega) (zbS.lt H5.out.2.1))))));clear hf hs ht;go_wp2_with fail;refine(ztN hk sb n b6 w6 HM.out.1 H6.out.2.1).mono ?_;rintro e w7 ⟨g7,vs7,G7,b7,rfl,hf,hs,ht⟩;have H7:=zHd (zAI hf (zAI hs (zAI ht (zAI (zaa H6.out.2.2.2.1 hf.gr) (hf.mat (sb:=sb) (by have:=HM.out.1;omega) (zbS.lt H6.out.2.1))))));clear hf hs ht;go_wp2_with fail;refine(zqN hk sb n b7 _ _ _ _ _ _ w7 HM.out.1 H7.out.2.1 (HNA.out.grown H7.out.2.2.2.1) (HNB.out.grown H7.out.2.2.2.1) (TS.out.more (fun _=>rfl)) (TA.out.more (fun _=>rfl))).mono ?_;rintro e w8 ⟨g8,vs8,G8,b8,rfl,hf,hs,ht⟩;have H8:=zHd (zAI hf (zAI hs (zAI ht (zAI (zaa H7.out.2.2.2.1 hf.gr) (hf.mat (sb:=sb) (by have:=HM.out.1;omega) (zbS.lt H7.out.2.1))))));clear hf hs ht;go_wp2_with fail;refine(zqM hk sb n b8 _ _ _ _ _ _ w8 HM.out.1 H8.out.2.1 (H7.out.2.2.2.2.grown H8.out.1.gr) H8.out.2.2.2.2 (H7.out.2.2.1.tell.more (fun e=>(H8.out.2.2.1.2 e).1)) H8.out.2.2.1.tell).mono ?_;rintro e w9 ⟨g9,vs9,G9,b9,rfl,hf,hs,ht⟩;have H9:=zHd (zAI hf (zAI hs (zAI ht (zAI (zaa H8.out.2.2.2.1 hf.gr) (hf.mat (sb:=sb) (by have:=HM.out.1;omega) (zbS.lt H8.out.2.1))))));clear hf hs ht;have HW:=zHd (zuR (zaa (zeA (some sb) HG2.out) H9.out.2.2.2.1) (by have:=HG2.out.size;rw[HSZ.out] at this;exact this));have e1:=cell_of_row w9 sb 1 _ _ (0,0) H9.out.2.1;have HC6:=zHd (H6.out.2.2.2.2.grown (zaa (zaa H7.out.1.gr H8.out.1.gr) H9.out.1.gr));have HNS:=zHd (HNA.out.grown H9.out.2.2.2.1);cases b9;rotate_left 1
 ·go_wp2_with fail
  refine(zfq _).mono ?_;rintro e w99 ⟨rfl,hg99⟩;have HG99:=zHd (zaa HW.out hg99);clear hg99;go_wp2;go_ret;exact⟨rfl,HG99.out⟩
 have hb8:=(H9.out.2.2.1.2 rfl).1;have hb7:=(H8.out.2.2.1.2 hb8).1;have hb6:=(H7.out.2.2.1.2 hb7).1
 have s1:znU n n (fun _=>n) (fun _=>n) (fun i j=>tx (stM (srE k hk) A n i j)) G6:=⟨rfl,fun i hi=>⟨rfl,fun j hj=>by
  have hj:j<n:=hj;show tx (stM (srE k hk) A n i j)=G6 i j;rw[(H6.out.2.2.1.tell.2 hb6 i j hi hj).1,zpF (srE k hk) A (i:=i) hj];rfl⟩⟩
 have s2:znU n n (fun _=>n) (fun _=>n) (fun i j=>tx (stM (srE k hk) A n i j)) G9:=⟨rfl,fun i hi=>⟨rfl,fun j hj=>by
  have hj:j<n:=hj;show tx (stM (srE k hk) A n i j)=G9 i j;rw[(H9.out.2.2.1.tell.2 rfl i j hi hj).1,zwl (srE k hk) A (j:=j) hi];rfl⟩⟩
 have SS:=zHd (zAI s1 s2);clear s1 s2 hb8 hb7 hb6;go_wp2_with fail;refine(zdl n n (fun _=>n) (fun _=>n) (fun i j=>tx (stM (srE k hk) A n i j)) G6 _ _ w9 (by have:=HM.out.1;omega) (by have:=HM.out.1;omega) (fun _ _=>by have:=HM.out.1;omega) (fun _ _=>by have:=HM.out.1;omega) HNS.out.mat HC6.out.mat).mono ?_;rintro e w10 ⟨b,rfl,hb,hg10⟩;obtain rfl:=hb.2 SS.out.1;have HG10:=zHd hg10;clear hb hg10;go_wp2_with fail;refine(zdl n n (fun _=>n) (fun _=>n) (fun i j=>tx (stM (srE k hk) A n i j)) G9 _ _ w10 (by have:=HM.out.1;omega) (by have:=HM.out.1;omega) (fun _ _=>by have:=HM.out.1;omega) (fun _ _=>by have:=HM.out.1;omega) (HNS.out.mat.grown HG10.out) (H9.out.2.2.2.2.mat.grown HG10.out)).mono ?_;rintro e w11 ⟨b,rfl,hb,hg11⟩;obtain rfl:=hb.2 SS.out.2;have HG11:=zHd (zaa HW.out (zaa HG10.out hg11));clear hb hg11;go_wp2_with fail;refine(zfq _).mono ?_;rintro e w99 ⟨rfl,hg99⟩;have HG99:=zHd (zaa HG11.out hg99);clear hg99;go_wp2;go_ret;exact⟨rfl,HG99.out⟩
end Go.Proofs.YtaogepcaoogpgaaGreatDoor
namespace Go.Proofs.YtaogepcaoogpgaaGreatDoor.cClosureFixed
open Go.ChangeShapes Go.WideShapes Go.ChangeAt Go.RowKit Go.Lib
open Go.WideMaps Go.WideElems
open Go.ChangeMaps (open_string shut_string)
theorem zEc (H:Type)(enc:TypeId × Value→H)(W:World)(base:Nat)(args:Array Value)(ds gs:List (DataW H))(before:List MemPlace)
  (hval:∀ (j:Nat) t v,Tryz.f5.params[j]? = some t→args[j]? = some v→Value.okWide Tryz.prog W .any base t v)
  (hW:DataW.Whole enc Tryz.prog Tryz.f5.params.toList Rows.closureFixedSpec.vars false W args.toList ds gs before)
  (hsz:(DataW.weightsEach Tryz.prog (Tryz.f5.params.toList++(OpenSpec.ofChange Rows.closureFixedSpec).bare.plain.varTypes Tryz.prog) (ds++gs)).all (· ≤ reachBytes)=true) :
  Calls Tryz.prog 5 args W fun e W'=>∃ v,e = .returned v∧Rows.closureFixedSpec.post enc Tryz.prog Tryz.f5 false true false false W args v W':=by
 have hW':=hW;obtain⟨p,q,hA0,hV,rfl,hfz,hnd⟩:=hW;have hA:DataW.TrodAll enc Tryz.prog W 0 (fun _=>true) true Tryz.f5.params.toList args.toList ds p:=hA0;rw[Tryz.params5] at hA hval hsz;obtain⟨v0,vs0,d0,ds0,p0,q0,hargs0,rfl,rfl,h0,r0⟩:=trodAll_cons hA;obtain⟨v1,vs1,d1,ds1,p1,q1,rfl,rfl,rfl,h1,r1⟩:=trodAll_cons r0;obtain⟨rfl,rfl,rfl⟩:=trodAll_nil r1;obtain rfl:args=#[v0,v1]:=by cases args;simp_all
 obtain⟨rfl,rfl⟩:=trodVars_none hV;obtain⟨s0,rfl,rfl,rfl,hs0⟩:=open_int Tryz.underlying3 (hval 0 3 v0 rfl rfl) h0;clear hA0;simp only[List.append_nil,List.nil_append] at hW';have hlt1:∀ x∈p1,x.block<W.heap.size:=fun x hx=>by simpa using hW'.lt x (by simp[hx])
 obtain⟨n1,ln1,G1,hm1,hz1⟩:=zBz (hval 1 22 v1 rfl rfl) h1;have walk:=zuT s0 n1 ln1 G1 v1 W hm1 hz1;refine walk.mono fun e W' ⟨he,hg⟩ => ?_;subst he;have hb:=below_grown hg (Nat.le_refl _) (by simp);exact⟨_,rfl,zyh (pa:=[]++(p1++[])) (pv:=[]) hW' (fun _ _ _=>trodAll_cons_mk (shut_bool Tryz.underlying4 _) trodAll_mk0) (trodAll_cons_mk (shut_int Tryz.underlying3 hs0) (trodAll_cons_mk (zyi (by kernel_rfl) (of_decide_eq_true (by kernel_rfl)) h1 hb hlt1) trodAll_mk0)) rfl hb⟩
theorem zEd (os:Os):laidMet Tryz.prog Rows.closureFixedRow.laid ((laidWorld os).forCall (fun _ _=>0) ⟨#[],#[Value.int .i64 0,Value.slice none 0 0],[]⟩).memory :=
 laidMet_of_run' 8 (by kernel_rfl) (by kernel_rfl)
theorem reads (os:Os){H:Type}(enc:TypeId × Value→H):∃ places,DataW.whole enc Tryz.prog ((laidWorld os).forCall (fun _ _=>0) ⟨#[],#[Value.int .i64 0,Value.slice none 0 0],[]⟩).memory Tryz.f5.params.toList Rows.closureFixedSpec.vars false (#[Value.int .i64 0,Value.slice none 0 0]:Array Value).toList 8=some ([.lit (.int .i64 0),.nil],[],places) :=
 ⟨[],by kernel_rfl⟩
theorem lifted (os:Os)(started:os.Started)(H:Type)(enc:TypeId × Value→H)(F:Stop.Interp) :
  ReturnsInHanded {} Tryz.checked os 5 .any ((OpenSpec.ofChange Rows.closureFixedSpec).preRow enc Tryz.prog Tryz.f5 Rows.closureFixedRow.domain false Rows.closureFixedRow.laid) (((OpenSpec.ofChange Rows.closureFixedSpec).at F).post enc Tryz.prog Tryz.f5 false true false false):=by
 obtain⟨places,hx⟩:=reads os enc
 refine returnsInHanded_of_row (C:=Tryz.checked) (s:=OpenSpec.ofChange Rows.closureFixedSpec) own started (by kernel_rfl) Tryz.func5
  (witness_row_at (enc:=enc) (C:=Tryz.checked) false (laidWorld os) #[Value.int .i64 0,Value.slice none 0 0] rfl (by kernel_rfl) (by kernel_rfl) (by kernel_rfl)
   (OpenSpec.preRow_of_cond 8 hx (by kernel_rfl) (fun k hk=>by cases hk) (by kernel_rfl) (zEd os))) ?_
 intro W base args ds gs before hval hW _ _ hsz hL _ _;exact zEc H enc W base args ds gs before hval hW hsz
theorem closed:joinedFacts Tryz.pinned.checked.prog 5 Tryz.f5 (OpenSpec.ofChange Rows.closureFixedSpec).bare Rows.closureFixedRow=true:=by kernel_rfl
theorem said:Rows.ClosureFixedSaid :=
 OpenClaim.holds_of_cond 5 Tryz.f5 rfl rfl rfl rfl rfl rfl rfl ⟨rfl,rfl,rfl,rfl,rfl⟩ rfl rfl rfl rfl rfl (by kernel_rfl) Tryz.func5 closed
  (of_decide_eq_true (by kernel_rfl)) (by unfold Func.isWrapper;first|(rw[if_pos (by decide +kernel)];kernel_rfl)|(rw[if_neg (by decide +kernel)];exact⟨rfl,rfl⟩))
  (fun os started H enc _ F=>by rw[OpenClaim.pre_eq_preRow];exact lifted os started H enc F)
theorem plain (f:FuncId)(fn:Func)(hf:Tryz.pinned.checked.prog.funcNamed "abugida/abugidalaw07.ClosureFixed" = some f) (hfn:Tryz.pinned.checked.prog.funcs[f]? = some fn) :
  true=Tryz.pinned.checked.prog.looks []∧∀ (j:Nat) t,fn.params[j]? = some t→Tryz.pinned.checked.prog.wantsStandIn t=false:=by
 obtain rfl:f=5:=Option.some.inj ((show Tryz.prog.funcNamed "abugida/abugidalaw07.ClosureFixed" = some 5 by kernel_rfl).symm.trans hf) |>.symm;obtain rfl:fn=Tryz.f5:=(Option.some.inj (Tryz.func5.symm.trans hfn)).symm;refine⟨by kernel_rfl,fun j t ht => ?_⟩;rw[Tryz.params5] at ht;have hm:=Array.mem_of_getElem? ht;simp at hm;rcases hm with rfl|rfl
 ·exact(show Tryz.prog.wantsStandIn 3=false by kernel_rfl)
 ·exact(show Tryz.prog.wantsStandIn 22=false by kernel_rfl)
theorem card:Rows.ClosureFixedCardSaid :=
 Claim7.holds_tied_plain_at .later [] _ _ _ _ said (fun _ h=>by cases h) (by kernel_rfl) (fun _ h=>by cases h) closureFixed_row_tie rfl ⟨rfl,rfl⟩ (by kernel_rfl) rfl plain (by kernel_rfl)
end Go.Proofs.YtaogepcaoogpgaaGreatDoor.cClosureFixed
