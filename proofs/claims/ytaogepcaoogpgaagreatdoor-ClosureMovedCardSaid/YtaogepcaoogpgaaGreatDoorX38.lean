/- WD5 -/
import Derived.Test.YtaogepcaoogpgaaGreatDoorX37
set_option linter.unusedVariables false
set_option linter.unusedSimpArgs false
set_option maxRecDepth 100000
set_option maxHeartbeats 16000000
namespace Go.Proofs.YtaogepcaoogpgaaGreatDoor
open Go.RowKit
theorem zaW.back {n:Nat}{w w2:World}{g i j:Nat}{vs:List Value}{G:Nat→Nat→ByteArray}{wr:World}(h:zaW none n w2 g i j vs G wr)(hg:w.grownBy w2 none):zaW none n w g i j vs G wr :=
 ⟨h.len,h.grid,zaa hg h.gr,Nat.le_trans hg.size h.far,fun b e=>by cases e⟩
theorem zCp (G:Nat→Nat→ByteArray)(i j:Nat):putG G i j (G i j)=G:=by
 funext x y
 unfold putG
 split
 ·rename_i e;rw[e.1,e.2]
 ·rfl
def zCq (n p q:Nat)(G:Nat→Nat→ByteArray)(w:World)(e:Ending)(w':World):Prop :=
 ∃ g vs,e = .returned (.slice (some ⟨g,0,none⟩) n n)∧zaW none n w g n 0 vs (fun i j=>G (sw p q i) (sw p q j)) w'
theorem zrh (n p q:Nat)(G:Nat→Nat→ByteArray)(av:Value)(w:World)(hn:n≤9)(hp:p<n)(hq:q<n)(ha:MatA w av n (fun _=>n) G) :
  Calls Tryz.prog 32 #[av,.int .i64 (p:Int),.int .i64 (q:Int)] w (zCq n p q G w):=by
 obtain⟨i0,hi,hz0,hz1,hz2⟩:=info_parts zdx;obtain⟨j0,ji,jz0,jz1,jz2⟩:=info_parts zeK;obtain⟨l0,li,lz0,lz1,lz2⟩:=info_parts zhj;have n0:¬ (n:Int)<0:=by omega
 have hna:=MatN.of (b:=w.heap.size) ha (Nat.le_refl _);obtain⟨Aa,ca,rfl⟩:=hna.shape;have HN:=zHd hn;have HA:=zHd hna;have HPQ:=zHd (zAI hp hq);have p1:(p:Int)<(n:Int):=by omega
 have p2:(0:Int)≤(p:Int):=by omega
 have q1:(q:Int)<(n:Int):=by omega
 have q2:(0:Int)≤(q:Int):=by omega
 clear hn ha hna hp hq;go_enter Tryz.func32,Tryz.ntmps32;go_wp2_with (at_make;refine wpList_make_full _ rfl _ _ 51 rfl w.heap.size 3 l0 (.int .i64 0) 1 Tryz.underlying51 li lz0 lz1 _ _ _ _ n rfl rfl ?c0 ?c1 ?c2 (by have:=HN.out;unfold maxLen;omega) (Nat.le_refl _) ?_)
 case c0=>omega
 case c1=>omega
 case c2=>have:=HN.out;first|omega|(rw[lz2];omega)
 intro w1 hown hgr;have HT:=zHd (zAI (TabI.of_full hown) hgr);clear hown hgr;go_wp2
 go_loopw [8] (fun iv wr=>∃ i:Nat,i≤n∧iv = .int .i64 (i:Int)∧TabI wr w.heap.size n (fun x=>if x<i then (x:Int) else 0)∧w.grownBy wr none) (fun iv _=>n - (intOf iv).toNat)
 case atStart=>exact⟨0,Nat.zero_le _,rfl,HT.out.1.congr (fun x _=>by rw[if_neg (by omega)]),HT.out.2⟩
 case round =>
  obtain⟨i,hi',rfl,htab,hgr⟩:=hrel
  by_cases hin:i<n
  ·have u1:decide (i<n)=true:=by simpa using hin
   have u1':decide ((i:Int)<(n:Int))=true:=by simpa using hin
   have u2:(i:Int)<(n:Int):=by omega
   have u3:(0:Int)≤(i:Int):=by omega
   have u4:IntKind.i64.wrap ((i:Int)+1)=(i:Int)+1:=by have:=HN.out;rw[IntKind.wrap_i64];omega
   have k0:=htab.cell hin;have z0:=htab.free i;have hset:=htab.set (x:=i) (i:Int);have HI:=zHd (zAI hin (zAI hset (zai hgr (zac wr ⟨w.heap.size,i,none⟩ (.int .i64 (i:Int))) (Nat.le_refl _))));clear hi' hin htab hgr hset;go_wp2;refine⟨⟨i+1,HI.out.1,by simp,HI.out.2.1.congr (fun x _ => ?_),HI.out.2.2⟩,by have:=HI.out.1;simp[intOf];omega⟩
   by_cases e:x=i
   ·rw[if_pos e,if_pos (by omega),e]
   ·rw[if_neg e]
    by_cases e2:x<i
    ·rw[if_pos e2,if_pos (by omega)]
    ·rw[if_neg e2,if_neg (by omega)]
  ·obtain rfl:i=n:=by omega
   have u1:decide (i<i)=false:=by simp
   have u1':decide ((i:Int)<(i:Int))=false:=by simp
   have k0:=htab.cell HPQ.out.1;have z0:=htab.free p;have ht1:=htab.set (x:=p) (q:Int);have k1:=ht1.cell HPQ.out.2;have z1:=ht1.free q;have ht2:=ht1.set (x:=q) (p:Int);have hg2:=zai (zai hgr (zac wr ⟨w.heap.size,p,none⟩ (.int .i64 (q:Int))) (Nat.le_refl _)) (zac _ ⟨w.heap.size,q,none⟩ (.int .i64 (p:Int))) (Nat.le_refl _)
   have ht3:=ht2.congr (f':=fun x=>((sw p q x:Nat):Int)) (fun x hx=>by
    unfold sw
    by_cases e1:x=q
    ·rw[if_pos e1]
     by_cases e2:x=p
     ·rw[if_pos e2,← e1,e2]
     ·rw[if_neg e2,if_pos e1]
    ·rw[if_neg e1]
     by_cases e2:x=p
     ·rw[if_pos e2,if_pos e2]
     ·rw[if_neg e2,if_neg e2,if_neg e1,if_pos hx])
   have HTAB:=zHd (zAI ht3 hg2);clear hi' hin htab hgr ht1 ht2 ht3 hg2;go_wp2_with (at_make;generalize (wr.setCell ⟨w.heap.size,p,none⟩ (.int .i64 (q:Int))).setCell ⟨w.heap.size,q,none⟩ (.int .i64 (p:Int))=wb at *;refine wpList_make_full _ rfl _ _ 22 rfl wb.heap.size 33 i0 (.slice none 0 0) 1 Tryz.underlying22 hi hz0 hz1 _ _ _ _ i rfl rfl ?c3 ?c4 ?c5 (by have:=HN.out;unfold maxLen;omega) (Nat.le_refl _) ?_)
   case c3=>omega
   case c4=>omega
   case c5=>have:=HN.out;first|omega|(rw[hz2];omega)
   intro w3 hown hgr;generalize i=n at *;have hfill:=zas.start hown hgr;have HF:=zHd ((zaW.start (r:=none) hfill (fun b e=>by cases e)).any (fun i j=>G (sw p q i) (sw p q j)));clear hown hgr hfill k0 z0 k1 z1;go_wp2
   go_loopw [10] (fun iv wr=>∃ (i:Nat) (vs:List Value),i≤n∧iv = .int .i64 (i:Int)∧zaW none n wb wb.heap.size i 0 vs (fun i j=>G (sw p q i) (sw p q j)) wr) (fun iv _=>n - (intOf iv).toNat)
   case atStart=>exact⟨0,_,Nat.zero_le _,rfl,HF.out⟩
   case round =>
    obtain⟨i,vs,hi',rfl,hf⟩:=hrel
    by_cases hin:i<n
    ·have t1:decide (i<n)=true:=by simpa using hin
     have t1':decide ((i:Int)<(n:Int))=true:=by simpa using hin
     have u2:(i:Int)<(n:Int):=by omega
     have u3:(0:Int)≤(i:Int):=by omega
     have u4:IntKind.i64.wrap ((i:Int)+1)=(i:Int)+1:=by have:=HN.out;rw[IntKind.wrap_i64];omega
     have HI:=zHd (zAI hin hf);clear hi' hin hf;go_wp2;generalize wr=wq at *
     go_loopw [11] (fun jv wr=>∃ (j:Nat) (vs:List Value),j≤n∧jv = .int .i64 (j:Int)∧zaW none n wb wb.heap.size i j vs (fun i j=>G (sw p q i) (sw p q j)) wr) (fun jv _=>n - (intOf jv).toNat)
     case atStart=>exact⟨0,vs,Nat.zero_le _,rfl,HI.out.2⟩
     case round =>
      obtain⟨j,vs2,hj',rfl,hf⟩:=hrel
      by_cases hjn:j<n
      ·have x1:decide (j<n)=true:=by simpa using hjn
       have x1':decide ((j:Int)<(n:Int))=true:=by simpa using hjn
       have x2:(j:Int)<(n:Int):=by omega
       have x3:(0:Int)≤(j:Int):=by omega
       have x4:IntKind.i64.wrap ((j:Int)+1)=(j:Int)+1:=by have:=HN.out;rw[IntKind.wrap_i64];omega
       obtain⟨v,hv,hvc,hvo,hvn,A,c,rfl⟩:=hf.at_ HI.out.1;have hsi:=zgy HPQ.out.1 HPQ.out.2 HI.out.1;have hsj:=zgy HPQ.out.1 HPQ.out.2 hjn;obtain⟨ad,rd,ci,rfl,ha0,ha1,hna,hnr,hla,hlr⟩:=HA.out.at_ hsi hsj;have hgw:=zaa HTAB.out.2 hf.gr;have k0:wr.drew.cell? ⟨wb.heap.size,i,none⟩=some (.slice A j c):=hvc;have a0:wr.drew.cell? (ad.add (sw p q i))=some (.slice (some rd) n ci):=hgw.cell ha0 (by simp);have a1:wr.drew.cell? (rd.add (sw p q j))=some (.string (G (sw p q i) (sw p q j))):=hgw.cell ha1 (by simp);have b0:wr.drew.cell? ⟨w.heap.size,i,none⟩=some (.int .i64 (sw p q i:Int)):=hf.gr.cell (HTAB.out.1.cell HI.out.1) (by simp);have b1:wr.drew.cell? ⟨w.heap.size,j,none⟩=some (.int .i64 (sw p q j:Int)):=hf.gr.cell (HTAB.out.1.cell hjn) (by simp);have s1:(sw p q i:Int)<(n:Int):=by omega
       have s2:(0:Int)≤(sw p q i:Int):=by omega
       have s3:(sw p q j:Int)<(n:Int):=by omega
       have s4:(0:Int)≤(sw p q j:Int):=by omega
       have HLT:=zHd (zAI (show ad.block<wb.heap.size by have:=HTAB.out.2.size;omega) (zAI (show rd.block<wb.heap.size by have:=HTAB.out.2.size;omega) (HTAB.out.1.lt)));have HX:=zHd (zAI hjn (zAI hf (zAI True.intro (zAI True.intro hv))));clear hj' hjn hf hv hvc hvo hvn ha0 ha1 hna hnr hla hlr hgw hsi hsj;generalize hsp:sw p q i=si at *;generalize hsq:sw p q j=sj at *;have HSP:=zHd (zAI hsp hsq);clear hsp hsq;go_upto_region 14 with(fail)
       refine zfB (e:=22) (n:=22) (fun W':World=>W'.cell? ⟨wb.heap.size,i,none⟩=some (.slice A j c)∧W'.cell? (ad.add si)=some (.slice (some rd) n ci)∧W'.cell? (rd.add sj)=some (.string (G si sj))∧W'.cell? ⟨w.heap.size,i,none⟩=some (.int .i64 (si:Int))∧W'.cell? ⟨w.heap.size,j,none⟩=some (.int .i64 (sj:Int))) (by kernel_rfl) (by kernel_rfl) rfl ?_;have hS0:(fun W':World=>W'.cell? ⟨wb.heap.size,i,none⟩=some (.slice A j c)∧W'.cell? (ad.add si)=some (.slice (some rd) n ci)∧W'.cell? (rd.add sj)=some (.string (G si sj))∧W'.cell? ⟨w.heap.size,i,none⟩=some (.int .i64 (si:Int))∧W'.cell? ⟨w.heap.size,j,none⟩=some (.int .i64 (sj:Int))) wr.drew:=⟨k0,a0,a1,b0,b1⟩;refine zTk 0 (.slice (some ⟨wb.heap.size,0,none⟩) n n) rfl hS0 ?_
       (try simp only[zA1,zA2,zA3,Act.put,zA4,zA5,zA6])
       refine zTk 1 (.int .i64 (i:Int)) rfl hS0 ?_
       (try simp only[zA1,zA2,zA3,Act.put,zA4,zA5,zA6])
       refine zTk 2 (.slice (some ⟨wb.heap.size,0,none⟩) n n) rfl hS0 ?_
       (try simp only[zA1,zA2,zA3,Act.put,zA4,zA5,zA6])
       refine zTk 3 (.int .i64 (i:Int)) rfl hS0 ?_
       (try simp only[zA1,zA2,zA3,Act.put,zA4,zA5,zA6])
       refine zTk 4 (.pointer (some ⟨wb.heap.size,i,none⟩)) rfl hS0 ?_
       (try simp only[zA1,zA2,zA3,Act.put,zA4,zA5,zA6])
       refine zTk 5 (.slice A j c) rfl hS0 ?_
       (try simp only[zA1,zA2,zA3,Act.put,zA4,zA5,zA6])
       refine zTk 6 (.slice (some ad) n ca) rfl hS0 ?_
       (try simp only[zA1,zA2,zA3,Act.put,zA4,zA5,zA6])
       refine zTk 7 (.slice (some ⟨w.heap.size,0,none⟩) n n) rfl hS0 ?_
       (try simp only[zA1,zA2,zA3,Act.put,zA4,zA5,zA6])
       refine zTk 8 (.int .i64 (i:Int)) rfl hS0 ?_
       (try simp only[zA1,zA2,zA3,Act.put,zA4,zA5,zA6])
       refine zTk 9 (.pointer (some ⟨w.heap.size,i,none⟩)) rfl hS0 ?_
       (try simp only[zA1,zA2,zA3,Act.put,zA4,zA5,zA6])
       refine zTk 10 (.int .i64 (si:Int)) rfl hS0 ?_
       (try simp only[zA1,zA2,zA3,Act.put,zA4,zA5,zA6])
       refine zTk 11 (.pointer (some (ad.add si))) rfl hS0 ?_
       (try simp only[zA1,zA2,zA3,Act.put,zA4,zA5,zA6])
       refine zTk 12 (.slice (some rd) n ci) rfl hS0 ?_
       (try simp only[zA1,zA2,zA3,Act.put,zA4,zA5,zA6])
       refine zTk 13 (.slice (some ⟨w.heap.size,0,none⟩) n n) rfl hS0 ?_
       (try simp only[zA1,zA2,zA3,Act.put,zA4,zA5,zA6])
       refine zTk 14 (.int .i64 (j:Int)) rfl hS0 ?_
       (try simp only[zA1,zA2,zA3,Act.put,zA4,zA5,zA6])
       refine zTk 15 (.pointer (some ⟨w.heap.size,j,none⟩)) rfl hS0 ?_
       (try simp only[zA1,zA2,zA3,Act.put,zA4,zA5,zA6])
       refine zTk 16 (.int .i64 (sj:Int)) rfl hS0 ?_
       (try simp only[zA1,zA2,zA3,Act.put,zA4,zA5,zA6])
       refine zTk 17 (.pointer (some (rd.add sj))) rfl hS0 ?_
       (try simp only[zA1,zA2,zA3,Act.put,zA4,zA5,zA6])
       refine zTk 18 (.string (G si sj)) rfl hS0 ?_
       (try simp only[zA1,zA2,zA3,Act.put,zA4,zA5,zA6])
       have hf5:=HX.out.2.1.kept (zae wr none);obtain⟨v5,hv5,hvc5,hvo5,_⟩:=hf5.at_ HI.out.1;obtain rfl:v5 = .slice A j c:=by have h:=hv5.symm.trans HX.out.2.2.2.2;cases h;rfl
       refine wpAnyH_ready (rs:=[19]) (by kernel_rfl) (by simp) ?_;refine AllReadyH.cons rfl (fun K hK => ?_) AllReadyH.nil
       go_simp
       have hal:=zGA wr.drew (.cells #[.string (G si sj)] 9) none;refine hK.out _ _ ⟨hal.cell hvc5 (by simp),hal.cell a0 (by simp),hal.cell a1 (by simp),hal.cell b0 (by simp),hal.cell b1 (by simp)⟩ (fun hHeld => ?_);refine wpAnyH_ready (rs:=[20]) (by kernel_rfl) (by simp) ?_;refine AllReadyH.cons rfl (fun K hK => ?_) AllReadyH.nil;refine step_append_lies _ (by rfl) _ _ _ (by rfl) (wb.heap.size+1) 9 j0 (.string ⟨#[]⟩) 1 16 Tryz.underlying33 ji jz0 jz1 jz2 rfl (by omega) (.slice A j c) j (zbs n (fun i j=>G (sw p q i) (sw p q j)) i j i) (by rfl) (hvo5.alloc _) ⟨wr.drew.heap.size,0,none⟩ 1 1 [.string (G si sj)] (by rfl) (by rfl) (World.news_of_block (cs:=#[.string (G si sj)]) (t:=9) (fr:=(0,0)) (heap_alloc_new wr.drew _)) (by simp[Value.oneCell']) (by omega) (by have:=HN.out;have:=HX.out.1;unfold maxLen;omega) (by have:=HN.out;have:=HX.out.1;omega) (by have:=hf5.grid.lt;first|(simp;omega)|(simp at this ⊢;omega)) (wr.drew.heap.size+1) (by simp) ?_;intro g2 cap W6 hown6 hgrow hat hlt6;have hrd:=hf5.ready hv5 hgrow;have z0:=hrd.2;have q0:=hrd.1;refine hK.out _ _ ⟨hrd.1,(zaq (hf5.apart hv5 hgrow (by rw[zaj];exact HLT.out.1))).trans a0,(zaq (hf5.apart hv5 hgrow (by rw[zaj];exact HLT.out.2.1))).trans a1,(zaq (hf5.apart hv5 hgrow (by exact HLT.out.2.2))).trans b0,(zaq (hf5.apart hv5 hgrow (by exact HLT.out.2.2))).trans b1⟩ (fun hHeld => ?_);refine zTk 21 (.pointer (some ⟨wb.heap.size,i,none⟩)) rfl hHeld ?_
       (try simp only[zA1,zA2,zA3,Act.put,zA4,zA5,zA6])
       clear hHeld;refine wpAnyH_done (by kernel_rfl) ?_ _;refine zgA (by rfl) (fun K hK => ?_)
       go_simp
       refine hK _ _ ?_;have hput:=hf5.put HI.out.1 HX.out.1 hv5 hgrow hown6 hat;have HP:=zHd hput;clear hput hgrow hown6 hat hrd;go_wp2;have hfin:=HP.out.1;have es:G si sj=(fun i j=>G (sw p q i) (sw p q j)) i j:=by rw[← HSP.out.1,← HSP.out.2]
       rw[es,zCp] at hfin;exact⟨⟨j+1,_,HX.out.1,by simp,hfin⟩,by have:=HX.out.1;simp[intOf];omega⟩
      ·obtain rfl:j=n:=by omega
       have v1:decide (j<j)=false:=by simp
       have v1':decide ((j:Int)<(j:Int))=false:=by simp
       have HJ:=zHd hf;clear hj' hjn hf;go_wp2;exact⟨⟨i+1,vs2,HI.out.1,by simp,HJ.out.row⟩,by have:=HI.out.1;simp[intOf];omega⟩
    ·obtain rfl:i=n:=by omega
     have t1:decide (i<i)=false:=by simp
     have t1':decide ((i:Int)<(i:Int))=false:=by simp
     have HJ:=zHd hf;clear hi' hin hf;go_wp2;go_ret;exact⟨_,vs,rfl,HJ.out.back HTAB.out.2⟩
end Go.Proofs.YtaogepcaoogpgaaGreatDoor
