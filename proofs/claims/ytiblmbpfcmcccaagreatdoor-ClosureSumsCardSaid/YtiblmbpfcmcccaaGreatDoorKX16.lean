/- THE CARD OF ClosureSums: for every input, in every world in which the listed tables read as the program's text lays them, the call returns true, and what was there before it has not turned. Conditions: the row's own (the listed package-level variables, tied to the program's text). -/
import Derived.Test.YtiblmbpfcmcccaaGreatDoorKX15
set_option linter.unusedVariables false
set_option linter.defProp false
set_option linter.unusedSimpArgs false
set_option maxRecDepth 100000
set_option maxHeartbeats 16000000
namespace Go.Proofs.YtiblmbpfcmcccaaGreatDoor
open Go.Proofs.Tryz
open Go.RowKit
structure AtP {k:Int}(P:Prop)(n:Nat)(bad:Bool)(M:Nat->Nat->El k)(G:Nat->Nat->ByteArray)(U:Nat->Nat->El k)(b1:Bool):Prop where
 tx:∀ i j,i<n->j<n->G i j=tx (U i j)/\zam (U i j)
 good:b1=false->bad=false/\∀ i j,i<n->j<n->U i j=M i j
 keeps:bad=false->P->b1=false
def AtP.put {k:Int}{P:Prop}{n:Nat}{bad:Bool}{M M':Nat->Nat->El k}{G:Nat->Nat->ByteArray}{U:Nat->Nat->El k}{b3 b4:Bool}(h:AtP P n bad M G U b3){i d:Nat}(v:El k)(fv:zam v)
  (h4:b4=false->b3=false/\v=M' i d) (hM:∀ x y,¬ (x=i/\y=d)->M' x y=M x y) (hk4:bad=false->P->b4=false):AtP P n bad M' (zec G i d (Proofs.YtiblmbpfcmcccaaGreatDoor.tx v)) (ziL U i d v) b4:=by
 refine⟨fun x y hx hy=>?_,fun hb=>?_,hk4⟩
 ·obtain⟨y1,y2⟩:=h.tx x y hx hy
  refine⟨zzV U i d v y1,?_⟩;unfold ziL;split;exact fv;exact y2
 have q1:=h4 hb;have q2:=h.good q1.1;refine⟨q2.1,fun x y hx hy=>?_⟩;unfold ziL
 by_cases e:x=i/\y=d
 rw[if_pos e,e.1,e.2,q1.2];rw[if_neg e,q2.2 x y hx hy,hM x y e]
def AtP.to {k:Int}{P:Prop}{n:Nat}{bad:Bool}{M M':Nat->Nat->El k}{G:Nat->Nat->ByteArray}{U:Nat->Nat->El k}{b3:Bool}(h:AtP P n bad M G U b3)(e:∀ x y,x<n->y<n->M' x y=M x y):AtP P n bad M' G U b3 :=
 ⟨h.tx,fun hb=>⟨(h.good hb).1,fun x y hx hy=>by rw[e x y hx hy];exact(h.good hb).2 x y hx hy⟩,h.keeps⟩
noncomputable def arcAt {k:Int}(hk:zad k)(l:List zah)(i t x y:Nat):El k:=if x<i then arcM hk l x y else if x=i then zcq hk (arcF hk (stA l i)) (zcS (stA l i)) t y else (srE k hk).zero
def zyG {k:Int}(hk:zad k)(l:List zah)(x y:Nat):arcAt hk l 0 0 x y=(srE k hk).zero:=by
 unfold arcAt;rw[if_neg (by omega)];split;rfl;rfl
def zCp {k:Int}(hk:zad k)(l:List zah)(i x y:Nat):arcAt hk l (i+1) 0 x y=arcAt hk l i (stA l i).length x y:=by
 unfold arcAt
 by_cases h1:x<i
 rw[if_pos h1,if_pos (by omega)];rw[if_neg h1]
 by_cases h2:x=i
 rw[if_pos h2,if_pos (by omega),h2];rfl;rw[if_neg h2,if_neg (by omega)];split;rfl;rfl
def zFZ {k:Int}(hk:zad k)(l:List zah)(i t:Nat):arcAt hk l i (t+1) i (zcS (stA l i) t)=(srE k hk).add (arcAt hk l i t i (zcS (stA l i) t)) (arcF hk (stA l i) t):=by
 unfold arcAt;rw[if_neg (by omega),if_pos rfl,if_neg (by omega),if_pos rfl,zsI]
def zGa {k:Int}(hk:zad k)(l:List zah)(i t x y:Nat)(h:¬ (x=i/\y=zcS (stA l i) t)):arcAt hk l i (t+1) x y=arcAt hk l i t x y:=by
 unfold arcAt
 by_cases h1:x<i
 rw[if_pos h1,if_pos h1];rw[if_neg h1,if_neg h1]
 by_cases h2:x=i
 rw[if_pos h2,if_pos h2,zlP _ _ _ _ _ (fun e=>h ⟨h2,e⟩)];rw[if_neg h2,if_neg h2]
def zGb {k:Int}(hk:zad k)(l:List zah)(i t y:Nat):arcAt hk l i t i y=zcq hk (arcF hk (stA l i)) (zcS (stA l i)) t y:=by
 unfold arcAt;rw[if_neg (by omega),if_pos rfl]
def zun {k:Int}(hk:zad k)(l:List zah){n x y:Nat}(hx:x<n):arcAt hk l n 0 x y=arcM hk l x y:=by
 unfold arcAt;rw[if_pos hx]
def zGc {k:Int}(hk:zad k)(l:List zah)(sb n:Nat)(bad:Bool)(w:World)(e:Ending)(w':World):Prop :=
 ∃ g vs G U b1,e=.returned (.slice (some ⟨g,0,none⟩) n n)/\zaR (some sb) n w g n 0 vs G w'/\zaH k sb b1 w'/\AtP (zdE hk l) n bad (arcM hk l) G U b1/\(b1=false->U=arcM hk l)
def zoW {k:Int}(hk:zad k)(sb n:Nat)(bad:Bool)(l:List zah)(us:List Value)(As:Option Addr)(cs:Nat)(kd st:Int)(ld:ByteArray)(w0 w:World)(hn:n<=60)(hln:l.length=n)(hok:zda k l)(hst:zhv w0 l us As cs)(hg0:w0.grownBy w none)(hlow:w0.heap.size<=sb)(hb:zaH k sb bad w) :
  Calls prog 33 #[.pointer (some ⟨sb,0,none⟩),.agg #[.int .i64 kd,.int .i64 st,.string ld,.slice As n cs]] w (zGc hk l sb n bad w):=by
 have hal:=zGA w (.cells #[.int .i64 kd,.int .i64 st,.string ld,.slice As n cs] 24) none;obtain⟨_,_,_,x3⟩:=zdv.new w kd st ld As n cs;have k1:=zqbw _ sb 0 _ _ (0,0) (hb.kept hal);have k1:(w.alloc (.cells #[.int .i64 kd,.int .i64 st,.string ld,.slice As n cs] 24)).cell? ⟨sb,0,none⟩=some (.int .i64 k):=k1;have HW:=zHd (zAI hal (zAI hg0 (zAI hlow hb.lt)));have HB:=zHd (hb.kept hal);have HN:=zHd (zAI hn hln);have HOK:=zHd hok;have HST:=zHd hst;clear hal hst hok hg0 hlow hb hn;go_enter func33,ntmps33;go_upto_region 1 with(fail);generalize w.alloc (.cells #[.int .i64 kd,.int .i64 st,.string ld,.slice As n cs] 24)=W0 at *;have d0:W0.drew.cell? ⟨sb,0,none⟩=some (.int .i64 k):=k1;have d1:W0.drew.cell? ⟨w.heap.size,3,none⟩=some (.slice As n cs):=x3;refine wp_region_held_drew (S:=fun W':World=>W'.cell? ⟨sb,0,none⟩=some (.int .i64 k)/\W'.cell? ⟨w.heap.size,3,none⟩=some (.slice As n cs)) (by kernel_rfl) (⟨d0,d1⟩) (fun zH=>?_);refine zTk 0 (.pointer (some ⟨sb,0,none⟩)) rfl zH ?_;(try simp only[zS,Act.put]);refine zTk 1 (.pointer (some ⟨sb,0,none⟩)) rfl zH ?_;(try simp only[zS,Act.put]);refine zTk 2 (.pointer (some ⟨sb,0,none⟩)) rfl zH ?_;(try simp only[zS,Act.put]);refine zTk 3 (.int .i64 k) rfl zH ?_;(try simp only[zS,Act.put]);refine zTk 4 (.pointer (some ⟨w.heap.size,3,none⟩)) rfl zH ?_;(try simp only[zS,Act.put]);refine zTk 5 (.slice As n cs) rfl zH ?_;(try simp only[zS,Act.put]);refine zTk 6 (.int .i64 (n:Int)) rfl zH ?_;(try simp only[zS,Act.put]);refine zqcc (rs:=[7]) (by kernel_rfl) (by simp) ?_;refine AllReadyH.cons rfl (fun K hK=>?_) AllReadyH.nil;go_simp;refine(zme k n _ (by have:=HN.out.1;omega)).mono ?_;rintro e w1 ⟨gb,vb,rfl,hf1⟩;have S1:(fun W':World=>W'.cell? ⟨sb,0,none⟩=some (.int .i64 k)/\W'.cell? ⟨w.heap.size,3,none⟩=some (.slice As n cs)) w1:=⟨hf1.gr.cell d0 (by simp),hf1.gr.cell d1 (by simp)⟩;refine hK.out _ _ (S1) (fun zH=>?_);clear hK K;(try simp only[zS,Act.put]);refine zTk 8 (.slice (some ⟨gb,0,none⟩) n n) rfl zH ?_;(try simp only[zS,Act.put]);refine wpAnyH_done (by kernel_rfl) ?_ _;have H1:=zHd (zAI (hf1.lift (zaf W0 none |> zaB) HB.out.lt) (HB.out.kept (zaa (zaf W0 none) hf1.gr)));have HX3:=zHd x3;clear hf1 k1 x3 d0 d1 S1 zH;go_wp2
 go_loopw [6] (fun iv wr=>∃ (i:Nat) (G:Nat->Nat->ByteArray) (U:Nat->Nat->El k) (b1:Bool),i<=n/\iv=.int .i64 (i:Int)/\zaR (some sb) n W0 gb n 0 vb G wr/\zaH k sb b1 wr/\AtP (zdE hk l) n bad (arcAt hk l i 0) G U b1) (fun iv _=>n-(intOf iv).toNat)
 case atStart=>exact⟨0,_,fun _ _=>(srE k hk).zero,bad,zqaw _,rfl,H1.out.1,H1.out.2,⟨fun x y _ _=>⟨(zdj hk).symm,zce hk⟩,fun hb=>⟨hb,fun x y _ _=>(zyG hk l x y).symm⟩,fun hb _=>hb⟩⟩
 case round =>
  obtain⟨i,G,U,b1,hi',rfl,hf,hs,hat⟩:=hrel;have hwb:¬ w.heap.size=sb:=by have:=HW.out.2.2.2;omega
  have y3:=hf.gr.cell HX3.out (by simpa using hwb);have HWB:=zHd hwb
  by_cases hin:i<n
  ·have u1:decide (i<n)=true:=by simpa using hin
   have u1':decide ((i:Int)<(n:Int))=true:=by simpa using hin
   have u2:(i:Int)<(n:Int):=by omega
   have u3:(0:Int)<=(i:Int):=by omega
   have u4:IntKind.i64.wrap ((i:Int)+1)=(i:Int)+1:=by have:=HN.out.1;rw[zqah];omega
   obtain⟨ad,s,u,rfl,hbl,hls,hus,hsa,hsl⟩:=HST.out.at_ i (by rw[HN.out.2];exact hin);obtain⟨Au,cu,rfl,hra⟩:=hsl;have hse:=ziy hls;obtain⟨hao,hal⟩:=HOK.out.arcs i (by rw[HN.out.2];exact hin);rw[hse] at hao hal;obtain⟨q,hq⟩:∃ q,s.arcs.length=q:=⟨_,rfl⟩;rw[hq] at hal hsa;have HI:=zHd (zAI hin (zAI hf (zAI hs hat)));have HS:=zHd (zAI hsa (zAI hra (zAI hse (zAI hao (zAI hal (zAI hq hbl))))));clear hi' hin hf hs hat hls hus hsa hra hse hao hal hq hbl hwb;go_wp2;generalize wr=wq at *
   go_loopw [7] (fun tv wr=>∃ (t:Nat) (G:Nat->Nat->ByteArray) (U:Nat->Nat->El k) (b1:Bool),t<=q/\tv=.int .i64 (t:Int)/\zaR (some sb) n W0 gb n 0 vb G wr/\zaH k sb b1 wr/\AtP (zdE hk l) n bad (arcAt hk l i t) G U b1) (fun tv _=>q-(intOf tv).toNat)
   case atStart=>exact⟨0,G,U,b1,zqaw _,rfl,HI.out.2.1,HI.out.2.2.1,HI.out.2.2.2⟩
   case round =>
    obtain⟨t,G,U,b1,ht',rfl,hf,hs,hat⟩:=hrel;have y3:=hf.gr.cell HX3.out (by simpa using HWB.out);have hbe:Below w0.heap.size w0 wr:=below_grown (zaa (zaB (zaa HW.out.2.1 HW.out.1)) hf.gr) (zqab _) (by have:=HW.out.2.2.1;simp;omega);have q1:=(HS.out.1.below hbe (by rw[zaw];exact HS.out.2.2.2.2.2.2)).c1
    by_cases htq:t<q
    ·have x1:decide (t<q)=true:=by simpa using htq
     have x1':decide ((t:Int)<(q:Int))=true:=(by simpa using htq);have x2:(t:Int)<(q:Int):=(by omega);have x3:(0:Int)<=(t:Int):=(by omega);have x4:IntKind.i64.wrap ((t:Int)+1)=(t:Int)+1:=(by have:=HS.out.2.2.2.2.1;rw[zqah];omega);obtain⟨bd,a,rfl,hbb,hla,⟨a0,a1,a2,a3⟩⟩:=zgV ((HS.out.2.1.below hbe).more hbe.size) (by rw[HS.out.2.2.2.2.2.1];exact htq);obtain⟨ht0,htn,hwv⟩:=HS.out.2.2.2.1 a (zqak hla);rw[HN.out.2] at htn;obtain⟨hwt,hwf⟩:=zgt hk hwv;obtain⟨κ,hκ⟩:∃ κ:Nat,a.t=(κ:Int):=⟨a.t.toNat,by omega⟩;have hκ2:zcS (stA l i) t=κ:=(by rw[HS.out.2.2.1,zov hla,hκ];rfl);have hκf:arcF hk (stA l i) t=vE hk a.w:=(by rw[HS.out.2.2.1,zow hk hla]);have hκn:κ<n:=(by omega);rw[hκ] at a3;obtain⟨cc,cap,hv,hvc,hcc,hcf,hgc,hcl⟩:=hf.get HI.out.1 hκn;rw[(hat.tx i κ HI.out.1 hκn).1] at hcc;have i1:(κ:Int)<(n:Int):=(by omega);have i2:(0:Int)<=(κ:Int):=(by omega);have hne:¬ cc=sb:=(by have:=hf.far;have:=HB.out.lt;omega);have HX:=zHd (zAI htq (zAI hf (zAI hs (zAI hat hv))));have HNE:=zHd hne;have HK:=zHd (zAI hκ2 (zAI hκf (zAI hκn (zAI hwt hwf))));clear ht' htq hf hs hat hv hcf hgc hcl hne hla hbb ht0 htn hwv hwt hwf hκ hκ2 hκf hκn hbe;go_upto_region 9 with(fail);have hal:=zGA wr (.cells #[.int .i64 a.i,.int .i64 a.o,.string a.w,.int .i64 (κ:Int)] 45) none;have e2:=zan wr #[.int .i64 a.i,.int .i64 a.o,.string a.w,.int .i64 (κ:Int)] 45 (j:=2) rfl;have e3:=zan wr #[.int .i64 a.i,.int .i64 a.o,.string a.w,.int .i64 (κ:Int)] 45 (j:=3) rfl;have e0:=hal.cell hvc (by simp);have e1:=hal.cell hcc (by simp);generalize wr.alloc (.cells #[.int .i64 a.i,.int .i64 a.o,.string a.w,.int .i64 (κ:Int)] 45)=Wb at *;have d2:Wb.drew.cell? ⟨wr.heap.size,2,none⟩=some (.string a.w):=e2;have d3:Wb.drew.cell? ⟨wr.heap.size,3,none⟩=some (.int .i64 (κ:Int)):=e3;have d0:Wb.drew.cell? ⟨gb,i,none⟩=some (.slice (some ⟨cc,0,none⟩) n cap):=e0;have d1:Wb.drew.cell? ⟨cc,κ,none⟩=some (.string (tx (U i κ))):=e1;have HWU:=zHd (zaa hal (zaf Wb none));have HSL:=zHd HX.out.2.2.1.lt;clear hal e0 e1 e2 e3 hvc hcc a0 a1 a2 a3 q1 y3;refine zdU (e:=19) (n:=19) (fun W':World=>W'.cell? ⟨gb,i,none⟩=some (.slice (some ⟨cc,0,none⟩) n cap)/\W'.cell? ⟨cc,κ,none⟩=some (.string (tx (U i κ)))/\W'.cell? ⟨wr.heap.size,2,none⟩=some (.string a.w)/\W'.cell? ⟨wr.heap.size,3,none⟩=some (.int .i64 (κ:Int))) (by kernel_rfl) (by kernel_rfl) rfl ?_;have hS0:(fun W':World=>W'.cell? ⟨gb,i,none⟩=some (.slice (some ⟨cc,0,none⟩) n cap)/\W'.cell? ⟨cc,κ,none⟩=some (.string (tx (U i κ)))/\W'.cell? ⟨wr.heap.size,2,none⟩=some (.string a.w)/\W'.cell? ⟨wr.heap.size,3,none⟩=some (.int .i64 (κ:Int))) Wb.drew:=⟨d0,d1,d2,d3⟩;refine zTk 0 (.slice (some ⟨gb,0,none⟩) n n) rfl hS0 ?_;(try simp only[zS,Act.put]);refine zTk 1 (.int .i64 (i:Int)) rfl hS0 ?_;(try simp only[zS,Act.put]);refine zTk 2 (.pointer (some ⟨gb,i,none⟩)) rfl hS0 ?_;(try simp only[zS,Act.put]);refine zTk 3 (.slice (some ⟨cc,0,none⟩) n cap) rfl hS0 ?_;(try simp only[zS,Act.put]);refine zTk 4 (.pointer (some ⟨wr.heap.size,3,none⟩)) rfl hS0 ?_;(try simp only[zS,Act.put]);refine zTk 5 (.int .i64 (κ:Int)) rfl hS0 ?_;(try simp only[zS,Act.put]);refine zTk 6 (.pointer (some ⟨sb,0,none⟩)) rfl hS0 ?_;(try simp only[zS,Act.put]);refine zTk 7 (.slice (some ⟨gb,0,none⟩) n n) rfl hS0 ?_;(try simp only[zS,Act.put]);refine zTk 8 (.int .i64 (i:Int)) rfl hS0 ?_;(try simp only[zS,Act.put]);refine zTk 9 (.pointer (some ⟨gb,i,none⟩)) rfl hS0 ?_;(try simp only[zS,Act.put]);refine zTk 10 (.slice (some ⟨cc,0,none⟩) n cap) rfl hS0 ?_;(try simp only[zS,Act.put]);refine zTk 11 (.pointer (some ⟨wr.heap.size,3,none⟩)) rfl hS0 ?_;(try simp only[zS,Act.put]);refine zTk 12 (.int .i64 (κ:Int)) rfl hS0 ?_;(try simp only[zS,Act.put]);refine zTk 13 (.pointer (some ⟨cc,κ,none⟩)) rfl hS0 ?_;(try simp only[zS,Act.put]);refine zTk 14 (.string (tx (U i κ))) rfl hS0 ?_;(try simp only[zS,Act.put]);refine zTk 15 (.pointer (some ⟨wr.heap.size,2,none⟩)) rfl hS0 ?_;(try simp only[zS,Act.put]);refine zTk 16 (.string a.w) rfl hS0 ?_;(try simp only[zS,Act.put]);refine zqcc (rs:=[17]) (by kernel_rfl) (by simp) ?_;refine AllReadyH.cons rfl (fun K hK=>?_) AllReadyH.nil;go_simp;have zC:=zkm hk sb b1 (U i κ) (vE hk a.w) (HX.out.2.2.2.1.tx i κ HI.out.1 HK.out.2.2.1).2 HK.out.2.2.2.2 Wb.drew (HX.out.2.2.1.kept HWU.out);rw[<- HK.out.2.2.2.1] at zC;refine zC.mono ?_;rintro e w6 ⟨S6,b4,rfl,hg,hs,hiff,zV,v,fv,rfl⟩;have hf6:=(HX.out.2.1.kept (zaB HWU.out)).kept hg;obtain⟨cc',cap',hvx,hvcx,hccx,hcfx,_,_⟩:=hf6.get HI.out.1 HK.out.2.2.1;obtain⟨rfl,rfl⟩:cc'=cc/\cap'=cap:=by have h:=hvx.symm.trans HX.out.2.2.2.2;simp at h;exact h
     have hws:¬ wr.heap.size=sb:=(by have:=HSL.out;omega);have T6:(fun W':World=>W'.cell? ⟨gb,i,none⟩=some (.slice (some ⟨cc',0,none⟩) n cap')/\W'.cell? ⟨cc',κ,none⟩=some (.string (tx (U i κ)))/\W'.cell? ⟨wr.heap.size,2,none⟩=some (.string a.w)/\W'.cell? ⟨wr.heap.size,3,none⟩=some (.int .i64 (κ:Int))) w6:=⟨hvcx,hg.cell d1 (by have:=HNE.out;simp;omega),hg.cell d2 (by simp;omega),hg.cell d3 (by simp;omega)⟩;have H6:=zHd (zAI hf6 (zAI hs (zAI hiff (zAI zV fv))));refine hK.out _ _ T6 (fun zH=>?_);clear hg hs hiff zV fv hf6 hvx zH hK K zC hws;refine zTk 18 (.pointer (some ⟨cc',κ,none⟩)) rfl T6 ?_;(try simp only[zS,Act.put]);refine wpAnyH_done (by kernel_rfl) ?_ _;refine zeZ (by rfl) (fun K hK=>?_);go_simp;refine hK _ _ ?_;clear hS0 T6 d0 d1 d2 d3 hvcx hccx hcfx;go_wp2;have hset:=H6.out.1.set (s:=tx v) HI.out.1 HK.out.2.2.1 HX.out.2.2.2.2;refine⟨⟨t+1,_,ziL U i κ v,b4,HX.out.1,by simp,hset,(zqcd w6 _ sb _ (by show sb≠cc';have:=HNE.out;omega)).trans H6.out.2.1,?_⟩,by have:=HX.out.1;simp[intOf];omega⟩;have hM:=zFZ hk l i t;rw[HK.out.1,HK.out.2.1] at hM;refine HX.out.2.2.2.1.put v H6.out.2.2.2.2 (fun hb=>?_) (fun x y h=>zGa hk l i t x y (by rw[HK.out.1];exact h)) (fun hbad zf=>?_)
     ·have q1:=H6.out.2.2.1.1 hb
      refine⟨q1.1,?_⟩;rw[zds H6.out.2.2.2.2 q1.2 (H6.out.2.2.2.1 hb),(HX.out.2.2.2.1.good q1.1).2 i κ HI.out.1 HK.out.2.2.1,hM]
     have q1:=HX.out.2.2.2.1.keeps hbad zf;refine H6.out.2.2.1.2 ⟨q1,?_⟩;rw[(HX.out.2.2.2.1.good q1).2 i κ HI.out.1 HK.out.2.2.1,<- hM,zGb];have h:=zf i (by rw[HN.out.2];exact HI.out.1) t (by rw[HS.out.2.2.1,HS.out.2.2.2.2.2.1];exact HX.out.1);rw[HK.out.1] at h;exact h
    obtain rfl:q=t:=by omega
    have x1:decide (q<q)=false:=(by simp);have x1':decide ((q:Int)<(q:Int))=false:=(by simp);have HX:=zHd (zAI hf (zAI hs hat));clear ht' htq hf hs hat hbe;go_wp2;refine⟨⟨i+1,G,U,b1,HI.out.1,by simp,HX.out.1,HX.out.2.1,HX.out.2.2.to (fun x y _ _=>?_)⟩,by have:=HI.out.1;simp[intOf];omega⟩;rw[zCp,HS.out.2.2.1,HS.out.2.2.2.2.2.1]
  obtain rfl:n=i:=by omega
  have u1:decide (n<n)=false:=by simp
  have u1':decide ((n:Int)<(n:Int))=false:=by simp
  have HJ:=zHd (zAI hf (zAI hs hat));clear hi' hin hf hs hat;go_wp2;go_ret;refine⟨gb,vb,G,fun x y=>if x<n/\y<n then U x y else arcM hk l x y,b1,rfl,HJ.out.1.since (zaB HW.out.1) HW.out.2.2.2,HJ.out.2.1,⟨fun x y hx hy=>?_,fun hb=>⟨(HJ.out.2.2.good hb).1,fun x y hx hy=>?_⟩,HJ.out.2.2.keeps⟩,fun hb=>?_⟩
  ·rw[if_pos ⟨hx,hy⟩]
   exact HJ.out.2.2.tx x y hx hy
  rw[if_pos ⟨hx,hy⟩,(HJ.out.2.2.good hb).2 x y hx hy,zun hk l hx];funext x y
  by_cases e:x<n/\y<n
  rw[if_pos e,(HJ.out.2.2.good hb).2 x y e.1 e.2,zun hk l e.1];rw[if_neg e]
structure zhX {k:Int}(hk:zad k)(l:List zah):Prop where
 arcs:zdE hk l
 mat:zmf hk (arcM hk l) l.length
 term:∀ i x,i<l.length->x<l.length->zam ((srE k hk).mul (stM (srE k hk) (arcM hk l) l.length i x) (finM hk l x))
 part:∀ i j,i<l.length->j<l.length->zam (sm (srE k hk) (j+1) (fun x=>(srE k hk).mul (stM (srE k hk) (arcM hk l) l.length i x) (finM hk l x)))
def zuo {k:Int}(P:Prop)(n:Nat)(T:Nat->El k)(w:World)(e:Ending)(w':World):Prop :=
 ∃ v f,e=.returned (.tuple #[v,.int .i64 f])/\w.grownBy w' none/\((f=0/\zaK w' v n (fun i=>.string (tx (T i)))/\∀ i,i<n->zam (T i))∨(f=2/\v=.slice none 0 0/\¬ P))
structure zkJ {k:Int}(w3:World)(sb:Nat)(i:Nat)(T:Nat->El k)(lv:Value)(wr:World):Prop where
 gr:w3.grownBy wr (some sb)
 own:wr.ownsRow w3.heap.size 9 1 lv i ((List.range i).map (fun x=>.string (tx (T x))))
def zkJ.kept {k:Int}{w3:World}{sb i:Nat}{T:Nat->El k}{lv:Value}{wr w':World}(h:zkJ w3 sb i T lv wr)(hg:wr.grownBy w' (some sb))(hsb:sb<w3.heap.size):zkJ w3 sb i T lv w' :=
 ⟨zaa h.gr hg,h.own.kept hg (by
  cases hv:lv.ownBlock with
  | none=>exact .inl rfl
  | some b=>exact .inr (by have:=(h.own.lt b hv).1;intro e;cases e;omega))⟩
def zjL {α:Type}(T:Nat->α)(i:Nat)(u:α)(x:Nat):α:=if x=i then u else T x
def zkJ.more {k:Int}{w3:World}{sb i:Nat}{T:Nat->El k}{lv v':Value}{wr w':World}{o:Obj}(h:zkJ w3 sb i T lv wr)(hg:(wr.alloc o).grownBy w' lv.ownBlock)(u:El k)
  (ho:w'.ownsRow w3.heap.size 9 1 v' (i+1) ((List.range i).map (fun x=>.string (tx (T x)))++[.string (tx u)])):zkJ w3 sb (i+1) (zjL T i u) v' w':=by
 refine⟨?_,?_⟩
 ·have h1:=zaa h.gr (zGA wr o (some sb))
  cases hv:lv.ownBlock with
  | none=>rw[hv] at hg;exact zaa h1 (zaB hg)
  | some b=>rw[hv] at hg;exact zak h1 hg (h.own.lt b hv).1
 rw[List.range_succ,List.map_append]
 have e:(List.range i).map (fun x=>Value.string (tx (zjL T i u x)))=(List.range i).map (fun x=>.string (tx (T x))):=List.map_congr_left (fun x hx=>by
  have:=List.mem_range.1 hx;unfold zjL;rw[if_neg (by omega)])
 rw[e];have e2:(zjL T i u i)=u:=by unfold zjL;rw[if_pos rfl]
 simp only[List.map_cons,List.map_nil,e2];exact ho
def zkJ.row {k:Int}{w3:World}{sb i:Nat}{T:Nat->El k}{lv:Value}{wr:World}(h:zkJ w3 sb i T lv wr)(hi:i<=10000):zaK wr lv i (fun x=>.string (tx (T x))):=by
 rcases h.own.2 with⟨rfl,h0⟩|⟨c,cap,cur,rfl,hb,hg,h1,h2,h3,h4⟩
 ·have:i=0:=by simpa using h0
  subst this;exact⟨none,0,rfl,zqab _,by unfold maxLen;omega,fun j hj=>absurd hj (by omega)⟩
 refine⟨_,cap,rfl,h1,h2,fun j hj=>⟨_,rfl,(zqad.1 hg).1,?_⟩⟩;exact h.own.cells (g:=c) rfl j _ (by rw[zqaj,zqbe hj];rfl)
def zup {w:World}{v:Value}{m:zaj}(hk:zad m.kind)(hv:zbJ w v m)(hf:zdD m)(zV:validB m=true)(hn:m.states.length<=9):Calls prog 11 #[v] w (zuo (zhX hk m.states) m.states.length (toE hk m.states) w):=by
 obtain⟨j0,ji,jz0,jz1,jz2⟩:=info_parts zfa;have HV:=zHd hv;obtain⟨u,rfl,hst⟩:=hv;obtain⟨A,cs,us,rfl,hsr⟩:=zeO hst;have hal:=zGA w (.cells #[.int .i64 m.kind,.int .i64 m.start,.string m.lead,.slice A m.states.length cs] 24) none;have hbs:(w.alloc (.cells #[.int .i64 m.kind,.int .i64 m.start,.string m.lead,.slice A m.states.length cs] 24)).heap.size=w.heap.size+1:=by simp
 obtain⟨x0,x1,x2,x3⟩:=zdv.new w m.kind m.start m.lead A m.states.length cs;have hrv:=zfr (HV.out.grown hal) hf;rw[zV] at hrv;have hok:=(zcH zV).sts (by omega);have HRV:=zHd hrv;have HSR:=zHd hsr;have HN:=zHd hn;have HOK:=zHd hok;have HMO:=zHd (zcH zV);have HBS:=zHd hbs;have t1:decide ((60:Int)<(m.states.length:Int))=false:=by simp;omega
 have t2:¬ (60:Int)<(m.states.length:Int):=by omega
 clear hrv hsr hst hn hok zV hf hbs;go_enter func11,ntmps11;go_wp2_with fail;generalize w.alloc (.cells #[.int .i64 m.kind,.int .i64 m.start,.string m.lead,.slice A m.states.length cs] 24)=W0 at *;refine HRV.out.mono ?_;rintro e w1 ⟨rfl,hg1⟩
 replace x0:=hg1.cell x0 (by simp)
 replace x1:=hg1.cell x1 (by simp)
 replace x2:=hg1.cell x2 (by simp)
 replace x3:=hg1.cell x3 (by simp)
 have hg01:=zaa hal hg1;have HLT:=zHd (show w.heap.size<w1.heap.size by have:=HBS.out;have:=hg1.size;omega);have hal1:=zGA w1 (.cells #[.int .i64 m.kind,.bool false] 67) none;have y0:=hal1.cell x0 (by simp);have y1:=hal1.cell x1 (by simp);have y2:=hal1.cell x2 (by simp);have y3:=hal1.cell x3 (by simp);have HSU:=zHd (show zaH m.kind w1.heap.size false (w1.alloc (.cells #[.int .i64 m.kind,.bool false] 67)) from zaG w1 _);have HG1:=zHd (zAI hg01 hal1);have HST1:=zHd (HSR.out.grown hg01);clear hg1 hg01 hal hal1 HRV;go_wp2_with fail;generalize hsb:w1.heap.size=sb at *;have HSB:=zHd hsb;generalize w1.alloc (.cells #[.int .i64 m.kind,.bool false] 67)=W1 at *;refine(zoW hk sb m.states.length false m.states us A cs m.kind m.start m.lead w1 W1 (by have:=HN.out;omega) rfl HOK.out HST1.out HG1.out.2 (by rw[hsb];exact zqab _) HSU.out).mono ?_;rintro e w2 ⟨ga,va,GA,U,b1,rfl,hfa,hsa,hat,hU⟩;have hwb:¬ w.heap.size=sb:=by have:=HLT.out;have:=HSB.out;omega
 have HWB:=zHd hwb
 replace x0:=hfa.gr.cell y0 (by simpa using hwb)
 replace x1:=hfa.gr.cell y1 (by simpa using hwb)
 replace x2:=hfa.gr.cell y2 (by simpa using hwb)
 replace x3:=hfa.gr.cell y3 (by simpa using hwb)
 have HA:=zHd (zAI (hfa.mat (by have:=HN.out;omega) HSU.out.lt) (zAI hsa (zAI hat (zAI hU (zaa (zaB (zaa HG1.out.1 HG1.out.2)) hfa.gr)))));clear hfa hsa hat hU hwb hsb y0 y1 y2 y3;go_wp2_with fail;refine(zrE hk sb m.states.length b1 GA U _ w2 HN.out HA.out.2.1 HA.out.1 HA.out.2.2.1.tx).mono ?_;rintro e w3 ⟨gb,vb,G2,U2,b2,rfl,hfb,hs3,hat2⟩
 replace x0:=hfb.gr.cell x0 (by simpa using HWB.out)
 replace x1:=hfb.gr.cell x1 (by simpa using HWB.out)
 replace x2:=hfb.gr.cell x2 (by simpa using HWB.out)
 replace x3:=hfb.gr.cell x3 (by simpa using HWB.out)
 have hgood:b2=false->∀ i j,i<m.states.length->j<m.states.length->U2 i j=stM (srE m.kind hk) (arcM hk m.states) m.states.length i j:=fun hb i j hi hj=>by
  exact zQce
 have hkeep:zdE hk m.states->zmf hk (arcM hk m.states) m.states.length->b2=false:=fun h1 h2=>by
  exact zQbw
 obtain⟨rb,cb,hbl⟩:=hfb.blocks;have H3:=zHd (zAI hgood (zAI hkeep (zAI hat2.tx (zAI hfb.far (zAI (HA.out.2.1.lt) (zAI hs3 (zaa HA.out.2.2.2.2 hfb.gr)))))));have HBL:=zHd (zAI True.intro hbl);have HX:=zHd (zAI x0 (zAI x1 (zAI x2 x3)));clear hgood hkeep hat2 hfb hs3 hbl x0 x1 x2 x3 HA HSU HG1 HST1;go_wp2;have H3L:=zHd (show sb<w3.heap.size from H3.out.2.2.2.2.2.1.lt)
 go_loopw [6,7] (fun lv iv wr=>∃ (i:Nat) (T:Nat->El m.kind) (b3:Bool) (l:Value),i<=m.states.length/\lv=l/\iv=.int .i64 (i:Int)/\zkJ w3 sb i T l wr/\zaH m.kind sb b3 wr/\(∀ x,x<i->zam (T x))/\(b3=false->b2=false/\∀ x,x<i->T x=toE hk m.states x)/\(zhX hk m.states->b3=false)) (fun _ iv _=>m.states.length-(intOf iv).toNat)
 case atStart=>exact⟨0,fun _=>(srE m.kind hk).zero,b2,_,zqaw _,rfl,rfl,⟨World.grownBy.refl _ _,World.ownsRow_nil _ _ _ _⟩,H3.out.2.2.2.2.2.1,fun x hx=>absurd hx (by omega),fun h=>⟨h,fun x hx=>absurd hx (by omega)⟩,fun hp=>H3.out.2.1 hp.arcs hp.mat⟩
 case round =>
  obtain⟨i,T,b3,lv,hi',rfl,rfl,hol,hs,hft,hgd,hkp⟩:=hrel;have z0:=hol.gr.cell HX.out.1 (by simpa using HWB.out)
  by_cases hin:i<m.states.length
  ·have u1:decide (i<m.states.length)=true:=by simpa using hin
   have u1':decide ((i:Int)<(m.states.length:Int))=true:=by simpa using hin
   have u2:(i:Int)<(m.states.length:Int):=by omega
   have u3:(0:Int)<=(i:Int):=by omega
   have u4:IntKind.i64.wrap ((i:Int)+1)=(i:Int)+1:=by have:=HN.out;rw[zqah];omega
   have HNE:=zHd (show ¬ gb=sb/\¬ rb i=sb/\¬ w.heap.size=sb by
    obtain⟨_,_,h2,_⟩:=HBL.out.2 i hin;have:=H3.out.2.2.2.1;have:=H3.out.2.2.2.2.1;have:=HWB.out;omega)
   have HI:=zHd (zAI hin (zAI hol (zAI hft (zAI hgd hkp))));have HIS:=zHd hs;clear hi' hin hol hs hft hgd hkp;go_wp2_with fail;refine(zdt m.kind _).mono ?_;rintro e w4 ⟨rfl,hg4⟩;have HI4:=zHd (zAI (HI.out.2.1.kept (zaB hg4) H3L.out) (HIS.out.kept hg4));clear hg4 z0;go_wp2
   go_loopw [8,9] (fun uv jv wr=>∃ (j:Nat) (u:El m.kind) (b4:Bool),j<=m.states.length/\uv=.string (tx u)/\jv=.int .i64 (j:Int)/\zam u/\w4.grownBy wr (some sb)/\zaH m.kind sb b4 wr/\(b4=false->b3=false/\u=sm (srE m.kind hk) j (fun x=>(srE m.kind hk).mul (stM (srE m.kind hk) (arcM hk m.states) m.states.length i x) (finM hk m.states x)))/\(zhX hk m.states->b4=false)) (fun _ jv _=>m.states.length-(intOf jv).toNat)
   case atStart=>exact⟨0,(srE m.kind hk).zero,b3,zqaw _,by rw[zdj hk],rfl,zce hk,World.grownBy.refl _ _,HI4.out.2,fun h=>⟨h,rfl⟩,HI.out.2.2.2.2⟩
   case round =>
    obtain⟨j,u,b4,hj',rfl,rfl,fu,hgr,hs,hgd,hkp⟩:=hrel;have hgw:=zaa HI4.out.1.gr hgr;have hne:=HNE.out;obtain⟨_,q1,q2,q3,_,_,q4⟩:=HBL.out.2 i HI.out.1
    by_cases hjn:j<m.states.length
    ·have v1:decide (j<m.states.length)=true:=by simpa using hjn
     have v1':decide ((j:Int)<(m.states.length:Int))=true:=(by simpa using hjn);have v2:(j:Int)<(m.states.length:Int):=(by omega);have v3:(0:Int)<=(j:Int):=(by omega);have v4:IntKind.i64.wrap ((j:Int)+1)=(j:Int)+1:=(by have:=HN.out;rw[zqah];omega);have d0:wr.drew.cell? ⟨gb,i,none⟩=some (.slice (some ⟨rb i,0,none⟩) m.states.length (cb i)):=hgw.cell q1 (by simp;omega);have d1:wr.drew.cell? ⟨rb i,j,none⟩=some (.string (tx (U2 i j))):=(by rw[<- (H3.out.2.2.1 i j HI.out.1 hjn).1];exact hgw.cell (q4 j hjn).1 (by simp;omega));have e0:wr.drew.cell? ⟨w.heap.size,0,none⟩=some (.int .i64 m.kind):=hgw.cell HX.out.1 (by simp;omega);have e1:wr.drew.cell? ⟨w.heap.size,1,none⟩=some (.int .i64 m.start):=hgw.cell HX.out.2.1 (by simp;omega);have e2:wr.drew.cell? ⟨w.heap.size,2,none⟩=some (.string m.lead):=hgw.cell HX.out.2.2.1 (by simp;omega);have e3:wr.drew.cell? ⟨w.heap.size,3,none⟩=some (.slice A m.states.length cs):=hgw.cell HX.out.2.2.2 (by simp;omega);have hbe:Below w.heap.size w wr.drew:=below_grown (zaa (zaa H3.out.2.2.2.2.2.2 hgw) (zaf wr (some sb))) (zqab _) (by have:=HLT.out;have:=HSB.out;simp;omega);have HJ:=zHd (zAI hjn (zAI hgr (zAI hs (zAI fu (zAI (zAI hgd hkp) (HV.out.below hbe))))));have hS0:(fun W':World=>W'.cell? ⟨gb,i,none⟩=some (.slice (some ⟨rb i,0,none⟩) m.states.length (cb i))/\W'.cell? ⟨rb i,j,none⟩=some (.string (tx (U2 i j)))/\W'.cell? ⟨w.heap.size,0,none⟩=some (.int .i64 m.kind)/\W'.cell? ⟨w.heap.size,1,none⟩=some (.int .i64 m.start)/\W'.cell? ⟨w.heap.size,2,none⟩=some (.string m.lead)/\W'.cell? ⟨w.heap.size,3,none⟩=some (.slice A m.states.length cs)) wr.drew:=⟨d0,d1,e0,e1,e2,e3⟩;clear hj' hjn hgr hs fu hgd hkp hbe hgw hne q1 q2 q3 q4;go_upto_region 15 with(fail);refine wp_region_held_drew (S:=fun W':World=>W'.cell? ⟨gb,i,none⟩=some (.slice (some ⟨rb i,0,none⟩) m.states.length (cb i))/\W'.cell? ⟨rb i,j,none⟩=some (.string (tx (U2 i j)))/\W'.cell? ⟨w.heap.size,0,none⟩=some (.int .i64 m.kind)/\W'.cell? ⟨w.heap.size,1,none⟩=some (.int .i64 m.start)/\W'.cell? ⟨w.heap.size,2,none⟩=some (.string m.lead)/\W'.cell? ⟨w.heap.size,3,none⟩=some (.slice A m.states.length cs)) (by kernel_rfl) (hS0) (fun zH=>?_);refine zTk 0 (.pointer (some ⟨sb,0,none⟩)) rfl zH ?_;(try simp only[zS,Act.put]);refine zTk 1 (.string (tx u)) rfl zH ?_;(try simp only[zS,Act.put]);refine zTk 2 (.pointer (some ⟨sb,0,none⟩)) rfl zH ?_;(try simp only[zS,Act.put]);refine zTk 3 (.slice (some ⟨gb,0,none⟩) m.states.length m.states.length) rfl zH ?_;(try simp only[zS,Act.put]);refine zTk 4 (.int .i64 (i:Int)) rfl zH ?_;(try simp only[zS,Act.put]);refine zTk 5 (.pointer (some ⟨gb,i,none⟩)) rfl zH ?_;(try simp only[zS,Act.put]);refine zTk 6 (.slice (some ⟨rb i,0,none⟩) m.states.length (cb i)) rfl zH ?_;(try simp only[zS,Act.put]);refine zTk 7 (.int .i64 (j:Int)) rfl zH ?_;(try simp only[zS,Act.put]);refine zTk 8 (.pointer (some ⟨rb i,j,none⟩)) rfl zH ?_;(try simp only[zS,Act.put]);refine zTk 9 (.string (tx (U2 i j))) rfl zH ?_;(try simp only[zS,Act.put]);refine zTk 10 (.agg #[.int .i64 m.kind,.int .i64 m.start,.string m.lead,.slice A m.states.length cs]) rfl zH ?_;(try simp only[zS,Act.put]);refine zTk 11 (.int .i64 (j:Int)) rfl zH ?_;(try simp only[zS,Act.put]);refine zqcc (rs:=[12]) (by kernel_rfl) (by simp) ?_;refine AllReadyH.cons rfl (fun K hK=>?_) AllReadyH.nil;go_simp;refine(zCm hk HJ.out.2.2.2.2.2 HJ.out.1 (HOK.out.fins j HJ.out.1)).mono ?_;rintro e w5 ⟨rfl,hg5⟩;have S5:(fun W':World=>W'.cell? ⟨gb,i,none⟩=some (.slice (some ⟨rb i,0,none⟩) m.states.length (cb i))/\W'.cell? ⟨rb i,j,none⟩=some (.string (tx (U2 i j)))/\W'.cell? ⟨w.heap.size,0,none⟩=some (.int .i64 m.kind)/\W'.cell? ⟨w.heap.size,1,none⟩=some (.int .i64 m.start)/\W'.cell? ⟨w.heap.size,2,none⟩=some (.string m.lead)/\W'.cell? ⟨w.heap.size,3,none⟩=some (.slice A m.states.length cs)) w5:=⟨hg5.cell hS0.1 (by simp),hg5.cell hS0.2.1 (by simp),hg5.cell hS0.2.2.1 (by simp),hg5.cell hS0.2.2.2.1 (by simp),hg5.cell hS0.2.2.2.2.1 (by simp),hg5.cell hS0.2.2.2.2.2 (by simp)⟩;have H5:=zHd (zaa (zaf wr none) hg5);clear hg5;refine hK.out _ _ (S5) (fun zH=>?_);clear hK K;(try simp only[zS,Act.put]);refine zqcc (rs:=[13]) (by kernel_rfl) (by simp) ?_;refine AllReadyH.cons rfl (fun K hK=>?_) AllReadyH.nil;go_simp;refine(zhy hk sb b4 (U2 i j) (finM hk m.states j) (H3.out.2.2.1 i j HI.out.1 HJ.out.1).2 (zwX hk (HOK.out.fins j HJ.out.1)) w5 (HJ.out.2.2.1.kept H5.out)).mono ?_;rintro e w6 ⟨S6,b5,rfl,hg6,hs6,hiff6,hval6,t6,ft6,rfl⟩;have S6:(fun W':World=>W'.cell? ⟨gb,i,none⟩=some (.slice (some ⟨rb i,0,none⟩) m.states.length (cb i))/\W'.cell? ⟨rb i,j,none⟩=some (.string (tx (U2 i j)))/\W'.cell? ⟨w.heap.size,0,none⟩=some (.int .i64 m.kind)/\W'.cell? ⟨w.heap.size,1,none⟩=some (.int .i64 m.start)/\W'.cell? ⟨w.heap.size,2,none⟩=some (.string m.lead)/\W'.cell? ⟨w.heap.size,3,none⟩=some (.slice A m.states.length cs)) w6:=⟨hg6.cell S5.1 (by have:=HNE.out;simp;omega),hg6.cell S5.2.1 (by have:=HNE.out;simp;omega),hg6.cell S5.2.2.1 (by have:=HNE.out;simp;omega),hg6.cell S5.2.2.2.1 (by have:=HNE.out;simp;omega),hg6.cell S5.2.2.2.2.1 (by have:=HNE.out;simp;omega),hg6.cell S5.2.2.2.2.2 (by have:=HNE.out;simp;omega)⟩;have H6:=zHd (zAI hg6 (zAI hs6 (zAI hiff6 (zAI hval6 ft6))));clear hg6 hs6 hiff6 hval6 ft6;refine hK.out _ _ (S6) (fun zH=>?_);clear hK K;(try simp only[zS,Act.put]);refine zqcc (rs:=[14]) (by kernel_rfl) (by simp) ?_;refine AllReadyH.cons rfl (fun K hK=>?_) AllReadyH.nil;go_simp;refine(zkm hk sb b5 u t6 HJ.out.2.2.2.1 H6.out.2.2.2.2 w6 H6.out.2.1).mono ?_;rintro e w7 ⟨S7,b6,rfl,hg7,hs7,hiff7,hval7,t7,ft7,rfl⟩;have S7:(fun W':World=>W'.cell? ⟨gb,i,none⟩=some (.slice (some ⟨rb i,0,none⟩) m.states.length (cb i))/\W'.cell? ⟨rb i,j,none⟩=some (.string (tx (U2 i j)))/\W'.cell? ⟨w.heap.size,0,none⟩=some (.int .i64 m.kind)/\W'.cell? ⟨w.heap.size,1,none⟩=some (.int .i64 m.start)/\W'.cell? ⟨w.heap.size,2,none⟩=some (.string m.lead)/\W'.cell? ⟨w.heap.size,3,none⟩=some (.slice A m.states.length cs)) w7:=⟨hg7.cell S6.1 (by have:=HNE.out;simp;omega),hg7.cell S6.2.1 (by have:=HNE.out;simp;omega),hg7.cell S6.2.2.1 (by have:=HNE.out;simp;omega),hg7.cell S6.2.2.2.1 (by have:=HNE.out;simp;omega),hg7.cell S6.2.2.2.2.1 (by have:=HNE.out;simp;omega),hg7.cell S6.2.2.2.2.2 (by have:=HNE.out;simp;omega)⟩;have H7:=zHd (zAI hg7 (zAI hs7 (zAI hiff7 (zAI hval7 ft7))));clear hg7 hs7 hiff7 hval7 ft7;refine hK.out _ _ (S7) (fun zH=>?_);clear hK K;(try simp only[zS,Act.put]);refine zTk 15 (.string (tx t7)) rfl zH ?_;(try simp only[zS,Act.put]);refine wpAnyH_done (by kernel_rfl) ?_ _;go_wp2;refine⟨⟨j+1,t7,b6,HJ.out.1,rfl,by simp,H7.out.2.2.2.2,zaa HJ.out.2.1 (zaa (zaB H5.out) (zaa H6.out.1 H7.out.1)),H7.out.2.1,fun hb=>?_,fun hp=>?_⟩,by have:=HJ.out.1;simp[intOf];omega⟩
     ·have p7:=H7.out.2.2.1.1 hb
      have p6:=H6.out.2.2.1.1 p7.1;have pj:=HJ.out.2.2.2.2.1.1 p6.1;refine⟨pj.1,?_⟩;rw[zds H7.out.2.2.2.2 p7.2 (H7.out.2.2.2.1 hb),zds H6.out.2.2.2.2 p6.2 (H6.out.2.2.2.1 p7.1),H3.out.1 (HI.out.2.2.2.1 pj.1).1 i j HI.out.1 HJ.out.1,pj.2];rfl
     have p4:=HJ.out.2.2.2.2.1.2 hp;have pj:=HJ.out.2.2.2.2.1.1 p4;have hu:=H3.out.1 (HI.out.2.2.2.1 pj.1).1 i j HI.out.1 HJ.out.1;have p5:b5=false:=H6.out.2.2.1.2 ⟨p4,by rw[hu];exact hp.term i j HI.out.1 HJ.out.1⟩;refine H7.out.2.2.1.2 ⟨p5,?_⟩;rw[zds H6.out.2.2.2.2 (H6.out.2.2.1.1 p5).2 (H6.out.2.2.2.1 p5),hu,pj.2];exact hp.part i j HI.out.1 HJ.out.1
    have hxj:j=m.states.length:=(by omega);have v1:decide (j<m.states.length)=false:=(by simpa using hjn);have v1':decide ((j:Int)<(m.states.length:Int))=false:=(by simpa using hjn);have v2:¬ (j:Int)<(m.states.length:Int):=(by omega);have HJ:=zHd (zAI hgr (zAI hs (zAI fu (zAI hgd hkp))));have zO:=(HI4.out.1.kept hgr H3L.out).own;have HW3:=zHd (show w3.heap.size<=wr.heap.size from hgw.size);clear hj' hjn hgr hs fu hgd hkp q1 q2 q3 q4 hgw hne;go_wp2_with (at_builtin;refine wpList_append_own _ rfl _ _ 27 rfl w3.heap.size 9 j0 (.string ⟨#[]⟩) 1 16 underlying27 ji jz0 jz1 jz2 rfl (by decide) _ _ _ rfl (zO.alloc _) ⟨wr.heap.size,0,none⟩ 1 1 [.string (tx u)] rfl rfl ?c1 ?c2 ?c3 ?c4 ?c5 ?_)
    case c2=>first|rfl|simp[Value.oneCell']
    case c3=>have:=HN.out;have:=HI.out.1;unfold maxLen;omega
    case c4=>have:=HN.out;have:=HI.out.1;omega
    case c5=>have:=HW3.out;simp;omega
    intro v' w8 zo zG _;have hmore:=(HI4.out.1.kept HJ.out.1 H3L.out).more zG u zo
    have hs8:zaH m.kind sb b4 w8:=by
     have h1:(wr.alloc (.cells #[.string (tx u)] 9)).heap[sb]?=_:=(HJ.out.2.1.kept (zGA wr _ none));exact(zG.block sb (zqad.1 h1).1 (fun e=>by have:=(zO.lt sb e.symm).1;have:=H3L.out;omega)).trans h1
    have HM:=zHd (zAI hmore hs8);clear zO zo zG hmore hs8;go_wp2;refine⟨⟨i+1,zjL T i u,b4,v',HI.out.1,rfl,by simp,HM.out.1,HM.out.2,fun x hx=>?_,fun hb=>?_,HJ.out.2.2.2.2⟩,by have:=HI.out.1;simp[intOf];omega⟩
    ·unfold zjL
     split;exact HJ.out.2.2.1;exact HI.out.2.2.1 x (by omega)
    have pj:=HJ.out.2.2.2.1 hb;have pi:=HI.out.2.2.2.1 pj.1;refine⟨pi.1,fun x hx=>?_⟩;unfold zjL
    by_cases e:x=i
    rw[if_pos e,pj.2,e,hxj];rfl;rw[if_neg e];exact pi.2 x (by omega)
  have hxi:i=m.states.length:=by omega
  have u1:decide (i<m.states.length)=false:=by simpa using hin
  have u1':decide ((i:Int)<(m.states.length:Int))=false:=by simpa using hin
  have u2:¬ (i:Int)<(m.states.length:Int):=by omega
  have es:=zqbw wr sb 1 _ _ (0,0) hs;have HJ:=zHd (zAI hol (zAI hs (zAI hft (zAI hgd hkp))));have HG:=zHd (zkG (zaa H3.out.2.2.2.2.2.2 hol.gr) (Nat.le_of_lt (by have:=HLT.out;have:=HSB.out;omega)));clear hi' hin hol hs hft hgd hkp z0;cases b3
  ·have es:wr.cell? ⟨sb,1,none⟩=some (.bool false):=es
   go_wp2;go_ret2;refine⟨_,0,rfl,HG.out,.inl ⟨rfl,?_,fun x hx=>?_⟩⟩
   ·have h:=HJ.out.1.row (by have:=HN.out;omega)
    rw[hxi] at h;obtain⟨A',c',e,h1,h2,h3⟩:=h;exact⟨A',c',e,h1,h2,fun x hx=>by obtain⟨ad,e1,e2,e3⟩:=h3 x hx;exact⟨ad,e1,e2,e3.trans (by show some (Value.string (tx (T x)))=some (Value.string (tx (toE hk m.states x)));rw[(HJ.out.2.2.2.1 (by first|rfl|trivial)).2 x (by omega)])⟩⟩
   exact zQbt
  exact zQbd
structure zko {k:Int}(hk:zad k)(l:List zah)(ld:ByteArray)(s0:Nat):Prop where
 arcs:zdE hk l
 mat:zmf hk (arcM hk l) l.length
 term:∀ x,x<l.length->zam ((srE k hk).mul (vE hk ld) (stM (srE k hk) (arcM hk l) l.length s0 x))
noncomputable def rfrE {k:Int}(hk:zad k)(l:List zah)(ld:ByteArray)(s0:Nat)(x:Nat):El k:=(srE k hk).mul (vE hk ld) (stM (srE k hk) (arcM hk l) l.length s0 x)
def zyH {w:World}{v:Value}{m:zaj}(hk:zad m.kind)(hv:zbJ w v m)(hf:zdD m)(zV:validB m=true)(hn:m.states.length<=9){s0:Nat}(hs0:m.start=(s0:Int))(h0:s0<m.states.length):Calls prog 12 #[v] w (zuo (zko hk m.states m.lead s0) m.states.length (rfrE hk m.states m.lead s0) w):=by
 have HS0:=zHd (zAI hs0 h0);clear hs0 h0;obtain⟨j0,ji,jz0,jz1,jz2⟩:=info_parts zfa;have HV:=zHd hv;obtain⟨u,rfl,hst⟩:=hv;obtain⟨A,cs,us,rfl,hsr⟩:=zeO hst;have hal:=zGA w (.cells #[.int .i64 m.kind,.int .i64 m.start,.string m.lead,.slice A m.states.length cs] 24) none;have hbs:(w.alloc (.cells #[.int .i64 m.kind,.int .i64 m.start,.string m.lead,.slice A m.states.length cs] 24)).heap.size=w.heap.size+1:=by simp
 obtain⟨x0,x1,x2,x3⟩:=zdv.new w m.kind m.start m.lead A m.states.length cs;have hrv:=zfr (HV.out.grown hal) hf;rw[zV] at hrv;have hok:=(zcH zV).sts (by omega);have HRV:=zHd hrv;have HSR:=zHd hsr;have HN:=zHd hn;have HOK:=zHd hok;have HMO:=zHd (zcH zV);have HBS:=zHd hbs;have t1:decide ((60:Int)<(m.states.length:Int))=false:=by simp;omega
 have t2:¬ (60:Int)<(m.states.length:Int):=by omega
 clear hrv hsr hst hn hok zV hf hbs;go_enter func12,ntmps12;go_wp2_with fail;generalize w.alloc (.cells #[.int .i64 m.kind,.int .i64 m.start,.string m.lead,.slice A m.states.length cs] 24)=W0 at *;refine HRV.out.mono ?_;rintro e w1 ⟨rfl,hg1⟩
 replace x0:=hg1.cell x0 (by simp)
 replace x1:=hg1.cell x1 (by simp)
 replace x2:=hg1.cell x2 (by simp)
 replace x3:=hg1.cell x3 (by simp)
 have hg01:=zaa hal hg1;have HLT:=zHd (show w.heap.size<w1.heap.size by have:=HBS.out;have:=hg1.size;omega);have hal1:=zGA w1 (.cells #[.int .i64 m.kind,.bool false] 67) none;have y0:=hal1.cell x0 (by simp);have y1:=hal1.cell x1 (by simp);have y2:=hal1.cell x2 (by simp);have y3:=hal1.cell x3 (by simp);have HSU:=zHd (show zaH m.kind w1.heap.size false (w1.alloc (.cells #[.int .i64 m.kind,.bool false] 67)) from zaG w1 _);have HG1:=zHd (zAI hg01 hal1);have HST1:=zHd (HSR.out.grown hg01);clear hg1 hg01 hal hal1 HRV;go_wp2_with fail;generalize hsb:w1.heap.size=sb at *;have HSB:=zHd hsb;generalize w1.alloc (.cells #[.int .i64 m.kind,.bool false] 67)=W1 at *;refine(zoW hk sb m.states.length false m.states us A cs m.kind m.start m.lead w1 W1 (by have:=HN.out;omega) rfl HOK.out HST1.out HG1.out.2 (by rw[hsb];exact zqab _) HSU.out).mono ?_;rintro e w2 ⟨ga,va,GA,U,b1,rfl,hfa,hsa,hat,hU⟩;have hwb:¬ w.heap.size=sb:=by have:=HLT.out;have:=HSB.out;omega
 have HWB:=zHd hwb
 replace x0:=hfa.gr.cell y0 (by simpa using hwb)
 replace x1:=hfa.gr.cell y1 (by simpa using hwb)
 replace x2:=hfa.gr.cell y2 (by simpa using hwb)
 replace x3:=hfa.gr.cell y3 (by simpa using hwb)
 have HA:=zHd (zAI (hfa.mat (by have:=HN.out;omega) HSU.out.lt) (zAI hsa (zAI hat (zAI hU (zaa (zaB (zaa HG1.out.1 HG1.out.2)) hfa.gr)))));clear hfa hsa hat hU hwb hsb y0 y1 y2 y3;go_wp2_with fail;refine(zrE hk sb m.states.length b1 GA U _ w2 HN.out HA.out.2.1 HA.out.1 HA.out.2.2.1.tx).mono ?_;rintro e w3 ⟨gb,vb,G2,U2,b2,rfl,hfb,hs3,hat2⟩
 replace x0:=hfb.gr.cell x0 (by simpa using HWB.out)
 replace x1:=hfb.gr.cell x1 (by simpa using HWB.out)
 replace x2:=hfb.gr.cell x2 (by simpa using HWB.out)
 replace x3:=hfb.gr.cell x3 (by simpa using HWB.out)
 have hgood:b2=false->∀ i j,i<m.states.length->j<m.states.length->U2 i j=stM (srE m.kind hk) (arcM hk m.states) m.states.length i j:=fun hb i j hi hj=>by
  exact zQce
 have hkeep:zdE hk m.states->zmf hk (arcM hk m.states) m.states.length->b2=false:=fun h1 h2=>by
  exact zQbw
 obtain⟨rb,cb,hbl⟩:=hfb.blocks;have H3:=zHd (zAI hgood (zAI hkeep (zAI hat2.tx (zAI hfb.far (zAI (HA.out.2.1.lt) (zAI hs3 (zaa HA.out.2.2.2.2 hfb.gr)))))));have HBL:=zHd (zAI True.intro hbl);have HX:=zHd (zAI x0 (zAI x1 (zAI x2 x3)));clear hgood hkeep hat2 hfb hs3 hbl x0 x1 x2 x3 HA HSU HG1 HST1;go_wp2;have H3L:=zHd (show sb<w3.heap.size from H3.out.2.2.2.2.2.1.lt)
 go_loopw [6,7] (fun lv iv wr=>∃ (i:Nat) (T:Nat->El m.kind) (b3:Bool) (l:Value),i<=m.states.length/\l=lv/\iv=.int .i64 (i:Int)/\zkJ w3 sb i T l wr/\zaH m.kind sb b3 wr/\(∀ x,x<i->zam (T x))/\(b3=false->b2=false/\∀ x,x<i->T x=rfrE hk m.states m.lead s0 x)/\(zko hk m.states m.lead s0->b3=false)) (fun _ iv _=>m.states.length-(intOf iv).toNat)
 case atStart=>exact⟨0,fun _=>(srE m.kind hk).zero,b2,_,zqaw _,rfl,rfl,⟨World.grownBy.refl _ _,World.ownsRow_nil _ _ _ _⟩,H3.out.2.2.2.2.2.1,fun x hx=>absurd hx (by omega),fun h=>⟨h,fun x hx=>absurd hx (by omega)⟩,fun hp=>H3.out.2.1 hp.arcs hp.mat⟩
 case round =>
  obtain⟨i,T,b3,lv,hi',rfl,rfl,hol,hs,hft,hgd,hkp⟩:=hrel
  by_cases hin:i<m.states.length
  ·have u1:decide (i<m.states.length)=true:=by simpa using hin
   have u1':decide ((i:Int)<(m.states.length:Int))=true:=by simpa using hin
   have u2:(i:Int)<(m.states.length:Int):=by omega
   have u3:(0:Int)<=(i:Int):=by omega
   have u4:IntKind.i64.wrap ((i:Int)+1)=(i:Int)+1:=by have:=HN.out;rw[zqah];omega
   obtain⟨_,q1,q2,q3,_,_,q4⟩:=HBL.out.2 s0 HS0.out.2
   have hne:¬ gb=sb/\¬ rb s0=sb/\¬ w.heap.size=sb:=by
    have:=H3.out.2.2.2.1;have:=H3.out.2.2.2.2.1;have:=HWB.out;omega
   have hgw:=hol.gr;have v2:(s0:Int)<(m.states.length:Int):=by have:=HS0.out.2;omega
   have v3:(0:Int)<=(s0:Int):=by omega
   have d0:wr.drew.cell? ⟨gb,s0,none⟩=some (.slice (some ⟨rb s0,0,none⟩) m.states.length (cb s0)):=hgw.cell q1 (by simp;omega);have d1:wr.drew.cell? ⟨rb s0,i,none⟩=some (.string (tx (U2 s0 i))):=by rw[<- (H3.out.2.2.1 s0 i HS0.out.2 hin).1];exact hgw.cell (q4 i hin).1 (by simp;omega)
   have e1:wr.drew.cell? ⟨w.heap.size,1,none⟩=some (.int .i64 (s0:Int)):=by rw[<- HS0.out.1];exact hgw.cell HX.out.2.1 (by simp;omega)
   have e2:wr.drew.cell? ⟨w.heap.size,2,none⟩=some (.string m.lead):=hgw.cell HX.out.2.2.1 (by simp;omega);have HNE:=zHd hne;have HI:=zHd (zAI hin (zAI hol (zAI hft (zAI hgd hkp))));have HIS:=zHd (show zaH m.kind sb b3 wr.drew from hs);have hS0:(fun W':World=>W'.cell? ⟨gb,s0,none⟩=some (.slice (some ⟨rb s0,0,none⟩) m.states.length (cb s0))/\W'.cell? ⟨rb s0,i,none⟩=some (.string (tx (U2 s0 i)))/\W'.cell? ⟨w.heap.size,1,none⟩=some (.int .i64 (s0:Int))/\W'.cell? ⟨w.heap.size,2,none⟩=some (.string m.lead)) wr.drew:=⟨d0,d1,e1,e2⟩;clear hi' hin hol hs hft hgd hkp hgw hne q1 q2 q3 q4;go_upto_region 11 with(fail);refine wp_region_held_drew (S:=fun W':World=>W'.cell? ⟨gb,s0,none⟩=some (.slice (some ⟨rb s0,0,none⟩) m.states.length (cb s0))/\W'.cell? ⟨rb s0,i,none⟩=some (.string (tx (U2 s0 i)))/\W'.cell? ⟨w.heap.size,1,none⟩=some (.int .i64 (s0:Int))/\W'.cell? ⟨w.heap.size,2,none⟩=some (.string m.lead)) (by kernel_rfl) (hS0) (fun zH=>?_);refine zTk 0 (lv) rfl zH ?_;(try simp only[zS,Act.put]);refine zTk 1 (.pointer (some ⟨sb,0,none⟩)) rfl zH ?_;(try simp only[zS,Act.put]);refine zTk 2 (.pointer (some ⟨w.heap.size,2,none⟩)) rfl zH ?_;(try simp only[zS,Act.put]);refine zTk 3 (.string m.lead) rfl zH ?_;(try simp only[zS,Act.put]);refine zTk 4 (.slice (some ⟨gb,0,none⟩) m.states.length m.states.length) rfl zH ?_;(try simp only[zS,Act.put]);refine zTk 5 (.pointer (some ⟨w.heap.size,1,none⟩)) rfl zH ?_;(try simp only[zS,Act.put]);refine zTk 6 (.int .i64 (s0:Int)) rfl zH ?_;(try simp only[zS,Act.put]);refine zTk 7 (.pointer (some ⟨gb,s0,none⟩)) rfl zH ?_;(try simp only[zS,Act.put]);refine zTk 8 (.slice (some ⟨rb s0,0,none⟩) m.states.length (cb s0)) rfl zH ?_;(try simp only[zS,Act.put]);refine zTk 9 (.int .i64 (i:Int)) rfl zH ?_;(try simp only[zS,Act.put]);refine zTk 10 (.pointer (some ⟨rb s0,i,none⟩)) rfl zH ?_;(try simp only[zS,Act.put]);refine zTk 11 (.string (tx (U2 s0 i))) rfl zH ?_;(try simp only[zS,Act.put]);refine zqcc (rs:=[12]) (by kernel_rfl) (by simp) ?_;refine AllReadyH.cons rfl (fun K hK=>?_) AllReadyH.nil;go_simp;have zC:=zhy hk sb b3 (vE hk m.lead) (U2 s0 i) (zgt hk HMO.out.lead).2 (H3.out.2.2.1 s0 i HS0.out.2 HI.out.1).2 wr.drew HIS.out;rw[<- (zgt hk HMO.out.lead).1] at zC;refine zC.mono ?_;rintro e w6 ⟨S6,b5,rfl,hg6,hs6,hiff6,hval6,t6,ft6,rfl⟩;have S6:(fun W':World=>W'.cell? ⟨gb,s0,none⟩=some (.slice (some ⟨rb s0,0,none⟩) m.states.length (cb s0))/\W'.cell? ⟨rb s0,i,none⟩=some (.string (tx (U2 s0 i)))/\W'.cell? ⟨w.heap.size,1,none⟩=some (.int .i64 (s0:Int))/\W'.cell? ⟨w.heap.size,2,none⟩=some (.string m.lead)) w6:=⟨hg6.cell hS0.1 (by have:=HNE.out;simp;omega),hg6.cell hS0.2.1 (by have:=HNE.out;simp;omega),hg6.cell hS0.2.2.1 (by have:=HNE.out;simp;omega),hg6.cell hS0.2.2.2 (by have:=HNE.out;simp;omega)⟩;have H6:=zHd (zAI (HI.out.2.1.kept (zaa (zaf wr (some sb)) hg6) H3L.out) (zAI hs6 (zAI hiff6 (zAI hval6 ft6))));clear hg6 hs6 hiff6 hval6 ft6 zC;refine hK.out _ _ (S6) (fun zH=>?_);clear hK K;(try simp only[zS,Act.put]);refine zqcc (rs:=[13]) (by kernel_rfl) (by simp) ?_;refine AllReadyH.cons rfl (fun K hK=>?_) AllReadyH.nil;go_simp;have hal:=zGA w6 (.cells #[.string (tx t6)] 9) none;have S7:(fun W':World=>W'.cell? ⟨gb,s0,none⟩=some (.slice (some ⟨rb s0,0,none⟩) m.states.length (cb s0))/\W'.cell? ⟨rb s0,i,none⟩=some (.string (tx (U2 s0 i)))/\W'.cell? ⟨w.heap.size,1,none⟩=some (.int .i64 (s0:Int))/\W'.cell? ⟨w.heap.size,2,none⟩=some (.string m.lead)) (w6.alloc (.cells #[.string (tx t6)] 9)):=⟨hal.cell S6.1 (by simp),hal.cell S6.2.1 (by simp),hal.cell S6.2.2.1 (by simp),hal.cell S6.2.2.2 (by simp)⟩;refine hK.out _ _ S7 (fun zH=>?_);clear hK K zH;(try simp only[zS,Act.put]);refine zqcc (rs:=[14]) (by kernel_rfl) (by simp) ?_;refine AllReadyH.cons rfl (fun K hK=>?_) AllReadyH.nil;refine step_append_lies _ (by rfl) _ _ _ (by rfl) w3.heap.size 9 j0 (.string ⟨#[]⟩) 1 16 underlying27 ji jz0 jz1 jz2 rfl (by omega) lv i ((List.range i).map (fun x=>.string (tx (T x)))) (by rfl) (H6.out.1.own.alloc _) ⟨w6.heap.size,0,none⟩ 1 1 [.string (tx t6)] (by rfl) (by rfl) (World.news_of_block (cs:=#[.string (tx t6)]) (t:=9) (fr:=(0,0)) (zqce w6 _)) (by simp[Value.oneCell']) (by omega) (by have:=HN.out;have:=HI.out.1;unfold maxLen;omega) (by have:=HN.out;have:=HI.out.1;omega) (by have:=H6.out.1.gr.size;simp;omega) (w6.heap.size+1) (by simp) ?_;intro g2 cap W8 hown8 zG hat8 hlt8;have hmore:=H6.out.1.more zG t6 hown8
   have hs8:zaH m.kind sb b5 W8:=by
    have h1:(w6.alloc (.cells #[.string (tx t6)] 9)).heap[sb]?=_:=(H6.out.2.1.kept (zGA w6 _ none));exact(zG.block sb (zqad.1 h1).1 (fun e=>by have:=(H6.out.1.own.lt sb e.symm).1;have:=H3L.out;omega)).trans h1
   have hgw8:=hmore.gr;have hne:=HNE.out;obtain⟨_,q1,q2,q3,_,_,q4⟩:=HBL.out.2 s0 HS0.out.2;have S8:(fun W':World=>W'.cell? ⟨gb,s0,none⟩=some (.slice (some ⟨rb s0,0,none⟩) m.states.length (cb s0))/\W'.cell? ⟨rb s0,i,none⟩=some (.string (tx (U2 s0 i)))/\W'.cell? ⟨w.heap.size,1,none⟩=some (.int .i64 (s0:Int))/\W'.cell? ⟨w.heap.size,2,none⟩=some (.string m.lead)) W8:=⟨hgw8.cell q1 (by simp;omega),by rw[<- (H3.out.2.2.1 s0 i HS0.out.2 HI.out.1).1];exact hgw8.cell (q4 i HI.out.1).1 (by simp;omega),by rw[<- HS0.out.1];exact hgw8.cell HX.out.2.1 (by simp;omega),hgw8.cell HX.out.2.2.1 (by simp;omega)⟩;have HM:=zHd (zAI hmore hs8);refine hK.out _ _ S8 (fun zH=>?_);clear hK K hown8 zG hat8 hlt8 hmore hs8 hgw8 hne q1 q2 q3 q4 S6 S7 hal;(try simp only[zS,Act.put]);refine zTk 15 (.slice (some ⟨g2,0,none⟩) (i+1) cap) rfl zH ?_;(try simp only[zS,Act.put]);refine wpAnyH_done (by kernel_rfl) ?_ _;go_wp2;refine⟨⟨i+1,zjL T i t6,b5,_,HI.out.1,rfl,by simp,HM.out.1,HM.out.2,fun x hx=>?_,fun hb=>?_,fun hp=>?_⟩,by have:=HI.out.1;simp[intOf];omega⟩
   ·unfold zjL
    split;exact H6.out.2.2.2.2;exact HI.out.2.2.1 x (by omega)
   ·have p6:=H6.out.2.2.1.1 hb
    have pi:=HI.out.2.2.2.1 p6.1;refine⟨pi.1,fun x hx=>?_⟩;unfold zjL
    by_cases e:x=i
    rw[if_pos e,zds H6.out.2.2.2.2 p6.2 (H6.out.2.2.2.1 hb),H3.out.1 pi.1 s0 i HS0.out.2 HI.out.1,e];rfl;rw[if_neg e];exact pi.2 x (by omega)
   have p3:=HI.out.2.2.2.2 hp;refine H6.out.2.2.1.2 ⟨p3,?_⟩;rw[H3.out.1 (HI.out.2.2.2.1 p3).1 s0 i HS0.out.2 HI.out.1];exact hp.term i HI.out.1
  have hxi:i=m.states.length:=by omega
  have u1:decide (i<m.states.length)=false:=by simpa using hin
  have u1':decide ((i:Int)<(m.states.length:Int))=false:=by simpa using hin
  have u2:¬ (i:Int)<(m.states.length:Int):=by omega
  have es:=zqbw wr sb 1 _ _ (0,0) hs;have HJ:=zHd (zAI hol (zAI hs (zAI hft (zAI hgd hkp))));have HG:=zHd (zkG (zaa H3.out.2.2.2.2.2.2 hol.gr) (Nat.le_of_lt (by have:=HLT.out;have:=HSB.out;omega)));clear hi' hin hol hs hft hgd hkp;cases b3
  ·have es:wr.cell? ⟨sb,1,none⟩=some (.bool false):=es
   go_wp2;go_ret2;refine⟨_,0,rfl,HG.out,.inl ⟨rfl,?_,fun x hx=>?_⟩⟩
   ·have h:=HJ.out.1.row (by have:=HN.out;omega)
    rw[hxi] at h;obtain⟨A',c',e,h1,h2,h3⟩:=h;exact⟨A',c',e,h1,h2,fun x hx=>by obtain⟨ad,e1,e2,e3⟩:=h3 x hx;exact⟨ad,e1,e2,e3.trans (by show some (Value.string (tx (T x)))=some (Value.string (tx (rfrE hk m.states m.lead s0 x)));rw[(HJ.out.2.2.2.1 (by first|rfl|trivial)).2 x (by omega)])⟩⟩
   exact zQbt
  exact zQbd
def zJg {k:Int}(P:Prop)(T:El k)(w:World)(e:Ending)(w':World):Prop :=
 w.grownBy w' none/\((e=.returned (.tuple #[.string (tx T),.int .i64 0])/\zam T)∨(e=.returned (.tuple #[.string ⟨#[]⟩,.int .i64 2])/\¬ P))
def zxA {w:World}{v:Value}{m:zaj}(hk:zad m.kind)(hv:zbJ w v m)(hf:zdD m)(zV:validB m=true)(hn:m.states.length<=9){s0:Nat}(hs0:m.start=(s0:Int))(h0:s0<m.states.length) :
  Calls prog 13 #[v] w (zJg (zhX hk m.states/\zam (totE hk m.states m.lead s0)) (totE hk m.states m.lead s0) w):=by
 have hto:=fun W (hg:w.grownBy W none)=>zup hk (hv.grown hg) hf zV hn;obtain⟨u,rfl,hst⟩:=hv;obtain⟨A,cs,us,rfl,hsr⟩:=zeO hst;have hal:=zGA w (.cells #[.int .i64 m.kind,.int .i64 m.start,.string m.lead,.slice A m.states.length cs] 24) none;have hbs:(w.alloc (.cells #[.int .i64 m.kind,.int .i64 m.start,.string m.lead,.slice A m.states.length cs] 24)).heap.size=w.heap.size+1:=by simp
 obtain⟨x0,x1,x2,x3⟩:=zdv.new w m.kind m.start m.lead A m.states.length cs;have HTO:=zHd (hto _ hal);have HS0:=zHd (zAI hs0 h0);have HN:=zHd hn;have HMO:=zHd (zcH zV);have HBS:=zHd (zAI hbs hal);clear hto hst hsr hal hbs hf zV hn hs0 h0;go_enter func13,ntmps13;go_wp2_with fail;generalize w.alloc (.cells #[.int .i64 m.kind,.int .i64 m.start,.string m.lead,.slice A m.states.length cs] 24)=W0 at *;refine HTO.out.mono ?_;rintro e w1 ⟨v,f,rfl,hg1,⟨rfl,⟨A',c',rfl,_,_,zW⟩,hft⟩|⟨rfl,rfl,hnp⟩⟩
 ·obtain⟨ad,rfl,hadb,zE⟩:=zW s0 HS0.out.2
  replace x0:=hg1.cell x0 (by simp)
  replace x1:=hg1.cell x1 (by simp)
  replace x2:=hg1.cell x2 (by simp)
  rw[HS0.out.1] at x1;have hlt:w.heap.size<w1.heap.size:=by have:=HBS.out.1;have:=hg1.size;omega
  have HG:=zHd (zAI (zaa HBS.out.2 hg1) (zAI hlt hadb));have HFT:=zHd hft;have v2:(s0:Int)<(m.states.length:Int):=by have:=HS0.out.2;omega
  have v3:(0:Int)<=(s0:Int):=by omega
  clear hg1 hlt hadb zW hft x3;go_upto_region 5 with(fail);have hal1:=zGA w1 (.cells #[.int .i64 m.kind,.bool false] 67) none;have HSU:=zHd (show zaH m.kind w1.heap.size false (w1.alloc (.cells #[.int .i64 m.kind,.bool false] 67)).drew from zaG w1 _);have d1:=hal1.cell x1 (by simp);have d2:=hal1.cell x2 (by simp);have d3:=hal1.cell zE (by simp);have HAL:=zHd hal1;clear x0 x1 x2 zE hal1;generalize hsb:w1.heap.size=sb at *;generalize w1.alloc (.cells #[.int .i64 m.kind,.bool false] 67)=W1 at *;have HNE:=zHd (show ¬ w.heap.size=sb/\¬ ad.block=sb by have:=HG.out.2;omega);have hS0:(fun W':World=>W'.cell? ⟨w.heap.size,1,none⟩=some (.int .i64 (s0:Int))/\W'.cell? ⟨w.heap.size,2,none⟩=some (.string m.lead)/\W'.cell? (ad.add s0)=some (.string (tx (toE hk m.states s0)))) W1.drew:=⟨d1,d2,d3⟩;clear d1 d2 d3;refine wp_region_held_drew (S:=fun W':World=>W'.cell? ⟨w.heap.size,1,none⟩=some (.int .i64 (s0:Int))/\W'.cell? ⟨w.heap.size,2,none⟩=some (.string m.lead)/\W'.cell? (ad.add s0)=some (.string (tx (toE hk m.states s0)))) (by kernel_rfl) (hS0) (fun zH=>?_);refine zTk 0 (.pointer (some ⟨sb,0,none⟩)) rfl zH ?_;(try simp only[zS,Act.put]);refine zTk 1 (.pointer (some ⟨w.heap.size,2,none⟩)) rfl zH ?_;(try simp only[zS,Act.put]);refine zTk 2 (.string m.lead) rfl zH ?_;(try simp only[zS,Act.put]);refine zTk 3 (.slice (some ad) m.states.length c') rfl zH ?_;(try simp only[zS,Act.put]);refine zTk 4 (.pointer (some ⟨w.heap.size,1,none⟩)) rfl zH ?_;(try simp only[zS,Act.put]);refine zTk 5 (.int .i64 (s0:Int)) rfl zH ?_;(try simp only[zS,Act.put]);refine zTk 6 (.pointer (some (ad.add s0))) rfl zH ?_;(try simp only[zS,Act.put]);refine zTk 7 (.string (tx (toE hk m.states s0))) rfl zH ?_;(try simp only[zS,Act.put]);refine zqcc (rs:=[8]) (by kernel_rfl) (by simp) ?_;refine AllReadyH.cons rfl (fun K hK=>?_) AllReadyH.nil;go_simp;have zC:=zhy hk sb false (vE hk m.lead) (toE hk m.states s0) (zgt hk HMO.out.lead).2 (HFT.out s0 HS0.out.2) W1.drew HSU.out;rw[<- (zgt hk HMO.out.lead).1] at zC;refine zC.mono ?_;rintro e w6 ⟨S6,b5,rfl,hg6,hs6,hiff6,hval6,t6,ft6,rfl⟩;have S6:(fun W':World=>W'.cell? ⟨w.heap.size,1,none⟩=some (.int .i64 (s0:Int))/\W'.cell? ⟨w.heap.size,2,none⟩=some (.string m.lead)/\W'.cell? (ad.add s0)=some (.string (tx (toE hk m.states s0)))) w6:=⟨hg6.cell hS0.1 (by have:=HNE.out;simp;omega),hg6.cell hS0.2.1 (by have:=HNE.out;simp;omega),hg6.cell hS0.2.2 (by have:=HNE.out;rw[zaw];simp;omega)⟩;have H6:=zHd (zAI hg6 (zAI hs6 (zAI hiff6 (zAI hval6 ft6))));have es:=zqbw w6 sb 1 _ _ (0,0) hs6;clear hg6 hs6 hiff6 hval6 ft6 zC;refine hK.out _ _ (S6) (fun zH=>?_);clear hK K;(try simp only[zS,Act.put]);refine zTk 9 (.string (tx t6)) rfl zH ?_;(try simp only[zS,Act.put]);refine wpAnyH_done (by kernel_rfl) ?_ _;have HGB:=zHd (zkG (zaa (zbh (some sb) (zaa HG.out.1 HAL.out)) (zaa (zaf W1 (some sb)) H6.out.1)) (Nat.le_of_lt HG.out.2.1));cases b5
  ·have es:w6.cell? ⟨sb,1,none⟩=some (.bool false):=es
   go_wp2;go_ret2;have q:=H6.out.2.2.1.1 (by first|rfl|trivial);have e:=zds H6.out.2.2.2.2 q.2 (H6.out.2.2.2.1 (by first|rfl|trivial));exact⟨HGB.out,.inl ⟨by rw[e];rfl,q.2⟩⟩
  have es:w6.cell? ⟨sb,1,none⟩=some (.bool true):=es;go_wp2;go_ret2;exact⟨HGB.out,.inr ⟨rfl,fun hp=>by have:=H6.out.2.2.1.2 ⟨by first|rfl|trivial,hp.2⟩;cases this⟩⟩
 have HG:=zHd (zaa HBS.out.2 hg1);have HNP:=zHd hnp;clear hg1 hnp;go_wp2;go_ret2;exact⟨HG.out,.inr ⟨rfl,fun hp=>HNP.out hp.1⟩⟩
def zzX {k:Int}(hk:zad k){l:List zah}(hl:zgC k l)(hok:zda k l):zhX hk l where
 arcs:=zmb hk hl hok
 mat:=zoV (zft hk hl hok).little hl.n5
 term i x hi hx:=((zft hk hl hok).term hi hx).fits (by omega)
 part i j hi hj:=((zft hk hl hok).part hi (J:=j+1) (by omega)).fits (by omega)
def zGd {k:Int}(hk:zad k){l:List zah}{ld:ByteArray}{s0:Nat}(hl:zgC k l)(hok:zda k l)(hld:∃ v,Val k ld v)(hs:zbY ld)(h0:s0<l.length):zko hk l ld s0 where
 arcs:=zmb hk hl hok
 mat:=zoV (zft hk hl hok).little hl.n5
 term x hx:=((zft hk hl hok).from (znK hk hld hs).wide h0 hx).fits (by omega)
def zmg {w:World}(L:Nat->Value):zaK w (.slice none 0 0) 0 L:=⟨none,0,rfl,zqab _,by unfold maxLen;omega,fun j hj=>absurd hj (by omega)⟩
def zjM (Q:Prop)(n:Nat)(X:Nat->ByteArray)(tv:Value)(te:Int)(w:World):Prop :=
 ∃ (N:Nat) (Y:Nat->ByteArray),N<=9/\zaK w tv N (fun i=>.string (Y i))/\((te=0/\N=n/\∀ i,i<n->Y i=X i)∨(te=2/\¬ Q))
def zjM.grown {Q:Prop}{n:Nat}{X:Nat->ByteArray}{tv:Value}{te:Int}{w w':World}(h:zjM Q n X tv te w)(hg:w.grownBy w' none):zjM Q n X tv te w':=by
 obtain⟨N,Y,h1,h2,h3⟩:=h;exact⟨N,Y,h1,h2.grown hg,h3⟩
def zGe (Q:Prop)(X T:ByteArray)(te:Int):Prop:=(te=0/\T=X)∨(te=2/\¬ Q)
def zCq {w:World}{v:Value}{m:zaj}(hv:zbJ w v m)(hf:zdD m):Calls prog 3 #[v] w (zab (.bool true) w):=by
 obtain⟨u,rfl,hst⟩:=hv;obtain⟨A,cs,us,rfl,hsr⟩:=zeO hst;have hal:=zGA w (.cells #[.int .i64 m.kind,.int .i64 m.start,.string m.lead,.slice A m.states.length cs] 24) none;have HST:=zHd (fun(W:World) (hg:w.grownBy W none)=>(show zbJ W (.agg #[.int .i64 m.kind,.int .i64 m.start,.string m.lead,.slice A m.states.length cs]) m from⟨_,rfl,hst.below (zbM hg)⟩));have HSL:=zHd (fun(W:World) (hg:w.grownBy W none)=>(hst.below (zbM hg):zfL W (.slice A m.states.length cs) m.states));have hbx:=zdv.new w m.kind m.start m.lead A m.states.length cs;have HB:=zHd hbx;obtain⟨x0,x1,x2,x3⟩:=hbx;have HW:=zHd hal;have HF:=zHd hf;have ha1:zap m.states<=m.states.length*140737488355328:=zxx (fun s hs=>hf.arcs s hs);have HAB:=zHd ha1;clear hal hsr hst hf ha1;go_enter func3,ntmps3
 by_cases h9:m.states.length<=9
 rotate_left 1
 ·have t1:decide ((9:Int)<(m.states.length:Int))=true:=by simp;omega
  have t1':(9:Int)<(m.states.length:Int):=by omega
  by_cases h60:m.states.length<=60
  ·have t3:decide ((m.states.length:Int)<=60)=true:=by simp;omega
   have t3':(m.states.length:Int)<=60:=by omega
   go_wp2_with fail;refine(zdx _).mono ?_;rintro e w99 ⟨rfl,hg99⟩;have HG99:=zHd (zaa HW.out hg99);exact zQbc
  have t3:decide ((m.states.length:Int)<=60)=false:=by simp;omega
  have t3':¬ (m.states.length:Int)<=60:=by omega
  by_cases h100:m.states.length<=100
  rotate_left 1
  ·have t5:decide ((100:Int)<(m.states.length:Int))=true:=by simp;omega
   have t5':(100:Int)<(m.states.length:Int):=by omega
   go_wp2_with fail;refine(zdx _).mono ?_;rintro e w99 ⟨rfl,hg99⟩;have HG99:=zHd (zaa HW.out hg99);exact zQbc
  have t5:decide ((100:Int)<(m.states.length:Int))=false:=by simp;omega
  have t5':¬ (100:Int)<(m.states.length:Int):=by omega
  have t7:decide ((60:Int)<(m.states.length:Int))=true:=by simp;omega
  have t7':(60:Int)<(m.states.length:Int):=by omega
  have HNL:=zHd (zAI h60 h100);clear h9 h60 h100;go_wp2_with fail;generalize w.alloc (.cells #[.int .i64 m.kind,.int .i64 m.start,.string m.lead,.slice A m.states.length cs] 24)=W0 at *;refine(znO (HST.out _ HW.out) (by have:=HNL.out;unfold maxLen;omega) (by have:=HAB.out;have:=HNL.out;unfold maxLen;omega)).mono ?_;rintro e w1 ⟨rfl,hg1⟩;obtain⟨y0,y1,y2,y3⟩:=HB.out.grown hg1;have HB1:=zHd (HB.out.grown hg1);have HW1:=zHd (zaa HW.out hg1);clear hg1 x0 x1 x2 x3 HB HW
  by_cases hna:zap m.states<=1000
  rotate_left 1
  ·have z1:decide ((1000:Int)<(zap m.states:Int))=true:=by simp;omega
   have z2:(1000:Int)<(zap m.states:Int):=by omega
   go_wp2_with fail;refine(zdx _).mono ?_;rintro e w99 ⟨rfl,hg99⟩;have HG99:=zHd (zaa HW1.out hg99);exact zQbc
  have z1:decide ((1000:Int)<(zap m.states:Int))=false:=by simp;omega
  have z2:¬ (1000:Int)<(zap m.states:Int):=by omega
  have HNA:=zHd hna;clear hna;cases zV:validB m
  ·have hck:checkC m=1:=by unfold checkC;rw[if_neg (by rw[zV];decide)]
   have HCK:=zHd hck;have HVAL:=zHd zV;clear hck zV;go_wp2_with fail;refine(znG (HST.out _ HW1.out) HF.out).mono ?_;intro e w2 hq
   have hq2:w1.grownBy w2 none/\e=.returned (.tuple #[.slice none 0 0,.int .i64 1]):=by
    rcases hq with⟨_,h1,h2⟩|⟨hn,_⟩;rw[HCK.out] at h2;exact⟨h1,h2⟩;exact zQaO
   obtain⟨hg2,rfl⟩:=hq2;clear hq;obtain⟨x0,x1,x2,x3⟩:=HB1.out.grown hg2;have HB2:=zHd (HB1.out.grown hg2);have HW2:=zHd (zaa HW1.out hg2);have HG2:=zHd hg2;clear hg2 y0 y1 y2 y3;go_wp2_with fail;refine(zjI (HST.out _ HW2.out) HF.out).mono ?_;intro e w3 hq
   have hq2:w2.grownBy w3 none/\e=.returned (.tuple #[.slice none 0 0,.int .i64 1]):=by
    rcases hq with⟨_,h1,h2⟩|⟨hn,_⟩;rw[HCK.out] at h2;exact⟨h1,h2⟩;exact zQaO
   obtain⟨hg3,rfl⟩:=hq2;clear hq;obtain⟨y0,y1,y2,y3⟩:=HB2.out.grown hg3;have HB3:=zHd (HB2.out.grown hg3);have HW3:=zHd (zaa HW2.out hg3);have HG3:=zHd hg3;clear hg3 x0 x1 x2 x3;go_wp2_with fail;refine(ziA (HST.out _ HW3.out) HF.out).mono ?_;intro e w4 hq
   have hq2:w3.grownBy w4 none/\e=.returned (.tuple #[.string ⟨#[]⟩,.int .i64 1]):=by
    rcases hq with⟨_,h1,h2⟩|⟨hn,_⟩;rw[HCK.out] at h2;exact⟨h1,h2⟩;exact zQaO
   exact zQaf
  have hck:checkC m=2:=by unfold checkC;rw[if_pos zV,if_pos (by have:=HNL.out;omega)]
  have HCK:=zHd hck;have HVAL:=zHd zV;clear hck zV;go_wp2_with fail;refine(znG (HST.out _ HW1.out) HF.out).mono ?_;intro e w2 hq
  have hq2:w1.grownBy w2 none/\e=.returned (.tuple #[.slice none 0 0,.int .i64 2]):=by
   rcases hq with⟨_,h1,h2⟩|⟨hn,_⟩;rw[HCK.out] at h2;exact⟨h1,h2⟩;exact zQaO
  obtain⟨hg2,rfl⟩:=hq2;clear hq;obtain⟨x0,x1,x2,x3⟩:=HB1.out.grown hg2;have HB2:=zHd (HB1.out.grown hg2);have HW2:=zHd (zaa HW1.out hg2);have HG2:=zHd hg2;clear hg2 y0 y1 y2 y3;go_wp2_with fail;refine(zjI (HST.out _ HW2.out) HF.out).mono ?_;intro e w3 hq
  have hq2:w2.grownBy w3 none/\e=.returned (.tuple #[.slice none 0 0,.int .i64 2]):=by
   rcases hq with⟨_,h1,h2⟩|⟨hn,_⟩;rw[HCK.out] at h2;exact⟨h1,h2⟩;exact zQaO
  obtain⟨hg3,rfl⟩:=hq2;clear hq;obtain⟨y0,y1,y2,y3⟩:=HB2.out.grown hg3;have HB3:=zHd (HB2.out.grown hg3);have HW3:=zHd (zaa HW2.out hg3);have HG3:=zHd hg3;clear hg3 x0 x1 x2 x3;go_wp2_with fail;refine(ziA (HST.out _ HW3.out) HF.out).mono ?_;intro e w4 hq
  have hq2:w3.grownBy w4 none/\e=.returned (.tuple #[.string ⟨#[]⟩,.int .i64 2]):=by
   rcases hq with⟨_,h1,h2⟩|⟨hn,_⟩;rw[HCK.out] at h2;exact⟨h1,h2⟩;exact zQaO
  exact zQaf
 have t1:decide ((9:Int)<(m.states.length:Int))=false:=by simp;omega
 have t1':¬ (9:Int)<(m.states.length:Int):=by omega
 have t3:decide ((m.states.length:Int)<=60)=true:=by simp;omega
 have t3':(m.states.length:Int)<=60:=by omega
 have t5:decide ((100:Int)<(m.states.length:Int))=false:=by simp;omega
 have t5':¬ (100:Int)<(m.states.length:Int):=by omega
 have t7:decide ((60:Int)<(m.states.length:Int))=false:=by simp;omega
 have t7':¬ (60:Int)<(m.states.length:Int):=by omega
 have H9:=zHd h9;have HNL:=zHd (zAI True.intro (show m.states.length<=100 by omega));clear h9;go_wp2_with fail;generalize w.alloc (.cells #[.int .i64 m.kind,.int .i64 m.start,.string m.lead,.slice A m.states.length cs] 24)=W0 at *;refine(znO (HST.out _ HW.out) (by have:=HNL.out;unfold maxLen;omega) (by have:=HAB.out;have:=HNL.out;unfold maxLen;omega)).mono ?_;rintro e w1 ⟨rfl,hg1⟩;obtain⟨y0,y1,y2,y3⟩:=HB.out.grown hg1;have HB1:=zHd (HB.out.grown hg1);have HW1:=zHd (zaa HW.out hg1);clear hg1 x0 x1 x2 x3 HB HW
 by_cases hna:zap m.states<=1000
 rotate_left 1
 ·have z1:decide ((1000:Int)<(zap m.states:Int))=true:=by simp;omega
  have z2:(1000:Int)<(zap m.states:Int):=by omega
  go_wp2_with fail;refine(zdx _).mono ?_;rintro e w99 ⟨rfl,hg99⟩;have HG99:=zHd (zaa HW1.out hg99);exact zQbc
 have z1:decide ((1000:Int)<(zap m.states:Int))=false:=by simp;omega
 have z2:¬ (1000:Int)<(zap m.states:Int):=by omega
 have HNA:=zHd hna;clear hna;cases zV:validB m
 ·have hck:checkC m=1:=by unfold checkC;rw[if_neg (by rw[zV];decide)]
  have HCK:=zHd hck;have HVAL:=zHd zV;clear hck zV;go_wp2_with fail;refine(znG (HST.out _ HW1.out) HF.out).mono ?_;intro e w2 hq
  have hq2:w1.grownBy w2 none/\e=.returned (.tuple #[.slice none 0 0,.int .i64 1]):=by
   rcases hq with⟨_,h1,h2⟩|⟨hn,_⟩;rw[HCK.out] at h2;exact⟨h1,h2⟩;exact zQaO
  obtain⟨hg2,rfl⟩:=hq2;clear hq;obtain⟨x0,x1,x2,x3⟩:=HB1.out.grown hg2;have HB2:=zHd (HB1.out.grown hg2);have HW2:=zHd (zaa HW1.out hg2);have HG2:=zHd hg2;clear hg2 y0 y1 y2 y3;go_wp2_with fail;refine(zjI (HST.out _ HW2.out) HF.out).mono ?_;intro e w3 hq
  have hq2:w2.grownBy w3 none/\e=.returned (.tuple #[.slice none 0 0,.int .i64 1]):=by
   rcases hq with⟨_,h1,h2⟩|⟨hn,_⟩;rw[HCK.out] at h2;exact⟨h1,h2⟩;exact zQaO
  obtain⟨hg3,rfl⟩:=hq2;clear hq;obtain⟨y0,y1,y2,y3⟩:=HB2.out.grown hg3;have HB3:=zHd (HB2.out.grown hg3);have HW3:=zHd (zaa HW2.out hg3);have HG3:=zHd hg3;clear hg3 x0 x1 x2 x3;go_wp2_with fail;refine(ziA (HST.out _ HW3.out) HF.out).mono ?_;intro e w4 hq
  have hq2:w3.grownBy w4 none/\e=.returned (.tuple #[.string ⟨#[]⟩,.int .i64 1]):=by
   rcases hq with⟨_,h1,h2⟩|⟨hn,_⟩;rw[HCK.out] at h2;exact⟨h1,h2⟩;exact zQaO
  exact zQaf
 have hck:checkC m=0:=by unfold checkC;rw[if_pos zV,if_neg (by have:=H9.out;omega)]
 have HMO:=zHd (zcH zV);have hk:=HMO.out.kind;obtain⟨s0,hs0,hs1⟩:=HMO.out.start;have HS0:=zHd (zAI hs0 hs1);have HCK:=zHd hck;have HVAL:=zHd zV;clear hck zV hs0 hs1;go_wp2_with fail;refine(znG (HST.out _ HW1.out) HF.out).mono ?_;intro e w2 hq
 have hq2:w1.grownBy w2 none/\∃ tv te,e=.returned (.tuple #[tv,.int .i64 te])/\zjM (zhx hk m.states) m.states.length (fun i=>tx (toE hk m.states i)) tv te w2:=by
  rcases hq with⟨hn,_⟩|⟨_,hk',h1,⟨hp,tv,rfl,hr⟩|⟨hp,rfl⟩⟩;exact absurd HCK.out hn;exact⟨h1,tv,0,rfl,m.states.length,_,H9.out,hr,.inl ⟨rfl,rfl,fun i hi=>rfl⟩⟩;exact zQaS
 obtain⟨hg2,tv,te,rfl,hlt⟩:=hq2;have HLt2:=zHd hlt;clear hq hlt;obtain⟨x0,x1,x2,x3⟩:=HB1.out.grown hg2;have HB2:=zHd (HB1.out.grown hg2);have HW2:=zHd (zaa HW1.out hg2);have HG2:=zHd hg2;clear hg2 y0 y1 y2 y3;go_wp2_with fail;refine(zjI (HST.out _ HW2.out) HF.out).mono ?_;intro e w3 hq
 have hq2:w2.grownBy w3 none/\∃ tv te,e=.returned (.tuple #[tv,.int .i64 te])/\zjM (zhV hk m.states m.lead m.start.toNat) m.states.length (fun i=>tx (frE hk m.states m.lead m.start.toNat i)) tv te w3:=by
  rcases hq with⟨hn,_⟩|⟨_,hk',h1,⟨hp,tv,rfl,hr⟩|⟨hp,rfl⟩⟩;exact absurd HCK.out hn;exact⟨h1,tv,0,rfl,m.states.length,_,H9.out,hr,.inl ⟨rfl,rfl,fun i hi=>rfl⟩⟩;exact zQaS
 obtain⟨hg3,fv,fe,rfl,hlf⟩:=hq2;have HLf3:=zHd hlf;clear hq hlf;obtain⟨y0,y1,y2,y3⟩:=HB2.out.grown hg3;have HB3:=zHd (HB2.out.grown hg3);have HW3:=zHd (zaa HW2.out hg3);have HG3:=zHd hg3;clear hg3 x0 x1 x2 x3;go_wp2_with fail;refine(ziA (HST.out _ HW3.out) HF.out).mono ?_;intro e w4 hq
 have hq2:w3.grownBy w4 none/\∃ T te,e=.returned (.tuple #[.string T,.int .i64 te])/\zGe (zjf hk (trimM m).states (trimM m).lead (trimM m).start.toNat) (tx (totE hk m.states m.lead m.start.toNat)) T te:=by
  rcases hq with⟨hn,_⟩|⟨_,hk',h1,⟨hp,rfl⟩|⟨hp,rfl⟩⟩;exact absurd HCK.out hn;exact⟨h1,_,0,rfl,.inl ⟨rfl,by rw[zpO hk (zhW HVAL.out)]⟩⟩;exact⟨h1,_,2,rfl,.inr ⟨rfl,hp⟩⟩
 obtain⟨hg4,T1,ge,rfl,hT1⟩:=hq2;have HT1:=zHd hT1;clear hq hT1;obtain⟨x0,x1,x2,x3⟩:=HB3.out.grown hg4;have HB4:=zHd (HB3.out.grown hg4);have HW4:=zHd (zaa HW3.out hg4);have HG4:=zHd hg4;clear hg4 y0 y1 y2 y3;go_wp2_with fail;have hrv:=zfr (HST.out _ HW4.out) HF.out;rw[HVAL.out] at hrv;refine hrv.mono ?_;rintro e w5 ⟨rfl,hg5⟩;clear hrv;obtain⟨y0,y1,y2,y3⟩:=HB4.out.grown hg5;have HB5:=zHd (HB4.out.grown hg5);have HW5:=zHd (zaa HW4.out hg5);have HG5:=zHd hg5;clear hg5 x0 x1 x2 x3;go_upto_region 10 with(fail);go_wp2_with fail;have hal6:=zGA w5 (.cells #[.int .i64 m.kind,.int .i64 m.start,.string m.lead,.slice A m.states.length cs] 24) none;have hbn:=zas.new w5 m (.slice A m.states.length cs);have HAL6:=zHd hal6;have HBN:=zHd hbn;clear hal6 hbn;refine(zxz (HSL.out _ (zaa HW5.out HAL6.out)) HBN.out HF.out (by have:=H9.out;omega) HNA.out).mono ?_;rintro e w6 ⟨b,rfl,hb,hg6'⟩;have hg6:=zaa HAL6.out hg6';have HLIT:=zHd hb;clear hb hg6' HAL6 HBN;obtain⟨x0,x1,x2,x3⟩:=HB5.out.grown hg6;have HB6:=zHd (HB5.out.grown hg6);have HW6:=zHd (zaa HW5.out hg6);have HG6:=zHd hg6;clear hg6 y0 y1 y2 y3;go_wp2_with fail;refine(zup hk (HST.out _ HW6.out) HF.out HVAL.out H9.out).mono ?_;intro e w7 hq
 have hq2:w6.grownBy w7 none/\∃ tv te,e=.returned (.tuple #[tv,.int .i64 te])/\zjM (zhX hk m.states) m.states.length (fun i=>tx (toE hk m.states i)) tv te w7:=by
  obtain⟨tv,te,rfl,h1,⟨rfl,hr,_⟩|⟨rfl,rfl,hp⟩⟩:=hq;exact⟨h1,tv,0,rfl,m.states.length,_,H9.out,hr,.inl ⟨rfl,rfl,fun i hi=>rfl⟩⟩;exact zQaS
 obtain⟨hg7,av,ae,rfl,hla⟩:=hq2;have HLa7:=zHd hla;clear hq hla;obtain⟨y0,y1,y2,y3⟩:=HB6.out.grown hg7;have HB7:=zHd (HB6.out.grown hg7);have HW7:=zHd (zaa HW6.out hg7);have HG7:=zHd hg7;clear hg7 x0 x1 x2 x3;go_wp2_with fail;refine(zyH hk (HST.out _ HW7.out) HF.out HVAL.out H9.out HS0.out.1 HS0.out.2).mono ?_;intro e w8 hq
 have hq2:w7.grownBy w8 none/\∃ tv te,e=.returned (.tuple #[tv,.int .i64 te])/\zjM (zko hk m.states m.lead s0) m.states.length (fun i=>tx (rfrE hk m.states m.lead s0 i)) tv te w8:=by
  obtain⟨tv,te,rfl,h1,⟨rfl,hr,_⟩|⟨rfl,rfl,hp⟩⟩:=hq;exact⟨h1,tv,0,rfl,m.states.length,_,H9.out,hr,.inl ⟨rfl,rfl,fun i hi=>rfl⟩⟩;exact zQaS
 obtain⟨hg8,bv,be,rfl,hlb⟩:=hq2;have HLb8:=zHd hlb;clear hq hlb;obtain⟨x0,x1,x2,x3⟩:=HB7.out.grown hg8;have HB8:=zHd (HB7.out.grown hg8);have HW8:=zHd (zaa HW7.out hg8);have HG8:=zHd hg8;clear hg8 y0 y1 y2 y3;go_wp2_with fail;refine(zxA hk (HST.out _ HW8.out) HF.out HVAL.out H9.out HS0.out.1 HS0.out.2).mono ?_;intro e w9 hq
 have hq2:w8.grownBy w9 none/\∃ T te,e=.returned (.tuple #[.string T,.int .i64 te])/\zGe (zhX hk m.states/\zam (totE hk m.states m.lead s0)) (tx (totE hk m.states m.lead s0)) T te:=by
  obtain⟨h1,⟨rfl,_⟩|⟨rfl,hp⟩⟩:=hq;exact⟨h1,_,0,rfl,.inl ⟨rfl,rfl⟩⟩;exact⟨h1,_,2,rfl,.inr ⟨rfl,hp⟩⟩
 obtain⟨hg9,T2,je,rfl,hT2⟩:=hq2;have HT2:=zHd hT2;clear hq hT2;obtain⟨y0,y1,y2,y3⟩:=HB8.out.grown hg9;have HB9:=zHd (HB8.out.grown hg9);have HW9:=zHd (zaa HW8.out hg9);have HG9:=zHd hg9;clear hg9 x0 x1 x2 x3;have hlt9:=(((((((HLt2.out.grown HG3.out).grown HG4.out).grown HG5.out).grown HG6.out).grown HG7.out).grown HG8.out).grown HG9.out);have hlf9:=((((((HLf3.out.grown HG4.out).grown HG5.out).grown HG6.out).grown HG7.out).grown HG8.out).grown HG9.out);have hla9:=(HLa7.out.grown HG8.out).grown HG9.out;have hlb9:=HLb8.out.grown HG9.out;obtain⟨N1,Y1,n1,r1,k1⟩:=hlt9;obtain⟨N2,Y2,n2,r2,k2⟩:=hla9;obtain⟨N3,Y3,n3,r3,k3⟩:=hlf9;obtain⟨N4,Y4,n4,r4,k4⟩:=hlb9
 have hno:∀ Q:Prop,¬ Q->(ztg m->Q)->(!b)=true:=fun Q hq hl=>by
  cases b;rfl;exact absurd (hl (HLIT.out rfl)) hq
 have hok:=HMO.out.sts (by have:=H9.out;omega);have hs0n:m.start.toNat=s0:=by have:=HS0.out.1;omega
 have p1:te=2∨ae=2->(!b)=true:=by
  rintro (h|h)
  ·rcases k1 with⟨e,_⟩|⟨_,hq⟩
   ·exact zQbg
   exact hno _ hq (fun hl=>zxo hk hl.1 hok)
  rcases k2 with⟨e,_⟩|⟨_,hq⟩
  ·exact zQbg
  exact hno _ hq (fun hl=>zzX hk hl.1 hok)
 have p3:fe=2∨be=2->(!b)=true:=by
  rintro (h|h)
  ·rcases k3 with⟨e,_⟩|⟨_,hq⟩
   ·exact zQbg
   exact hno _ hq (fun hl=>zxr hk hl.1 hok HMO.out.lead hl.2)
  rcases k4 with⟨e,_⟩|⟨_,hq⟩
  ·exact zQbg
  exact hno _ hq (fun hl=>zGd hk hl.1 hok HMO.out.lead hl.2 HS0.out.2)
 have p5:ge=2∨je=2->(!b)=true:=by
  rintro (h|h)
  ·rcases HT1.out with⟨e,_⟩|⟨_,hq⟩
   ·exact zQbg
   exact hno _ hq (fun hl=>zul hk HVAL.out hl.1 hl.2)
  rcases HT2.out with⟨e,_⟩|⟨_,hq⟩
  ·exact zQbg
  exact hno _ hq (fun hl=>⟨zzX hk hl.1 hok,zzP hk hl.1 hok HMO.out.lead hl.2 HS0.out.2⟩)
 have q1:te≠2->ae≠2->te=ae/\zrp N1 N2 Y1 Y2:=fun h1 h2=>by
  rcases k1 with⟨e1,c1,d1⟩|⟨e1,_⟩
  ·rcases k2 with⟨e2,c2,d2⟩|⟨e2,_⟩
   ·exact⟨by rw[e1,e2],by rw[c1,c2],fun i hi=>by rw[d1 i (by omega),d2 i (by omega)]⟩
   exact absurd e2 h2
  exact absurd e1 h1
 have q3:fe≠2->be≠2->fe=be/\zrp N3 N4 Y3 Y4:=fun h1 h2=>by
  rcases k3 with⟨e1,c1,d1⟩|⟨e1,_⟩
  ·rcases k4 with⟨e2,c2,d2⟩|⟨e2,_⟩
   ·exact⟨by rw[e1,e2],by rw[c1,c2],fun i hi=>by rw[d1 i (by omega),d2 i (by omega),hs0n];show tx _=tx _;rw[zMb hk _ _ HS0.out.2];rfl⟩
   exact absurd e2 h2
  exact absurd e1 h1
 have q5:ge≠2->je≠2->ge=je/\T1=T2:=fun h1 h2=>by
  rcases HT1.out with⟨e1,c1⟩|⟨e1,_⟩
  ·rcases HT2.out with⟨e2,c2⟩|⟨e2,_⟩
   ·exact⟨by rw[e1,e2],by rw[c1,c2,hs0n]⟩
   exact absurd e2 h2
  exact absurd e1 h1
 have HR:=zHd (zAI r1 (zAI r2 (zAI r3 r4)));have HQ:=zHd (zAI (zAI p1 q1) (zAI (zAI p3 q3) (zAI p5 q5)));have HNN:=zHd (zAI n1 (zAI n2 (zAI n3 n4)));clear r1 r2 r3 r4 p1 q1 p3 q3 p5 q5 n1 n2 n3 n4 k1 k2 k3 k4 hno hok hs0n HLt2 HLf3 HLa7 HLb8 HT1 HT2 HLIT HB1 HB2 HB3 HB4 HB5 HB6 HB7 HB8 HG2 HG3 HG4 HG5 HG6 HG7 HG8 HG9;go_wp2_with fail;refine(ziv N1 N2 Y1 Y2 _ _ w9 (by have:=HNN.out.1;omega) (by have:=HNN.out.2.1;omega) HR.out.1 HR.out.2.1).mono ?_;rintro e w10 ⟨b1,rfl,hb1,hg10⟩;have HB10:=zHd hb1;have HG10:=zHd hg10;clear hb1 hg10;go_wp2_with fail;refine(znP te ae (!b) b1 w10 HQ.out.1.1 (fun h1 h2=>⟨(HQ.out.1.2 h1 h2).1,HB10.out.2 (HQ.out.1.2 h1 h2).2⟩)).mono ?_;rintro e w11 ⟨rfl,rfl⟩;go_wp2_with fail;refine(ziv N3 N4 Y3 Y4 _ _ _ (by have:=HNN.out.2.2.1;omega) (by have:=HNN.out.2.2.2;omega) (HR.out.2.2.1.grown HG10.out) (HR.out.2.2.2.grown HG10.out)).mono ?_;rintro e w12 ⟨b2,rfl,hb2,hg12⟩;have HB12:=zHd hb2;have HG12:=zHd hg12;clear hb2 hg12;go_wp2_with fail;refine(znP fe be (!b) b2 w12 HQ.out.2.1.1 (fun h1 h2=>⟨(HQ.out.2.1.2 h1 h2).1,HB12.out.2 (HQ.out.2.1.2 h1 h2).2⟩)).mono ?_;rintro e w13 ⟨rfl,rfl⟩;go_wp2_with fail;refine(znP ge je (!b) _ _ HQ.out.2.2.1 (fun h1 h2=>⟨(HQ.out.2.2.2 h1 h2).1,by rw[(HQ.out.2.2.2 h1 h2).2];exact beq_self_eq_true _⟩)).mono ?_;rintro e w14 ⟨rfl,rfl⟩;go_wp2_with fail;refine(zdx _).mono ?_;rintro e w99 ⟨rfl,hg99⟩;have HG99:=zHd (zaa (zaa (zaa HW9.out HG10.out) HG12.out) hg99);exact zQbc
end Go.Proofs.YtiblmbpfcmcccaaGreatDoor
namespace Go.Proofs.YtiblmbpfcmcccaaGreatDoor.cClosureSums
open Go.Proofs.Tryz
open Go.ChangeShapes Go.WideShapes Go.ChangeAt Go.RowKit Go.Lib
open Go.WideMaps Go.WideElems
open Go.ChangeMaps (open_string shut_string)
def zJh (H:Type)(enc:TypeId×Value->H)(W:World)(base:Nat)(args:Array Value)(ds gs:List (DataW H))(before:List MemPlace)
  (zV:∀ (j:Nat) t v,f3.params[j]?=some t->args[j]?=some v->Value.okWide prog W .any base t v)
  (hW:DataW.Whole enc prog f3.params.toList Rows.closureSumsSpec.vars false W args.toList ds gs before)
  (hsz:(DataW.weightsEach prog (f3.params.toList++(OpenSpec.ofChange Rows.closureSumsSpec).bare.plain.varTypes prog) (ds++gs)).all (· <= reachBytes)=true) :
  Calls prog 3 args W fun e W'=>∃ v,e=.returned v/\Rows.closureSumsSpec.post enc prog f3 false true false false W args v W':=by
 have hW':=hW;obtain⟨p,q,hA0,hV,rfl,hfz,hnd⟩:=hW;have hA:DataW.TrodAll enc prog W 0 (fun _=>true) true f3.params.toList args.toList ds p:=hA0;rw[Tryz.params3] at hA zV hsz;obtain⟨v0,vs0,d0,ds0,p0,q0,hargs0,rfl,rfl,h0,r0⟩:=trodAll_cons hA;obtain⟨rfl,rfl,rfl⟩:=trodAll_nil r0;obtain rfl:args=#[v0]:=by cases args;simp_all
 obtain⟨rfl,rfl⟩:=trodVars_none hV;clear hA0;simp only[List.append_nil,List.nil_append] at hW';have hlt0:∀ x∈p0,x.block<W.heap.size:=fun x hx=>by simpa using hW'.lt x (by simp[hx])
 obtain⟨s0,hm0,hf0⟩:=zFv (zV 0 24 v0 rfl rfl) h0 (fun y hy=>by have:=List.all_eq_true.1 hsz _ (DataW.weights_mem_each (j:=0) rfl rfl _ hy);simpa using this);have walk:=zCq hm0 hf0;refine walk.mono fun e W' ⟨he,hg⟩=>?_;subst he;have hb:=below_grown hg (zqab _) (by simp);exact⟨_,rfl,zCi (pa:=p0++[]) (pv:=[]) hW' (fun _ _ _=>trodAll_cons_mk (shut_bool underlying4 _) trodAll_mk0) (trodAll_cons_mk (zCj (by kernel_rfl) (of_decide_eq_true (by kernel_rfl)) h0 hb hlt0) trodAll_mk0) rfl hb⟩
def zJi (os:Os):laidMet prog Rows.closureSumsRow.laid ((laidWorld os).forCall (fun _ _=>0) ⟨#[],#[Value.agg #[Value.int .i64 0,Value.int .i64 0,Value.string ⟨#[]⟩,Value.slice none 0 0]],[]⟩).memory :=
 laidMet_of_run' 8 (by kernel_rfl) (by kernel_rfl)
def reads (os:Os){H:Type}(enc:TypeId×Value->H):∃ places,DataW.whole enc prog ((laidWorld os).forCall (fun _ _=>0) ⟨#[],#[Value.agg #[Value.int .i64 0,Value.int .i64 0,Value.string ⟨#[]⟩,Value.slice none 0 0]],[]⟩).memory f3.params.toList Rows.closureSumsSpec.vars false (#[Value.agg #[Value.int .i64 0,Value.int .i64 0,Value.string ⟨#[]⟩,Value.slice none 0 0]]:Array Value).toList 8=some ([.agg [.lit (.int .i64 0),.lit (.int .i64 0),.lit (.string []),.nil]],[],places) :=
 ⟨[],by kernel_rfl⟩
def lifted (os:Os)(started:os.Started)(H:Type)(enc:TypeId×Value->H)(F:Stop.Interp) :
  ReturnsInHanded {} Tryz.checked os 3 .any ((OpenSpec.ofChange Rows.closureSumsSpec).preRow enc prog f3 Rows.closureSumsRow.domain false Rows.closureSumsRow.laid) (((OpenSpec.ofChange Rows.closureSumsSpec).at F).post enc prog f3 false true false false):=by
 obtain⟨places,hx⟩:=reads os enc
 refine returnsInHanded_of_row (C:=Tryz.checked) (s:=OpenSpec.ofChange Rows.closureSumsSpec) own started (by kernel_rfl) func3
  (witness_row_at (enc:=enc) (C:=Tryz.checked) false (laidWorld os) #[Value.agg #[Value.int .i64 0,Value.int .i64 0,Value.string ⟨#[]⟩,Value.slice none 0 0]] rfl (by kernel_rfl) (by kernel_rfl) (by kernel_rfl)
   (OpenSpec.preRow_of_cond 8 hx (by kernel_rfl) (fun k hk=>by cases hk) (by kernel_rfl) (zJi os))) ?_
 intro W base args ds gs before zV hW _ _ hsz hL _ _;exact zJh H enc W base args ds gs before zV hW hsz
def closed:joinedFacts Tryz.pinned.checked.prog 3 f3 (OpenSpec.ofChange Rows.closureSumsSpec).bare Rows.closureSumsRow=true:=by kernel_rfl
def said:Rows.ClosureSumsSaid :=
 OpenClaim.holds_of_cond 3 f3 rfl rfl rfl rfl rfl rfl rfl ⟨rfl,rfl,rfl,rfl,rfl⟩ rfl rfl rfl rfl rfl (by kernel_rfl) func3 closed
  (of_decide_eq_true (by kernel_rfl)) (by unfold Func.isWrapper;first|(rw[if_pos (by decide +kernel)];kernel_rfl)|(rw[if_neg (by decide +kernel)];exact⟨rfl,rfl⟩))
  (fun os started H enc _ F=>by rw[OpenClaim.pre_eq_preRow];exact lifted os started H enc F)
def plain (f:FuncId)(fn:Func)(hf:Tryz.pinned.checked.prog.funcNamed "abugida/abugidalaw07.ClosureSums" = some f) (hfn:Tryz.pinned.checked.prog.funcs[f]?=some fn) :
  true=Tryz.pinned.checked.prog.looks []/\∀ (j:Nat) t,fn.params[j]?=some t->Tryz.pinned.checked.prog.wantsStandIn t=false:=by
 obtain rfl:f=3:=Option.some.inj ((show prog.funcNamed "abugida/abugidalaw07.ClosureSums" = some 3 by kernel_rfl).symm.trans hf) |>.symm;obtain rfl:fn=f3:=(Option.some.inj (func3.symm.trans hfn)).symm;refine⟨by kernel_rfl,fun j t ht=>?_⟩;rw[Tryz.params3] at ht;obtain rfl:t=24:=by simpa using Array.mem_of_getElem? ht
 exact(show prog.wantsStandIn 24=false by kernel_rfl)
def card:Rows.ClosureSumsCardSaid :=
 Claim7.holds_tied_plain_at .later [] _ _ _ _ said (fun _ h=>by cases h) (by kernel_rfl) (fun _ h=>by cases h) closureSums_row_tie rfl ⟨rfl,rfl⟩ (by kernel_rfl) rfl plain (by kernel_rfl)
end Go.Proofs.YtiblmbpfcmcccaaGreatDoor.cClosureSums
