/- Part. -/
import Derived.Test.YtiblmbpfcmcccaaGreatDoorKX12
set_option linter.unusedVariables false
set_option linter.defProp false
set_option linter.unusedSimpArgs false
set_option maxRecDepth 100000
set_option maxHeartbeats 16000000
namespace Go.Proofs.YtiblmbpfcmcccaaGreatDoor
open Go.Proofs.Tryz
open Go.RowKit
section
variable {k:Int}
noncomputable def leadM (hk:zad k)(ld:ByteArray)(s0:Nat)(i:Nat):El k:=if i=s0 then vE hk ld else (srE k hk).zero
noncomputable def frE (hk:zad k)(l:List zah)(ld:ByteArray)(s0:Nat)(i:Nat):El k:=zbN (srE k hk) (fun x y=>arcM hk l y x) l.length (leadM hk ld s0) i
def zhV (hk:zad k)(l:List zah)(ld:ByteArray)(s0:Nat):Prop:=zdE hk l/\SolveFits (srE k hk) zam l.length l.length 1 (fun x y=>arcM hk l y x) (fun x _=>leadM hk ld s0 x)
def zFC (hk:zad k){ld:ByteArray}(h:∃ v,Val k ld v)(s0 i:Nat):zam (leadM hk ld s0 i):=by
 unfold leadM;split;exact(zgt hk h).2;exact zce hk
def zFD (hk:zad k)(l:List zah)(us:List Value)(As:Option Addr)(cs gc:Nat)(w:World)(hok:zda k l)(hst:zhv w l us As cs)(hcal:zcZ w gc k) :
  Calls prog 45 #[.slice As l.length cs,.func (.func 50) #[] #[.pointer (some ⟨gc,0,none⟩)]] w fun e w'=>∃ zs:List Value,e=.returned (.slice (some ⟨w.heap.size,0,none⟩) l.length l.length)/\zfE w' w.heap.size w.heap.size l.length 1 zs (fun i=>txs (fun _=>(srE k hk).zero))/\w'.heap[w.heap.size]?=some (.cells zs.toArray 27 (0,0))/\w.grownBy w' none:=by
 have h:=ziJ 50 zoB #[] #[.pointer (some ⟨gc,0,none⟩)] l us As cs 1 (fun _=>True) (fun i=>txs (fun _=>(srE k hk).zero)) w (by have:=hok.n60;omega) hst (fun i s u hs hu w' hw' ha=>by
  obtain⟨Au,cu,rfl,_⟩:=ha;have h1:=zta gc undef s.fin Au s.arcs.length cu hk w' (hcal.grown hw');refine h1.mono (fun e w3 h=>?_);obtain⟨g,e1,q1,q2,q3⟩:=h;exact .inl ⟨trivial,_,e1,⟨g,0,1,rfl,zqab _,by unfold maxLen;omega,.inr q1,q2⟩,q3⟩)
 refine h.mono (fun e w3 h=>?_);rcases h with⟨_,v,e1,⟨zs,rfl,q1,q2⟩,q3⟩|⟨hn,_⟩
 exact⟨zs,e1,q1,q2,q3⟩;exact zQcg
def zFE (hk:zad k){w:World}{H n s0 gl:Nat}{zs:List Value}{ld:ByteArray}(hn:n<=60)(hs:s0<n)(hz:zfE w H H n 1 zs (fun i=>txs (fun _=>(srE k hk).zero)))(zW:w.heap[H]?=some (.cells zs.toArray 27 (0,0)))
  (hgl:gl≠H) (hl:zar w gl 0 1 (txs (fun _=>vE hk ld))) :
  zbv (w.setCell ⟨H,s0,none⟩ (.slice (some ⟨gl,0,none⟩) 1 1)) (.slice (some ⟨H,0,none⟩) n n) n 1 (fun i _=>leadM hk ld s0 i):=by
 have hset:=heap_setCell_same w H s0 _ _ (.slice (some ⟨gl,0,none⟩) 1 1) zW;have hzl:=hz.1;refine⟨fun i=>if i=s0 then .slice (some ⟨gl,0,none⟩) 1 1 else zs.getD i (.slice none 0 0),⟨_,n,rfl,zqab _,by unfold maxLen;omega,fun j hj=>⟨_,rfl,(zqad.1 hset).1,?_⟩⟩,fun i hi=>?_⟩
 ·rw[zcn,zqat,zqbw _ H j _ _ (0,0) hset,List.setIfInBounds_toArray,zqap,List.getElem?_set]
  by_cases e:s0=j
  ·subst e
   rw[if_pos rfl,if_pos (by omega)];simp
  rw[if_neg e,zqac (by omega)];dsimp only;rw[if_neg (Ne.symm e),zqaa,zqac (by omega)];rfl
 by_cases e:i=s0
 ·subst e
  refine⟨gl,0,1,by simp,zqab _,by unfold maxLen;omega,?_⟩;have h:=hl.grownB (zac w ⟨H,i,none⟩ (.slice (some ⟨gl,0,none⟩) 1 1)) hgl;refine⟨h.1,fun j hj=>(h.2 j hj).trans ?_⟩;unfold txs leadM;dsimp only;rw[if_pos rfl]
 obtain⟨gi,o,c,h1,h2,h3,h4,h5⟩:=hz.2.2 i hi;refine⟨gi,o,c,by dsimp only;rw[if_neg e];exact h1,h2,h3,?_⟩;have h:=h5.grownB (zac w ⟨H,s0,none⟩ (.slice (some ⟨gl,0,none⟩) 1 1)) h4;refine⟨h.1,fun j hj=>(h.2 j hj).trans ?_⟩;unfold txs leadM;dsimp only;rw[if_neg e]
def zBW {n:Nat}{F:Nat->Nat->El k}{w:World}{v:Value}(hn:n<=60)(hv:zbv w v n n F) :
  Calls prog 51 #[v] w (fun e w'=>∃ g,e=.returned (.slice (some ⟨g,0,none⟩) n n)/\zbv w' (.slice (some ⟨g,0,none⟩) n n) n n (fun x y=>F y x)/\w.grownBy w' none):=by
 obtain⟨rs,h1,h2⟩:=hv;refine(zsR n rs (fun i j=>tx (F i j)) v w (by omega) h1 (fun i hi=>(h2 i hi).row)).mono (fun e w' h=>?_);obtain⟨zs,e1,e2,e3,e4,e5⟩:=h;refine⟨_,e1,⟨_,e3.row (zqab _) (by unfold maxLen;omega),fun i hi=>?_⟩,e5⟩;obtain⟨g,q1,q2,q3⟩:=e4 i (by omega);exact⟨g,0,n,q1,zqab _,by unfold maxLen;omega,q3⟩
def zuK (hk:zad k)(l:List zah)(us:List Value)(As:Option Addr)(cs s0:Nat)(ld:ByteArray)(w:World)(hok:zda k l)(hst:zhv w l us As cs)(hs0:s0<l.length)(hld:∃ v,Val k ld v) :
  Calls prog 23 #[.agg #[.int .i64 k,.int .i64 (s0:Int),.string ld,.slice As l.length cs]] w (zbQ (zhV hk l ld s0) (fun v w'=>∃ g,v=.slice (some ⟨g,0,none⟩) l.length l.length/\w.heap.size<=g/\zar w' g 0 l.length (txs (frE hk l ld s0))) w):=by
 have hmf := @zMF prog;have hof:=fun w'=>zot k w';have hfin:=fun(gc:Nat) (w':World) (hg:w.grownBy w' none) (hcal:zcZ w' gc k)=>zFD hk l us As cs gc w' hok (hst.grown hg) hcal;have hsteps:=fun(w':World) (hg:w.grownBy w' none)=>ztX hk l us As cs k (s0:Int) ld w' hok (hst.grown hg);have hturn:=fun(v:Value) (w':World) (hv:zbv w' v l.length l.length (arcM hk l))=>zBW hok.n60 hv
 have hsolve:=fun(av bv:Value) (w':World) (ha:zbv w' av l.length l.length (fun x y=>arcM hk l y x)) (hb:zbv w' bv l.length 1 (fun i _=>leadM hk ld s0 i)) (hf:zdE hk l)=>zkj hk 1 (zqab _) l.length l.length (fun x y=>arcM hk l y x) (fun x _=>leadM hk ld s0 x) av bv w' (zqab _) (by have:=hok.n60;omega)
  ⟨ha,hb,fun i _ j hj=>zwW hk hf hj i,fun i hi j _=>zFC hk hld s0 i⟩
 have hcol:=fun(v:Value) (w':World) (hv:zbv w' v l.length 1 (solveF (srE k hk) l.length l.length (fun x y=>arcM hk l y x) (fun x _=>leadM hk ld s0 x))) =>
  (show Calls prog 48 #[v] w' (fun e w2=>∃ u,e=.returned u/\u=.slice (some ⟨w'.heap.size,0,none⟩) l.length l.length/\zar w2 w'.heap.size 0 l.length (fun i=>.string (tx (solveF (srE k hk) l.length l.length (fun x y=>arcM hk l y x) (fun x _=>leadM hk ld s0 x) i 0)))/\w'.grownBy w2 none) from by
   obtain⟨rs,h1,h2⟩:=hv;exact zrv l.length 1 rs (fun i=>txs (solveF (srE k hk) l.length l.length (fun x y=>arcM hk l y x) (fun x _=>leadM hk ld s0 x) i)) _ v w' (by have:=hok.n60;omega) (by omega) h1 (fun i hi=>(h2 i hi).row) (fun i hi=>rfl))
 have zV:∀ i,i<l.length->solveF (srE k hk) l.length l.length (fun x y=>arcM hk l y x) (fun x _=>leadM hk ld s0 x) i 0=frE hk l ld s0 i:=fun i hi=>zgH _ _ _ _ _ (zqab _) i 0 hi;have hlt:=zgt hk hld;have HO:=zHd hof;have HF:=zHd hfin;have HT:=zHd hsteps;have HU:=zHd hturn;have HS:=zHd hsolve;have HC:=zHd hcol;have HV:=zHd zV;have HN:=zHd (zAI hok.n60 (zAI hs0 hlt));have hal:=zGA w (.cells #[.int .i64 k,.int .i64 (s0:Int),.string ld,.slice As l.length cs] 24) none;obtain⟨x0,x1,x2,x3⟩:=zdv.new w k (s0:Int) ld As l.length cs;have HW:=zHd hal;have i1:(s0:Int)<(l.length:Int):=by omega
 have i2:(0:Int)<=(s0:Int):=by omega
 clear hof hfin hsteps hturn hsolve hcol zV hok hst hal hs0 hld hlt;unfold zbl at *;go_enter func23,ntmps23;go_wp2_with fail;refine(HO.out _).mono ?_;rintro e w1 ⟨rfl,hg1⟩;have hal:=zGA w1 (.cells #[.int .i64 k,.string (zag k),.string (zal k)] 57) none;have hg2:=zaa hg1 hal;have y0:=hg2.cell x0 (by simp);have y1:=hg2.cell x1 (by simp);have y2:=hg2.cell x2 (by simp);have y3:=hg2.cell x3 (by simp);have xc:zcZ (w1.alloc (.cells #[.int .i64 k,.string (zag k),.string (zal k)] 57)) w1.heap.size k:=⟨zan w1 _ _ rfl,zan w1 _ _ rfl,zan w1 _ _ rfl⟩;have hws1:w.heap.size+1<=w1.heap.size:=by have:=hg1.size;simpa using this
 have HG2:=zHd (zaa HW.out hg2);have HXC:=zHd xc;have HWS:=zHd hws1;clear x0 x1 x2 x3 hg1 hal hg2 xc HO HW hws1;go_wp2_with fail;refine(HF.out w1.heap.size _ HG2.out HXC.out).mono ?_;rintro e w3 ⟨zs,rfl,hzs,hzr,hg3⟩;have z0:=hg3.cell y0 (by simp);have z1:=hg3.cell y1 (by simp);have z2:=hg3.cell y2 (by simp);have z3:=hg3.cell y3 (by simp);have zc:=HXC.out.grown hg3;rw[show(w1.alloc (.cells #[.int .i64 k,.string (zag k),.string (zal k)] 57)).heap.size=w1.heap.size+1 by simp] at hzs hzr;have hal:=zGA w3 (.cells #[.string ld] 9) none;have hw3:w1.heap.size+1<w3.heap.size:=(zqad.1 hzr).1;have hzr4:=(hal.block _ hw3 (by simp)).trans hzr;have r0:=zqbw _ (w1.heap.size+1) s0 _ _ (0,0) hzr4;obtain⟨zz,hzz⟩:∃ zz,zs[s0]?=some zz:=⟨_,zqac (by have:=hzs.1;have:=HN.out.2.1;omega)⟩;rw[zqap,hzz] at r0;have f0:=zqbx _ (w1.heap.size+1) s0 _ _ hzr4;have hne1:¬ w.heap.size=w1.heap.size+1:=by have:=HWS.out;omega
 have hne2:¬ w1.heap.size+1=w.heap.size:=by have:=HWS.out;omega
 have hz4:zfE (w3.alloc (.cells #[.string ld] 9)) (w1.heap.size+1) (w1.heap.size+1) l.length 1 zs (fun i=>txs (fun _=>(srE k hk).zero)):=⟨hzs.1,hzs.2.1.grown hal,fun i hi=>by
  obtain⟨gi,o,c,q1,q2,q3,q4,q5⟩:=hzs.2.2 i hi;exact⟨gi,o,c,q1,q2,q3,q4,q5.grown hal⟩⟩
 have hlr:zar (w3.alloc (.cells #[.string ld] 9)) w3.heap.size 0 1 (txs (fun _=>vE hk ld)):=by
  have h:=zsL w3 (.string ld) 9;refine⟨h.1,fun j hj=>(h.2 j hj).trans ?_⟩;unfold txs;rw[<- HN.out.2.2.1]
 have hmat:=zFE hk (ld:=ld) HN.out.1 HN.out.2.1 hz4 hzr4 (by omega) hlr;have hg4:w.grownBy ((w3.alloc (.cells #[.string ld] 9)).setCell ⟨w1.heap.size+1,s0,none⟩ (.slice (some ⟨w3.heap.size,0,none⟩) 1 1)) none:=zak (zaa (zaa HG2.out hg3) hal) (zac _ _ _) (by show w.heap.size<=w1.heap.size+1;have:=HWS.out;omega);have k0:=zbc (o:=s0) (u:=.slice (some ⟨w3.heap.size,0,none⟩) 1 1) hne1 (hal.cell z0 (by simp));have k1:=zbc (o:=s0) (u:=.slice (some ⟨w3.heap.size,0,none⟩) 1 1) hne1 (hal.cell z1 (by simp));have k2:=zbc (o:=s0) (u:=.slice (some ⟨w3.heap.size,0,none⟩) 1 1) hne1 (hal.cell z2 (by simp));have k3:=zbc (o:=s0) (u:=.slice (some ⟨w3.heap.size,0,none⟩) 1 1) hne1 (hal.cell z3 (by simp));have j0:=zbc (o:=s0) (u:=.slice (some ⟨w3.heap.size,0,none⟩) 1 1) (show w1.heap.size≠w1.heap.size+1 by omega) (hal.cell zc.1 (by simp));have j1:=zbc (o:=s0) (u:=.slice (some ⟨w3.heap.size,0,none⟩) 1 1) (show w1.heap.size≠w1.heap.size+1 by omega) (hal.cell zc.2.1 (by simp));have j2:=zbc (o:=s0) (u:=.slice (some ⟨w3.heap.size,0,none⟩) 1 1) (show w1.heap.size≠w1.heap.size+1 by omega) (hal.cell zc.2.2 (by simp));have HK:=zHd (zAI j0 (zAI j1 (zAI j2 (zAI k0 (zAI k1 (zAI k2 k3))))));have HG4:=zHd hg4;have HFM:=zHd hmat;clear hg4 hmat hlr hz4 hzr4 hzs hzr hg3 hzz HXC HF y0 y1 y2 y3 zc hw3 k0 k1 k2 k3 j0 j1 j2;go_upto_region 4 with(fail);obtain⟨j0,j1,j2,k0,k1,k2,k3⟩:=HK.out;generalize ((w3.alloc (.cells #[.string ld] 9)).setCell ⟨w1.heap.size+1,s0,none⟩ (.slice (some ⟨w3.heap.size,0,none⟩) 1 1))=w4 at *;have S3:(fun W':World=>W'.cell? ⟨w1.heap.size,0,none⟩=some (.int .i64 k)/\W'.cell? ⟨w1.heap.size,1,none⟩=some (.string (zag k))/\W'.cell? ⟨w1.heap.size,2,none⟩=some (.string (zal k))/\W'.cell? ⟨w.heap.size,0,none⟩=some (.int .i64 k)/\W'.cell? ⟨w.heap.size,1,none⟩=some (.int .i64 (s0:Int))/\W'.cell? ⟨w.heap.size,2,none⟩=some (.string ld)/\W'.cell? ⟨w.heap.size,3,none⟩=some (.slice As l.length cs)) w4.drew:=⟨j0,j1,j2,k0,k1,k2,k3⟩;have HGD:=zHd (zaa HG4.out (zaf w4 none));clear j0 j1 j2 k0 k1 k2 k3 HK z0 z1 z2 z3 r0 f0
 go_region_held2 (fun W'=>W'.cell? ⟨w1.heap.size,0,none⟩=some (.int .i64 k)/\W'.cell? ⟨w1.heap.size,1,none⟩=some (.string (zag k))/\W'.cell? ⟨w1.heap.size,2,none⟩=some (.string (zal k))/\W'.cell? ⟨w.heap.size,0,none⟩=some (.int .i64 k)/\W'.cell? ⟨w.heap.size,1,none⟩=some (.int .i64 (s0:Int))/\W'.cell? ⟨w.heap.size,2,none⟩=some (.string ld)/\W'.cell? ⟨w.heap.size,3,none⟩=some (.slice As l.length cs)) (first|exact S3|exact S5|exact S8|exact S6|exact S7|go_keep)
  (first
  | (go_at_call 49;refine(HT.out _ HGD.out).mono ?_;rintro e w5 (⟨hp,v5,rfl,hm5,hg5⟩|⟨hn,rfl,hg5⟩);rotate_left 1;(exact⟨rfl,.inr ⟨fun h=>hn h.1,rfl,zaa HGD.out hg5⟩⟩);obtain⟨A5,e5,rfl⟩:=hm5.shape;have S5:(fun W':World=>W'.cell? ⟨w1.heap.size,0,none⟩=some (.int .i64 k)/\W'.cell? ⟨w1.heap.size,1,none⟩=some (.string (zag k))/\W'.cell? ⟨w1.heap.size,2,none⟩=some (.string (zal k))/\W'.cell? ⟨w.heap.size,0,none⟩=some (.int .i64 k)/\W'.cell? ⟨w.heap.size,1,none⟩=some (.int .i64 (s0:Int))/\W'.cell? ⟨w.heap.size,2,none⟩=some (.string ld)/\W'.cell? ⟨w.heap.size,3,none⟩=some (.slice As l.length cs)) w5:=⟨hg5.cell S3.1 (by simp),hg5.cell S3.2.1 (by simp),hg5.cell S3.2.2.1 (by simp),hg5.cell S3.2.2.2.1 (by simp),hg5.cell S3.2.2.2.2.1 (by simp),hg5.cell S3.2.2.2.2.2.1 (by simp),hg5.cell S3.2.2.2.2.2.2 (by simp)⟩;have H5:=zHd (zAI hp (zAI hm5 hg5));clear hp hm5 hg5)
  | (go_at_call 51;refine(HU.out _ w5 H5.out.2.1).mono ?_;rintro e w8 ⟨g8,rfl,hm8,hg8⟩;have S8:(fun W':World=>W'.cell? ⟨w1.heap.size,0,none⟩=some (.int .i64 k)/\W'.cell? ⟨w1.heap.size,1,none⟩=some (.string (zag k))/\W'.cell? ⟨w1.heap.size,2,none⟩=some (.string (zal k))/\W'.cell? ⟨w.heap.size,0,none⟩=some (.int .i64 k)/\W'.cell? ⟨w.heap.size,1,none⟩=some (.int .i64 (s0:Int))/\W'.cell? ⟨w.heap.size,2,none⟩=some (.string ld)/\W'.cell? ⟨w.heap.size,3,none⟩=some (.slice As l.length cs)) w8:=⟨hg8.cell S5.1 (by simp),hg8.cell S5.2.1 (by simp),hg8.cell S5.2.2.1 (by simp),hg8.cell S5.2.2.2.1 (by simp),hg8.cell S5.2.2.2.2.1 (by simp),hg8.cell S5.2.2.2.2.2.1 (by simp),hg8.cell S5.2.2.2.2.2.2 (by simp)⟩;have H8:=zHd (zAI hm8 hg8);clear hm8 hg8)
  | (go_at_call 41;refine(HS.out _ _ w8 H8.out.1 (((HFM.out.grown (zaf w4 none)).grown H5.out.2.2).grown H8.out.2) H5.out.1).mono ?_;rintro e w6 (⟨hp,v6,rfl,hm6,hg6⟩|⟨hn,rfl,hg6⟩);rotate_left 1;(exact⟨rfl,.inr ⟨fun h=>hn h.2,rfl,zaa (zaa (zaa HGD.out H5.out.2.2) H8.out.2) hg6⟩⟩);obtain⟨A6,e6,rfl⟩:=hm6.shape;have S6:(fun W':World=>W'.cell? ⟨w1.heap.size,0,none⟩=some (.int .i64 k)/\W'.cell? ⟨w1.heap.size,1,none⟩=some (.string (zag k))/\W'.cell? ⟨w1.heap.size,2,none⟩=some (.string (zal k))/\W'.cell? ⟨w.heap.size,0,none⟩=some (.int .i64 k)/\W'.cell? ⟨w.heap.size,1,none⟩=some (.int .i64 (s0:Int))/\W'.cell? ⟨w.heap.size,2,none⟩=some (.string ld)/\W'.cell? ⟨w.heap.size,3,none⟩=some (.slice As l.length cs)) w6:=⟨hg6.cell S8.1 (by simp),hg6.cell S8.2.1 (by simp),hg6.cell S8.2.2.1 (by simp),hg6.cell S8.2.2.2.1 (by simp),hg6.cell S8.2.2.2.2.1 (by simp),hg6.cell S8.2.2.2.2.2.1 (by simp),hg6.cell S8.2.2.2.2.2.2 (by simp)⟩;have H6:=zHd (zAI hp (zAI hm6 hg6));clear hp hm6 hg6)
  | (go_at_call 48;refine(HC.out _ w6 H6.out.2.1).mono ?_;rintro e w7 ⟨u7,rfl,rfl,hr7,hg7⟩;have S7:(fun W':World=>W'.cell? ⟨w1.heap.size,0,none⟩=some (.int .i64 k)/\W'.cell? ⟨w1.heap.size,1,none⟩=some (.string (zag k))/\W'.cell? ⟨w1.heap.size,2,none⟩=some (.string (zal k))/\W'.cell? ⟨w.heap.size,0,none⟩=some (.int .i64 k)/\W'.cell? ⟨w.heap.size,1,none⟩=some (.int .i64 (s0:Int))/\W'.cell? ⟨w.heap.size,2,none⟩=some (.string ld)/\W'.cell? ⟨w.heap.size,3,none⟩=some (.slice As l.length cs)) w7:=⟨hg7.cell S6.1 (by simp),hg7.cell S6.2.1 (by simp),hg7.cell S6.2.2.1 (by simp),hg7.cell S6.2.2.2.1 (by simp),hg7.cell S6.2.2.2.2.1 (by simp),hg7.cell S6.2.2.2.2.2.1 (by simp),hg7.cell S6.2.2.2.2.2.2 (by simp)⟩;have H7:=zHd (zAI hr7 hg7);clear hr7 hg7))
 all_goals
  go_wp2;go_ret;refine .inl ⟨⟨H5.out.1,H6.out.1⟩,_,rfl,⟨w6.heap.size,rfl,?_,H7.out.1.1,fun j hj=>(H7.out.1.2 j hj).trans ?_⟩,zaa (zaa (zaa (zaa HGD.out H5.out.2.2) H8.out.2) H6.out.2.2) H7.out.2⟩
  ·have h1:=HGD.out.size
   have h2:=H5.out.2.2.size;have h4:=H8.out.2.size;have h3:=H6.out.2.2.size;omega
  unfold txs;rw[<- HV.out j hj]
end
open Go.RowKit
def zIS {k:Int}{v:Ext}(h:zfc k v=true):zaq k v=true:=by
 rcases v with(_|_)|x;cases h;cases h;unfold zfc at h;unfold zaq;simp only[Bool.or_eq_true,zqbb,zqca] at h ⊢;rcases h with h|⟨h,h2⟩
 exact .inl h;exact .inr ⟨h,by grind⟩
def znE {k:Int}{a:ByteArray}(h:wgtB k a=true):∃ v,Val k a v:=by
 obtain⟨v,hv⟩:=zlI h;exact⟨v,hv.e,zIS hv.has⟩
structure MOk (m:zaj):Prop where
 kind:zad m.kind
 start:∃ s0:Nat,m.start=(s0:Int)/\s0<m.states.length
 lead:∃ v,Val m.kind m.lead v
 arcs:∀ i,i<m.states.length->zwV m.kind m.states.length (stA m.states i)/\(stA m.states i).length<=30000
 fins:∀ i,i<m.states.length->stF m.states i=⟨#[]⟩∨∃ v,Val m.kind (stF m.states i) v
def zcH {m:zaj}(h:validB m=true):MOk m:=by
 obtain⟨h1,h2,h3,h4,h5,h6⟩:=zep (zfe h);refine⟨(zke _).1 h1,⟨m.start.toNat,by omega,by omega⟩,znE h6,fun i hi=>?_,fun i hi=>?_⟩
 ·have hs:m.states[i]?=some m.states[i]:=zqac hi
  rw[ziy hs];obtain⟨_,ha⟩:=zfq (zfM h hs);refine⟨fun a hm=>?_,?_⟩
  ·obtain⟨_,_,_,_,q1,q2,q3⟩:=zgW (ha a hm)
   exact⟨q1,q2,znE q3⟩
  have:=zni (zqak hs);have:=ziT h;omega
 have hs:m.states[i]?=some m.states[i]:=zqac hi;rw[zgo hs];obtain⟨hf,_⟩:=zfq (zfM h hs);unfold finB at hf;simp only[Bool.or_eq_true,zqca] at hf;rcases hf with hf|hf
 exact .inl (ByteArray.ext (Array.eq_empty_of_size_eq_zero hf));exact .inr (znE hf)
def MOk.sts {m:zaj}(h:MOk m)(hn:m.states.length<=60):zda m.kind m.states:=⟨hn,h.arcs,h.fins⟩
noncomputable def checkC (m:zaj):Int:=if validB m=true then (if 60<m.states.length then 2 else 0) else 1
def znF {w:World}{v:Value}{m:zaj}(hv:zbJ w v m)(hf:zdD m):Calls prog 18 #[v] w fun e w'=>e=.returned (.int .i64 (checkC m))/\w.grownBy w' none:=by
 obtain⟨u,rfl,hst⟩:=hv;obtain⟨A,cs,us,rfl,hsr⟩:=zeO hst;obtain⟨n,hn⟩:∃ n,m.states.length=n:=⟨_,rfl⟩;have hal:=zGA w (.cells #[.int .i64 m.kind,.int .i64 m.start,.string m.lead,.slice A m.states.length cs] 24) none;have zV:=zrw (w:=w.alloc (.cells #[.int .i64 m.kind,.int .i64 m.start,.string m.lead,.slice A m.states.length cs] 24)) (v:=.agg #[.int .i64 m.kind,.int .i64 m.start,.string m.lead,.slice A m.states.length cs]) (m:=m) ⟨_,rfl,hst.below (zbM hal)⟩ hf;obtain⟨x0,x1,x2,x3⟩:=zdv.new w m.kind m.start m.lead A m.states.length cs;have HV:=zHd zV;have HW:=zHd hal;have HN:=zHd hf.n;clear zV hal hst hsr hf;rw[hn] at HV HW x0 x1 x2 x3 HN;have hcc:checkC m=(if validB m=true then (if 60<n then 2 else 0) else 1):=by unfold checkC;rw[hn]
 have HCC:=zHd hcc;clear hcc;generalize checkC m=cc at *;rw[hn];go_enter func18,ntmps18;go_wp2_with fail;refine HV.out.mono ?_;rintro e w1 ⟨rfl,hg1⟩;have y3:=hg1.cell x3 (by simp);have HG:=zHd (zaa HW.out hg1);clear hg1 x0 x1 x2 x3 HV HW;cases hb:validB m
 ·go_wp2
  go_ret;have e:=HCC.out;rw[hb] at e;subst e;exact⟨rfl,HG.out⟩
 by_cases h60:60<n
 ·have t1:decide (60<n)=true:=by simpa using h60
  have t2:decide ((60:Int)<(n:Int))=true:=by simp;omega
  have t3:(60:Int)<(n:Int):=by omega
  have H6:=zHd h60;clear h60;go_wp2;go_ret;have e:=HCC.out;rw[hb,if_pos rfl,if_pos H6.out] at e;subst e;exact⟨rfl,HG.out⟩
 have t1:decide (60<n)=false:=by simpa using h60
 have t2:decide ((60:Int)<(n:Int))=false:=by simp;omega
 have t3:¬ (60:Int)<(n:Int):=by omega
 have H6:=zHd h60;clear h60;go_wp2;go_ret;have e:=HCC.out;rw[hb,if_pos rfl,if_neg H6.out] at e;subst e;exact⟨rfl,HG.out⟩
open Go.RowKit
def zkD {m:zaj}(h:checkC m=0):validB m=true/\m.states.length<=60:=by
 unfold checkC at h;split at h
 ·split at h
  ·omega
  exact⟨by assumption,by omega⟩
 omega
def zxg (m:zaj)(P:Prop)(L:Nat->Value)(w:World)(e:Ending)(w':World):Prop :=
 w.grownBy w' none/\((P/\∃ v,e=.returned (.tuple #[v,.int .i64 0])/\zaK w' v m.states.length L)∨(¬ P/\e=.returned (.tuple #[.slice none 0 0,.int .i64 2])))
def zBX:Enters 20:=enters_of func20 (by kernel_rfl) rfl
def zKN {k:Int}(hk:zad k)(l:List zah)(us:List Value)(As:Option Addr)(cs g s0:Nat)(ld:ByteArray)(w:World)(hok:zda k l)(hst:zhv w l us As cs)(hs0:s0<l.length)(hld:∃ v,Val k ld v)(hb:zdv w g k (s0:Int) ld As l.length cs) :
  Calls prog 20 #[.pointer (some ⟨g,0,none⟩)] w (zbQ (zhx hk l) (fun v w'=>∃ g,v=.slice (some ⟨g,0,none⟩) l.length l.length/\w.heap.size<=g/\zar w' g 0 l.length (txs (toE hk l))) w):=by
 have h:=ztZ hk l us As cs (s0:Int) ld w hok hst;obtain⟨x0,x1,x2,x3⟩:=hb;have H:=zHd h;clear h hok hst hs0 hld;go_enter func20,ntmps20;go_wp2_with fail;refine H.out.mono ?_;rintro e w1 (⟨hp,v,rfl,hq,hg1⟩|⟨hn,rfl,hg1⟩)
 ·have HP:=zHd (zAI hp (zAI hq hg1))
  exact zQbC
 exact zQcc
def zxh (m:zaj)(w:World)(e:Ending)(w':World):Prop :=
 (checkC m≠0/\w.grownBy w' none/\e=.returned (.tuple #[.slice none 0 0,.int .i64 (checkC m)]))∨(checkC m=0/\∃ hk:zad m.kind,zxg m (zhx hk m.states) (txs (toE hk m.states)) w e w')
def znG {w:World}{v:Value}{m:zaj}(hv:zbJ w v m)(hf:zdD m):Calls prog 6 #[v] w (zxh m w):=by
 have hmf := @zMF prog;have hv0:=hv;obtain⟨u,rfl,hst⟩:=hv;obtain⟨A,cs,us,rfl,hsr⟩:=zeO hst;have hal:=zGA w (.cells #[.int .i64 m.kind,.int .i64 m.start,.string m.lead,.slice A m.states.length cs] 24) none;have hck:=znF (w:=w.alloc (.cells #[.int .i64 m.kind,.int .i64 m.start,.string m.lead,.slice A m.states.length cs] 24)) (v:=.agg #[.int .i64 m.kind,.int .i64 m.start,.string m.lead,.slice A m.states.length cs]) (m:=m) ⟨_,rfl,hst.below (zbM hal)⟩ hf;have hbx:=zdv.new w m.kind m.start m.lead A m.states.length cs;obtain⟨x0,x1,x2,x3⟩:=hbx;have hsr1:=hsr.grown hal;have HC:=zHd hck;have HW:=zHd hal;have HS:=zHd (zAI hsr1 (zdv.new w m.kind m.start m.lead A m.states.length cs));clear hck hal hsr hst hv0 hf hsr1;unfold zxh;go_enter func6,ntmps6;go_wp2_with fail;refine HC.out.mono ?_;rintro e w1 ⟨rfl,hg1⟩;have HG:=zHd hg1;clear hg1 HC x0 x1 x2 x3;obtain⟨c,hc⟩:∃ c,checkC m=c:=⟨_,rfl⟩;rw[hc];have HCC:=zHd hc;clear hc
 by_cases h0:c=0
 ·subst h0
  obtain⟨hvalid,h60⟩:=zkD HCC.out;have hok:=zcH hvalid;obtain⟨s0,hs0,hs1⟩:=hok.start;have hal1:=zGA w1 (.cells #[.int .i64 0] 28) none;have hgs:=zaa HG.out hal1;have hbx:=HS.out.2.grown hgs;rw[hs0] at hbx;have h1:=zKN hok.kind m.states us A cs w.heap.size s0 m.lead (w1.alloc (.cells #[.int .i64 0] 28)) (hok.sts h60) (HS.out.1.grown hgs) hs1 hok.lead hbx
  have hat:=zoT (WB:=w1.heap.size) 20 zBX #[] #[.pointer (some ⟨w.heap.size,0,none⟩)] (zhx hok.kind m.states) (fun v w'=>∃ g,v=.slice (some ⟨g,0,none⟩) m.states.length m.states.length/\g≠w1.heap.size/\zar w' g 0 m.states.length (txs (toE hok.kind m.states)))
   (fun v wa wb b hb hg e hq=>by
    subst e;obtain⟨g,q1,q2,q3⟩:=hq;exact⟨g,q1,q2,q3.grownB hg q2⟩) w1 rfl (h1.mono (fun e w' h=>by
    rcases h with⟨hp,v,h1,⟨g,rfl,h2,h3⟩,h4⟩|h;exact .inl ⟨hp,_,h1,⟨⟨_,_,_,rfl⟩,g,rfl,by simp at h2;omega,h3⟩,h4⟩;exact .inr h))
  have HT:=zHd hat;have HK:=zHd (zAI hok.kind (zAI h60 hs0));clear hat h1 hbx hgs hal1 hvalid h60 hs0;go_wp2_with fail;refine HT.out.mono ?_;rintro e w2 (⟨hp,v,rfl,hq,hg2⟩|⟨hn2,rfl,hg2⟩)
  ·obtain⟨g,rfl,_,hq⟩:=hq
   have H2:=zHd (zAI hp (zAI hq (zaa (zaa HW.out HG.out) hg2)));clear hp hq hg2;go_wp2;exact zqby (v:=.tuple #[.slice (some ⟨g,0,none⟩) m.states.length m.states.length,.int .i64 0]) (by simp[results,results6,go_sem]) rfl (.inr ⟨HCC.out,hok.kind,H2.out.2.2,.inl ⟨H2.out.1,_,rfl,(H2.out.2.1.row (zqab _) (by have:=HK.out.2.1;unfold maxLen;omega))⟩⟩)
  have H2:=zHd (zAI hn2 (zaa (zaa HW.out HG.out) hg2));clear hn2 hg2;go_wp2;exact zqby (v:=.tuple #[.slice none 0 0,.int .i64 2]) (by simp[results,results6,go_sem]) rfl (.inr ⟨HCC.out,hok.kind,H2.out.2,.inr ⟨H2.out.1,rfl⟩⟩)
 have t1:(c==0)=false:=by simpa using h0
 have t2:(c != 0)=true:=by simpa using h0
 have H0:=zHd h0;clear h0;go_wp2;exact zqby (v:=.tuple #[.slice none 0 0,.int .i64 c]) (by simp[results,results6,go_sem]) rfl (.inl ⟨by rw[HCC.out];exact H0.out,zaa HW.out HG.out,by rw[HCC.out]⟩)
def zxi:Enters 22:=enters_of func22 (by kernel_rfl) rfl
def zFF {k:Int}(hk:zad k)(l:List zah)(us:List Value)(As:Option Addr)(cs g s0:Nat)(ld:ByteArray)(w:World)(hok:zda k l)(hst:zhv w l us As cs)(hs0:s0<l.length)(hld:∃ v,Val k ld v)(hb:zdv w g k (s0:Int) ld As l.length cs) :
  Calls prog 22 #[.pointer (some ⟨g,0,none⟩)] w (zbQ (zhV hk l ld s0) (fun v w'=>∃ g,v=.slice (some ⟨g,0,none⟩) l.length l.length/\w.heap.size<=g/\zar w' g 0 l.length (txs (frE hk l ld s0))) w):=by
 have h:=zuK hk l us As cs s0 ld w hok hst hs0 hld;obtain⟨x0,x1,x2,x3⟩:=hb;have H:=zHd h;clear h hok hst hs0 hld;go_enter func22,ntmps22;go_wp2_with fail;refine H.out.mono ?_;rintro e w1 (⟨hp,v,rfl,hq,hg1⟩|⟨hn,rfl,hg1⟩)
 ·have HP:=zHd (zAI hp (zAI hq hg1))
  exact zQbC
 exact zQcc
def zpM (m:zaj)(w:World)(e:Ending)(w':World):Prop :=
 (checkC m≠0/\w.grownBy w' none/\e=.returned (.tuple #[.slice none 0 0,.int .i64 (checkC m)]))∨(checkC m=0/\∃ hk:zad m.kind,zxg m (zhV hk m.states m.lead m.start.toNat) (txs (frE hk m.states m.lead m.start.toNat)) w e w')
def zjI {w:World}{v:Value}{m:zaj}(hv:zbJ w v m)(hf:zdD m):Calls prog 7 #[v] w (zpM m w):=by
 have hmf := @zMF prog;have hv0:=hv;obtain⟨u,rfl,hst⟩:=hv;obtain⟨A,cs,us,rfl,hsr⟩:=zeO hst;have hal:=zGA w (.cells #[.int .i64 m.kind,.int .i64 m.start,.string m.lead,.slice A m.states.length cs] 24) none;have hck:=znF (w:=w.alloc (.cells #[.int .i64 m.kind,.int .i64 m.start,.string m.lead,.slice A m.states.length cs] 24)) (v:=.agg #[.int .i64 m.kind,.int .i64 m.start,.string m.lead,.slice A m.states.length cs]) (m:=m) ⟨_,rfl,hst.below (zbM hal)⟩ hf;have hbx:=zdv.new w m.kind m.start m.lead A m.states.length cs;obtain⟨x0,x1,x2,x3⟩:=hbx;have hsr1:=hsr.grown hal;have HC:=zHd hck;have HW:=zHd hal;have HS:=zHd (zAI hsr1 (zdv.new w m.kind m.start m.lead A m.states.length cs));clear hck hal hsr hst hv0 hf hsr1;unfold zpM;go_enter func7,ntmps7;go_wp2_with fail;refine HC.out.mono ?_;rintro e w1 ⟨rfl,hg1⟩;have HG:=zHd hg1;clear hg1 HC x0 x1 x2 x3;obtain⟨c,hc⟩:∃ c,checkC m=c:=⟨_,rfl⟩;rw[hc];have HCC:=zHd hc;clear hc
 by_cases h0:c=0
 ·subst h0
  obtain⟨hvalid,h60⟩:=zkD HCC.out;have hok:=zcH hvalid;obtain⟨s0,hs0,hs1⟩:=hok.start;have hal1:=zGA w1 (.cells #[.int .i64 0] 28) none;have hgs:=zaa HG.out hal1;have hbx:=HS.out.2.grown hgs;rw[hs0] at hbx;have h1:=zFF hok.kind m.states us A cs w.heap.size s0 m.lead (w1.alloc (.cells #[.int .i64 0] 28)) (hok.sts h60) (HS.out.1.grown hgs) hs1 hok.lead hbx
  have hat:=zoT (WB:=w1.heap.size) 22 zxi #[] #[.pointer (some ⟨w.heap.size,0,none⟩)] (zhV hok.kind m.states m.lead s0) (fun v w'=>∃ g,v=.slice (some ⟨g,0,none⟩) m.states.length m.states.length/\g≠w1.heap.size/\zar w' g 0 m.states.length (txs (frE hok.kind m.states m.lead s0)))
   (fun v wa wb b hb hg e hq=>by
    subst e;obtain⟨g,q1,q2,q3⟩:=hq;exact⟨g,q1,q2,q3.grownB hg q2⟩) w1 rfl (h1.mono (fun e w' h=>by
    rcases h with⟨hp,v,h1,⟨g,rfl,h2,h3⟩,h4⟩|h;exact .inl ⟨hp,_,h1,⟨⟨_,_,_,rfl⟩,g,rfl,by simp at h2;omega,h3⟩,h4⟩;exact .inr h))
  have HT:=zHd hat;have HK:=zHd (zAI hok.kind (zAI h60 hs0));clear hat h1 hbx hgs hal1 hvalid h60 hs0;go_wp2_with fail;refine HT.out.mono ?_;rintro e w2 (⟨hp,v,rfl,hq,hg2⟩|⟨hn2,rfl,hg2⟩)
  ·obtain⟨g,rfl,_,hq⟩:=hq
   have H2:=zHd (zAI hp (zAI hq (zaa (zaa HW.out HG.out) hg2)));clear hp hq hg2;go_wp2;exact zqby (v:=.tuple #[.slice (some ⟨g,0,none⟩) m.states.length m.states.length,.int .i64 0]) (by simp[results,results7,go_sem]) rfl (.inr ⟨HCC.out,hok.kind,H2.out.2.2,.inl ⟨by rw[HK.out.2.2];exact H2.out.1,_,rfl,by rw[HK.out.2.2];exact(H2.out.2.1.row (zqab _) (by have:=HK.out.2.1;unfold maxLen;omega))⟩⟩)
  have H2:=zHd (zAI hn2 (zaa (zaa HW.out HG.out) hg2));clear hn2 hg2;go_wp2;exact zqby (v:=.tuple #[.slice none 0 0,.int .i64 2]) (by simp[results,results7,go_sem]) rfl (.inr ⟨HCC.out,hok.kind,H2.out.2,.inr ⟨by rw[HK.out.2.2];exact H2.out.1,rfl⟩⟩)
 have t1:(c==0)=false:=by simpa using h0
 have t2:(c != 0)=true:=by simpa using h0
 have H0:=zHd h0;clear h0;go_wp2;exact zqby (v:=.tuple #[.slice none 0 0,.int .i64 c]) (by simp[results,results7,go_sem]) rfl (.inl ⟨by rw[HCC.out];exact H0.out,zaa HW.out HG.out,by rw[HCC.out]⟩)
open Go.RowKit
def znH (m:zaj)(x:Nat):Bool:=(zhQ m x).fin.size != 0
def zfx (m:zaj)(k:Nat):List Nat:=(List.range k).filter (znH m)
def zjJ (m:zaj):List Nat:=zdl (zaX m) m.states.length 0 ([m.start.toNat].foldl zbg [])
def zeP (m:zaj):List Nat:=zdl (zbn m) m.states.length 0 ((zfx m m.states.length).foldl zbg [])
def zoz (m:zaj):List Nat:=(zjJ m).filter (fun x=>decide (x∈zeP m))
def zFG (m:zaj)(k:Nat):zfx m (k+1)=zfx m k++(if znH m k then [k] else []):=by
 unfold zfx;rw[List.range_succ,List.filter_append];cases h:znH m k <;> simp[List.filter,h]
def zlY {m:zaj}{k x:Nat}:x∈zfx m k↔x<k/\znH m x=true:=by
 unfold zfx;rw[List.mem_filter,List.mem_range]
def zxj (m:zaj)(k:Nat):(zfx m k).length<=k:=by
 unfold zfx;exact zqam (List.length_filter_le _ _) (by simp)
def zzK {m:zaj}{x:Nat}:isFin m x↔x<m.states.length/\znH m x=true:=by
 unfold isFin znH;constructor
 ·rintro ⟨s,hs,h⟩
  refine⟨(zqae.1 hs).1,?_⟩;rw[zhR hs];simpa using h
 rintro ⟨h,hb⟩;have hs:m.states[x]?=some m.states[x]:=zqac h;rw[zhR hs] at hb;exact⟨_,hs,by simpa using hb⟩
def zii {succ:Nat->List Nat}{S T:Nat->Prop}(h:∀ x,S x->T x){x:Nat}(hx:RFrom succ S x):RFrom succ T x:=by
 induction hx with
 | start h1=>exact .start (h _ h1)
 | step _ h2 ih=>exact .step ih h2
def ztb {m:zaj}(h:Wf m)(x:Nat):x∈zjJ m↔RFrom (zaX m) (fun y=>y=m.start.toNat) x:=by
 have hst:m.start.toNat<m.states.length:=zlV h (.start rfl);unfold zjJ;rw[zwT (zig h) (zcw List.nodup_nil) (zdT (fun z hz=>by simp at hz) (fun z hz=>by simp at hz;omega))];constructor;exact zii (fun y hy=>by rw[zfO] at hy;simpa using hy);exact zii (fun y hy=>by rw[zfO];simpa using hy)
def zzL {m:zaj}(x:Nat):x∈zeP m↔RFrom (zbn m) (isFin m) x:=by
 unfold zeP;rw[zwT (n:=m.states.length) zhu (zcw List.nodup_nil) (zdT (fun z hz=>by simp at hz) (fun z hz=>(zlY.1 hz).1))];constructor;exact zii (fun y hy=>by rw[zfO] at hy;rw[zzK];simpa [zlY] using hy);exact zii (fun y hy=>by rw[zfO];rw[zzK] at hy;simpa [zlY] using hy)
def zue (m:zaj):(zjJ m).Nodup:=zrr (zcw List.nodup_nil)
def zFH (m:zaj):(zeP m).Nodup:=zrr (zcw List.nodup_nil)
def zuf {m:zaj}(h:Wf m):∀ x∈zjJ m,x<m.states.length:=fun x hx=>zlV h ((ztb h x).1 hx)
def zug {m:zaj}:∀ x∈zeP m,x<m.states.length:=by
 intro x hx;have:=(zzL x).1 hx;cases this with
 | start h=>exact zLY h
 | step _ h=>exact zhu _ _ h
def zFI {m:zaj}(h:Wf m):m.start.toNat∈zjJ m:=(ztb h _).2 (.start rfl)
def zFJ {m:zaj}(h:Wf m):(zoz m).mergeSort (fun x y=>decide (x<=y))=usefulL m:=by
 have hp:=List.mergeSort_perm (zoz m) (fun x y=>decide (x<=y));have hnd:(zoz m).Nodup:=List.Pairwise.filter _ (zue m);have hs:((zoz m).mergeSort (fun x y=>decide (x<=y))).Pairwise (fun x y=>decide (x<=y)=true):=List.pairwise_mergeSort (fun a b c h1 h2=>by simp at *;omega) (fun a b=>by simp;omega) _;have hn2:=hp.nodup_iff.2 hnd;refine zFn ?_ (zuG m) (fun x=>?_);exact(hs.and hn2).imp (fun⟨h1,h2⟩=>by simp at h1;omega);rw[hp.mem_iff,zdP h];unfold zoz zjE;rw[List.mem_filter,ztb h,decide_eq_true_iff,zzL]
def zKO:∀ args w,(callFunc 117 args).run prog w=.ok (.enter 117 args) w:=enters_of func117 (by kernel_rfl) rfl
def zBY {W:World}{p g n x:Nat}{b:Bool}(h1:W.cell? ⟨p,0,none⟩=some (.slice (some ⟨g,0,none⟩) n n))(h2:W.cell? ⟨g,x,none⟩=some (.bool b))(hx:x<n) :
  FnGives prog 117 #[.pointer (some ⟨p,0,none⟩)] #[.int .i64 (x:Int)] (.bool (!b)) W:=by
 have n1:(0:Int)<=(x:Int):=by omega
 have n2:(x:Int)<(n:Int):=by omega
 unfold FnGives;show Calls prog 117 #[.int .i64 (x:Int),.pointer (some ⟨p,0,none⟩)] W _;go_enter func117,ntmps117;go_wp2
 all_goals (go_ret;exact⟨by simp_all,0,rfl⟩)
structure Ends (W:World)(p g n:Nat)(o:List Nat):Prop where
 var:W.cell? ⟨p,0,none⟩=some (.slice (some ⟨g,0,none⟩) n n)
 row:zcG W g (bv (zeb n o))
 hp:p<W.heap.size
def zkE (n:Nat)(x:Fin n):Value:=.int .i64 (x.val:Int)
def Ends.gives {W W':World}{p g n:Nat}{o:List Nat}(h:Ends W p g n o)(x:Fin n)(h1:W'.cell? ⟨p,0,none⟩=W.cell? ⟨p,0,none⟩)(h2:∀ j,W'.cell? ⟨g,j,none⟩=W.cell? ⟨g,j,none⟩) :
  FnGives prog 117 #[.pointer (some ⟨p,0,none⟩)] #[zkE n x] (.bool (!decide (x.val∈o))) W' :=
 zBY (h1.trans h.var) ((h2 _).trans (by rw[h.row.cell];exact zwG _ _ _ (zgY x.isLt))) x.isLt
def Ends.pred {W:World}{p g n:Nat}{o:List Nat}(h:Ends W p g n o):PredAt prog 117 #[.pointer (some ⟨p,0,none⟩)] (zkE n) (fun x => !decide (x.val∈o)) W :=
 fun W' x hb=>h.gives x (hb.cell (p:=⟨p,0,none⟩) h.hp) (fun j=>hb.cell (p:=⟨g,j,none⟩) h.row.lt)
def Ends.over {n:Nat}[Inhabited (Fin n)]{W:World}{p g:Nat}{o:List Nat}(h:Ends W p g n o){blk off size:Nat}(hp:p≠blk)(hg:g≠blk):PredOver prog 117 #[.pointer (some ⟨p,0,none⟩)] (zkE n) (fun x => !decide (x.val∈o)) blk off size W :=
 fun q os dk x _=>by
  have hgr:W.grownBy (sortWorld (zkE n) W blk off q dk os) (some blk):=zjH (zkE n) W blk off q dk os;exact h.gives x (World.cell?_of_block (hgr.block p h.hp (by simp;omega))) (fun j=>World.cell?_of_block (hgr.block g h.row.lt (by simp;omega)))
open Go.RowKit
def zeQ (w:World)(g off:Nat)(l:List Nat):Prop:=∀ (j x:Nat),l[j]?=some x->w.cell? ⟨g,off+j,none⟩=some (.int .i64 (x:Int))/\w.frozen? ⟨g,off+j,none⟩=false
def QAt.holdsN {w:World}{B:Nat}{v:Value}{q:List Nat}(h:QAt w B v q)(hq:q≠[]):∃ g off cap,v=.slice (some ⟨g,off,none⟩) q.length cap/\B<=g/\g<w.heap.size/\q.length<=cap/\zeQ w g off q:=by
 obtain⟨a,cap,hv,⟨h0,_⟩|⟨g,off,cur,ha,hB,hh,hc,ho,hx⟩⟩:=h;exact absurd h0 hq;subst ha;exact⟨g,off,cap,hv,hB,(zqad.1 hh).1,hc,fun j x hj=>⟨by rw[zqbw w g _ _ _ (0,0) hh];exact hx j x hj,zqbx w g _ _ _ hh⟩⟩
def zeQ.below {w w':World}{B g off:Nat}{l:List Nat}(h:zeQ w g off l)(hb:Below B w w')(hg:g<B):zeQ w' g off l:=fun j x hx =>
 ⟨(World.cell?_of_block (hb.block g hg)).trans (h j x hx).1,(World.frozen?_of_block (hb.block g hg)).trans (h j x hx).2⟩
def zFK {n:Nat}[Inhabited (Fin n)]{w:World}{g off:Nat}{l:List Nat}(h:zeQ w g off l){d:List (Fin n)}(hd:d.map Fin.val=l):Go.Sort.Holds (zkE n) w g off d.toArray:=by
 intro j hj;have hj2:j<d.length:=by simpa using hj
 have hx:l[j]?=some (d[j]).val:=by rw[<- hd,zqaj,zqac hj2];rfl
 have he:d.toArray[j]! = d[j]:=by
  rw[getElem!_pos d.toArray j hj];simp
 rw[he];exact h j _ hx
def zBZ {n:Nat}[Inhabited (Fin n)]{w:World}{g off:Nat}{d:List (Fin n)}(h:Go.Sort.Holds (zkE n) w g off d.toArray):zeQ w g off (d.map Fin.val):=by
 intro j x hx;rw[zqaj] at hx;cases hd:d[j]? with
 | none=>rw[hd] at hx;cases hx
 | some y =>
  rw[hd] at hx;cases hx;obtain⟨hj,he⟩:=zqae.1 hd;have:=h j (by simpa using hj)
  have h2:d.toArray[j]! = y:=by
   rw[getElem!_pos d.toArray j (by simpa using hj)];simpa using he
  rw[h2] at this;exact this
def zuh {w:World}{g off:Nat}{l:List Nat}(h:zeQ w g off l):Go.Sort.Holds (Value.int .i64) w g off (l.map (fun x:Nat=>(x:Int))).toArray:=by
 intro j hj;have hj2:j<l.length:=by simpa using hj
 have he:(l.map (fun x:Nat=>(x:Int))).toArray[j]! = ((l[j]:Nat):Int):=by
  rw[getElem!_pos _ j hj];simp
 rw[he];exact h j _ (zqac hj2)
def zCa {w:World}{g off:Nat}{l:List Nat}(h:Go.Sort.Holds (Value.int .i64) w g off (l.map (fun x:Nat=>(x:Int))).toArray):zeQ w g off l:=by
 intro j x hx;obtain⟨hj,hv⟩:=zqae.1 hx;have:=h j (by simpa using hj)
 have he:(l.map (fun x:Nat=>(x:Int))).toArray[j]! = (x:Int):=by
  rw[getElem!_pos _ j (by simpa using hj)];simp[hv]
 rw[he] at this;exact this
def zuL {w:World}{g off cap:Nat}{l:List Nat}(h:zeQ w g off l)(hg:g<w.heap.size):NSl w (.slice (some ⟨g,off,none⟩) l.length cap) l :=
 ⟨_,cap,rfl,by unfold nvL;simp,fun _=>⟨_,rfl,hg,fun j u hu=>by
  unfold nvL at hu;rw[zqaj] at hu;cases hx:l[j]? with
  | none=>rw[hx] at hu;cases hu
  | some x =>
   rw[hx] at hu;cases hu;have hadd:Addr.add ⟨g,off,none⟩ j=⟨g,off+j,none⟩:=by unfold Addr.add;split <;> simp_all
   rw[hadd];exact(h j x hx).1⟩⟩
def zxk {n:Nat}:∀ {l:List Nat},(∀ x∈l,x<n)->∃ d:List (Fin n),d.map Fin.val=l
 | [],_=>⟨[],rfl⟩
 | x::l,h=>by
  obtain⟨d,hd⟩:=zxk (l:=l) (fun y hy=>h y (by simp[hy]));exact⟨⟨x,h x (by simp)⟩::d,by simp[hd]⟩
def zFL:∀ w,(zeroValue 3).run prog w=.ok (.int .i64 0) w:=fun w=>by kernel_rfl
def zKP (blk off cap:Nat)(k:List Nat)(w:World)(e:Ending)(w':World):Prop:=e=.returned (.slice (some ⟨blk,off,none⟩) k.length cap)/\zeQ w' blk off k/\w.grownBy w' (some blk)
def zCb {w:World}{p gm n blk off cap:Nat}{l o:List Nat}(hE:Ends w p gm n o)(hl:∀ x∈l,x<n)(hn:0<n)(hH:zeQ w blk off l)(hp:p≠blk)(hg:gm≠blk)(hcap:l.length<=cap)(hsz:l.length<=1000000) :
  Calls prog 116 #[.slice (some ⟨blk,off,none⟩) l.length cap,.func (.func 117) #[] #[.pointer (some ⟨p,0,none⟩)]] w (zKP blk off cap (l.filter (fun x=>decide (x∈o))) w):=by
 obtain⟨d,hd⟩:=zxk hl
 letI:Inhabited (Fin n):=⟨⟨0,hn⟩⟩
 have zN:d.length=l.length:=by rw[<- hd,zqbn]
 have hH2:=zFK hH hd;have h:=Tryz.slices_DeleteFunc (zkE n) (fun _=>rfl) (fun x => !decide (x.val∈o)) 117 #[.pointer (some ⟨p,0,none⟩)] zKO ⟨0,hn⟩ zFL blk off cap d.toArray w hE.pred (hE.over hp hg) hH2 (by simp;omega) (by simp;omega);have hsz2:d.toArray.size=l.length:=by simp[zN]
 rw[hsz2] at h;refine h.mono ?_;rintro e w' ⟨rfl,q,rfl⟩
 have hk:(d.filter (fun x => !!decide (x.val∈o))).map Fin.val=l.filter (fun x=>decide (x∈o)):=by
  rw[<- hd,List.filter_map];congr 1;apply List.filter_congr;intro x _;simp[Function.comp]
 have hkl:(d.filter (fun x => !!decide (x.val∈o))).length=(l.filter (fun x=>decide (x∈o))).length:=by rw[<- hk,zqbn]
 refine⟨by show Ending.returned (.slice _ (d.filter _).length cap)=_;rw[hkl],?_,?_⟩
 ·have hP:=Go.Sort.holds_putRow (zkE n) (Go.Sort.ahead w q) blk off d.toArray ((d.filter (fun x:Fin n => !!decide (x.val∈o)))++List.replicate (d.toArray.size-(d.filter (fun x:Fin n => !!decide (x.val∈o))).length) (⟨0,hn⟩:Fin n)).toArray hH2 (by
   have:=List.length_filter_le (fun x => !!decide (x.val∈o)) d;simp at this ⊢;omega)
  have h2:=zBZ hP;intro j x hx;rw[<- hk] at hx
  have:=h2 j x (by
   rw[List.map_append,zqal (by rw[zqbn];have:=(zqae.1 hx).1;rw[zqbn] at this;exact this)];exact hx)
  rw[hsz2] at this;exact this
 exact zjH (zkE n) w blk off q _ #[]
def zFM (blk off:Nat)(k:List Nat)(w:World)(e:Ending)(w':World):Prop:=e=.returned (.tuple #[])/\zeQ w' blk off k/\w.grownBy w' (some blk)
def zIT {w:World}{blk off cap:Nat}{l:List Nat}(hH:zeQ w blk off l)(hb:blk<w.heap.size)(hsz:l.length<=1000000) :
  Calls prog 118 #[.slice (some ⟨blk,off,none⟩) l.length cap] w (zFM blk off (l.mergeSort (fun x y=>decide (x<=y))) w):=by
 have h:=Tryz.slices_Sort_int blk off cap (l.map (fun x:Nat=>(x:Int))) w (zuh hH) hb (by simp;omega);rw[zqbn] at h;refine h.mono ?_;rintro e w' ⟨rfl,q,os,rfl⟩
 have hms:(l.map (fun x:Nat=>(x:Int))).mergeSort (fun x y=>decide (x<=y))=(l.mergeSort (fun x y=>decide (x<=y))).map (fun x:Nat=>(x:Int)):=by
  symm
  apply List.map_mergeSort;intro a _ b _;simp
 rw[hms];refine⟨rfl,?_,zjH _ w blk off q _ os⟩;have hP:=Go.Sort.holds_putRow (Value.int .i64) (Go.Sort.ahead w q) blk off (l.map (fun x:Nat=>(x:Int))).toArray ((l.mergeSort (fun x y=>decide (x<=y))).map (fun x:Nat=>(x:Int))).toArray (zuh hH) (by simp);exact zCa (Go.Sort.holds_grow _ _ os blk off _ (by simpa using hb) hP)
open Go.RowKit
def zKQ (l:List Nat)(w:World)(e:Ending)(w':World):Prop:=∃ v,e=.returned v/\NSl w' v l/\w.grownBy w' none
def zry {w W:World}{p:Nat}{A:Option Addr}{cap:Nat}{us:List Value}{v:Value}{m:zaj}(hm:Small m)(hst:zeg w A us m.states)(hb:Below w.heap.size w W)(hbx:zas W p m (.slice A m.states.length cap))(hv:NSl W v [m.start.toNat]) :
  Calls prog 113 #[.int .i64 (m.states.length:Int),v,.func (.func 155) #[] #[.pointer (some ⟨p,0,none⟩)]] W (zBE (zjJ m) W):=by
 have hst0:m.start.toNat<m.states.length:=zlV hm.wf (.start rfl);exact zru zys (zBD hbx (hst.below hb) hm) (Below.refl _ _) hv hm.n (fun x hx=>by simp at hx;omega) (zig hm.wf) (by simp)
def zCc {W:World}{p:Nat}{v:Value}{m:zaj}(hm:Small m)(hbk:zlb W p m.states.length (zbn m))(hv:NSl W v (zfx m m.states.length)) :
  Calls prog 113 #[.int .i64 (m.states.length:Int),v,.func (.func 156) #[] #[.pointer (some ⟨p,0,none⟩)]] W (zBE (zeP m) W):=by
 have hl:∀ x,(zbn m x).length<=1000000000:=fun x=>by
  have h:=zxf hm m.states.length 0 x;rw[zua] at h;exact zqam h (zqam (Nat.mul_le_mul_right _ (by have:=hm.n;omega:m.states.length+1<=3001)) (by decide))
 exact zru zyz (zBT hbk hm hl) (Below.refl _ _) hv hm.n (fun x hx=>(zlY.1 hx).1) zhu (by have:=zxj m m.states.length;have:=hm.n;omega)
def QAt.nsl {w:World}{B:Nat}{v:Value}{q:List Nat}(h:QAt w B v q):NSl w v q:=by
 obtain⟨a,cap,hv,⟨h0,_⟩|⟨g,off,cur,ha,hB,hh,hc,ho,hq⟩⟩:=h
 ·subst h0
  exact⟨a,cap,hv,rfl,fun h=>by simp at h⟩
 refine⟨a,cap,hv,by unfold nvL;simp,fun _=>⟨_,ha,(zqad.1 hh).1,fun j u hu=>?_⟩⟩;unfold nvL at hu;rw[zqaj] at hu;cases hx:q[j]? with
 | none=>rw[hx] at hu;cases hu
 | some x =>
  rw[hx] at hu;cases hu;have hadd:Addr.add ⟨g,off,none⟩ j=⟨g,off+j,none⟩:=by unfold Addr.add;split <;> simp_all
  rw[hadd,zqbw w g _ _ _ (0,0) hh];exact hq j x hx
def QAt.mono {w:World}{B B':Nat}{v:Value}{q:List Nat}(h:QAt w B v q)(hB:B'<=B):QAt w B' v q:=by
 obtain⟨a,cap,hv,h3|⟨g3,off3,cur3,k1,k2,k3⟩⟩:=h;exact⟨a,cap,hv,.inl h3⟩;exact⟨a,cap,hv,.inr ⟨g3,off3,cur3,k1,by omega,k3⟩⟩
def zui (w:World)(x:Value):(w.alloc (.cells #[x] 3)).cell? ⟨w.heap.size,0,none⟩=some x:=by
 have h:(w.alloc (.cells #[x] 3)).heap[w.heap.size]?=some (.cells #[x] 3 (0,0)):=by
  exact zQaV
 rw[zqbw _ w.heap.size 0 _ _ (0,0) h];rfl
def zFN (w:World)(x:Value):(w.alloc (.cells #[x] 3)).drew.cell? ⟨w.heap.size,0,none⟩=some x:=zui w x
def zzM {w:World}{g x:Nat}(h:w.cell? ⟨g,0,none⟩=some (.int .i64 (x:Int)))(hg:g<w.heap.size):NSl w (.slice (some ⟨g,0,none⟩) 1 1) [x] :=
 ⟨_,_,rfl,rfl,fun _=>⟨_,rfl,hg,fun j u hu=>by
  cases j with
  | zero=>cases hu;exact h
  | succ j=>simp[nvL] at hu⟩⟩
def zCd {w:World}{v:Value}{m:zaj}(hv:zbJ w v m)(hm:Small m):Calls prog 88 #[v] w (zKQ (usefulL m) w):=by
 have hv0:=hv;obtain⟨u,rfl,hst0⟩:=hv;obtain⟨A,cap,us,rfl,hS0⟩:=zeg.of hst0;have hg:w.grownBy (w.alloc (.cells #[.int .i64 m.kind,.int .i64 m.start,.string m.lead,.slice A m.states.length cap] 24)) none:=zGA _ _ _;have hbx:=zas.new w m (.slice A m.states.length cap);have HS:=zHd hS0;have HBX:=zHd hbx;have HG:=zHd hg;have HM:=zHd hm;have HV:=zHd hv0;have hn3:=hm.n;obtain⟨x0,x1,x2,x3⟩:=hbx.cells;have e1:(w.alloc (.cells #[.int .i64 m.kind,.int .i64 m.start,.string m.lead,.slice A m.states.length cap] 24)).heap.size=w.heap.size+1:=by simp
 clear hbx hg hst0 hS0 hm hv0;go_enter func88,ntmps88;go_wp2;generalize hW:w.alloc (.cells #[.int .i64 m.kind,.int .i64 m.start,.string m.lead,.slice A m.states.length cap] 24)=W at *;clear hW x0 x1 x2 x3
 go_loopw [3,15] (fun fv i wr=>∃ k:Nat,i=.int .i64 k/\k<=m.states.length/\QAt wr (w.heap.size+1) fv (zfx m k)/\W.grownBy wr none) (fun _ i _=>m.states.length-(intOf i).toNat)
 case atStart=>exact⟨0,rfl,by omega,QAt.nil _ _,World.grownBy.refl _ _⟩
 case round =>
  obtain⟨k,rfl,hk,hq,hgr⟩:=hrel
  rename_i fv
  have HQ:=zHd hq;have HGR:=zHd hgr;clear hq hgr
  by_cases hlt:k<m.states.length
  ·obtain⟨ad,s,B,cb,hA,hs,hu,hc,hra⟩:=(HS.out.below (zbb (zaa HG.out HGR.out))).at_ hlt
   subst hA;obtain⟨z0,z1⟩:=hc;have n1:(k:Int)<(m.states.length:Int):=by omega
   have n2:IntKind.i64.wrap ((k:Int)+1)=(k:Int)+1:=by rw[zqah];omega
   have hga:=zGA wr (.cells #[.string s.fin,.slice B s.arcs.length cb] 40) none;have HQ2:=zHd (HQ.out.grown hga (by simp));have HG2:=zHd (zaa HGR.out hga);have hfb:znH m k=(s.fin.size != 0):=by unfold znH;rw[zhR hs]
   have hnx:=zFG m k;have hfl:=zxj m k;have hsz:w.heap.size+1<=wr.heap.size:=by have:=HGR.out.size;omega
   clear hu hra hga
   by_cases hf0:s.fin.size=0
   ·have b1:(s.fin.toList==[])=true:=by rw[Lib.toList_data,beq_iff_eq,<- List.length_eq_zero_iff,zqbs];exact hf0
    have b2:(s.fin.toList != [])=false:=zla b1;have he:zfx m (k+1)=zfx m k:=(by rw[hnx,hfb];simp[hf0]);have HE:=zHd he;clear he hnx hfb hs;go_wp2
    go_roundw
    case rel=>exact⟨k+1,by go_num,by omega,by rw[HE.out];exact HQ2.out,HG2.out⟩
    case measure=>simp[intOf];omega
   have b1:(s.fin.toList==[])=false:=by
    cases h:(s.fin.toList==[]);rfl;exact zQbb
   have b2:(s.fin.toList != [])=true:=zfK b1;have he:zfx m (k+1)=zfx m k++[k]:=(by rw[hnx,hfb];simp[hf0]);have HE:=zHd he;clear he hnx hfb hs;have HQ3:=zHd (HQ2.out.grown (zGA (wr.alloc (.cells #[.string s.fin,.slice B s.arcs.length cb] 40)) (.cells #[.int .i64 (k:Int)] 3) none) (by simp));go_wp2_with (at_builtin;refine zoS HQ3.out (by simp;omega) rfl _ _ rfl rfl _ _ k rfl ?ca (by omega) ?_)
   case ca =>
    have:=ztO (wr.alloc (.cells #[.string s.fin,.slice B s.arcs.length cb] 40)) k;simp only[World.size_alloc] at this ⊢
    first|exact this|simpa using this
   intro v' w5 hq5 hb5;have HQ5:=zHd hq5;have HG5:=zHd (zbe (((zbb HG2.out).trans ((zbb (zGA (wr.alloc (.cells #[.string s.fin,.slice B s.arcs.length cb] 40)) (.cells #[.int .i64 (k:Int)] 3) none)).mono (by simp;omega))).trans (hb5.mono (by omega))));clear hq5 hb5 z0 z1;go_wp2
   go_roundw
   case rel=>exact⟨k+1,by go_num,by omega,by rw[HE.out];exact HQ5.out,HG5.out⟩
   case measure=>simp[intOf];omega
  have n1:¬ (k:Int)<(m.states.length:Int):=by omega
  have hke:k=m.states.length:=by omega
  subst hke;have hbx2:=(HBX.out.grown HGR.out);obtain⟨y0,y1,y2,y3⟩:=hbx2.cells;have HB2:=zHd (zbb (zaa HG.out HGR.out));have HF:=zHd HQ.out.nsl;clear hbx2;have HSC:Hid (m.start=(m.start.toNat:Int)):=zHd (by have:=HM.out.wf.start;omega);have hs1:w.heap.size+1<=wr.heap.size:=by have:=HGR.out.size;omega
  generalize wr=w4 at *;go_upto_region 8 with(fail)
  go_cut [6] from 28 to 36 (fun b wx=>QAt wx (w.heap.size+1) b (zjJ m)/\w4.grownBy wx none)
  case first =>
   have d0:w4.drew.cell? ⟨w.heap.size,0,none⟩=some (.int .i64 m.kind):=y0;have d1:w4.drew.cell? ⟨w.heap.size,1,none⟩=some (.int .i64 m.start):=y1;have d2:w4.drew.cell? ⟨w.heap.size,2,none⟩=some (.string m.lead):=y2;have d3:w4.drew.cell? ⟨w.heap.size,3,none⟩=some (.slice A m.states.length cap):=y3;have q0:=World.new_ne w4 _ y0
   go_region_held3 (fun W'=>W'.cell? ⟨w.heap.size,0,none⟩=some (.int .i64 m.kind)/\W'.cell? ⟨w.heap.size,1,none⟩=some (.int .i64 m.start)/\W'.cell? ⟨w.heap.size,2,none⟩=some (.string m.lead)/\W'.cell? ⟨w.heap.size,3,none⟩=some (.slice A m.states.length cap)) (go_keep)
    (first
     | (go_at_call 114;refine zsX.mono ?_;rintro e w5 ⟨rfl,hbx5,hg5⟩;have s0:=hg5.cell (by first|exact d0|exact(zGA _ _ none).cell d0 (by simp)) (by simp);have s1:=hg5.cell (by first|exact d1|exact(zGA _ _ none).cell d1 (by simp)) (by simp);have s2:=hg5.cell (by first|exact d2|exact(zGA _ _ none).cell d2 (by simp)) (by simp);have s3:=hg5.cell (by first|exact d3|exact(zGA _ _ none).cell d3 (by simp)) (by simp);have q5:=World.new_ne w5 _ s0)
     | (go_at_call 113
        first
         | (refine(zry (W:=w5) HM.out HS.out (HB2.out.trans ((zbb (zaa (zaa (zGA w4 _ none) (zaf _ none)) hg5)).mono HB2.out.size)) (by simpa using hbx5) (zzM (by rw[<- HSC.out];exact hg5.cell (zFN w4 _) (by simp)) (by have:=hg5.size;simp at this;omega))).mono ?_
            rintro e w6 ⟨v6,rfl,hq6,hg6⟩;have hgg:=zaa (zaa (zaa (zGA w4 _ none) (zaf _ none)) hg5) hg6;have p0:=hg6.cell s0 (by simp);have p1:=hg6.cell s1 (by simp);have p2:=hg6.cell s2 (by simp);have p3:=hg6.cell s3 (by simp))
         | (refine(zry (W:=w5.alloc (.cells #[.int .i64 m.start] 3)) HM.out HS.out (HB2.out.trans ((zbb (zaa (zaa (zaf w4 none) hg5) (zGA w5 _ none))).mono HB2.out.size)) (zas.grown (by simpa using hbx5) (zGA w5 _ none)) (zzM (by rw[<- HSC.out];exact zui w5 _) (by simp))).mono ?_
            rintro e w6 ⟨v6,rfl,hq6,hg6⟩;have hgg:=zaa (zaa (zaa (zaf w4 none) hg5) (zGA w5 _ none)) hg6;have hg7:=zaa (zGA w5 (.cells #[.int .i64 m.start] 3) none) hg6;have p0:=hg7.cell s0 (by simp);have p1:=hg7.cell s1 (by simp);have p2:=hg7.cell s2 (by simp);have p3:=hg7.cell s3 (by simp))
        have HGG:=zHd hgg;have HQ6:=zHd hq6))
   all_goals
    go_wp2_with (fail)
    go_meet
    case rel=>exact⟨HQ6.out.mono (by (try simp);first|omega|(have:=hg5.size;simp at this;omega)),HGG.out⟩
  case rest =>
   obtain⟨hq6,hg6⟩:=hcut;generalize wc=w6 at *;have HQ6:=zHd hq6;have hbx3:=(HBX.out.grown HGR.out).grown hg6;have HG6:=zHd (zaa HGR.out hg6);have HF6:=zHd (HF.out.grown hg6);have HV6:=zHd (HV.out.grown (zaa HG.out (zaa HGR.out hg6)));have HS6:=zHd hs1;have hs2:w.heap.size+1<=w6.heap.size:=(by have:=hg6.size;omega);clear y0 y1 y2 y3 hq6 hg6;obtain⟨y0,y1,y2,y3⟩:=hbx3.cells;clear hbx3;go_upto_region 9 with(fail);have d0:w6.drew.cell? ⟨w.heap.size,0,none⟩=some (.int .i64 m.kind):=y0;have d1:w6.drew.cell? ⟨w.heap.size,1,none⟩=some (.int .i64 m.start):=y1;have d2:w6.drew.cell? ⟨w.heap.size,2,none⟩=some (.string m.lead):=y2;have d3:w6.drew.cell? ⟨w.heap.size,3,none⟩=some (.slice A m.states.length cap):=y3;have HP:=zHd (zpL (HV6.out.grown (zaf w6 none)) HM.out)
   go_region_held3 (fun W'=>W'.cell? ⟨w.heap.size,0,none⟩=some (.int .i64 m.kind)/\W'.cell? ⟨w.heap.size,1,none⟩=some (.int .i64 m.start)/\W'.cell? ⟨w.heap.size,2,none⟩=some (.string m.lead)/\W'.cell? ⟨w.heap.size,3,none⟩=some (.slice A m.states.length cap)) (go_keep)
    (first
     | (go_at_call 115;refine HP.out.mono ?_;rintro e w7 ⟨p7,rfl,hbk7,hg7⟩;have s0:=hg7.cell d0 (by simp);have s1:=hg7.cell d1 (by simp);have s2:=hg7.cell d2 (by simp);have s3:=hg7.cell d3 (by simp))
     | (go_at_call 113
        refine(zCc HM.out hbk7 (HF6.out.grown (zaa (zaf w6 none) hg7))).mono ?_;rintro e w8 ⟨v8,rfl,hq8,hg8⟩;have p0:=hg8.cell s0 (by simp);have p1:=hg8.cell s1 (by simp);have p2:=hg8.cell s2 (by simp);have p3:=hg8.cell s3 (by simp)))
   have hg9:=zaa (zaa (zaf w6 none) hg7) hg8;have HQ8:=zHd (hq8.mono (show 0<=w7.heap.size by omega));have HQ9:=zHd (HQ6.out.grown hg9 (by simp));have HG9:=zHd (zaa HG6.out hg9);have hs3:w.heap.size+1<=w8.heap.size:=(by have:=hg9.size;omega);have HBX9:=zHd ((HBX.out.grown HG9.out));clear d0 d1 d2 d3 s0 s1 s2 s3 y0 y1 y2 y3 hbk7 hg7 hq8 hg8 hg9;have hne:zjJ m≠[]:=List.ne_nil_of_mem (zFI HM.out.wf);obtain⟨gf,off,capf,hv6,hgfB,hgf,hcapf,hHN⟩:=HQ9.out.holdsN hne;subst hv6;obtain⟨a8,c8,hv8,hr8⟩:=HQ8.out.nsl;subst hv8;have HR8:=zHd hr8;have HHN:=zHd hHN;have hfl:=short_list (zue m) (zuf HM.out.wf);have hbl:=short_list (zFH m) (zug (m:=m));obtain⟨y0,y1,y2,y3⟩:=HBX9.out.cells;obtain⟨i0,hi,hz0,hz1,hz2⟩:=zdo zrt;clear hr8 hHN hne;go_wp2_with (at_make;refine wpList_make_full _ rfl _ _ 135 rfl w8.heap.size 4 i0 (.bool false) 1 underlying135 hi hz0 hz1 _ _ _ _ m.states.length rfl rfl rfl rfl (by rw[hz2];omega) (by unfold maxLen;omega) (zqab _) ?_);intro w9 zO hgr;rw[znq] at zO;have hga:=zGA w9 (.cells #[.slice (some ⟨w8.heap.size,0,none⟩) m.states.length m.states.length] 135) none;have hc9:=zcG.of_full zO;rw[<- ztW] at hc9;have hlt9:=hc9.lt;have HC9:=zHd (show zcG _ w8.heap.size _ from(hga.block _ hc9.lt (by simp)).trans hc9)
   have hpv:(w9.alloc (.cells #[.slice (some ⟨w8.heap.size,0,none⟩) m.states.length m.states.length] 135)).heap[w9.heap.size]?=some (.cells #[.slice (some ⟨w8.heap.size,0,none⟩) m.states.length m.states.length] 135 (0,0)):=by
    show(w9.heap.push _)[w9.heap.size]?=_;rw[zqaz]
   have HPV:=zHd hpv;have HB9:=zHd (zbb (zaa hgr hga));clear zO hgr hga hc9 hpv y0 y1 y2 y3;go_wp2;generalize hW:w9.alloc (.cells #[.slice (some ⟨w8.heap.size,0,none⟩) m.states.length m.states.length] 135)=W9 at *;clear hW
   go_loopw [50] (fun i wr=>∃ j:Nat,i=.int .i64 j/\j<=(zeP m).length/\zcG wr w8.heap.size (bv (zeb m.states.length ((zeP m).take j)))/\wr.heap[w9.heap.size]?=some (.cells #[.slice (some ⟨w8.heap.size,0,none⟩) m.states.length m.states.length] 135 (0,0))/\Below w8.heap.size w8 wr) (fun i _=>(zeP m).length-(intOf i).toNat)
   case atStart=>exact⟨0,rfl,by omega,HC9.out,HPV.out,HB9.out⟩
   case round =>
    obtain⟨j,rfl,hj,hc,hpv,hb⟩:=hrel;have HC:=zHd hc;have HPV2:=zHd hpv;have HB:=zHd hb;obtain⟨x0,_⟩:=one_cell hpv;clear hpv
    by_cases hjl:j<(zeP m).length
    ·obtain⟨ad,x,hA,hx,hcx⟩:=zix ((HR8.out.below HB.out).more HB.out.size) hjl
     subst hA;have hxn:x<m.states.length:=zug x (zqak hx);have n1:(j:Int)<((zeP m).length:Int):=(by omega);have n2:IntKind.i64.wrap ((j:Int)+1)=(j:Int)+1:=(by rw[zqah];omega);have n3:(0:Int)<=(x:Int):=(by omega);have n4:(x:Int)<(m.states.length:Int):=(by omega);have hst:(zeb m.states.length ((zeP m).take j)).set x true=zeb m.states.length ((zeP m).take (j+1)):=(by rw[ztV hxn,zcA hx]);have HST:=zHd hst;have hfr:=hc.free x;have c0:wr.cell? ⟨w8.heap.size,x,none⟩=some (.bool (decide (x∈(zeP m).take j))):=(by rw[hc.cell];exact zwG _ _ _ (zgY hxn));have hcs:=hc.set x (.bool true);rw[show(bv (zeb m.states.length ((zeP m).take j))).set x (.bool true)=bv ((zeb m.states.length ((zeP m).take j)).set x true) by unfold bv;rw[List.map_set],hst] at hcs;have HCS:=zHd hcs;have gs:=zac wr ⟨w8.heap.size,x,none⟩ (.bool true);have HP3:=zHd ((gs.block w9.heap.size (lt_of_block HPV2.out) (by simp;omega)).trans HPV2.out);have HB3:=zHd (HB.out.grown gs HB.out.size (fun b e=>by cases e;exact zqab _));clear hst hx hc hcs gs hb;go_wp2
     go_roundw
     case rel=>exact⟨j+1,by go_num,by omega,HCS.out,HP3.out,HB3.out⟩
     case measure=>simp[intOf];omega
    have n1:¬ (j:Int)<((zeP m).length:Int):=(by omega);have hce:=HC.out;rw[zqaf (by omega)] at hce;have HE:Hid (Ends wr w9.heap.size w8.heap.size m.states.length (zeP m)):=zHd ⟨x0,hce,lt_of_block HPV2.out⟩;have hH2:=HHN.out.below HB.out hgf;have HDEL:=zHd (zCb HE.out (zuf HM.out.wf) (by have:=HM.out.wf.start;omega) hH2 (by omega) (by omega) hcapf (by omega));have HB4:=zHd (zbe (((zbb (zaa HG.out HG9.out)).trans (HB.out.mono (by omega)))));clear hc hce hH2 hb;go_wp2_with fail;refine HDEL.out.mono ?_;rintro e w10 ⟨rfl,hk10,hg10⟩;have hb10:gf<w10.heap.size:=(by have:=hg10.size;have:=HB.out.size;omega);have HK:=zHd hk10;have HSO:=zHd (zIT (cap:=capf) hk10 hb10 (by have:=List.length_filter_le (fun x=>decide (x∈zeP m)) (zjJ m);omega));have HG10:=zHd (zak (g:=gf) HB4.out hg10 (by omega));clear hk10 hg10;go_wp2_with fail;refine HSO.out.mono ?_;rintro e w11 ⟨rfl,hk11,hg11⟩;have hks:=zFJ HM.out.wf;unfold zoz at hks;have hkl:((zjJ m).filter (fun x=>decide (x∈zeP m))).length=(usefulL m).length:=(by rw[<- hks,List.length_mergeSort]);rw[hks] at hk11;have hns:=zuL (cap:=capf) hk11 (by have:=hg11.size;omega);rw[<- hkl] at hns;have HNS:=zHd hns;have HG11:=zHd (zak (g:=gf) HG10.out hg11 (by omega));clear hk11 hg11 hks hkl hns;go_wp2;go_ret;exact⟨_,rfl,HNS.out,HG11.out⟩
noncomputable def trimM (m:zaj):zaj:=trimW (zcr m.kind) m
def zgZ {m:zaj}(h:usefulL m=[]):trimM m=zcr m.kind:=by unfold trimM trimW;rw[if_pos h]
def zfi {m:zaj}(h:usefulL m≠[]):trimM m=zbd m (usefulL m):=by unfold trimM trimW;rw[if_neg h]
def zlZ (m:zaj):(trimM m).kind=m.kind:=by
 by_cases h:usefulL m=[]
 rw[zgZ h];rfl;rw[zfi h];rfl
def zhW {m:zaj}(h:validB m=true):Wf m:=by
 obtain⟨_,_,_,h1,h2,_⟩:=zep (zfe h);refine⟨⟨h1,h2⟩,fun s hs a ha=>?_⟩;obtain⟨k,hk⟩:=List.mem_iff_getElem?.1 hs;have:=zgW ((zfq (zfM h hk)).2 a ha);exact⟨this.2.2.2.2.1,this.2.2.2.2.2.1⟩
def zyB {m:zaj}(h:validB m=true){s:zah}(hs:s∈m.states):finB m.kind s.fin=true/\∀ a∈s.arcs,arcB m.kind m.states.length a=true:=by
 obtain⟨k,hk⟩:=List.mem_iff_getElem?.1 hs;exact zfq (zfM h hk)
def zFO {k:Int}{n n':Nat}{a a':zaI}(h:arcB k n a=true)(hi:a'.i=a.i)(ho:a'.o=a.o)(hw:a'.w=a.w)(ht:0<=a'.t/\a'.t<(n':Int)):arcB k n' a'=true:=by
 obtain⟨h1,h2,h3,h4,h5,h6,h7⟩:=zgW h;unfold arcB;rw[hi,ho,hw,h7];simp only[Bool.and_true,zqca];omega
def zIU {m n:zaj}(h:validB m=true)(hk:n.kind=m.kind)(hl:n.lead=m.lead)(h1:1<=n.states.length)(h2:n.states.length<=3000)(hs:0<=n.start/\n.start<(n.states.length:Int))(ha:zap n.states<=30000)
  (hst:∀ s∈n.states,finB m.kind s.fin=true/\∀ a∈s.arcs,arcB m.kind n.states.length a=true):validB n=true:=by
 obtain⟨k1,_,_,_,_,k6⟩:=zep (zfe h);unfold validB headB;rw[hk,hl,k1,k6];simp only[Bool.true_and,Bool.and_true,zqbb,zqca,List.all_eq_true];refine⟨⟨⟨h1,h2,hs⟩,ha⟩,fun s hm=>?_⟩;unfold stB6;rw[(hst s hm).1];simp only[Bool.true_and,List.all_eq_true];exact(hst s hm).2
def zCe {k:Int}(h:zcY k=true):validB (zcr k)=true:=by
 have hk:=(zke k).1 h;have hw:Wgt k (zal k) (ziq k):=⟨zsC hk,by rcases hk with rfl|rfl|rfl <;> decide +kernel⟩;unfold validB headB zcr;simp only[h,zlH hw];simp[zap,stB6,finB]
def zma (f:Nat->Nat):∀ (n:Nat) (l:List Nat),l.Nodup->(∀ x∈l,x<n)->(l.map f).sum<=((List.range n).map f).sum
 | 0,l,_,hb=>by
  cases l with
  | nil=>simp
  | cons x l=>exact absurd (hb x (zqbm ..)) (by omega)
 | n+1,l,hn,hb=>by
  rw[List.range_succ,List.map_append,List.sum_append]
  by_cases h:n∈l
  ·have hp:=List.perm_cons_erase h
   have h1:=(hp.map f).sum_nat;rw[List.map_cons,List.sum_cons] at h1
   have h2:=zma f n (l.erase n) (hn.erase n) (fun x hx=>by
    have h3:=(List.Nodup.mem_erase_iff hn).1 hx;have:=hb x h3.2;have:=h3.1;omega)
   simp only[List.map_cons,List.map_nil,List.sum_cons,List.sum_nil];omega
  have h2:=zma f n l hn (fun x hx=>by
   have:=hb x hx;have:x≠n:=fun e=>h (e▸hx);omega)
  omega
def zxl (m:zaj):(List.range m.states.length).map (zhQ m)=m.states:=by
 apply List.ext_getElem?;intro i;rw[zqaj]
 by_cases h:i<m.states.length
 ·rw[zqbe h]
  have hs:m.states[i]?=some m.states[i]:=zqac h;rw[hs];simp[zhR hs]
 rw[zqas (by simp;omega),zqas (by omega)];rfl
def zyC (m:zaj):zap m.states=((List.range m.states.length).map (fun x=>(zhQ m x).arcs.length)).sum:=by
 conv=>lhs;rw[<- zxl m]
 unfold zap;rw[List.map_map];rfl
def zFP {α:Type}(f g:α->Nat):∀ l:List α,(∀ x∈l,f x<=g x)->(l.map f).sum<=(l.map g).sum
 | [],_=>by simp
 | x::l,h=>by
  have h1:=h x (zqbm ..);have h2:=zFP f g l (fun y hy=>h y (zqao _ hy));simp only[List.map_cons,List.sum_cons];omega
def zIV {m:zaj}{x:Nat}(h:x<m.states.length):zhQ m x∈m.states:=by
 have hs:m.states[x]?=some m.states[x]:=zqac h;rw[zhR hs];exact List.getElem_mem h
def zyD {m:zaj}{l:List Nat}(h:validB m=true)(hn:l.Nodup)(hb:∀ x∈l,x<m.states.length)(hs:m.start.toNat∈l):validB (zbd m l)=true:=by
 obtain⟨_,_,h3,_,_,_⟩:=zep (zfe h);have zN:(zbd m l).states.length=l.length:=zfP m l;have hshort:=zkA hn hb;have hi:=ztU hs;refine zIU h rfl rfl (by rw[zN];omega) (by rw[zN];omega) ⟨by show 0<=((l.idxOf m.start.toNat:Nat):Int);omega,by rw[zN];show((l.idxOf m.start.toNat:Nat):Int)<_;omega⟩ ?_ ?_
 ·refine zqam ?_ (ziT h)
  rw[zyC m];refine zqam ?_ (zma (fun x=>(zhQ m x).arcs.length) m.states.length l hn hb);unfold zap zbd;rw[List.map_map];exact zFP _ _ l (fun x _=>List.length_filterMap_le _ _)
 intro s hm;simp only[zbd,zqbf] at hm;obtain⟨x,hx,rfl⟩:=hm;have hv:=zyB h (zIV (hb x hx));refine⟨hv.1,fun a ha=>?_⟩;simp only[zjF,List.mem_filterMap] at ha;obtain⟨b,hb1,hb2⟩:=ha;unfold zdO at hb2;split at hb2
 ·rename_i hin
  cases hb2;have:=ztU hin;exact zFO (hv.2 b hb1) rfl rfl rfl ⟨by show 0<=((l.idxOf b.t.toNat:Nat):Int);omega,by rw[zN];show((l.idxOf b.t.toNat:Nat):Int)<_;omega⟩
 cases hb2
def znI (m:zaj):∀ x∈usefulL m,x<m.states.length:=fun x hx=>List.mem_range.1 (List.mem_filter.1 hx).1
def zrz {m:zaj}(hw:Wf m)(h:usefulL m≠[]):m.start.toNat∈usefulL m:=by
 rw[zdP hw]
 by_cases hu:zjE m m.start.toNat
 exact hu;exact absurd ((zrs hw).2 hu) h
def zrA {m:zaj}(h:validB m=true):validB (trimM m)=true:=by
 by_cases hu:usefulL m=[]
 ·rw[zgZ hu]
  exact zCe (zep (zfe h)).1
 rw[zfi hu];exact zyD h (znu m) (znI m) (zrz (zhW h) hu)
def bare (s:zah):zah:=⟨ByteArray.empty,s.arcs⟩
open Go.RowKit
def zxm (k:Int)(w:World):Calls prog 89 #[.int .i64 k] w (znp (zcr k) w):=by
 obtain⟨i0,hi,hz0,hz1,hz2⟩:=zdo zzC;have RO:=zHd (zpt k);have hb0:=zas.new w zbm (.slice none 0 0);have hg0:w.grownBy (w.alloc (.cells #[.int .i64 zbm.kind,.int .i64 zbm.start,.string zbm.lead,.slice none 0 0] 24)) none:=zGA _ _ _;have HP:=zHd (zpD hb0 hg0);clear hb0 hg0
 obtain⟨mk,hmk,hmg,hms⟩:∃ mk:World->World,(∀ w:World,(Instr.makeSlice 22 (.int .i64 1) (.int .i64 1)).run prog w=.ok (.slice (some ⟨w.heap.size,0,none⟩) 1 1) (mk w))/\(∀ w:World,w.grownBy (mk w) none)/\∀ w:World,(mk w).heap[w.heap.size]?=some (.cells #[.string ByteArray.empty,.slice none 0 0] 40 (0,0)) :=
  ⟨fun w=>w.alloc (.cells #[.string ByteArray.empty,.slice none 0 0] 40),fun w=>run_makeSlice w 22 40 i0 _ underlying22 hi hz0 .i64 .i64 1 1 (by decide) (by decide) (by rw[hz1];decide) (by rw[hz2];decide) (by decide) |>.trans (by rw[hz1,zKE];rfl),fun w=>zGA _ _ _,fun w=>by show(w.heap.push _)[w.heap.size]?=_;rw[zqaz]⟩
 have HMS:=zHd hms;have HMG:=zHd hmg;clear hms hmg;go_enter func89,ntmps89;go_upto_region 1 with(fail);clear hi hz0 hz1 hz2;have hp:=HP.out.next_drew;unfold Place at hp;obtain⟨hp1,hp2⟩:=hp
 go_region_held3 (fun W'=>True) (trivial)
  (first
   | (go_at_call 66;refine(RO.out _).mono ?_;rintro e w5 ⟨rfl,hg5⟩;have s1:=zlR w hg5 (by first|exact⟨hp1,hp2⟩|exact zlR w (HMG.out _) ⟨hp1,hp2⟩);obtain⟨⟨q0,q1,q2,q3,f0,f1,f2,f3⟩,_⟩:=id s1;have s2:=zlR w (HMG.out w5) s1;obtain⟨⟨r0,r1,r2,r3,e0,e1,e2,e3⟩,_⟩:=id s2))
 ·have P:=zrj (n:=zcr k) (v:=.slice (some ⟨w5.heap.size,0,none⟩) 1 1) s2
  have t3:=ztN ((P.2.2 w5.heap.size (by have:=s1.2.out.1.lt;omega) (zqad.1 (HMS.out w5)).1).trans (HMS.out w5)) (B:=w.heap.size) (by have:=s1.2.out.2.size;omega);simp only[zcr] at P t3;clear hp1 hp2 s1 q0 q1 q2 q3 f0 f1 f2 f3 s2 r0 r1 r2 r3 e0 e1 e2 e3;have T:=zHd t3;have T2:=zHd P.2.1;obtain⟨c0,c1,c2,c3⟩:=P.1.cells;simp only[] at c0 c1 c2 c3;clear P t3;go_wp2_with fail;generalize ((((mk w5).setCell ⟨w.heap.size,0,none⟩ (.int .i64 k)).setCell ⟨w.heap.size,1,none⟩ (.int .i64 0)).setCell ⟨w.heap.size,2,none⟩ (.string (zal k))).setCell ⟨w.heap.size,3,none⟩ (.slice (some ⟨w5.heap.size,0,none⟩) 1 1)=WW at *;exact zqby (v:=.agg #[.int .i64 k,.int .i64 0,.string (zal k),.slice (some ⟨w5.heap.size,0,none⟩) 1 1]) (by simp[results,results89,go_sem,c0,c1,c2,c3]) rfl ⟨_,rfl,⟨_,rfl,T.out⟩,T2.out⟩
 have P:=zrj (n:=zcr k) (v:=.slice (some ⟨w.heap.size+1,0,none⟩) 1 1) s1;have hs:=HMS.out (w.alloc (.cells #[.int .i64 0,.int .i64 0,.string ⟨#[]⟩,.slice none 0 0] 24)).drew;have hs2:=(hg5.block _ (zqad.1 hs).1 (by simp)).trans hs;rw[show(w.alloc (.cells #[.int .i64 0,.int .i64 0,.string ⟨#[]⟩,.slice none 0 0] 24)).drew.heap.size=w.heap.size+1 by simp] at hs2;have t3:=ztN ((P.2.2 (w.heap.size+1) (by omega) (zqad.1 hs2).1).trans hs2) (B:=w.heap.size) (by omega);simp only[zcr] at P t3;clear hs hs2;clear hp1 hp2 s1 q0 q1 q2 q3 f0 f1 f2 f3;have T:=zHd t3;have T2:=zHd P.2.1;obtain⟨c0,c1,c2,c3⟩:=P.1.cells;simp only[] at c0 c1 c2 c3;clear P t3;go_wp2_with fail;generalize (((w5.setCell ⟨w.heap.size,0,none⟩ (.int .i64 k)).setCell ⟨w.heap.size,1,none⟩ (.int .i64 0)).setCell ⟨w.heap.size,2,none⟩ (.string (zal k))).setCell ⟨w.heap.size,3,none⟩ (.slice (some ⟨(w.heap.size+1),0,none⟩) 1 1)=WW at *;exact zqby (v:=.agg #[.int .i64 k,.int .i64 0,.string (zal k),.slice (some ⟨(w.heap.size+1),0,none⟩) 1 1]) (by simp[results,results89,go_sem,c0,c1,c2,c3]) rfl ⟨_,rfl,⟨_,rfl,T.out⟩,T2.out⟩
open Go.RowKit
def zyE {m:zaj}(h:validB m=true):Small m:=⟨zhW h,zFc h,fun s hs=>zFd h hs⟩
def zFQ {w:World}{v:Value}{m:zaj}(hv:zbJ w v m)(hm:Small m):Calls prog 52 #[v] w (znp (trimM m) w):=by
 have hv0:=hv;obtain⟨u,rfl,hst0⟩:=hv;obtain⟨A,cap,us,rfl,hS0⟩:=zeg.of hst0;have hg:w.grownBy (w.alloc (.cells #[.int .i64 m.kind,.int .i64 m.start,.string m.lead,.slice A m.states.length cap] 24)) none:=zGA _ _ _;have hbx:=zas.new w m (.slice A m.states.length cap);have hg2:=zGA (w.alloc (.cells #[.int .i64 m.kind,.int .i64 m.start,.string m.lead,.slice A m.states.length cap] 24)) (.cells #[.int .i64 zbm.kind,.int .i64 zbm.start,.string zbm.lead,.slice none 0 0] 24) none;have hb2:=zas.new (w.alloc (.cells #[.int .i64 m.kind,.int .i64 m.start,.string m.lead,.slice A m.states.length cap] 24)) zbm (.slice none 0 0);have e1:(w.alloc (.cells #[.int .i64 m.kind,.int .i64 m.start,.string m.lead,.slice A m.states.length cap] 24)).heap.size=w.heap.size+1:=by simp
 rw[e1] at hb2;have hsz2:w.heap.size+2<=((w.alloc (.cells #[.int .i64 m.kind,.int .i64 m.start,.string m.lead,.slice A m.states.length cap] 24)).alloc (.cells #[.int .i64 zbm.kind,.int .i64 zbm.start,.string zbm.lead,.slice none 0 0] 24)).heap.size:=by simp
 have HSZ2:=zHd hsz2;have HV0:=zHd hv0;have HB1:=zHd (hbx.grown hg2);have HB2:=zHd hb2;have HG:=zHd (zaa hg hg2);obtain⟨x0,x1,x2,x3⟩:=zas.cells HB1.out;clear hbx hg hst0 hS0 hv0 hg2 hb2 e1 hsz2;have HM:=zHd hm;have HU:=zHd (zCd (HV0.out.grown HG.out) hm);clear hm;go_enter func52,ntmps52;go_wp2_with fail;refine HU.out.mono ?_;rintro e w1 ⟨lv,rfl,hl,hg1⟩;have HL:=zHd hl;obtain⟨Al,capl,rfl,hrl⟩:=hl;have HSZ1:Hid (w.heap.size+2<=w1.heap.size):=zHd (zqam HSZ2.out hg1.size);have HG1:=zHd (zaa HG.out hg1);have HB1a:=zHd (zas.grown HB1.out hg1);have HB2a:=zHd (zas.grown HB2.out hg1);clear hg1 hrl HU HSZ2 HB1 HB2 HG x0 x1 x2 x3;obtain⟨x0,x1,x2,x3⟩:=zas.cells HB1a.out
 by_cases h0:usefulL m=[]
 ·have HT:=zHd (zgZ h0)
  have n0:(usefulL m).length=0:=by rw[h0];rfl
  have HC:=zHd (zxm m.kind w1);clear h0;rw[n0];go_wp2_with fail;refine HC.out.mono ?_;intro e w2 h2;obtain⟨A2,k2,rfl,hsz,hg2⟩:=h2.open6;have hle:=HSZ1.out;have HGZ:=zHd (zaa HG1.out hg2);have hbz:=zas.grown HB2a.out hg2;clear h2 hg2 x0 x1 x2 x3;obtain⟨v0,v1,v2,v3⟩:=hbz.cells;simp only[zbm] at v0 v1 v2;have f0:=hbz.free 0;have f1:=hbz.free 1;have f2:=hbz.free 2;have f3:=hbz.free 3;obtain⟨hbf,hgf⟩:=zhU (n:=(zcr m.kind)) (v:=.slice A2 (zcr m.kind).states.length k2) hbz;have HGF:=zHd (zak (g:=w.heap.size+1) HGZ.out hgf (by omega));have T:=zHd ((hsz.kept (ziu hgf (by omega))).mono (C:=w.heap.size) (by omega));obtain⟨c0,c1,c2,c3⟩:=hbf.cells;clear hsz hbz hbf hgf;go_wp2_with fail;generalize (((w2.setCell ⟨w.heap.size+1,0,none⟩ (.int .i64 (zcr m.kind).kind)).setCell ⟨w.heap.size+1,1,none⟩ (.int .i64 (zcr m.kind).start)).setCell ⟨w.heap.size+1,2,none⟩ (.string (zcr m.kind).lead)).setCell ⟨w.heap.size+1,3,none⟩ (.slice A2 (zcr m.kind).states.length k2)=WW at *;exact zqby (v:=.agg #[.int .i64 (zcr m.kind).kind,.int .i64 (zcr m.kind).start,.string (zcr m.kind).lead,.slice A2 (zcr m.kind).states.length k2]) (by simp[results,results52,go_sem,c0,c1,c2,c3]) rfl ⟨_,rfl,by rw[HT.out];exact⟨_,rfl,T.out⟩,HGF.out⟩
 have HT:=zHd (zfi h0);have n0:¬ (usefulL m).length=0:=fun e=>h0 (List.eq_nil_of_length_eq_zero e);have n1:¬ ((usefulL m).length:Int)=0:=by omega
 have HC:=zHd (zIR (HV0.out.grown HG1.out) HM.out HL.out (znu m) (znI m) (zrz HM.out.wf h0));clear h0;go_wp2_with fail;refine HC.out.mono ?_;intro e w2 h2;obtain⟨A2,k2,rfl,hsz,hg2⟩:=h2.open6;have hle:=HSZ1.out;have HGZ:=zHd (zaa HG1.out hg2);have hbz:=zas.grown HB2a.out hg2;clear h2 hg2 x0 x1 x2 x3;obtain⟨v0,v1,v2,v3⟩:=hbz.cells;simp only[zbm] at v0 v1 v2;have f0:=hbz.free 0;have f1:=hbz.free 1;have f2:=hbz.free 2;have f3:=hbz.free 3;obtain⟨hbf,hgf⟩:=zhU (n:=(zbd m (usefulL m))) (v:=.slice A2 (zbd m (usefulL m)).states.length k2) hbz;have HGF:=zHd (zak (g:=w.heap.size+1) HGZ.out hgf (by omega));have T:=zHd ((hsz.kept (ziu hgf (by omega))).mono (C:=w.heap.size) (by omega));obtain⟨c0,c1,c2,c3⟩:=hbf.cells;clear hsz hbz hbf hgf;go_wp2_with fail;generalize (((w2.setCell ⟨w.heap.size+1,0,none⟩ (.int .i64 (zbd m (usefulL m)).kind)).setCell ⟨w.heap.size+1,1,none⟩ (.int .i64 (zbd m (usefulL m)).start)).setCell ⟨w.heap.size+1,2,none⟩ (.string (zbd m (usefulL m)).lead)).setCell ⟨w.heap.size+1,3,none⟩ (.slice A2 (zbd m (usefulL m)).states.length k2)=WW at *;exact zqby (v:=.agg #[.int .i64 (zbd m (usefulL m)).kind,.int .i64 (zbd m (usefulL m)).start,.string (zbd m (usefulL m)).lead,.slice A2 (zbd m (usefulL m)).states.length k2]) (by simp[results,results52,go_sem,c0,c1,c2,c3]) rfl ⟨_,rfl,by rw[HT.out];exact⟨_,rfl,T.out⟩,HGF.out⟩
noncomputable def trimV (m:zaj):zaj×Int:=if validB m=true then (trimM m,0) else (zbm,1)
def zFR {w:World}{v:Value}{m:zaj}(hv:zbJ w v m)(hf:zdD m):Calls prog 24 #[v] w (zBw (trimV m) w):=by
 have zV:=fun w' (h:w.grownBy w' none)=>zrw (hv.grown h) hf;have HV:=zHd zV;clear zV;have hv0:=hv;obtain⟨u,rfl,hst0⟩:=hv;obtain⟨A,cap,us,rfl,hS0⟩:=zeg.of hst0;have hg:w.grownBy (w.alloc (.cells #[.int .i64 m.kind,.int .i64 m.start,.string m.lead,.slice A m.states.length cap] 24)) none:=zGA _ _ _;have hbx:=zas.new w m (.slice A m.states.length cap);have hg2:=zGA (w.alloc (.cells #[.int .i64 m.kind,.int .i64 m.start,.string m.lead,.slice A m.states.length cap] 24)) (.cells #[.int .i64 zbm.kind,.int .i64 zbm.start,.string zbm.lead,.slice none 0 0] 24) none;have hb2:=zas.new (w.alloc (.cells #[.int .i64 m.kind,.int .i64 m.start,.string m.lead,.slice A m.states.length cap] 24)) zbm (.slice none 0 0);have e1:(w.alloc (.cells #[.int .i64 m.kind,.int .i64 m.start,.string m.lead,.slice A m.states.length cap] 24)).heap.size=w.heap.size+1:=by simp
 rw[e1] at hb2;have hsz2:w.heap.size+2<=((w.alloc (.cells #[.int .i64 m.kind,.int .i64 m.start,.string m.lead,.slice A m.states.length cap] 24)).alloc (.cells #[.int .i64 zbm.kind,.int .i64 zbm.start,.string zbm.lead,.slice none 0 0] 24)).heap.size:=by simp
 have HSZ2:=zHd hsz2;have HV0:=zHd hv0;have HB1:=zHd (hbx.grown hg2);have HB2:=zHd hb2;have HG:=zHd (zaa hg hg2);obtain⟨x0,x1,x2,x3⟩:=zas.cells HB1.out;clear hbx hg hst0 hS0 hv0 hg2 hb2 e1 hsz2;go_enter func24,ntmps24;go_wp2_with fail;refine(HV.out _ HG.out).mono ?_;rintro e w1 ⟨rfl,hg1⟩;have HSZ1:Hid (w.heap.size+2<=w1.heap.size):=zHd (zqam HSZ2.out hg1.size);have HG1:=zHd (zaa HG.out hg1);have HB1a:=zHd (zas.grown HB1.out hg1);have HB2a:=zHd (zas.grown HB2.out hg1);clear hg1 HSZ2 HB1 HB2 HG x0 x1 x2 x3;obtain⟨x0,x1,x2,x3⟩:=zas.cells HB1a.out;cases hB:validB m
 ·have HN:Hid (trimV m=(zbm,1)):=zHd (by unfold trimV;rw[hB];rfl)
  have hle:=HSZ1.out;have HGZ:=HG1;have hbz:=HB2a.out;have hsz:=StN.nil w1 (w.heap.size+2);clear hB x0 x1 x2 x3;obtain⟨v0,v1,v2,v3⟩:=hbz.cells;have f0:=hbz.free 0;have f1:=hbz.free 1;have f2:=hbz.free 2;have f3:=hbz.free 3;obtain⟨hbf,hgf⟩:=zhU (n:=zbm) (v:=.slice none 0 0) hbz;have HGF:=zHd (zak (g:=w.heap.size+1) HGZ.out hgf (by omega));have T:=zHd ((hsz.kept (ziu hgf (by omega))).mono (C:=w.heap.size) (by omega));obtain⟨c0,c1,c2,c3⟩:=hbf.cells;clear hsz hbz hbf hgf;go_wp2_with fail;generalize (((w1.setCell ⟨w.heap.size+1,0,none⟩ (.int .i64 zbm.kind)).setCell ⟨w.heap.size+1,1,none⟩ (.int .i64 zbm.start)).setCell ⟨w.heap.size+1,2,none⟩ (.string zbm.lead)).setCell ⟨w.heap.size+1,3,none⟩ (.slice none 0 0)=WW at *;exact zqby (v:=.tuple #[.agg #[.int .i64 zbm.kind,.int .i64 zbm.start,.string zbm.lead,.slice none 0 0],.int .i64 1]) (by simp[results,results24,go_sem,c0,c1,c2,c3]) rfl (by rw[HN.out];exact⟨_,rfl,⟨_,rfl,T.out⟩,HGF.out⟩)
 have HT:=zHd (zFQ (HV0.out.grown HG1.out) (zyE hB));have HN:Hid (trimV m=(trimM m,0)):=zHd (by unfold trimV;rw[hB];rfl);clear hB;generalize trimM m=t at *;go_wp2_with fail;refine HT.out.mono ?_;intro e w2 h2;obtain⟨A2,k2,rfl,hsz,hg2⟩:=h2.open6;have hle:=HSZ1.out;have HGZ:=zHd (zaa HG1.out hg2);have hbz:=zas.grown HB2a.out hg2;clear h2 hg2 x0 x1 x2 x3;obtain⟨v0,v1,v2,v3⟩:=hbz.cells;simp only[zbm] at v0 v1 v2;have f0:=hbz.free 0;have f1:=hbz.free 1;have f2:=hbz.free 2;have f3:=hbz.free 3;obtain⟨hbf,hgf⟩:=zhU (n:=t) (v:=.slice A2 t.states.length k2) hbz;have HGF:=zHd (zak (g:=w.heap.size+1) HGZ.out hgf (by omega));have T:=zHd ((hsz.kept (ziu hgf (by omega))).mono (C:=w.heap.size) (by omega));obtain⟨c0,c1,c2,c3⟩:=hbf.cells;clear hsz hbz hbf hgf;go_wp2_with fail;generalize (((w2.setCell ⟨w.heap.size+1,0,none⟩ (.int .i64 t.kind)).setCell ⟨w.heap.size+1,1,none⟩ (.int .i64 t.start)).setCell ⟨w.heap.size+1,2,none⟩ (.string t.lead)).setCell ⟨w.heap.size+1,3,none⟩ (.slice A2 t.states.length k2)=WW at *;exact zqby (v:=.tuple #[.agg #[.int .i64 t.kind,.int .i64 t.start,.string t.lead,.slice A2 t.states.length k2],.int .i64 0]) (by simp[results,results24,go_sem,c0,c1,c2,c3]) rfl (by rw[HN.out];exact⟨_,rfl,⟨_,rfl,T.out⟩,HGF.out⟩)
open Go.RowKit
section
variable {k:Int}
def zKR (hk:zad k){l:List zah}(h:zhx hk l){i:Nat}(hi:i<l.length):zam (toE hk l i):=by
 have h1:=zrl hk (zqab _) h.2 i hi 0 (by omega);rw[zgH _ _ _ _ _ (zqab _) i 0 hi] at h1;exact h1
def zuM:Enters 26:=enters_of func26 (by kernel_rfl) rfl
@[go_sem] theorem field_cal7 (k:Int) (w:World):(Instr.field 57 (.agg #[.int .i64 k,.string (zag k),.string (zal k)]) 0).run prog w=.ok (.agg #[.int .i64 k,.string (zag k),.string (zal k)]) w:=by kernel_rfl
noncomputable def totE (hk:zad k)(l:List zah)(ld:ByteArray)(s0:Nat):El k:=(srE k hk).mul (vE hk ld) (toE hk l s0)
def zjf (hk:zad k)(l:List zah)(ld:ByteArray)(s0:Nat):Prop:=zhx hk l/\zam (totE hk l ld s0)
def zCf (hk:zad k)(l:List zah)(us:List Value)(As:Option Addr)(cs g s0:Nat)(ld:ByteArray)(w:World)(hok:zda k l)(hst:zhv w l us As cs)(hs0:s0<l.length)(hld:∃ v,Val k ld v)(hb:zdv w g k (s0:Int) ld As l.length cs) :
  Calls prog 26 #[.pointer (some ⟨g,0,none⟩)] w (zbQ (zjf hk l ld s0) (fun v w'=>v=.string (tx (totE hk l ld s0))) w):=by
 have hof:=fun w'=>zot k w';have hto:=fun(w':World) (hg:w.grownBy w' none)=>ztZ hk l us As cs (s0:Int) ld w' hok (hst.grown hg);have hlt:=zgt hk hld
 have hmul:=fun(hf:zhx hk l) (w':World)=>(show Calls prog 28 #[zbl k,.string ld,.string (tx (toE hk l s0))] w' (zkY (zam (totE hk l ld s0)) (.string (tx (totE hk l ld s0))) w') from by
  have h:=zqX hk hlt.2 (zKR hk hf hs0) w';rw[<- hlt.1] at h;exact h)
 have HO:=zHd hof;have HT:=zHd hto;have HM:=zHd hmul;have HN:=zHd (zAI hok.n60 (zAI hs0 hlt));obtain⟨x0,x1,x2,x3⟩:=hb;have d0:w.drew.cell? ⟨g,0,none⟩=some (.int .i64 k):=x0;have d1:w.drew.cell? ⟨g,1,none⟩=some (.int .i64 (s0:Int)):=x1;have d2:w.drew.cell? ⟨g,2,none⟩=some (.string ld):=x2;have d3:w.drew.cell? ⟨g,3,none⟩=some (.slice As l.length cs):=x3;have i1:(s0:Int)<(l.length:Int):=by omega
 have i2:(0:Int)<=(s0:Int):=by omega
 clear hof hto hmul hok hst hs0 hld hlt x0 x1 x2 x3;unfold zbl at *;go_enter func26,ntmps26;go_upto_region 1 with(fail);refine wp_region_held_drew (S:=fun W':World=>W'.cell? ⟨g,0,none⟩=some (.int .i64 k)/\W'.cell? ⟨g,1,none⟩=some (.int .i64 (s0:Int))/\W'.cell? ⟨g,2,none⟩=some (.string ld)/\W'.cell? ⟨g,3,none⟩=some (.slice As l.length cs)) (by kernel_rfl) ⟨d0,d1,d2,d3⟩ (fun zH=>?_);refine zTk 0 (.pointer (some ⟨g,0,none⟩)) rfl zH ?_;(try simp only[zS,Act.put]);refine zTk 1 (.int .i64 k) rfl zH ?_;(try simp only[zS,Act.put]);refine zTk 4 (.pointer (some ⟨g,2,none⟩)) rfl zH ?_;(try simp only[zS,Act.put]);refine zTk 5 (.string ld) rfl zH ?_;(try simp only[zS,Act.put]);refine zTk 6 (.agg #[.int .i64 k,.int .i64 (s0:Int),.string ld,.slice As l.length cs]) rfl zH ?_;(try simp only[zS,Act.put]);refine zTk 8 (.pointer (some ⟨g,1,none⟩)) rfl zH ?_;(try simp only[zS,Act.put]);refine zTk 9 (.int .i64 (s0:Int)) rfl zH ?_;(try simp only[zS,Act.put]);refine zqcc (rs:=[2]) (by kernel_rfl) (by simp) ?_;refine AllReadyH.cons rfl (fun K hK=>?_) AllReadyH.nil;go_simp;refine(HO.out _).mono ?_;rintro e w1 ⟨rfl,hg1⟩;have S1:(fun W':World=>W'.cell? ⟨g,0,none⟩=some (.int .i64 k)/\W'.cell? ⟨g,1,none⟩=some (.int .i64 (s0:Int))/\W'.cell? ⟨g,2,none⟩=some (.string ld)/\W'.cell? ⟨g,3,none⟩=some (.slice As l.length cs)) w1:=⟨hg1.cell zH.1 (by simp),hg1.cell zH.2.1 (by simp),hg1.cell zH.2.2.1 (by simp),hg1.cell zH.2.2.2 (by simp)⟩;refine hK.out _ _ S1 (fun zH=>?_);clear hK K;have HG1:=zHd hg1;clear hg1;refine zTk 3 (.agg #[.int .i64 k,.string (zag k),.string (zal k)]) rfl zH ?_;(try simp only[zS,Act.put]);refine zqcc (rs:=[7]) (by kernel_rfl) (by simp) ?_;refine AllReadyH.cons rfl (fun K hK=>?_) AllReadyH.nil;go_simp;refine(HT.out _ (zaa (zaf w none) HG1.out)).mono ?_;rintro e w2 (⟨hp2,v2,rfl,⟨g2,rfl,hgs2,hr2⟩,hg2⟩|⟨hn2,rfl,hg2⟩);rotate_left 1
 exact⟨rfl,.inr ⟨fun h=>hn2 h.1,rfl,zaa (zaa (zaf w none) HG1.out) hg2⟩⟩;have S2:(fun W':World=>W'.cell? ⟨g,0,none⟩=some (.int .i64 k)/\W'.cell? ⟨g,1,none⟩=some (.int .i64 (s0:Int))/\W'.cell? ⟨g,2,none⟩=some (.string ld)/\W'.cell? ⟨g,3,none⟩=some (.slice As l.length cs)) w2:=⟨hg2.cell zH.1 (by simp),hg2.cell zH.2.1 (by simp),hg2.cell zH.2.2.1 (by simp),hg2.cell zH.2.2.2 (by simp)⟩;refine hK.out _ _ S2 (fun zH=>?_);clear hK K;have rc:w2.cell? ⟨g2,s0,none⟩=some (.string (tx (toE hk l s0))):=by have h:=hr2.2 s0 HN.out.2.1;rw[zqat] at h;exact h
 have H2:=zHd (zAI hp2 (zaa (zaa (zaf w none) HG1.out) hg2));clear hp2 hgs2 hr2 hg2;refine zTk 10 (.pointer (some ⟨g2,s0,none⟩)) rfl zH ?_;(try simp only[zS,Act.put]);refine zqcc (rs:=[11]) (by kernel_rfl) (by simp) ?_;refine AllReadyH.cons rfl (fun K hK=>?_) AllReadyH.nil;go_simp;refine hK.out _ _ zH (fun zH=>?_);clear hK K;refine zqcc (rs:=[12]) (by kernel_rfl) (by simp) ?_;refine AllReadyH.cons rfl (fun K hK=>?_) AllReadyH.nil;go_simp;refine(HM.out H2.out.1 _).mono ?_;rintro e w3 (⟨hp3,rfl,hg3⟩|⟨hn3,rfl,hg3⟩);rotate_left 1;exact⟨rfl,.inr ⟨fun h=>hn3 h.2,rfl,zaa H2.out.2 hg3⟩⟩;have S3:(fun W':World=>W'.cell? ⟨g,0,none⟩=some (.int .i64 k)/\W'.cell? ⟨g,1,none⟩=some (.int .i64 (s0:Int))/\W'.cell? ⟨g,2,none⟩=some (.string ld)/\W'.cell? ⟨g,3,none⟩=some (.slice As l.length cs)) w3:=⟨hg3.cell zH.1 (by simp),hg3.cell zH.2.1 (by simp),hg3.cell zH.2.2.1 (by simp),hg3.cell zH.2.2.2 (by simp)⟩;refine hK.out _ _ S3 (fun zH=>?_);clear hK K;have H3:=zHd (zAI hp3 hg3);clear hp3 hg3;refine zqcc (rs:=[13]) (by kernel_rfl) (by simp) ?_;refine AllReadyH.cons rfl (fun K hK=>?_) AllReadyH.nil;go_simp;refine hK.out _ _ zH (fun zH=>?_);clear hK K;refine wpAnyH_done (by kernel_rfl) ?_ _;go_wp2;go_ret;exact .inl ⟨⟨H2.out.1,H3.out.1⟩,_,rfl,rfl,zaa H2.out.2 H3.out.2⟩
end
def zuj {m:zaj}(hv:validB m=true):(trimM m).states.length<=m.states.length:=by
 have h1:=(zep (zfe hv)).2.1
 by_cases h:usefulL m=[]
 ·rw[zgZ h]
  show 1<=_;exact h1
 rw[zfi h];unfold zbd usefulL;rw[zqbn];refine zqam (List.length_filter_le _ _) ?_;rw[List.length_range];exact zqab _
def znJ (m:zaj)(w:World)(e:Ending)(w':World):Prop :=
 (checkC m≠0/\w.grownBy w' none/\e=.returned (.tuple #[.string ⟨#[]⟩,.int .i64 (checkC m)]))∨(checkC m=0/\∃ hk:zad m.kind,w.grownBy w' none /\
  ((zjf hk (trimM m).states (trimM m).lead (trimM m).start.toNat/\e=.returned (.tuple #[.string (tx (totE hk (trimM m).states (trimM m).lead (trimM m).start.toNat)),.int .i64 0])) ∨
    (¬ zjf hk (trimM m).states (trimM m).lead (trimM m).start.toNat/\e=.returned (.tuple #[.string ⟨#[]⟩,.int .i64 2]))))
def ziA {w:World}{v:Value}{m:zaj}(hv:zbJ w v m)(hf:zdD m):Calls prog 8 #[v] w (znJ m w):=by
 have hmf := @zMF prog;have hv0:=hv;obtain⟨u,rfl,hst⟩:=hv;obtain⟨A,cs,us,rfl,hsr⟩:=zeO hst;have hal:=zGA w (.cells #[.int .i64 m.kind,.int .i64 m.start,.string m.lead,.slice A m.states.length cs] 24) none;have hck:=znF (w:=w.alloc (.cells #[.int .i64 m.kind,.int .i64 m.start,.string m.lead,.slice A m.states.length cs] 24)) (v:=.agg #[.int .i64 m.kind,.int .i64 m.start,.string m.lead,.slice A m.states.length cs]) (m:=m) ⟨_,rfl,hst.below (zbM hal)⟩ hf;have htr:=fun(w1:World) (hg:w.grownBy w1 none)=>zFR (w:=w1) (v:=.agg #[.int .i64 m.kind,.int .i64 m.start,.string m.lead,.slice A m.states.length cs]) (m:=m) ⟨_,rfl,hst.below (zbM hg)⟩ hf;obtain⟨x0,x1,x2,x3⟩:=zdv.new w m.kind m.start m.lead A m.states.length cs;have hbk:=zaG w (.cells #[.int .i64 m.kind,.int .i64 m.start,.string m.lead,.slice A m.states.length cs] 24);have HC:=zHd hck;have HW:=zHd hal;have HT:=zHd htr;have HB:=zHd hbk;clear hck hal hsr hst hv0 hf htr hbk;unfold znJ;go_enter func8,ntmps8;go_wp2_with fail;refine HC.out.mono ?_;rintro e w1 ⟨rfl,hg1⟩;have y0:=hg1.cell x0 (by simp);have y1:=hg1.cell x1 (by simp);have y2:=hg1.cell x2 (by simp);have y3:=hg1.cell x3 (by simp);have hb1:=(hg1.block w.heap.size (by simp) (by simp)).trans HB.out;have HG:=zHd (zaa HW.out hg1);have HB1:=zHd hb1;clear hg1 HC x0 x1 x2 x3 hb1 HB HW;obtain⟨c,hc⟩:∃ c,checkC m=c:=⟨_,rfl⟩;rw[hc];have HCC:=zHd hc;clear hc
 by_cases h0:c=0
 ·subst h0
  obtain⟨hvalid,h60⟩:=zkD HCC.out;have hok:=zcH (zrA hvalid);have hk0:=(zcH hvalid).kind;have zN:=zuj hvalid;have htv:trimV m=(trimM m,0):=by unfold trimV;rw[if_pos hvalid]
  have htk:=zlZ m;obtain⟨t,ht⟩:∃ t,trimM m=t:=⟨_,rfl⟩;rw[ht] at hok zN htv htk;have HTM:=zHd ht;clear ht;obtain⟨s0,hs0,hs1⟩:=hok.start;have HOK:=zHd (zAI hok (zAI hs1 (zAI zN (zAI h60 (zAI hk0 (zAI htv htk))))));have HS0:=zHd hs0;clear hok hvalid h60 hk0 zN htv htk hs1;go_wp2_with fail;refine(HT.out w1 HG.out).mono ?_;intro e w2 hq;rw[HOK.out.2.2.2.2.2.1] at hq;obtain⟨At,ct,rfl,hstn,hg2⟩:=hq.open6;rw[hs0];rw[HOK.out.2.2.2.2.2.2];have hb2:=(hg2.block w.heap.size (zqad.1 HB1.out).1 (by simp)).trans HB1.out;have q0:=zqbw w2 _ 0 _ _ (0,0) hb2;have q1:=zqbw w2 _ 1 _ _ (0,0) hb2;have q2:=zqbw w2 _ 2 _ _ (0,0) hb2;have q3:=zqbw w2 _ 3 _ _ (0,0) hb2;have z0:=zqbx w2 _ 0 _ _ hb2;have z1:=zqbx w2 _ 1 _ _ hb2;have z2:=zqbx w2 _ 2 _ _ hb2;have z3:=zqbx w2 _ 3 _ _ hb2;have H2:=zHd (zAI hstn (zAI hg2 hb2));clear hq hstn hg2 hb2 y0 y1 y2 y3 hs0;have hsg:w.grownBy w2 none:=zaa HG.out H2.out.2.1;have hset:=zkz w2 w.heap.size (.int .i64 m.kind) (.int .i64 (s0:Int)) (.string t.lead) (.slice At t.states.length ct);have hg3:=zak hsg hset (zqab _);have hws:w.heap.size+1<=w1.heap.size:=by have:=(zqad.1 HB1.out).1;omega
  have hst3:=H2.out.1.kept ((ziu hset (by omega:w.heap.size<w1.heap.size)));obtain⟨A3,c3,us3,e3,hsr3⟩:=zeO hst3.sl;obtain⟨rfl,rfl⟩:At=A3/\ct=c3:=by simp at e3;exact e3
  have hrow3:=ztP (u0:=.int .i64 m.kind) (u1:=.int .i64 (s0:Int)) (u2:=.string t.lead) (u3:=.slice At t.states.length ct) rfl H2.out.2.2;obtain⟨W3,hW3⟩:∃ W3,W3=((((w2.setCell ⟨w.heap.size,0,none⟩ (.int .i64 m.kind)).setCell ⟨w.heap.size,1,none⟩ (.int .i64 (s0:Int))).setCell ⟨w.heap.size,2,none⟩ (.string t.lead)).setCell ⟨w.heap.size,3,none⟩ (.slice At t.states.length ct)):=⟨_,rfl⟩;rw[<- hW3] at hg3 hst3 hsr3 hrow3;have HW3:=zHd hW3;have hbx:zdv W3 w.heap.size m.kind (s0:Int) t.lead At t.states.length ct:=⟨zqbw W3 _ 0 _ _ (0,0) hrow3,zqbw W3 _ 1 _ _ (0,0) hrow3,zqbw W3 _ 2 _ _ (0,0) hrow3,zqbw W3 _ 3 _ _ (0,0) hrow3⟩;have hal3:=zGA W3 (.cells #[.int .i64 0] 28) none;have hsts:=HOK.out.1.sts (by have:=HOK.out;omega);have hld:=HOK.out.1.lead;rw[HOK.out.2.2.2.2.2.2] at hsts hld;have h1:=zCf HOK.out.2.2.2.2.1 t.states us3 At ct w.heap.size s0 t.lead (W3.alloc (.cells #[.int .i64 0] 28)) hsts (hsr3.grown hal3) HOK.out.2.1 hld (hbx.grown hal3)
  have hat:=zyp (WB:=W3.heap.size) 26 zuM #[] #[.pointer (some ⟨w.heap.size,0,none⟩)] (zjf HOK.out.2.2.2.2.1 t.states t.lead s0) (fun v _=>v=.string (tx (totE HOK.out.2.2.2.2.1 t.states t.lead s0)))
   (fun v wa wb b hb hg e hq=>hq) W3 rfl (h1.mono (fun e w' h=>by
    rcases h with⟨hp,v,h1,rfl,h4⟩|h;exact .inl ⟨hp,_,h1,⟨⟨_,rfl⟩,rfl⟩,h4⟩;exact .inr h))
  rw[hW3] at hat;have HAT:=zHd hat;have HG3:=zHd hg3;clear hat h1 hal3 hsts hld hbx hrow3 hst3 hsr3 e3 hws hset hsg hg3 hW3;go_wp2_with fail;refine HAT.out.mono ?_;rintro e w4 (⟨hp,v,rfl,rfl,hg4⟩|⟨hn2,rfl,hg4⟩)
  ·rw[<- HW3.out] at hg4
   have H4:=zHd (zAI hp (zaa HG3.out hg4));clear hp hg4;go_wp2;exact zqby (v:=.tuple #[.string (tx (totE HOK.out.2.2.2.2.1 t.states t.lead s0)),.int .i64 0]) (by simp[results,results8,go_sem]) rfl (.inr ⟨HCC.out,HOK.out.2.2.2.2.1,H4.out.2,.inl ⟨by rw[HTM.out,HS0.out];exact H4.out.1,by rw[HTM.out,HS0.out];rfl⟩⟩)
  rw[<- HW3.out] at hg4;have H4:=zHd (zAI hn2 (zaa HG3.out hg4));clear hn2 hg4;go_wp2;exact zqby (v:=.tuple #[.string ⟨#[]⟩,.int .i64 2]) (by simp[results,results8,go_sem]) rfl (.inr ⟨HCC.out,HOK.out.2.2.2.2.1,H4.out.2,.inr ⟨by rw[HTM.out,HS0.out];exact H4.out.1,rfl⟩⟩)
 have t1:(c==0)=false:=by simpa using h0
 have t2:(c != 0)=true:=by simpa using h0
 have H0:=zHd h0;clear h0;go_wp2;exact zqby (v:=.tuple #[.string ⟨#[]⟩,.int .i64 c]) (by simp[results,results8,go_sem]) rfl (.inl ⟨by rw[HCC.out];exact H0.out,HG.out,by rw[HCC.out]⟩)
open Go.RowKit
section
variable {k:Int}
def zpN (hk:zad k){n:Nat}{A0:Nat->Nat->El k}{G:Nat->Nat->ByteArray}{ln:Nat->Nat}(h5:n<=5)(hG:∀ i,i<n->∀ j,j<n->G i j=tx (A0 i j))(hf:∀ i,i<n->∀ j,j<n->zam (A0 i j))
  (hs:∀ i,i<n->∀ j,j<n->Sh4 (A0 i j).1) (ten:ns n (fun x=>(nzL (srE k hk) (A0 x) n).length)<=10) (hl:∀ i,i<n->ln i=n) {w:World} {e:Ending} {w':World} (h:zjD k n ln G w e w') :
  w.grownBy w' none/\∃ v,e=.returned (.tuple #[v,.int .i64 0])/\zbv w' v n n (stM (srE k hk) A0 n):=by
 obtain⟨hg,h⟩:=h;refine⟨hg,?_⟩;have hm:zre k n ln G:=⟨hk,hl,fun i j hi hj=>⟨_,by rw[hG i hi j hj];exact zfJ (hf i hi j hj)⟩⟩;rcases h with⟨hn,_⟩|⟨_,h60,_⟩|⟨_,_,hk2,A,hA,h⟩;exact absurd hm hn;omega;have hAA:∀ i j,i<n->j<n->A i j=A0 i j:=fun i j hi hj=>zds (hA i hi j hj).2 (hf i hi j hj) (by rw[<- (hA i hi j hj).1,hG i hi j hj])
 have hfew:Few (srE k hk) (fun v=>Sh4 v.1) A n (fun x=>nzL (srE k hk) (A0 x) n):=⟨h5,fun x y hx hy=>by rw[hAA x y hx hy,zFa,if_pos hy],fun x hx e he=>by
  obtain⟨h1,h2⟩:=zwA _ _ he;rw[h2];exact hs x hx _ h1,fun x hx e he=>(zwA _ _ he).1,ten⟩
 have hsf:=zFj hk hfew (zqab n);rcases h with⟨_,v,h1,h2⟩|⟨hn,_⟩
 exact⟨v,h1,h2.congr (fun i hi j hj=>ztj (srE k hk) hAA hi hj)⟩;exact absurd hsf hn
noncomputable def arcL (hk:zad k)(l:List zaI):List (Nat×El k):=l.map (fun a=>(a.t.toNat,vE hk a.w))
def ztc (hk:zad k)(l:List zaI)(d:Nat):∀ t,t<=l.length->zcq hk (arcF hk l) (zcS l) t d=cs (srE k hk) ((arcL hk l).take t) d
 | 0,_=>rfl
 | t+1,ht=>by
  have ha:l[t]?=some (l[t]'(by omega)):=zqac (by omega)
  have e1:(arcL hk l).take (t+1)=(arcL hk l).take t++[(zcS l t,arcF hk l t)]:=by
   rw[List.take_add_one];congr 1;unfold arcL;rw[zqaj,ha,zov ha,zow hk ha];rfl
  rw[e1,zoo,<- ztc hk l d t (by omega)];show(srE k hk).add (zcq hk (arcF hk l) (zcS l) t d) (if zcS l t=d then arcF hk l t else (srE k hk).zero)=_;dsimp only;split;rfl;exact(srE k hk).add_zero _
def zjg (hk:zad k)(l:List zah)(i d:Nat):arcM hk l i d=cs (srE k hk) (arcL hk (stA l i)) d:=by
 unfold arcM;rw[ztc hk _ d _ (zqab _)];congr 1;exact zqaf (by unfold arcL;simp)
def zbY (a:ByteArray):Prop:=zdF a.data.toList<=4
def znK (hk:zad k){a:ByteArray}(h:∃ v,Val k a v)(hs:zbY a):Sh4 (vE hk a).1:=by
 obtain⟨v,hv⟩:=h;rw[zBF hk hv];exact zLQ hv.e hs
structure zgC (k:Int)(l:List zah):Prop where
 n5:l.length<=5
 ten:ns l.length (fun i=>(stA l i).length)<=10
 arcs:∀ i,i<l.length->∀ a∈stA l i,zbY a.w
 fins:∀ i,i<l.length->zbY (stF l i)
def zxn (hk:zad k){l:List zah}(hl:zgC k l)(hok:zda k l){i:Nat}(hi:i<l.length):Sh4 (finM hk l i).1:=by
 unfold finM finE;split;exact zpC hk
 next hn=>exact znK hk ((hok.fins i hi).resolve_left hn) (hl.fins i hi)
def zha (hk:zad k){l:List zah}(hl:zgC k l)(hok:zda k l):Few (srE k hk) (fun v=>Sh4 v.1) (arcM hk l) l.length (fun i=>arcL hk (stA l i)) where
 n5:=hl.n5
 a x y hx hy:=zjg hk l x y
 sh x hx e he:=by
  obtain⟨a,ha,rfl⟩:=zqbf.1 he;exact znK hk ((hok.arcs x hx).1 a ha).2.2 (hl.arcs x hx a ha)
 lt x hx e he:=by
  obtain⟨a,ha,rfl⟩:=zqbf.1 he;have:=(hok.arcs x hx).1 a ha;show a.t.toNat<_;omega
 ten:=by
  have e:(fun x=>(arcL hk (stA l x)).length)=fun i=>(stA l i).length:=by funext i;unfold arcL;simp
  rw[e];exact hl.ten
def zJr (f:Nat->Nat):∀ {n i:Nat},i<n->f i<=ns n f
 | n+1,i,h=>by
  show f i<=ns n f+f n
  by_cases e:i<n
  have:=zJr f e;omega;rw[show i=n by omega];omega
def zmb (hk:zad k){l:List zah}(hl:zgC k l)(hok:zda k l):zdE hk l:=fun i hi s hs=>by
 rw[ztc hk _ _ _ (by omega)];have h1:=zJr (fun i=>(stA l i).length) hi;have h2:=hl.ten;have ha:(stA l i)[s]?=some ((stA l i)[s]):=zqac hs;have h3:=(hok.arcs i hi).1 _ (zqak ha);have h5:=hl.n5;refine(zEZ hk (fun e he=>(zha hk hl hok).sh i hi e (zqau he)) ?_ ?_).fits (by omega)
 ·rw[zqan]
  unfold arcL;rw[zqbn];omega
 rw[zov ha];omega
def zxo (hk:zad k){l:List zah}(hl:zgC k l)(hok:zda k l):zhx hk l:=⟨zmb hk hl hok,zwR hk (zha hk hl hok) (fun x hx=>zxn hk hl hok hx) (zqab _)⟩
end
open Go.RowKit
section
variable {k:Int}
def zzN (hk:zad k){m:zaj}{x y:Nat}(h:y ∉ zaX m x):arcM hk m.states x y=(srE k hk).zero:=by
 rw[zjg];refine zsJ _ _ (fun e he=>?_);obtain⟨a,ha,rfl⟩:=zqbf.1 he;intro e2;apply h;cases hs:m.states[x]? with
 | none=>unfold stA at ha;rw[hs] at ha;cases ha
 | some s =>
  rw[ziy hs] at ha;rw[zkf hs];exact zqbf.2 ⟨a,ha,e2⟩
def zKS (hk:zad k){m:zaj}{x:Nat}(h:¬ isFin m x):finM hk m.states x=(srE k hk).zero:=by
 unfold finM finE;rw[if_pos];cases hs:m.states[x]? with
 | none=>unfold stF;rw[hs];rfl
 | some s =>
  rw[zgo hs]
  by_cases hz:s.fin.size=0
  exact ByteArray.ext (Array.eq_empty_of_size_eq_zero hz);exact absurd ⟨s,hs,hz⟩ h
def znL (hk:zad k){m:zaj}{x:Nat}(hx:x<m.states.length)(h:¬ RFrom (zbn m) (isFin m) x):toE hk m.states x=(srE k hk).zero:=by
 classical
 have key:=zfT (srE k hk) (arcM hk m.states) (n:=m.states.length) (finM hk m.states) (fun j=>if RFrom (zbn m) (isFin m) j then toE hk m.states j else (srE k hk).zero) (fun i hi=>?_) hx
 ·rw[if_neg h] at key
  exact(srE k hk).le_anti _ _ key ((srE k hk).zero_le _)
 try dsimp only
 by_cases hc:RFrom (zbn m) (isFin m) i
 ·rw[if_pos hc]
  show(srE k hk).le _ (zbN (srE k hk) (arcM hk m.states) m.states.length (finM hk m.states) i);rw[zgF (srE k hk) (arcM hk m.states) m.states.length (finM hk m.states) hi];refine(srE k hk).add_mono _ _ _ _ ((srE k hk).le_refl _) (ziY _ (fun j hj=>(srE k hk).mul_mono _ _ _ ?_))
  by_cases hj2:RFrom (zbn m) (isFin m) j
  rw[if_pos hj2];exact(srE k hk).le_refl _;rw[if_neg hj2];exact(srE k hk).zero_le _
 rw[if_neg hc,zKS hk (fun hf=>hc (.start hf)),zkK _ (fun j hj=>?_),(srE k hk).add_zero]
 ·exact(srE k hk).le_refl _
 by_cases hj2:RFrom (zbn m) (isFin m) j
 ·rw[zzN hk (fun hs=>hc (.step hj2 (zpI.2 hs))),(srE k hk).zero_mul]
 rw[if_neg hj2,(srE k hk).mul_zero]
def lsm {α:Type}(S:Sr α)(l:List Nat)(f:Nat->α):α:=sm S l.length (fun d=>f (l.getD d 0))
def zIW {α:Type}(S:Sr α)(l:List Nat)(x:Nat)(f:Nat->α):lsm S (l++[x]) f=S.add (lsm S l f) (f x):=by
 unfold lsm;rw[zqag];show S.add (sm S l.length _) (f ((l++[x]).getD l.length 0))=_;rw[zde,zat S (g:=fun d=>f (l.getD d 0)) (fun d hd=>by rw[zca hd])]
def zuk {α:Type}(S:Sr α)(p:Nat->Bool)(f:Nat->α):∀ n,(∀ j,j<n->p j=false->f j=S.zero)->sm S n f=lsm S ((List.range n).filter p) f
 | 0,_=>rfl
 | n+1,h=>by
  rw[List.range_succ,List.filter_append];show S.add (sm S n f) (f n)=_;rw[zuk S p f n (fun j hj=>h j (by omega))];cases hp:p n
  ·rw[h n (by omega) hp,S.add_zero]
   simp[hp]
  rw[show[n].filter p=[n] by simp[hp],zIW]
def zzO (hk:zad k){L:List Nat}(hn:L.Nodup){d:Nat}(hd:d<L.length):∀ (l:List zaI),cs (srE k hk) (arcL hk (l.filterMap (zdO L))) d=cs (srE k hk) (arcL hk l) (L.getD d 0)
 | []=>rfl
 | a::l=>by
  have ih:=zzO hk hn hd l;have hgd:L.getD d 0=L[d]:=by rw[zqaa,zqac hd];rfl
  show _=(if a.t.toNat=L.getD d 0 then _ else _)
  by_cases hm:a.t.toNat∈L
  ·rw[List.filterMap_cons,zFo hm]
   show(if ((L.idxOf a.t.toNat:Nat):Int).toNat=d then _ else _)=_;rw[Int.toNat_natCast]
   by_cases e:a.t.toNat=L.getD d 0
   ·have e2:L.idxOf a.t.toNat=d:=by rw[e,hgd];exact List.Nodup.idxOf_getElem hn d hd
    rw[if_pos e2,if_pos e];show(srE k hk).add (vE hk a.w) (cs (srE k hk) (arcL hk (l.filterMap (zdO L))) d)=_;rw[ih];rfl
   have e2:¬ L.idxOf a.t.toNat=d:=fun h=>e (by rw[hgd];subst h;exact(List.getElem_idxOf (List.idxOf_lt_length_of_mem hm)).symm);rw[if_neg e2,if_neg e];exact ih
  rw[List.filterMap_cons,zIB hm];have e:¬ a.t.toNat=L.getD d 0:=fun h=>hm (by rw[h,hgd];exact List.getElem_mem hd);rw[if_neg e];exact ih
def ziB {m:zaj}{L:List Nat}(hL:∀ x∈L,x<m.states.length){c:Nat}(hc:c<L.length):stA (zbd m L).states c=(stA m.states (L.getD c 0)).filterMap (zdO L)/\stF (zbd m L).states c=stF m.states (L.getD c 0):=by
 have hgd:L.getD c 0=L[c]:=by rw[zqaa,zqac hc];rfl
 have hx:=hL L[c] (List.getElem_mem hc);have hs:m.states[L[c]]?=some m.states[L[c]]:=zqac hx
 have h:(zbd m L).states[c]?=some (zjF L (zhQ m L[c])):=by
  unfold zbd;rw[zqaj,zqac hc];rfl
 rw[ziy h,zgo h,hgd,ziy hs,zgo hs,zhR hs];exact⟨rfl,rfl⟩
def zpO (hk:zad k){m:zaj}(hw:Wf m):totE hk (trimM m).states (trimM m).lead (trimM m).start.toNat=totE hk m.states m.lead m.start.toNat:=by
 unfold totE;have hst:m.start.toNat<m.states.length:=by have:=hw.start;omega
 by_cases hu:usefulL m=[]
 ·have hns:=(zrs hw).1 hu
  rw[znL hk hst (fun h=>hns ⟨.start rfl,h⟩),(srE k hk).mul_zero,zgZ hu]
  have e:toE hk (zcr m.kind).states (zcr m.kind).start.toNat=(srE k hk).zero:=by
   refine znL hk (m:=zcr m.kind) (by show(0:Int).toNat<1;decide) (fun h=>?_)
   have hno:∀ x,¬ isFin (zcr m.kind) x:=fun x ⟨s,hs,hz⟩=>by
    cases x with
    | zero=>simp[zcr] at hs;subst hs;exact hz rfl
    | succ x=>simp[zcr] at hs
   have hnr:∀ x,¬ RFrom (zbn (zcr m.kind)) (isFin (zcr m.kind)) x:=fun x h=>by
    induction h with
    | start h=>exact hno _ h
    | step _ _ ih=>exact ih
   exact hnr _ h
  rw[e,(srE k hk).mul_zero]
 rw[zfi hu]
 have hsu:m.start.toNat∈usefulL m:=by
  obtain⟨x,r,hx⟩:∃ x r,usefulL m=x::r:=by
   cases h:usefulL m with
   | nil=>exact absurd h hu
   | cons x r=>exact⟨x,r,rfl⟩
  have:x∈usefulL m:=by rw[hx];simp
  exact(zdP hw).2 (znv ((zdP hw).1 this))
 have hnd:(usefulL m).Nodup:=List.nodup_range.filter _
 have hlt:∀ x∈usefulL m,x<m.states.length:=fun x hx=>by
  exact zQbY
 have hgd:∀ c,c<(usefulL m).length->(usefulL m).getD c 0∈usefulL m:=fun c hc=>by
  rw[zqaa,zqac hc];exact List.getElem_mem hc
 have hout:∀ j,j<m.states.length->(∀ d,d<(usefulL m).length->(usefulL m).getD d 0≠j)->j ∉ usefulL m:=fun j hj h hm=>by
  obtain⟨d,hd,e⟩:=List.getElem_of_mem hm;refine h d hd ?_;rw[zqaa,zqac hd];exact e
 have hA:∀ c d,c<(usefulL m).length->d<(usefulL m).length->arcM hk (zbd m (usefulL m)).states c d=arcM hk m.states ((usefulL m).getD c 0) ((usefulL m).getD d 0):=fun c d hc hd=>by
  rw[zjg,zjg,(ziB hlt hc).1,zzO hk hnd hd]
 have hpart:=zCD (srE k hk) (arcM hk m.states) (arcM hk (zbd m (usefulL m)).states) (n:=m.states.length) (k:=(usefulL m).length) (finM hk m.states) (finM hk (zbd m (usefulL m)).states) (fun c=>(usefulL m).getD c 0)
  (fun c hc=>hlt _ (hgd c hc))
  (fun c hc X hX=>by
   rw[zuk (srE k hk) (fun j=>decide (j∈usefulL m)) _ m.states.length (fun j hj hp=>hX j hj (fun d hd e=>by
    have h1:=hgd d hd;rw[e] at h1;simp[h1] at hp))]
   have e:(List.range m.states.length).filter (fun j=>decide (j∈usefulL m))=usefulL m:=by
    conv=>rhs;unfold usefulL
    refine List.filter_congr (fun x hx=>?_);rw[decide_eq_decide];exact zdP hw
   rw[e];unfold lsm;exact zat _ (fun d hd=>by rw[hA c d hc hd]))
  (fun c hc=>by unfold finM;rw[(ziB hlt hc).2])
  (fun c hc j hj hj2=>by
   by_cases hs:j∈zaX m ((usefulL m).getD c 0)
   ·have hu1:=(zdP hw).1 (hgd c hc)
    have hd:=znL hk hj (fun h=>hout j hj hj2 ((zdP hw).2 ⟨.step hu1.1 hs,h⟩));unfold toE at hd;rw[hd,(srE k hk).mul_zero]
   rw[zzN hk hs,(srE k hk).zero_mul])
  (fun c d hc hd e=>by
   try dsimp only at e
   rw[zqaa,zqac hc,zqaa,zqac hd] at e;have h1:=List.Nodup.idxOf_getElem hnd c hc;have h2:=List.Nodup.idxOf_getElem hnd d hd;have e3:(usefulL m)[c]=(usefulL m)[d]:=e;rw[e3] at h1;exact h1.symm.trans h2)
  (c:=(usefulL m).idxOf m.start.toNat) (List.idxOf_lt_length_of_mem hsu)
 have e1:(zbd m (usefulL m)).start.toNat=(usefulL m).idxOf m.start.toNat:=rfl;rw[e1]
 have e2:(usefulL m).getD ((usefulL m).idxOf m.start.toNat) 0=m.start.toNat:=by
  rw[zqaa,zqac (List.idxOf_lt_length_of_mem hsu)];exact List.getElem_idxOf _
 rw[e2] at hpart;show(srE k hk).mul _ (zbN (srE k hk) (arcM hk (zbd m (usefulL m)).states) (zbd m (usefulL m)).states.length (finM hk (zbd m (usefulL m)).states) _)=_;rw[zfP,hpart];rfl
end
open Go.RowKit
section
variable {k:Int}
def zxp {f g:Nat->Nat}:∀ {n:Nat},(∀ x,x<n->f x<=g x)->ns n f<=ns n g
 | 0,_=>zqab _
 | n+1,h=>by
  show ns n f+f n<=ns n g+g n;have:=zxp (f:=f) (g:=g) (n:=n) (fun x hx=>h x (by omega));have:=h n (by omega);omega
def zIX {m:zaj}(hv:validB m=true)(hl:zgC m.kind m.states):zgC (trimM m).kind (trimM m).states:=by
 have hw:=zhW hv;rw[zlZ]
 by_cases hu:usefulL m=[]
 ·rw[zgZ hu]
  refine⟨by show 1<=5;omega,by show(0+0:Nat)<=10;omega,fun i hi a ha=>?_,fun i hi=>?_⟩
  ·obtain rfl:i=0:=by have:i<1:=hi;omega
   cases ha
  obtain rfl:i=0:=by have:i<1:=hi;omega
  show(([]:List UInt8).filter zck).length<=4;decide
 rw[zfi hu]
 have hlt:∀ x∈usefulL m,x<m.states.length:=fun x hx=>by
  exact zQbY
 have hgd:∀ c,c<(usefulL m).length->(usefulL m).getD c 0∈usefulL m:=fun c hc=>by
  rw[zqaa,zqac hc];exact List.getElem_mem hc
 have zN:=zuj hv;rw[zfi hu,zfP] at zN;refine⟨by rw[zfP];have:=hl.n5;omega,?_,fun i hi a ha=>?_,fun i hi=>?_⟩
 ·rw[zfP]
  have hpw:(usefulL m).Pairwise (· < ·):=List.pairwise_lt_range.filter _;have h1:=zsU (fun x=>(stA m.states x).length) (usefulL m) (usefulL m).length (zqab _);rw[List.take_length] at h1;have h2:=zrq (fun x=>(stA m.states x).length) m.states.length (usefulL m) hpw hlt
  have h3:ns (usefulL m).length (fun i=>(stA (zbd m (usefulL m)).states i).length)<=ns (usefulL m).length (fun c=>(stA m.states ((usefulL m).getD c 0)).length):=zxp (fun c hc=>by
   rw[(ziB hlt hc).1];exact List.length_filterMap_le _ _)
  have h4:=hl.ten;omega
 ·rw[zfP] at hi
  rw[(ziB hlt hi).1] at ha;obtain⟨b,hb,he⟩:=List.mem_filterMap.1 ha;unfold zdO at he;split at he
  ·cases he
   exact hl.arcs _ (hlt _ (hgd i hi)) b hb
  cases he
 rw[zfP] at hi;rw[(ziB hlt hi).2];exact hl.fins _ (hlt _ (hgd i hi))
def zft (hk:zad k){l:List zah}(hl:zgC k l)(hok:zda k l):zcU k hk (arcM hk l) (finM hk l) l.length (fun i=>arcL hk (stA l i)) :=
 ⟨hl.n5,(zha hk hl hok).a,fun x hx e he=>⟨(zha hk hl hok).lt x hx e he,(zha hk hl hok).sh x hx e he⟩,(zha hk hl hok).ten,fun x hx=>zxn hk hl hok hx⟩
def zzP (hk:zad k){l:List zah}{ld:ByteArray}{s0:Nat}(hl:zgC k l)(hok:zda k l)(hld:∃ v,Val k ld v)(hs:zbY ld)(h0:s0<l.length):zam (totE hk l ld s0) :=
 ((zft hk hl hok).total (znK hk hld hs).wide h0).fits (by omega)
def zul {m:zaj}(hk:zad m.kind)(hv:validB m=true)(hl:zgC m.kind m.states)(hs:zbY m.lead):zjf hk (trimM m).states (trimM m).lead (trimM m).start.toNat:=by
 have hok:=zcH hv;have hokt:=zcH (zrA hv);have hlt:=zIX hv hl;have e:=zlZ m;have hst:zda (trimM m).kind (trimM m).states:=hokt.sts (by have:=hlt.n5;omega);rw[e] at hlt hst;refine⟨zxo hk hlt hst,?_⟩;rw[zpO hk (zhW hv)];obtain⟨s0,h1,h2⟩:=hok.start;exact zzP hk hl (hok.sts (by have:=hl.n5;omega)) hok.lead hs (by rw[h1];exact h2)
def zij {α:Type}(M:Nat->List (Nat×α))(n x:Nat):List (Nat×α):=(List.range n).flatMap (fun i=>((M i).filter (fun e=>decide (e.1=x))).map (fun e=>(i,e.2)))
def zrB {α:Type}(S:Sr α)(y:Nat):∀ (l m:List (Nat×α)),cs S (l++m) y=S.add (cs S l y) (cs S m y)
 | [],m=>(S.zero_add _).symm
 | e::l,m=>by
  show(if e.1=y then S.add e.2 (cs S (l++m) y) else cs S (l++m) y)=S.add (if e.1=y then S.add e.2 (cs S l y) else cs S l y) (cs S m y);rw[zrB S y l m];split;rw[S.add_assoc];rfl
def zxq {α:Type}(S:Sr α)(x i y:Nat):∀ (l:List (Nat×α)),cs S ((l.filter (fun e=>decide (e.1=x))).map (fun e=>(i,e.2))) y=if i=y then cs S l x else S.zero
 | []=>by show S.zero=if i=y then S.zero else S.zero;split <;> rfl
 | e::l=>by
  have ih:=zxq S x i y l
  by_cases h:e.1=x
  ·rw[List.filter_cons_of_pos (by simpa using h)]
   show(if i=y then S.add e.2 (cs S ((l.filter (fun e=>decide (e.1=x))).map (fun e=>(i,e.2))) y) else cs S ((l.filter (fun e=>decide (e.1=x))).map (fun e=>(i,e.2))) y)=if i=y then (if e.1=x then S.add e.2 (cs S l x) else cs S l x) else S.zero
   rw[ih,if_pos h];split;rfl;rfl
  rw[List.filter_cons_of_neg (by simpa using h),ih];show _=if i=y then (if e.1=x then S.add e.2 (cs S l x) else cs S l x) else S.zero
  rw[if_neg h]
def zzQ {α:Type}(S:Sr α)(M:Nat->List (Nat×α))(x y:Nat):∀ n,cs S (zij M n x) y=if y<n then cs S (M y) x else S.zero
 | 0=>rfl
 | n+1=>by
  have e:zij M (n+1) x=zij M n x++((M n).filter (fun e=>decide (e.1=x))).map (fun e=>(n,e.2)):=by
   unfold zij;rw[List.range_succ,List.flatMap_append];simp
  rw[e,zrB,zzQ S M x y n,zxq]
  by_cases h:n=y
  ·subst h
   rw[if_pos rfl,if_neg (by omega),if_pos (by omega),S.zero_add]
  rw[if_neg h,S.add_zero]
  by_cases h2:y<n
  rw[if_pos h2,if_pos (by omega)];rw[if_neg h2,if_neg (by omega)]
def count_le {α:Type}:∀ (l:List (Nat×α)) (n:Nat),ns n (fun x=>(l.filter (fun e=>decide (e.1=x))).length)<=l.length
 | [],n=>by
  have:ns n (fun x=>(([]:List (Nat×α)).filter (fun e=>decide (e.1=x))).length)=0:=by
   induction n with
   | zero=>rfl
   | succ n ih=>show ns n _+0=0;rw[ih]
  omega
 | e::l,n=>by
  have ih:=count_le l n
  have h:∀ n,ns n (fun x=>((e::l).filter (fun e=>decide (e.1=x))).length)=ns n (fun x=>(l.filter (fun e=>decide (e.1=x))).length)+(if e.1<n then 1 else 0):=by
   intro n
   induction n with
   | zero=>rfl
   | succ n ih2 =>
    show ns n _+((e::l).filter (fun e=>decide (e.1=n))).length=ns n _+(l.filter (fun e=>decide (e.1=n))).length+_;rw[ih2]
    by_cases he:e.1=n
    ·rw[List.filter_cons_of_pos (by simpa using he),zqbu,if_neg (by omega),if_pos (by omega)]
     omega
    rw[List.filter_cons_of_neg (by simpa using he)]
    by_cases h3:e.1<n
    rw[if_pos h3,if_pos (by omega)];omega;rw[if_neg h3,if_neg (by omega)];omega
  rw[h n,zqbu];split <;> omega
def zzR (f g:Nat->Nat):∀ n,ns n (fun x=>f x+g x)=ns n f+ns n g
 | 0=>rfl
 | n+1=>by
  show ns n (fun x=>f x+g x)+(f n+g n)=(ns n f+f n)+(ns n g+g n);rw[zzR f g n];omega
def zrC {α:Type}(M:Nat->List (Nat×α))(q:Nat):∀ n,ns q (fun x=>(zij M n x).length)<=ns n (fun i=>(M i).length)
 | 0=>by
  have h:∀ q,ns q (fun x=>(zij M 0 x).length)=0:=by
   intro q
   induction q with
   | zero=>rfl
   | succ q ih=>show ns q _+0=0;rw[ih]
  rw[h q];exact zqaw _
 | n+1=>by
  have ih:=zrC M q n
  have e:(fun x=>(zij M (n+1) x).length)=fun x=>(zij M n x).length+((M n).filter (fun e=>decide (e.1=x))).length:=by
   funext x;unfold zij;rw[List.range_succ,List.flatMap_append,zqag];simp
  rw[e,zzR];have:=count_le (M n) q;show _<=ns n (fun i=>(M i).length)+(M n).length;omega
def zIY (hk:zad k){l:List zah}(hl:zgC k l)(hok:zda k l):Few (srE k hk) (fun v=>Sh4 v.1) (fun x y=>arcM hk l y x) l.length (zij (fun i=>arcL hk (stA l i)) l.length) where
 n5:=hl.n5
 a x y hx hy:=by rw[zzQ,if_pos hy];exact zjg hk l y x
 sh x hx e he:=by
  obtain⟨i,hi,h⟩:=List.mem_flatMap.1 he;obtain⟨e2,h2,rfl⟩:=zqbf.1 h;exact(zha hk hl hok).sh i (List.mem_range.1 hi) e2 (List.mem_filter.1 h2).1
 lt x hx e he:=by
  obtain⟨i,hi,h⟩:=List.mem_flatMap.1 he;obtain⟨e2,h2,rfl⟩:=zqbf.1 h;exact List.mem_range.1 hi
 ten:=zqam (zrC _ _ _) (zha hk hl hok).ten
def zxr (hk:zad k){l:List zah}{ld:ByteArray}{s0:Nat}(hl:zgC k l)(hok:zda k l)(hld:∃ v,Val k ld v)(hs:zbY ld):zhV hk l ld s0 :=
 ⟨zmb hk hl hok,zwR hk (zIY hk hl hok) (fun x hx=>by
  unfold leadM;split;exact znK hk hld hs;exact zpC hk) (zqab _)⟩
end
open Go.RowKit
def k1:zad 1:=.inl rfl
def k2:zad 2:=.inr (.inl rfl)
def k3:zad 3:=.inr (.inr rfl)
def e1 (x:Rat):El 1:=⟨.inr x,by unfold zaq;rfl⟩
def e2 (x:Rat)(h:decide (0<=x)=true):El 2:=⟨.inr x,by show(decide ((2:Int)=1) || ((decide ((2:Int)=2) || decide ((2:Int)=3))&&decide (0<=x)))=true;rw[h];rfl⟩
def zxs:El 1:=⟨.inl true,rfl⟩
def li0:ByteArray:=⟨#[48]⟩
def li1:ByteArray:=⟨#[49]⟩
def li2:ByteArray:=⟨#[50]⟩
def li3:ByteArray:=⟨#[51]⟩
def li4:ByteArray:=⟨#[52]⟩
def li6:ByteArray:=⟨#[54]⟩
def li7:ByteArray:=⟨#[55]⟩
def ztd:ByteArray:=⟨#[105,110,102]⟩
def zIZ:ByteArray:=⟨#[45,105,110,102]⟩
def zfu.congr {w:World}{v:Value}{n m:Nat}{G R:Nat->Nat->ByteArray}(h:zfu w v n (fun _=>m) G)(e:∀ i,i<n->∀ j,j<m->G i j=R i j):zfu w v n (fun _=>m) R:=by
 obtain⟨rs,h1,h2⟩:=h;refine⟨rs,h1,fun i hi=>?_⟩;obtain⟨A,c,e1,e2,e3,e4⟩:=h2 i hi;refine⟨A,c,e1,e2,e3,fun j hj=>?_⟩;obtain⟨ad,q1,q2,q3⟩:=e4 j hj;exact⟨ad,q1,q2,q3.trans (by dsimp only;rw[e i hi j hj])⟩
def tab {α:Type}(a b c d:α)(i j:Nat):α:=if i=0 then (if j=0 then a else b) else (if j=0 then c else d)
def zKT {α:Type}{P:α->Prop}{a b c d:α}(h:P a/\P b/\P c/\P d)(i j:Nat):P (tab a b c d i j):=by
 unfold tab;split <;> split;exact h.1;exact h.2.1;exact h.2.2.1;exact h.2.2.2
instance (v:Ext):Decidable (Fits v):=by
 rcases v with(_|_)|x;exact .isTrue trivial;exact .isTrue trivial;show Decidable (zbr x);unfold zbr;infer_instance
instance (v:Ext):Decidable (Sh4 v):=by
 rcases v with(_|_)|x;exact .isTrue trivial;exact .isTrue trivial;show Decidable (_<=4);infer_instance
instance {k:Int} (v:El k):Decidable (zam v):=inferInstanceAs (Decidable (Fits v.1))
def A1:Nat->Nat->El 1:=tab (e1 1) (e1 2) zxs (e1 3)
def A2:Nat->Nat->El 2:=tab (e2 (1/2) (by decide +kernel)) (e2 (1/4) (by decide +kernel)) (e2 0 (by decide +kernel)) (e2 (1/3) (by decide +kernel))
def A3:Nat->Nat->El 1:=fun _ _=>e1 (-1)
def G1:Nat->Nat->ByteArray:=tab li1 li2 ztd li3
def G2:Nat->Nat->ByteArray:=tab ⟨#[49,47,50]⟩ ⟨#[49,47,52]⟩ li0 ⟨#[49,47,51]⟩
def G3:Nat->Nat->ByteArray:=fun _ _=>⟨#[45,49]⟩
def R1:Nat->Nat->ByteArray:=tab li0 li2 ztd li0
def R2:Nat->Nat->ByteArray:=tab li2 ⟨#[51,47,52]⟩ li0 ⟨#[51,47,50]⟩
def R3:Nat->Nat->ByteArray:=fun _ _=>zIZ
def zmc {P:Nat->Nat->Prop}(h:P 0 0/\P 0 1/\P 1 0/\P 1 1):∀ i,i<2->∀ j,j<2->P i j:=fun i hi j hj=>by
 rcases (show i=0∨i=1 by omega) with rfl|rfl <;> rcases (show j=0∨j=1 by omega) with rfl|rfl;exact h.1;exact h.2.1;exact h.2.2.1;exact h.2.2.2
def zCg {P:Nat->Nat->Prop}(h:P 0 0):∀ i,i<1->∀ j,j<1->P i j:=fun i hi j hj=>by
 obtain rfl:i=0:=by omega
 obtain rfl:j=0:=by omega
 exact h
def ex1 {w:World}{e:Ending}{w':World}(h:zjD 1 2 (fun _=>2) G1 w e w'):w.grownBy w' none/\∃ v,e=.returned (.tuple #[v,.int .i64 0])/\zfu w' v 2 (fun _=>2) R1:=by
 obtain⟨hg,v,h1,h2⟩:=zpN k1 (A0:=A1) (by omega) (zmc (by refine⟨?_,?_,?_,?_⟩ <;> decide +kernel)) (zmc (by refine⟨?_,?_,?_,?_⟩ <;> decide +kernel)) (zmc (by refine⟨?_,?_,?_,?_⟩ <;> decide +kernel)) (by decide +kernel) (fun _ _=>rfl) h;exact zQbz
def ex2 {w:World}{e:Ending}{w':World}(h:zjD 2 2 (fun _=>2) G2 w e w'):w.grownBy w' none/\∃ v,e=.returned (.tuple #[v,.int .i64 0])/\zfu w' v 2 (fun _=>2) R2:=by
 obtain⟨hg,v,h1,h2⟩:=zpN k2 (A0:=A2) (by omega) (zmc (by refine⟨?_,?_,?_,?_⟩ <;> decide +kernel)) (zmc (by refine⟨?_,?_,?_,?_⟩ <;> decide +kernel)) (zmc (by refine⟨?_,?_,?_,?_⟩ <;> decide +kernel)) (by decide +kernel) (fun _ _=>rfl) h;exact zQbz
def ex3 {w:World}{e:Ending}{w':World}(h:zjD 1 1 (fun _=>1) G3 w e w'):w.grownBy w' none/\∃ v,e=.returned (.tuple #[v,.int .i64 0])/\zfu w' v 1 (fun _=>1) R3:=by
 obtain⟨hg,v,h1,h2⟩:=zpN k1 (A0:=A3) (by omega) (zCg (by decide +kernel)) (zCg (by decide +kernel)) (zCg (by decide +kernel)) (by decide +kernel) (fun _ _=>rfl) h;exact⟨hg,v,h1,h2.texts.congr (zCg (by decide +kernel))⟩
def zbG:zaj:=⟨1,0,li1,[⟨⟨#[]⟩,[⟨1,1,li2,1⟩]⟩,⟨li4,[⟨2,1,li3,1⟩]⟩]⟩
def zCh {a:ByteArray}{x:Rat}(h:zaA a x):wgtB 1 a=true:=zlH (v:=.inr x) ⟨h,rfl⟩
def val7 {a:ByteArray}{x:Rat}(h:zaA a x):Val 1 a (.inr x):=⟨h,rfl⟩
def r1:zaA li1 1:=⟨by decide +kernel,by decide +kernel⟩
def r2:zaA li2 2:=⟨by decide +kernel,by decide +kernel⟩
def r3:zaA li3 3:=⟨by decide +kernel,by decide +kernel⟩
def r4:zaA li4 4:=⟨by decide +kernel,by decide +kernel⟩
def zkk:validB zbG=true:=by
 unfold validB headB zbG stB6 finB arcB zap zcY;simp[zCh r1,zCh r2,zCh r3,zCh r4];exact .inl (by decide +kernel)
def znM:checkC zbG=0:=by
 unfold checkC;rw[if_pos zkk];rfl
def zpP:zdD zbG:=⟨by decide +kernel,by decide +kernel,by decide +kernel,by decide +kernel,by decide +kernel⟩
def znN {x:Rat}{a:ByteArray}(h:zaA a x):vE k1 a=e1 x:=Subtype.ext (zBF k1 (val7 h))
def Am:Nat->Nat->El 1:=tab zxs (e1 2) zxs (e1 3)
def Fm (i:Nat):El 1:=if i=0 then zxs else e1 4
def zJs:∀ i,i<2->∀ j,j<2->arcM k1 zbG.states i j=Am i j:=zmc (by
 refine⟨?_,?_,?_,?_⟩
 all_goals
  rw[zjg];unfold arcL stA zbG;simp[znN r2,znN r3];decide +kernel)
def zMt:∀ i,i<2->finM k1 zbG.states i=Fm i:=fun i hi=>by
 rcases (show i=0∨i=1 by omega) with rfl|rfl
 ·unfold finM finE stF zbG Fm
  simp;decide +kernel
 unfold finM finE stF zbG Fm;simp only[List.getElem?_cons_succ,List.getElem?_cons_zero,Option.map_some,Option.getD_some];rw[if_neg (by decide +kernel),znN r4];rfl
def zxt:toE k1 zbG.states 0=e1 6/\toE k1 zbG.states 1=e1 4:=by
 have h:=fun i (hi:i<2)=>zld (srE 1 k1) (n:=2) (fun i j hi hj=>zJs i hi j hj) zMt hi;exact zQbL
def zxu:frE k1 zbG.states li1 0 0=e1 1/\frE k1 zbG.states li1 0 1=e1 3:=by
 have hl:∀ i,i<2->leadM k1 li1 0 i=(if i=0 then e1 1 else zxs):=fun i hi=>by
  unfold leadM;rw[znN r1];rfl
 have h:=fun i (hi:i<2)=>zld (srE 1 k1) (n:=2) (A:=fun x y=>arcM k1 zbG.states y x) (B:=fun x y=>Am y x) (fun i j hi hj=>zJs j hj i hi) hl hi;exact zQbL
def zte:zgC zbG.kind zbG.states:=⟨by decide,by decide +kernel,fun i hi a ha=>by
  rcases (show i=0∨i=1 by have:i<2:=hi;omega) with rfl|rfl;rw[zqbk.1 (show a∈[_] from ha)];unfold zbY;decide +kernel
  ·rw[zqbk.1 (show a∈[_] from ha)];unfold zbY;decide +kernel,fun i hi=>by
  rcases (show i=0∨i=1 by have:i<2:=hi;omega) with rfl|rfl;unfold zbY;decide +kernel;unfold zbY;decide +kernel⟩
def zzS:zda 1 zbG.states:=(zcH zkk).sts (by decide)
def zKU:totE k1 (trimM zbG).states (trimM zbG).lead (trimM zbG).start.toNat=e1 7:=by
 have h:=zpO (k:=1) k1 (m:=zbG) (zhW zkk);rw[h];unfold totE;show(srE 1 k1).mul (vE k1 li1) (toE k1 zbG.states 0)=e1 7;rw[znN r1,zxt.1];decide +kernel
open Go.RowKit
def zmd (w:World)(a b:ByteArray):zaK (w.alloc (.cells #[.string a,.string b] 9)) (.slice (some ⟨w.heap.size,0,none⟩) 2 2) 2 (fun j=>.string (if j=0 then a else b)) :=
 ⟨_,2,rfl,zqab _,by unfold maxLen;omega,fun j hj=>⟨_,rfl,by simp,by
  rw[zcn,zqat];rcases (show j=0∨j=1 by omega) with rfl|rfl
  exact zan w _ _ rfl;exact zan w _ _ rfl⟩⟩
def zJa (w:World)(a:ByteArray):zaK (w.alloc (.cells #[.string a] 9)) (.slice (some ⟨w.heap.size,0,none⟩) 1 1) 1 (fun j=>.string a) :=
 ⟨_,1,rfl,zqab _,by unfold maxLen;omega,fun j hj=>⟨_,rfl,by simp,by
  rw[zcn,zqat];obtain rfl:j=0:=by omega
  exact zan w _ _ rfl⟩⟩
def zkl (w:World)(a b c d:ByteArray)(H1 H2:Nat)(h1:H1=w.heap.size+1)(h2:H2=w.heap.size+2) :
  zfu (((w.alloc (.cells #[.string a,.string b] 9)).alloc (.cells #[.string c,.string d] 9)).alloc (.cells #[.slice (some ⟨w.heap.size,0,none⟩) 2 2,.slice (some ⟨H1,0,none⟩) 2 2] 27)) (.slice (some ⟨H2,0,none⟩) 2 2) 2 (fun _=>2) (tab a b c d):=by
 subst h1 h2;have g1:=zGA (w.alloc (.cells #[.string a,.string b] 9)) (.cells #[.string c,.string d] 9) none;have g2:=zGA ((w.alloc (.cells #[.string a,.string b] 9)).alloc (.cells #[.string c,.string d] 9)) (.cells #[.slice (some ⟨w.heap.size,0,none⟩) 2 2,.slice (some ⟨w.heap.size+1,0,none⟩) 2 2] 27) none;have r1:=((zmd w a b).grown g1).grown g2;have r2:=(zmd (w.alloc (.cells #[.string a,.string b] 9)) c d).grown g2;have hs1:(w.alloc (.cells #[.string a,.string b] 9)).heap.size=w.heap.size+1:=by simp
 have hs2:((w.alloc (.cells #[.string a,.string b] 9)).alloc (.cells #[.string c,.string d] 9)).heap.size=w.heap.size+2:=by simp
 rw[hs1] at r2;refine⟨fun i=>if i=0 then .slice (some ⟨w.heap.size,0,none⟩) 2 2 else .slice (some ⟨w.heap.size+1,0,none⟩) 2 2,⟨_,2,rfl,zqab _,by unfold maxLen;omega,fun j hj=>⟨_,rfl,by simp,?_⟩⟩,fun i hi=>?_⟩
 ·rw[zcn,zqat,<- hs2]
  rcases (show j=0∨j=1 by omega) with rfl|rfl;exact zan _ _ _ rfl;exact zan _ _ _ rfl
 unfold tab;rcases (show i=0∨i=1 by omega) with rfl|rfl;exact r1;exact r2
def zum (w:World)(a:ByteArray)(H1:Nat)(h1:H1=w.heap.size+1) :
  zfu ((w.alloc (.cells #[.string a] 9)).alloc (.cells #[.slice (some ⟨w.heap.size,0,none⟩) 1 1] 27)) (.slice (some ⟨H1,0,none⟩) 1 1) 1 (fun _=>1) (fun _ _=>a):=by
 subst h1;have g2:=zGA (w.alloc (.cells #[.string a] 9)) (.cells #[.slice (some ⟨w.heap.size,0,none⟩) 1 1] 27) none;have r1:=(zJa w a).grown g2;have hs1:(w.alloc (.cells #[.string a] 9)).heap.size=w.heap.size+1:=by simp
 refine⟨fun i=>.slice (some ⟨w.heap.size,0,none⟩) 1 1,⟨_,1,rfl,zqab _,by unfold maxLen;omega,fun j hj=>⟨_,rfl,by simp,?_⟩⟩,fun i hi=>r1⟩;rw[zcn,zqat,<- hs1];obtain rfl:j=0:=by omega
 exact zan _ _ _ rfl
def zxv {a b c d:ByteArray}(h:a.size<=9/\b.size<=9/\c.size<=9/\d.size<=9)(i j:Nat):(tab a b c d i j).size<=maxLen:=by
 have:=zKT (P:=fun x:ByteArray=>x.size<=9) h i j;unfold maxLen;omega
def zjK {W:World}{g k n:Nat}{xs:List Value}{t:TypeId}(h:W.heap[g]?=some (.cells xs.toArray t (0,0)))(hl:xs.length=n*k):Reads W W.heap.size k (some ⟨g,0,none⟩) n xs :=
 ⟨hl,fun _=>⟨_,rfl,(zqad.1 h).1,fun j u hu=>by
  rw[zcn,zqat,zqbw W g _ _ _ (0,0) h,zqap];exact hu⟩⟩
def zKV (w:World)(H:Nat)(hH:H=w.heap.size+2) :
  zbJ ((((w.alloc (.cells #[.int .i64 1,.int .i64 1,.string li2,.int .i64 1] 45)).alloc (.cells #[.int .i64 2,.int .i64 1,.string li3,.int .i64 1] 45)).alloc (.cells #[.string ⟨#[]⟩,.slice (some ⟨w.heap.size,0,none⟩) 1 1,.string li4,.slice (some ⟨w.heap.size+1,0,none⟩) 1 1] 40)).alloc (.cells #[.int .i64 1,.int .i64 0,.string li1,.slice (some ⟨H,0,none⟩) 2 2] 24))
   (.agg #[.int .i64 1,.int .i64 0,.string li1,.slice (some ⟨H,0,none⟩) 2 2]) zbG:=by
 subst hH;have g1:=zGA (w.alloc (.cells #[.int .i64 1,.int .i64 1,.string li2,.int .i64 1] 45)) (.cells #[.int .i64 2,.int .i64 1,.string li3,.int .i64 1] 45) none;have g2:=zGA ((w.alloc (.cells #[.int .i64 1,.int .i64 1,.string li2,.int .i64 1] 45)).alloc (.cells #[.int .i64 2,.int .i64 1,.string li3,.int .i64 1] 45)) (.cells #[.string ⟨#[]⟩,.slice (some ⟨w.heap.size,0,none⟩) 1 1,.string li4,.slice (some ⟨w.heap.size+1,0,none⟩) 1 1] 40) none;have g3:=zGA (((w.alloc (.cells #[.int .i64 1,.int .i64 1,.string li2,.int .i64 1] 45)).alloc (.cells #[.int .i64 2,.int .i64 1,.string li3,.int .i64 1] 45)).alloc (.cells #[.string ⟨#[]⟩,.slice (some ⟨w.heap.size,0,none⟩) 1 1,.string li4,.slice (some ⟨w.heap.size+1,0,none⟩) 1 1] 40)) (.cells #[.int .i64 1,.int .i64 0,.string li1,.slice (some ⟨w.heap.size+2,0,none⟩) 2 2] 24) none;have b0:=zaG w (.cells #[.int .i64 1,.int .i64 1,.string li2,.int .i64 1] 45);have b1:=zaG (w.alloc (.cells #[.int .i64 1,.int .i64 1,.string li2,.int .i64 1] 45)) (.cells #[.int .i64 2,.int .i64 1,.string li3,.int .i64 1] 45);have b2:=zaG ((w.alloc (.cells #[.int .i64 1,.int .i64 1,.string li2,.int .i64 1] 45)).alloc (.cells #[.int .i64 2,.int .i64 1,.string li3,.int .i64 1] 45)) (.cells #[.string ⟨#[]⟩,.slice (some ⟨w.heap.size,0,none⟩) 1 1,.string li4,.slice (some ⟨w.heap.size+1,0,none⟩) 1 1] 40);have z1:(w.alloc (.cells #[.int .i64 1,.int .i64 1,.string li2,.int .i64 1] 45)).heap.size=w.heap.size+1:=by simp
 have z2:((w.alloc (.cells #[.int .i64 1,.int .i64 1,.string li2,.int .i64 1] 45)).alloc (.cells #[.int .i64 2,.int .i64 1,.string li3,.int .i64 1] 45)).heap.size=w.heap.size+2:=by simp
 rw[z1] at b1;rw[z2] at b2;have c0:=(g3.block _ (by first|(simp;omega)|simp) (by simp)).trans ((g2.block _ (by first|(simp;omega)|simp) (by simp)).trans ((g1.block w.heap.size (by simp) (by simp)).trans b0));have c1:=(g3.block _ (by first|(simp;done)|(simp;omega)) (by simp)).trans ((g2.block (w.heap.size+1) (by simp) (by simp)).trans b1);have c2:=(g3.block (w.heap.size+2) (by simp) (by simp)).trans b2;refine⟨_,rfl,some ⟨w.heap.size+2,0,none⟩,2,[.slice (some ⟨w.heap.size,0,none⟩) 1 1,.slice (some ⟨w.heap.size+1,0,none⟩) 1 1],rfl,rfl,zjK c2 rfl,fun i s u hs hu=>?_⟩;have hi:i<2:=(zqae.1 hs).1;rcases (show i=0∨i=1 by omega) with rfl|rfl
 ·simp only[zbG,List.getElem?_cons_zero,Option.some.injEq] at hs hu
  subst hs hu;exact⟨_,1,rfl,zjK (xs:=([⟨1,1,li2,1⟩]:List zaI).flatMap zea) c0 rfl⟩
 simp only[zbG,List.getElem?_cons_succ,List.getElem?_cons_zero,Option.some.injEq] at hs hu;subst hs hu;exact⟨_,1,rfl,zjK (xs:=([⟨2,1,li3,1⟩]:List zaI).flatMap zea) c1 rfl⟩
def zKW (w:World)(H:Nat):zdv ((((w.alloc (.cells #[.int .i64 1,.int .i64 1,.string li2,.int .i64 1] 45)).alloc (.cells #[.int .i64 2,.int .i64 1,.string li3,.int .i64 1] 45)).alloc (.cells #[.string ⟨#[]⟩,.slice (some ⟨w.heap.size,0,none⟩) 1 1,.string li4,.slice (some ⟨w.heap.size+1,0,none⟩) 1 1] 40)).alloc (.cells #[.int .i64 1,.int .i64 0,.string li1,.slice (some ⟨H,0,none⟩) 2 2] 24)) (w.heap.size+3) 1 0 li1 (some ⟨H,0,none⟩) 2 2:=by
 have h:=zdv.new (((w.alloc (.cells #[.int .i64 1,.int .i64 1,.string li2,.int .i64 1] 45)).alloc (.cells #[.int .i64 2,.int .i64 1,.string li3,.int .i64 1] 45)).alloc (.cells #[.string ⟨#[]⟩,.slice (some ⟨w.heap.size,0,none⟩) 1 1,.string li4,.slice (some ⟨w.heap.size+1,0,none⟩) 1 1] 40)) 1 0 li1 (some ⟨H,0,none⟩) 2 2;rw[show(((w.alloc (.cells #[.int .i64 1,.int .i64 1,.string li2,.int .i64 1] 45)).alloc (.cells #[.int .i64 2,.int .i64 1,.string li3,.int .i64 1] 45)).alloc (.cells #[.string ⟨#[]⟩,.slice (some ⟨w.heap.size,0,none⟩) 1 1,.string li4,.slice (some ⟨w.heap.size+1,0,none⟩) 1 1] 40)).heap.size=w.heap.size+3 by simp] at h;exact h
def zzT {w:World}{v:Value}{f:Nat->El 1}{a b:ByteArray}(h:zaK w v 2 (txs f))(h0:tx (f 0)=a)(h1:tx (f 1)=b):zaK w v 2 (fun j=>.string (if j=0 then a else b)):=by
 obtain⟨A,c,e1,e2,e3,e4⟩:=h;refine⟨A,c,e1,e2,e3,fun j hj=>?_⟩;obtain⟨ad,q1,q2,q3⟩:=e4 j hj;refine⟨ad,q1,q2,q3.trans ?_⟩;unfold txs;rcases (show j=0∨j=1 by omega) with rfl|rfl;rw[h0];rfl;rw[h1];rfl
def zKX {w:World}{e:Ending}{w':World}(h:zxh zbG w e w'):w.grownBy w' none/\∃ v,e=.returned (.tuple #[v,.int .i64 0])/\zaK w' v 2 (fun j=>.string (if j=0 then li6 else li4)):=by
 rcases h with⟨hn,_⟩|⟨_,hk,hg,⟨_,v,h1,h2⟩|⟨hn,_⟩⟩;exact absurd znM hn;exact⟨hg,v,h1,zzT h2 (by rw[show toE hk zbG.states 0=e1 6 from zxt.1];decide +kernel) (by rw[show toE hk zbG.states 1=e1 4 from zxt.2];decide +kernel)⟩;exact absurd (zxo k1 zte zzS) hn
def zFS {w:World}{e:Ending}{w':World}(h:zpM zbG w e w'):w.grownBy w' none/\∃ v,e=.returned (.tuple #[v,.int .i64 0])/\zaK w' v 2 (fun j=>.string (if j=0 then li1 else li3)):=by
 rcases h with⟨hn,_⟩|⟨_,hk,hg,⟨_,v,h1,h2⟩|⟨hn,_⟩⟩;exact absurd znM hn;exact⟨hg,v,h1,zzT h2 (by rw[show frE hk zbG.states zbG.lead zbG.start.toNat 0=e1 1 from zxu.1];decide +kernel) (by rw[show frE hk zbG.states zbG.lead zbG.start.toNat 1=e1 3 from zxu.2];decide +kernel)⟩;exact absurd (zxr k1 (s0:=0) zte zzS ⟨_,val7 r1⟩ (by unfold zbY;decide +kernel)) hn
def zJb {w:World}{e:Ending}{w':World}(h:znJ zbG w e w'):w.grownBy w' none/\e=.returned (.tuple #[.string li7,.int .i64 0]):=by
 rcases h with⟨hn,_⟩|⟨_,hk,hg,⟨_,h1⟩|⟨hn,_⟩⟩;exact absurd znM hn
 ·refine⟨hg,h1.trans ?_⟩
  rw[show totE hk (trimM zbG).states (trimM zbG).lead (trimM zbG).start.toNat=e1 7 from zKU];exact zqbz (fun a=>Ending.returned (.tuple #[.string a,.int .i64 0])) (show tx (k:=1) (e1 7)=li7 by decide +kernel)
 exact absurd (zul (m:=zbG) k1 zkk zte (by unfold zbY;decide +kernel)) hn
def zkF (n:Nat)(l:Nat->Nat)(X:Nat->Nat->ByteArray):zFg n n l l X X:=⟨rfl,fun _ _=>⟨rfl,fun _ _=>rfl⟩⟩
def zdx (w:World):Calls prog 5 #[] w (fun e w'=>e=.returned (.bool true)/\w.grownBy w' none):=by
 go_enter func5,ntmps5;go_wp2_with fail;refine(zpG 1 2 (fun _=>2) G1 _ _ (by omega) (zkl w li1 li2 ztd li3 _ _ rfl rfl) (zxv (by decide +kernel))).mono ?_;intro e w1 hq;obtain⟨hg,v1,rfl,hm1⟩:=ex1 hq;have H1:=zHd (zAI hm1 (zaa (zaa (zaa (zGA w (.cells #[.string li1,.string li2] 9) none) (zGA _ (.cells #[.string ztd,.string li3] 9) none)) (zGA _ _ none)) hg));clear hq hm1 hg;go_wp2_with fail;refine(zpG 2 2 (fun _=>2) G2 _ _ (by omega) (zkl w1 ⟨#[49,47,50]⟩ ⟨#[49,47,52]⟩ li0 ⟨#[49,47,51]⟩ _ _ rfl rfl) (zxv (by decide +kernel))).mono ?_;intro e w2 hq;obtain⟨hg,v2,rfl,hm2⟩:=ex2 hq;have H2:=zHd (zAI hm2 (zaa (zaa (zaa (zGA w1 (.cells #[.string ⟨#[49,47,50]⟩,.string ⟨#[49,47,52]⟩] 9) none) (zGA _ (.cells #[.string li0,.string ⟨#[49,47,51]⟩] 9) none)) (zGA _ _ none)) hg));clear hq hm2 hg;go_wp2_with fail;refine(zpG 1 1 (fun _=>1) G3 _ _ (by omega) (zum w2 ⟨#[45,49]⟩ _ rfl) (fun _ _=>by show(⟨#[45,49]⟩:ByteArray).size<=maxLen;decide +kernel)).mono ?_;intro e w3 hq;obtain⟨hg,v3,rfl,hm3⟩:=ex3 hq;have H3:=zHd (zAI hm3 (zaa (zaa (zGA w2 (.cells #[.string ⟨#[45,49]⟩] 9) none) (zGA _ _ none)) hg));clear hq hm3 hg;go_wp2_with fail;have hgm:=zaa (zaa (zaa (zGA w3 (.cells #[.int .i64 1,.int .i64 1,.string li2,.int .i64 1] 45) none) (zGA _ (.cells #[.int .i64 2,.int .i64 1,.string li3,.int .i64 1] 45) none)) (zGA _ (.cells #[.string ⟨#[]⟩,.slice (some ⟨w3.heap.size,0,none⟩) 1 1,.string li4,.slice (some ⟨w3.heap.size+1,0,none⟩) 1 1] 40) none)) (zGA _ (.cells #[.int .i64 1,.int .i64 0,.string li1,.slice (some ⟨w3.heap.size+1+1,0,none⟩) 2 2] 24) none);have hmv:=zKV w3 (w3.heap.size+1+1) rfl;have hbx:=zKW w3 (w3.heap.size+1+1);have HG:=zHd hgm;have HMV:=zHd hmv;have HBX:=zHd hbx;clear hgm hmv hbx;refine(znG HMV.out zpP).mono ?_;intro e w4 hq;obtain⟨hg4,v4,rfl,hr4⟩:=zKX hq;obtain⟨x0,x1,x2,x3⟩:=HBX.out.grown hg4;have HMV4:=zHd (HMV.out.below (zbM hg4));have H4:=zHd (zAI hr4 (zaa HG.out hg4));have HBX4:=zHd (HBX.out.grown hg4);clear hq hr4 hg4 HMV HBX HG;go_wp2_with fail;refine(zjI HMV4.out zpP).mono ?_;intro e w5 hq;obtain⟨hg5,v5,rfl,hr5⟩:=zFS hq;obtain⟨y0,y1,y2,y3⟩:=HBX4.out.grown hg5;have HMV5:=zHd (HMV4.out.below (zbM hg5));have H5:=zHd (zAI hr5 hg5);clear hq hr5 hg5 HMV4 HBX4 x0 x1 x2 x3;go_wp2_with fail;refine(ziA HMV5.out zpP).mono ?_;intro e w6 hq;obtain⟨hg6,rfl⟩:=zJb hq;have H6:=zHd hg6;clear hq hg6 HMV5 y0 y1 y2 y3;go_wp2_with fail;have G6:=zHd (zaa (zaa (zaa H6.out (zGA w6 (.cells #[.string li0,.string li2] 9) none)) (zGA _ (.cells #[.string ztd,.string li0] 9) none)) (zGA _ (.cells #[.slice (some ⟨w6.heap.size,0,none⟩) 2 2,.slice (some ⟨w6.heap.size+1,0,none⟩) 2 2] 27) none));refine(zhP 2 2 (fun _=>2) (fun _=>2) R1 R1 _ _ _ (by omega) (by omega) (by intros;omega) (by intros;omega) (((((H1.out.1.grown H2.out.2).grown H3.out.2).grown H4.out.2).grown H5.out.2).grown G6.out) (zkl w6 li0 li2 ztd li0 _ _ rfl rfl)).mono ?_;rintro e w7 ⟨b,rfl,hb,hg7⟩;obtain rfl:=hb.2 (zkF 2 (fun _=>2) R1);have H7:=zHd (zaa G6.out hg7);clear hb hg7 G6;go_wp2_with fail;have G7:=zHd (zaa (zaa (zaa H7.out (zGA w7 (.cells #[.string li2,.string ⟨#[51,47,52]⟩] 9) none)) (zGA _ (.cells #[.string li0,.string ⟨#[51,47,50]⟩] 9) none)) (zGA _ (.cells #[.slice (some ⟨w7.heap.size,0,none⟩) 2 2,.slice (some ⟨w7.heap.size+1,0,none⟩) 2 2] 27) none));refine(zhP 2 2 (fun _=>2) (fun _=>2) R2 R2 _ _ _ (by omega) (by omega) (by intros;omega) (by intros;omega) ((((H2.out.1.grown H3.out.2).grown H4.out.2).grown H5.out.2).grown G7.out) (zkl w7 li2 ⟨#[51,47,52]⟩ li0 ⟨#[51,47,50]⟩ _ _ rfl rfl)).mono ?_;rintro e w8 ⟨b,rfl,hb,hg8⟩;obtain rfl:=hb.2 (zkF 2 (fun _=>2) R2);have H8:=zHd (zaa G7.out hg8);clear hb hg8 G7;go_wp2_with fail;have G8:=zHd (zaa (zaa H8.out (zGA w8 (.cells #[.string zIZ] 9) none)) (zGA _ (.cells #[.slice (some ⟨w8.heap.size,0,none⟩) 1 1] 27) none));refine(zhP 1 1 (fun _=>1) (fun _=>1) R3 R3 _ _ _ (by omega) (by omega) (by intros;omega) (by intros;omega) (((H3.out.1.grown H4.out.2).grown H5.out.2).grown G8.out) (zum w8 zIZ _ rfl)).mono ?_;rintro e w9 ⟨b,rfl,hb,hg9⟩;obtain rfl:=hb.2 (zkF 1 (fun _=>1) R3);have H9:=zHd (zaa G8.out hg9);clear hb hg9 G8;go_wp2_with fail;have G9:=zHd (zaa H9.out (zGA w9 (.cells #[.string li6,.string li4] 9) none));refine(ziv 2 2 (fun j=>if j=0 then li6 else li4) (fun j=>if j=0 then li6 else li4) _ _ _ (by omega) (by omega) ((H4.out.1.grown H5.out.2).grown G9.out) (zmd w9 li6 li4)).mono ?_;rintro e wa ⟨b,rfl,hb,hga⟩;obtain rfl:=hb.2 ⟨rfl,fun _ _=>rfl⟩;have HA:=zHd (zaa G9.out hga);clear hb hga G9;go_wp2_with fail;have GA:=zHd (zaa HA.out (zGA wa (.cells #[.string li1,.string li3] 9) none));refine(ziv 2 2 (fun j=>if j=0 then li1 else li3) (fun j=>if j=0 then li1 else li3) _ _ _ (by omega) (by omega) (H5.out.1.grown GA.out) (zmd wa li1 li3)).mono ?_;rintro e wb ⟨b,rfl,hb,hgb⟩;obtain rfl:=hb.2 ⟨rfl,fun _ _=>rfl⟩;have HB:=zHd (zaa GA.out hgb);clear hb hgb GA;go_wp2_with fail;rw[show(li7.toList==[55])=true by decide +kernel];exact zqby (v:=.bool true) (by simp[results,results5,go_sem]) rfl ⟨rfl,zaa H1.out.2 (zaa H2.out.2 (zaa H3.out.2 (zaa H4.out.2 (zaa H5.out.2 HB.out))))⟩
end Go.Proofs.YtiblmbpfcmcccaaGreatDoor
