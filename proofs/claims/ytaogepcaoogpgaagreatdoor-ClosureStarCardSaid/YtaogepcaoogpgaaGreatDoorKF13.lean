/- Part. -/
import Derived.Test.YtaogepcaoogpgaaGreatDoorKF12
set_option linter.unusedVariables false
set_option linter.unusedSimpArgs false
set_option maxRecDepth 100000
set_option maxHeartbeats 16000000
namespace Go.Proofs.YtaogepcaoogpgaaGreatDoor
open Go.RowKit
section
variable {k:Int}
noncomputable def leadM (hk:zad k)(ld:ByteArray)(s0:Nat)(i:Nat):El k:=if i=s0 then vE hk ld else (srE k hk).zero
noncomputable def frE (hk:zad k)(l:List zai)(ld:ByteArray)(s0:Nat)(i:Nat):El k:=zbP (srE k hk) (fun x y=>arcM hk l y x) l.length (leadM hk ld s0) i
def zjm (hk:zad k)(l:List zai)(ld:ByteArray)(s0:Nat):Prop:=zhB hk l/\SolveFits (srE k hk) zam l.length l.length 1 (fun x y=>arcM hk l y x) (fun x _=>leadM hk ld s0 x)
theorem zEr (hk:zad k){ld:ByteArray}(h:∃ v,Val k ld v)(s0 i:Nat):zam (leadM hk ld s0 i):=by
 unfold leadM;split
 ·exact(znF hk h).2
 ·exact zcw hk
theorem zEs (hk:zad k)(l:List zai)(us:List Value)(As:Option Addr)(cs gc:Nat)(w:World)(hok:zdA k l)(hst:zhA w l us As cs)(hcal:zcR w gc k) :
  Calls Tryz.prog 94 #[.slice As l.length cs,.func (.func 98) #[] #[.pointer (some ⟨gc,0,none⟩)]] w fun e w'=>∃ zs:List Value,e=.returned (.slice (some ⟨w.heap.size,0,none⟩) l.length l.length)/\zfs w' w.heap.size w.heap.size l.length 1 zs (fun i=>txs (fun _=>(srE k hk).zero))/\w'.heap[w.heap.size]?=some (.cells zs.toArray 33 (0,0))/\w.grownBy w' none:=by
 have h:=ziq 98 znM #[] #[.pointer (some ⟨gc,0,none⟩)] l us As cs 1 (fun _=>True) (fun i=>txs (fun _=>(srE k hk).zero)) w (by have:=hok.n60;omega) hst (fun i s u hs hu w' hw' ha=>by
  obtain⟨Au,cu,rfl,_⟩:=ha;have h1:=zsd gc undef s.fin Au s.arcs.length cu hk w' (hcal.grown hw');refine h1.mono (fun e w3 h=>?_);obtain⟨g,e1,q1,q2,q3⟩:=h;exact .inl ⟨trivial,_,e1,⟨g,0,1,rfl,zqab _,by unfold maxLen;omega,.inr q1,q2⟩,q3⟩)
 refine h.mono (fun e w3 h=>?_);rcases h with⟨_,v,e1,⟨zs,rfl,q1,q2⟩,q3⟩|⟨hn,_⟩
 ·exact⟨zs,e1,q1,q2,q3⟩
 ·exact absurd (fun _ _=>trivial) hn
theorem zEt (hk:zad k){w:World}{H n s0 gl:Nat}{zs:List Value}{ld:ByteArray}(hn:n<=60)(hs:s0<n)(hz:zfs w H H n 1 zs (fun i=>txs (fun _=>(srE k hk).zero)))(hrow:w.heap[H]?=some (.cells zs.toArray 33 (0,0)))
  (hgl:gl≠H) (hl:zaq w gl 0 1 (txs (fun _=>vE hk ld))) :
  zbv (w.setCell ⟨H,s0,none⟩ (.slice (some ⟨gl,0,none⟩) 1 1)) (.slice (some ⟨H,0,none⟩) n n) n 1 (fun i _=>leadM hk ld s0 i):=by
 have hset:=heap_setCell_same w H s0 _ _ (.slice (some ⟨gl,0,none⟩) 1 1) hrow;have hzl:=hz.1;refine⟨fun i=>if i=s0 then .slice (some ⟨gl,0,none⟩) 1 1 else zs.getD i (.slice none 0 0),⟨_,n,rfl,zqab _,by unfold maxLen;omega,fun j hj=>⟨_,rfl,(zqad.1 hset).1,?_⟩⟩,fun i hi=>?_⟩
 ·rw[zcl,zqat,zqbw _ H j _ _ (0,0) hset,List.setIfInBounds_toArray,zqap,List.getElem?_set]
  by_cases e:s0=j
  ·subst e
   rw[if_pos rfl,if_pos (by omega)];simp
  ·rw[if_neg e,zqac (by omega)]
   dsimp only;rw[if_neg (Ne.symm e),zqaa,zqac (by omega)];rfl
 ·by_cases e:i=s0
  ·subst e
   refine⟨gl,0,1,by simp,zqab _,by unfold maxLen;omega,?_⟩;have h:=hl.grownB (zac w ⟨H,i,none⟩ (.slice (some ⟨gl,0,none⟩) 1 1)) hgl;refine⟨h.1,fun j hj=>(h.2 j hj).trans ?_⟩;unfold txs leadM;dsimp only;rw[if_pos rfl]
  ·obtain⟨gi,o,c,h1,h2,h3,h4,h5⟩:=hz.2.2 i hi
   refine⟨gi,o,c,by dsimp only;rw[if_neg e];exact h1,h2,h3,?_⟩;have h:=h5.grownB (zac w ⟨H,s0,none⟩ (.slice (some ⟨gl,0,none⟩) 1 1)) h4;refine⟨h.1,fun j hj=>(h.2 j hj).trans ?_⟩;unfold txs leadM;dsimp only;rw[if_neg e]
theorem zAV {n:Nat}{F:Nat->Nat->El k}{w:World}{v:Value}(hn:n<=60)(hv:zbv w v n n F) :
  Calls Tryz.prog 99 #[v] w (fun e w'=>∃ g,e=.returned (.slice (some ⟨g,0,none⟩) n n)/\zbv w' (.slice (some ⟨g,0,none⟩) n n) n n (fun x y=>F y x)/\w.grownBy w' none):=by
 obtain⟨rs,h1,h2⟩:=hv;refine(zrP n rs (fun i j=>tx (F i j)) v w (by omega) h1 (fun i hi=>(h2 i hi).row)).mono (fun e w' h=>?_);obtain⟨zs,e1,e2,e3,e4,e5⟩:=h;refine⟨_,e1,⟨_,e3.row (zqab _) (by unfold maxLen;omega),fun i hi=>?_⟩,e5⟩;obtain⟨g,q1,q2,q3⟩:=e4 i (by omega);exact⟨g,0,n,q1,zqab _,by unfold maxLen;omega,q3⟩
theorem ztU (hk:zad k)(l:List zai)(us:List Value)(As:Option Addr)(cs s0:Nat)(ld:ByteArray)(w:World)(hok:zdA k l)(hst:zhA w l us As cs)(hs0:s0<l.length)(hld:∃ v,Val k ld v) :
  Calls Tryz.prog 55 #[.agg #[.int .i64 k,.int .i64 (s0:Int),.string ld,.slice As l.length cs]] w (zbO (zjm hk l ld s0) (fun v w'=>∃ g,v=.slice (some ⟨g,0,none⟩) l.length l.length/\w.heap.size<=g/\zaq w' g 0 l.length (txs (frE hk l ld s0))) w):=by
 have hmf := @zMF Tryz.prog;have hof:=fun w'=>znA k w';have hfin:=fun(gc:Nat) (w':World) (hg:w.grownBy w' none) (hcal:zcR w' gc k)=>zEs hk l us As cs gc w' hok (hst.grown hg) hcal;have hsteps:=fun(w':World) (hg:w.grownBy w' none)=>ztf hk l us As cs k (s0:Int) ld w' hok (hst.grown hg);have hturn:=fun(v:Value) (w':World) (hv:zbv w' v l.length l.length (arcM hk l))=>zAV hok.n60 hv
 have hsolve:=fun(av bv:Value) (w':World) (ha:zbv w' av l.length l.length (fun x y=>arcM hk l y x)) (hb:zbv w' bv l.length 1 (fun i _=>leadM hk ld s0 i)) (hf:zhB hk l)=>zjK hk 1 (zqab _) l.length l.length (fun x y=>arcM hk l y x) (fun x _=>leadM hk ld s0 x) av bv w' (zqab _) (by have:=hok.n60;omega)
  ⟨ha,hb,fun i _ j hj=>zvU hk hf hj i,fun i hi j _=>zEr hk hld s0 i⟩
 have hcol:=fun(v:Value) (w':World) (hv:zbv w' v l.length 1 (solveF (srE k hk) l.length l.length (fun x y=>arcM hk l y x) (fun x _=>leadM hk ld s0 x))) =>
  (show Calls Tryz.prog 96 #[v] w' (fun e w2=>∃ u,e=.returned u/\u=.slice (some ⟨w'.heap.size,0,none⟩) l.length l.length/\zaq w2 w'.heap.size 0 l.length (fun i=>.string (tx (solveF (srE k hk) l.length l.length (fun x y=>arcM hk l y x) (fun x _=>leadM hk ld s0 x) i 0)))/\w'.grownBy w2 none) from by
   obtain⟨rs,h1,h2⟩:=hv;exact zqx l.length 1 rs (fun i=>txs (solveF (srE k hk) l.length l.length (fun x y=>arcM hk l y x) (fun x _=>leadM hk ld s0 x) i)) _ v w' (by have:=hok.n60;omega) (by omega) h1 (fun i hi=>(h2 i hi).row) (fun i hi=>rfl))
 have hval:∀ i,i<l.length->solveF (srE k hk) l.length l.length (fun x y=>arcM hk l y x) (fun x _=>leadM hk ld s0 x) i 0=frE hk l ld s0 i:=fun i hi=>zgv _ _ _ _ _ (zqab _) i 0 hi;have hlt:=znF hk hld;have HO:=zHd hof;have HF:=zHd hfin;have HT:=zHd hsteps;have HU:=zHd hturn;have HS:=zHd hsolve;have HC:=zHd hcol;have HV:=zHd hval;have HN:=zHd (zAI hok.n60 (zAI hs0 hlt));have hal:=zGA w (.cells #[.int .i64 k,.int .i64 (s0:Int),.string ld,.slice As l.length cs] 31) none;obtain⟨x0,x1,x2,x3⟩:=zeR.new w k (s0:Int) ld As l.length cs;have HW:=zHd hal;have i1:(s0:Int)<(l.length:Int):=by omega
 have i2:(0:Int)<=(s0:Int):=by omega
 clear hof hfin hsteps hturn hsolve hcol hval hok hst hal hs0 hld hlt;unfold zbi at *;go_enter Tryz.func55,Tryz.ntmps55;go_wp2_with fail;refine(HO.out _).mono ?_;rintro e w1 ⟨rfl,hg1⟩;have hal:=zGA w1 (.cells #[.int .i64 k,.string (zae k),.string (zal k)] 64) none;have hg2:=zaa hg1 hal;have y0:=hg2.cell x0 (by simp);have y1:=hg2.cell x1 (by simp);have y2:=hg2.cell x2 (by simp);have y3:=hg2.cell x3 (by simp);have xc:zcR (w1.alloc (.cells #[.int .i64 k,.string (zae k),.string (zal k)] 64)) w1.heap.size k:=⟨zao w1 _ _ rfl,zao w1 _ _ rfl,zao w1 _ _ rfl⟩;have hws1:w.heap.size+1<=w1.heap.size:=by have:=hg1.size;simpa using this
 have HG2:=zHd (zaa HW.out hg2);have HXC:=zHd xc;have HWS:=zHd hws1;clear x0 x1 x2 x3 hg1 hal hg2 xc HO HW hws1;go_wp2_with fail;refine(HF.out w1.heap.size _ HG2.out HXC.out).mono ?_;rintro e w3 ⟨zs,rfl,hzs,hzr,hg3⟩;have z0:=hg3.cell y0 (by simp);have z1:=hg3.cell y1 (by simp);have z2:=hg3.cell y2 (by simp);have z3:=hg3.cell y3 (by simp);have zc:=HXC.out.grown hg3;rw[show(w1.alloc (.cells #[.int .i64 k,.string (zae k),.string (zal k)] 64)).heap.size=w1.heap.size+1 by simp] at hzs hzr;have hal:=zGA w3 (.cells #[.string ld] 9) none;have hw3:w1.heap.size+1<w3.heap.size:=(zqad.1 hzr).1;have hzr4:=(hal.block _ hw3 (by simp)).trans hzr;have r0:=zqbw _ (w1.heap.size+1) s0 _ _ (0,0) hzr4;obtain⟨zz,hzz⟩:∃ zz,zs[s0]?=some zz:=⟨_,zqac (by have:=hzs.1;have:=HN.out.2.1;omega)⟩;rw[zqap,hzz] at r0;have f0:=zqbx _ (w1.heap.size+1) s0 _ _ hzr4;have hne1:¬ w.heap.size=w1.heap.size+1:=by have:=HWS.out;omega
 have hne2:¬ w1.heap.size+1=w.heap.size:=by have:=HWS.out;omega
 have hz4:zfs (w3.alloc (.cells #[.string ld] 9)) (w1.heap.size+1) (w1.heap.size+1) l.length 1 zs (fun i=>txs (fun _=>(srE k hk).zero)):=⟨hzs.1,hzs.2.1.grown hal,fun i hi=>by
  obtain⟨gi,o,c,q1,q2,q3,q4,q5⟩:=hzs.2.2 i hi;exact⟨gi,o,c,q1,q2,q3,q4,q5.grown hal⟩⟩
 have hlr:zaq (w3.alloc (.cells #[.string ld] 9)) w3.heap.size 0 1 (txs (fun _=>vE hk ld)):=by
  have h:=zrO w3 (.string ld) 9;refine⟨h.1,fun j hj=>(h.2 j hj).trans ?_⟩;unfold txs;rw[<- HN.out.2.2.1]
 have hmat:=zEt hk (ld:=ld) HN.out.1 HN.out.2.1 hz4 hzr4 (by omega) hlr;have hg4:w.grownBy ((w3.alloc (.cells #[.string ld] 9)).setCell ⟨w1.heap.size+1,s0,none⟩ (.slice (some ⟨w3.heap.size,0,none⟩) 1 1)) none:=zaj (zaa (zaa HG2.out hg3) hal) (zac _ _ _) (by show w.heap.size<=w1.heap.size+1;have:=HWS.out;omega);have k0:=zaZ (o:=s0) (u:=.slice (some ⟨w3.heap.size,0,none⟩) 1 1) hne1 (hal.cell z0 (by simp));have k1:=zaZ (o:=s0) (u:=.slice (some ⟨w3.heap.size,0,none⟩) 1 1) hne1 (hal.cell z1 (by simp));have k2:=zaZ (o:=s0) (u:=.slice (some ⟨w3.heap.size,0,none⟩) 1 1) hne1 (hal.cell z2 (by simp));have k3:=zaZ (o:=s0) (u:=.slice (some ⟨w3.heap.size,0,none⟩) 1 1) hne1 (hal.cell z3 (by simp));have j0:=zaZ (o:=s0) (u:=.slice (some ⟨w3.heap.size,0,none⟩) 1 1) (show w1.heap.size≠w1.heap.size+1 by omega) (hal.cell zc.1 (by simp));have j1:=zaZ (o:=s0) (u:=.slice (some ⟨w3.heap.size,0,none⟩) 1 1) (show w1.heap.size≠w1.heap.size+1 by omega) (hal.cell zc.2.1 (by simp));have j2:=zaZ (o:=s0) (u:=.slice (some ⟨w3.heap.size,0,none⟩) 1 1) (show w1.heap.size≠w1.heap.size+1 by omega) (hal.cell zc.2.2 (by simp));have HK:=zHd (zAI j0 (zAI j1 (zAI j2 (zAI k0 (zAI k1 (zAI k2 k3))))));have HG4:=zHd hg4;have HFM:=zHd hmat;clear hg4 hmat hlr hz4 hzr4 hzs hzr hg3 hzz HXC HF y0 y1 y2 y3 zc hw3 k0 k1 k2 k3 j0 j1 j2;go_upto_region 4 with(fail);obtain⟨j0,j1,j2,k0,k1,k2,k3⟩:=HK.out;generalize ((w3.alloc (.cells #[.string ld] 9)).setCell ⟨w1.heap.size+1,s0,none⟩ (.slice (some ⟨w3.heap.size,0,none⟩) 1 1))=w4 at *;have S3:(fun W':World=>W'.cell? ⟨w1.heap.size,0,none⟩=some (.int .i64 k)/\W'.cell? ⟨w1.heap.size,1,none⟩=some (.string (zae k))/\W'.cell? ⟨w1.heap.size,2,none⟩=some (.string (zal k))/\W'.cell? ⟨w.heap.size,0,none⟩=some (.int .i64 k)/\W'.cell? ⟨w.heap.size,1,none⟩=some (.int .i64 (s0:Int))/\W'.cell? ⟨w.heap.size,2,none⟩=some (.string ld)/\W'.cell? ⟨w.heap.size,3,none⟩=some (.slice As l.length cs)) w4.drew:=⟨j0,j1,j2,k0,k1,k2,k3⟩;have HGD:=zHd (zaa HG4.out (zag w4 none));clear j0 j1 j2 k0 k1 k2 k3 HK z0 z1 z2 z3 r0 f0
 go_region_held2 (fun W'=>W'.cell? ⟨w1.heap.size,0,none⟩=some (.int .i64 k)/\W'.cell? ⟨w1.heap.size,1,none⟩=some (.string (zae k))/\W'.cell? ⟨w1.heap.size,2,none⟩=some (.string (zal k))/\W'.cell? ⟨w.heap.size,0,none⟩=some (.int .i64 k)/\W'.cell? ⟨w.heap.size,1,none⟩=some (.int .i64 (s0:Int))/\W'.cell? ⟨w.heap.size,2,none⟩=some (.string ld)/\W'.cell? ⟨w.heap.size,3,none⟩=some (.slice As l.length cs)) (first|exact S3|exact S5|exact S8|exact S6|exact S7|go_keep)
  (first
  | (go_at_call 97;refine(HT.out _ HGD.out).mono ?_;rintro e w5 (⟨hp,v5,rfl,hm5,hg5⟩|⟨hn,rfl,hg5⟩);rotate_left 1;(exact⟨rfl,.inr ⟨fun h=>hn h.1,rfl,zaa HGD.out hg5⟩⟩);obtain⟨A5,e5,rfl⟩:=hm5.shape;have S5:(fun W':World=>W'.cell? ⟨w1.heap.size,0,none⟩=some (.int .i64 k)/\W'.cell? ⟨w1.heap.size,1,none⟩=some (.string (zae k))/\W'.cell? ⟨w1.heap.size,2,none⟩=some (.string (zal k))/\W'.cell? ⟨w.heap.size,0,none⟩=some (.int .i64 k)/\W'.cell? ⟨w.heap.size,1,none⟩=some (.int .i64 (s0:Int))/\W'.cell? ⟨w.heap.size,2,none⟩=some (.string ld)/\W'.cell? ⟨w.heap.size,3,none⟩=some (.slice As l.length cs)) w5:=⟨hg5.cell S3.1 (by simp),hg5.cell S3.2.1 (by simp),hg5.cell S3.2.2.1 (by simp),hg5.cell S3.2.2.2.1 (by simp),hg5.cell S3.2.2.2.2.1 (by simp),hg5.cell S3.2.2.2.2.2.1 (by simp),hg5.cell S3.2.2.2.2.2.2 (by simp)⟩;have H5:=zHd (zAI hp (zAI hm5 hg5));clear hp hm5 hg5)
  | (go_at_call 99;refine(HU.out _ w5 H5.out.2.1).mono ?_;rintro e w8 ⟨g8,rfl,hm8,hg8⟩;have S8:(fun W':World=>W'.cell? ⟨w1.heap.size,0,none⟩=some (.int .i64 k)/\W'.cell? ⟨w1.heap.size,1,none⟩=some (.string (zae k))/\W'.cell? ⟨w1.heap.size,2,none⟩=some (.string (zal k))/\W'.cell? ⟨w.heap.size,0,none⟩=some (.int .i64 k)/\W'.cell? ⟨w.heap.size,1,none⟩=some (.int .i64 (s0:Int))/\W'.cell? ⟨w.heap.size,2,none⟩=some (.string ld)/\W'.cell? ⟨w.heap.size,3,none⟩=some (.slice As l.length cs)) w8:=⟨hg8.cell S5.1 (by simp),hg8.cell S5.2.1 (by simp),hg8.cell S5.2.2.1 (by simp),hg8.cell S5.2.2.2.1 (by simp),hg8.cell S5.2.2.2.2.1 (by simp),hg8.cell S5.2.2.2.2.2.1 (by simp),hg8.cell S5.2.2.2.2.2.2 (by simp)⟩;have H8:=zHd (zAI hm8 hg8);clear hm8 hg8)
  | (go_at_call 43;refine(HS.out _ _ w8 H8.out.1 (((HFM.out.grown (zag w4 none)).grown H5.out.2.2).grown H8.out.2) H5.out.1).mono ?_;rintro e w6 (⟨hp,v6,rfl,hm6,hg6⟩|⟨hn,rfl,hg6⟩);rotate_left 1;(exact⟨rfl,.inr ⟨fun h=>hn h.2,rfl,zaa (zaa (zaa HGD.out H5.out.2.2) H8.out.2) hg6⟩⟩);obtain⟨A6,e6,rfl⟩:=hm6.shape;have S6:(fun W':World=>W'.cell? ⟨w1.heap.size,0,none⟩=some (.int .i64 k)/\W'.cell? ⟨w1.heap.size,1,none⟩=some (.string (zae k))/\W'.cell? ⟨w1.heap.size,2,none⟩=some (.string (zal k))/\W'.cell? ⟨w.heap.size,0,none⟩=some (.int .i64 k)/\W'.cell? ⟨w.heap.size,1,none⟩=some (.int .i64 (s0:Int))/\W'.cell? ⟨w.heap.size,2,none⟩=some (.string ld)/\W'.cell? ⟨w.heap.size,3,none⟩=some (.slice As l.length cs)) w6:=⟨hg6.cell S8.1 (by simp),hg6.cell S8.2.1 (by simp),hg6.cell S8.2.2.1 (by simp),hg6.cell S8.2.2.2.1 (by simp),hg6.cell S8.2.2.2.2.1 (by simp),hg6.cell S8.2.2.2.2.2.1 (by simp),hg6.cell S8.2.2.2.2.2.2 (by simp)⟩;have H6:=zHd (zAI hp (zAI hm6 hg6));clear hp hm6 hg6)
  | (go_at_call 96;refine(HC.out _ w6 H6.out.2.1).mono ?_;rintro e w7 ⟨u7,rfl,rfl,hr7,hg7⟩;have S7:(fun W':World=>W'.cell? ⟨w1.heap.size,0,none⟩=some (.int .i64 k)/\W'.cell? ⟨w1.heap.size,1,none⟩=some (.string (zae k))/\W'.cell? ⟨w1.heap.size,2,none⟩=some (.string (zal k))/\W'.cell? ⟨w.heap.size,0,none⟩=some (.int .i64 k)/\W'.cell? ⟨w.heap.size,1,none⟩=some (.int .i64 (s0:Int))/\W'.cell? ⟨w.heap.size,2,none⟩=some (.string ld)/\W'.cell? ⟨w.heap.size,3,none⟩=some (.slice As l.length cs)) w7:=⟨hg7.cell S6.1 (by simp),hg7.cell S6.2.1 (by simp),hg7.cell S6.2.2.1 (by simp),hg7.cell S6.2.2.2.1 (by simp),hg7.cell S6.2.2.2.2.1 (by simp),hg7.cell S6.2.2.2.2.2.1 (by simp),hg7.cell S6.2.2.2.2.2.2 (by simp)⟩;have H7:=zHd (zAI hr7 hg7);clear hr7 hg7))
 all_goals
  go_wp2;go_ret;refine .inl ⟨⟨H5.out.1,H6.out.1⟩,_,rfl,⟨w6.heap.size,rfl,?_,H7.out.1.1,fun j hj=>(H7.out.1.2 j hj).trans ?_⟩,zaa (zaa (zaa (zaa HGD.out H5.out.2.2) H8.out.2) H6.out.2.2) H7.out.2⟩
  ·have h1:=HGD.out.size
   have h2:=H5.out.2.2.size;have h4:=H8.out.2.size;have h3:=H6.out.2.2.size;omega
  ·unfold txs
   rw[<- HV.out j hj]
end
open Go.RowKit
theorem zHG {k:Int}{v:Ext}(h:zgm k v=true):zap k v=true:=by
 rcases v with(_|_)|x
 ·cases h
 ·cases h
 ·unfold zgm at h
  unfold zap;simp only[Bool.or_eq_true,zqbb,zqca] at h ⊢;rcases h with h|⟨h,h2⟩
  ·exact .inl h
  ·exact .inr ⟨h,by grind⟩
theorem zmW {k:Int}{a:ByteArray}(h:wgtB k a=true):∃ v,Val k a v:=by
 obtain⟨v,hv⟩:=zoH h;exact⟨v,hv.e,zHG hv.has⟩
structure MOk (m:zak):Prop where
 kind:zad m.kind
 start:∃ s0:Nat,m.start=(s0:Int)/\s0<m.states.length
 lead:∃ v,Val m.kind m.lead v
 arcs:∀ i,i<m.states.length->zvT m.kind m.states.length (stA m.states i)/\(stA m.states i).length<=30000
 fins:∀ i,i<m.states.length->stF m.states i=⟨#[]⟩∨∃ v,Val m.kind (stF m.states i) v
theorem zfz {m:zak}(h:validB m=true):MOk m:=by
 obtain⟨h1,h2,h3,h4,h5,h6⟩:=zeP (zeO h);refine⟨(zsR _).1 h1,⟨m.start.toNat,by omega,by omega⟩,zmW h6,fun i hi=>?_,fun i hi=>?_⟩
 ·have hs:m.states[i]?=some m.states[i]:=zqac hi
  rw[zmO hs];obtain⟨_,ha⟩:=zga (zhe h hs);refine⟨fun a hm=>?_,?_⟩
  ·obtain⟨_,_,_,_,q1,q2,q3⟩:=zia (ha a hm)
   exact⟨q1,q2,zmW q3⟩
  ·have:=zsS (zqak hs)
   have:=zll h;omega
 ·have hs:m.states[i]?=some m.states[i]:=zqac hi
  rw[zky hs];obtain⟨hf,_⟩:=zga (zhe h hs);unfold finB at hf;simp only[Bool.or_eq_true,zqca] at hf;rcases hf with hf|hf
  ·exact .inl (ByteArray.ext (Array.eq_empty_of_size_eq_zero hf))
  ·exact .inr (zmW hf)
theorem MOk.sts {m:zak}(h:MOk m)(hn:m.states.length<=60):zdA m.kind m.states:=⟨hn,h.arcs,h.fins⟩
noncomputable def checkC (m:zak):Int:=if validB m=true then (if 60<m.states.length then 2 else 0) else 1
theorem zmX {w:World}{v:Value}{m:zak}(hv:zdo w v m)(hf:zhd m):Calls Tryz.prog 50 #[v] w fun e w'=>e=.returned (.int .i64 (checkC m))/\w.grownBy w' none:=by
 obtain⟨u,rfl,hst⟩:=hv;obtain⟨A,cs,us,rfl,hsr⟩:=zkx hst;obtain⟨n,hn⟩:∃ n,m.states.length=n:=⟨_,rfl⟩;have hal:=zGA w (.cells #[.int .i64 m.kind,.int .i64 m.start,.string m.lead,.slice A m.states.length cs] 31) none;have hval:=zqy (w:=w.alloc (.cells #[.int .i64 m.kind,.int .i64 m.start,.string m.lead,.slice A m.states.length cs] 31)) (v:=.agg #[.int .i64 m.kind,.int .i64 m.start,.string m.lead,.slice A m.states.length cs]) (m:=m) ⟨_,rfl,hst.below (zcM hal)⟩ hf;obtain⟨x0,x1,x2,x3⟩:=zeR.new w m.kind m.start m.lead A m.states.length cs;have HV:=zHd hval;have HW:=zHd hal;have HN:=zHd hf.n;clear hval hal hst hsr hf;rw[hn] at HV HW x0 x1 x2 x3 HN;have hcc:checkC m=(if validB m=true then (if 60<n then 2 else 0) else 1):=by unfold checkC;rw[hn]
 have HCC:=zHd hcc;clear hcc;generalize checkC m=cc at *;rw[hn];go_enter Tryz.func50,Tryz.ntmps50;go_wp2_with fail;refine HV.out.mono ?_;rintro e w1 ⟨rfl,hg1⟩;have y3:=hg1.cell x3 (by simp);have HG:=zHd (zaa HW.out hg1);clear hg1 x0 x1 x2 x3 HV HW;cases hb:validB m
 ·go_wp2
  go_ret;have e:=HCC.out;rw[hb] at e;subst e;exact⟨rfl,HG.out⟩
 ·by_cases h60:60<n
  ·have t1:decide (60<n)=true:=by simpa using h60
   have t2:decide ((60:Int)<(n:Int))=true:=by simp;omega
   have t3:(60:Int)<(n:Int):=by omega
   have H6:=zHd h60;clear h60;go_wp2;go_ret;have e:=HCC.out;rw[hb,if_pos rfl,if_pos H6.out] at e;subst e;exact⟨rfl,HG.out⟩
  ·have t1:decide (60<n)=false:=by simpa using h60
   have t2:decide ((60:Int)<(n:Int))=false:=by simp;omega
   have t3:¬ (60:Int)<(n:Int):=by omega
   have H6:=zHd h60;clear h60;go_wp2;go_ret;have e:=HCC.out;rw[hb,if_pos rfl,if_neg H6.out] at e;subst e;exact⟨rfl,HG.out⟩
open Go.RowKit
theorem zkd {m:zak}(h:checkC m=0):validB m=true/\m.states.length<=60:=by
 unfold checkC at h;split at h
 ·split at h
  ·omega
  ·exact⟨by assumption,by omega⟩
 ·omega
def zwe (m:zak)(P:Prop)(L:Nat->Value)(w:World)(e:Ending)(w':World):Prop :=
 w.grownBy w' none/\((P/\∃ v,e=.returned (.tuple #[v,.int .i64 0])/\zaG w' v m.states.length L)∨(¬ P/\e=.returned (.tuple #[.slice none 0 0,.int .i64 2])))
theorem zAW:Enters 52:=enters_of Tryz.func52 (by kernel_rfl) rfl
theorem zJy {k:Int}(hk:zad k)(l:List zai)(us:List Value)(As:Option Addr)(cs g s0:Nat)(ld:ByteArray)(w:World)(hok:zdA k l)(hst:zhA w l us As cs)(hs0:s0<l.length)(hld:∃ v,Val k ld v)(hb:zeR w g k (s0:Int) ld As l.length cs) :
  Calls Tryz.prog 52 #[.pointer (some ⟨g,0,none⟩)] w (zbO (zif hk l) (fun v w'=>∃ g,v=.slice (some ⟨g,0,none⟩) l.length l.length/\w.heap.size<=g/\zaq w' g 0 l.length (txs (toE hk l))) w):=by
 have h:=zth hk l us As cs (s0:Int) ld w hok hst;obtain⟨x0,x1,x2,x3⟩:=hb;have H:=zHd h;clear h hok hst hs0 hld;go_enter Tryz.func52,Tryz.ntmps52;go_wp2_with fail;refine H.out.mono ?_;rintro e w1 (⟨hp,v,rfl,hq,hg1⟩|⟨hn,rfl,hg1⟩)
 ·have HP:=zHd (zAI hp (zAI hq hg1))
  clear hp hq hg1 H;go_wp2;go_ret;exact .inl ⟨HP.out.1,_,rfl,HP.out.2.1,HP.out.2.2⟩
 ·exact⟨rfl,.inr ⟨hn,rfl,hg1⟩⟩
def zwf (m:zak)(w:World)(e:Ending)(w':World):Prop :=
 (checkC m≠0/\w.grownBy w' none/\e=.returned (.tuple #[.slice none 0 0,.int .i64 (checkC m)]))∨(checkC m=0/\∃ hk:zad m.kind,zwe m (zif hk m.states) (txs (toE hk m.states)) w e w')
theorem zKK {w:World}{v:Value}{m:zak}(hv:zdo w v m)(hf:zhd m):Calls Tryz.prog 18 #[v] w (zwf m w):=by
 have hmf := @zMF Tryz.prog;have hv0:=hv;obtain⟨u,rfl,hst⟩:=hv;obtain⟨A,cs,us,rfl,hsr⟩:=zkx hst;have hal:=zGA w (.cells #[.int .i64 m.kind,.int .i64 m.start,.string m.lead,.slice A m.states.length cs] 31) none;have hck:=zmX (w:=w.alloc (.cells #[.int .i64 m.kind,.int .i64 m.start,.string m.lead,.slice A m.states.length cs] 31)) (v:=.agg #[.int .i64 m.kind,.int .i64 m.start,.string m.lead,.slice A m.states.length cs]) (m:=m) ⟨_,rfl,hst.below (zcM hal)⟩ hf;have hbx:=zeR.new w m.kind m.start m.lead A m.states.length cs;obtain⟨x0,x1,x2,x3⟩:=hbx;have hsr1:=hsr.grown hal;have HC:=zHd hck;have HW:=zHd hal;have HS:=zHd (zAI hsr1 (zeR.new w m.kind m.start m.lead A m.states.length cs));clear hck hal hsr hst hv0 hf hsr1;unfold zwf;go_enter Tryz.func18,Tryz.ntmps18;go_wp2_with fail;refine HC.out.mono ?_;rintro e w1 ⟨rfl,hg1⟩;have HG:=zHd hg1;clear hg1 HC x0 x1 x2 x3;obtain⟨c,hc⟩:∃ c,checkC m=c:=⟨_,rfl⟩;rw[hc];have HCC:=zHd hc;clear hc
 by_cases h0:c=0
 ·subst h0
  obtain⟨hvalid,h60⟩:=zkd HCC.out;have hok:=zfz hvalid;obtain⟨s0,hs0,hs1⟩:=hok.start;have hal1:=zGA w1 (.cells #[.int .i64 0] 24) none;have hgs:=zaa HG.out hal1;have hbx:=HS.out.2.grown hgs;rw[hs0] at hbx;have h1:=zJy hok.kind m.states us A cs w.heap.size s0 m.lead (w1.alloc (.cells #[.int .i64 0] 24)) (hok.sts h60) (HS.out.1.grown hgs) hs1 hok.lead hbx
  have hat:=zob (WB:=w1.heap.size) 52 zAW #[] #[.pointer (some ⟨w.heap.size,0,none⟩)] (zif hok.kind m.states) (fun v w'=>∃ g,v=.slice (some ⟨g,0,none⟩) m.states.length m.states.length/\g≠w1.heap.size/\zaq w' g 0 m.states.length (txs (toE hok.kind m.states)))
   (fun v wa wb b hb hg e hq=>by
    subst e;obtain⟨g,q1,q2,q3⟩:=hq;exact⟨g,q1,q2,q3.grownB hg q2⟩) w1 rfl (h1.mono (fun e w' h=>by
    rcases h with⟨hp,v,h1,⟨g,rfl,h2,h3⟩,h4⟩|h
    ·exact .inl ⟨hp,_,h1,⟨⟨_,_,_,rfl⟩,g,rfl,by simp at h2;omega,h3⟩,h4⟩
    ·exact .inr h))
  have HT:=zHd hat;have HK:=zHd (zAI hok.kind (zAI h60 hs0));clear hat h1 hbx hgs hal1 hvalid h60 hs0;go_wp2_with fail;refine HT.out.mono ?_;rintro e w2 (⟨hp,v,rfl,hq,hg2⟩|⟨hn2,rfl,hg2⟩)
  ·obtain⟨g,rfl,_,hq⟩:=hq
   have H2:=zHd (zAI hp (zAI hq (zaa (zaa HW.out HG.out) hg2)));clear hp hq hg2;go_wp2;exact zqby (v:=.tuple #[.slice (some ⟨g,0,none⟩) m.states.length m.states.length,.int .i64 0]) (by simp[results,Tryz.results18,go_sem]) rfl (.inr ⟨HCC.out,hok.kind,H2.out.2.2,.inl ⟨H2.out.1,_,rfl,(H2.out.2.1.row (zqab _) (by have:=HK.out.2.1;unfold maxLen;omega))⟩⟩)
  ·have H2:=zHd (zAI hn2 (zaa (zaa HW.out HG.out) hg2))
   clear hn2 hg2;go_wp2;exact zqby (v:=.tuple #[.slice none 0 0,.int .i64 2]) (by simp[results,Tryz.results18,go_sem]) rfl (.inr ⟨HCC.out,hok.kind,H2.out.2,.inr ⟨H2.out.1,rfl⟩⟩)
 ·have t1:(c==0)=false:=by simpa using h0
  have t2:(c != 0)=true:=by simpa using h0
  have H0:=zHd h0;clear h0;go_wp2;exact zqby (v:=.tuple #[.slice none 0 0,.int .i64 c]) (by simp[results,Tryz.results18,go_sem]) rfl (.inl ⟨by rw[HCC.out];exact H0.out,zaa HW.out HG.out,by rw[HCC.out]⟩)
theorem zwg:Enters 54:=enters_of Tryz.func54 (by kernel_rfl) rfl
theorem zEu {k:Int}(hk:zad k)(l:List zai)(us:List Value)(As:Option Addr)(cs g s0:Nat)(ld:ByteArray)(w:World)(hok:zdA k l)(hst:zhA w l us As cs)(hs0:s0<l.length)(hld:∃ v,Val k ld v)(hb:zeR w g k (s0:Int) ld As l.length cs) :
  Calls Tryz.prog 54 #[.pointer (some ⟨g,0,none⟩)] w (zbO (zjm hk l ld s0) (fun v w'=>∃ g,v=.slice (some ⟨g,0,none⟩) l.length l.length/\w.heap.size<=g/\zaq w' g 0 l.length (txs (frE hk l ld s0))) w):=by
 have h:=ztU hk l us As cs s0 ld w hok hst hs0 hld;obtain⟨x0,x1,x2,x3⟩:=hb;have H:=zHd h;clear h hok hst hs0 hld;go_enter Tryz.func54,Tryz.ntmps54;go_wp2_with fail;refine H.out.mono ?_;rintro e w1 (⟨hp,v,rfl,hq,hg1⟩|⟨hn,rfl,hg1⟩)
 ·have HP:=zHd (zAI hp (zAI hq hg1))
  clear hp hq hg1 H;go_wp2;go_ret;exact .inl ⟨HP.out.1,_,rfl,HP.out.2.1,HP.out.2.2⟩
 ·exact⟨rfl,.inr ⟨hn,rfl,hg1⟩⟩
def zoS (m:zak)(w:World)(e:Ending)(w':World):Prop :=
 (checkC m≠0/\w.grownBy w' none/\e=.returned (.tuple #[.slice none 0 0,.int .i64 (checkC m)]))∨(checkC m=0/\∃ hk:zad m.kind,zwe m (zjm hk m.states m.lead m.start.toNat) (txs (frE hk m.states m.lead m.start.toNat)) w e w')
theorem zHH {w:World}{v:Value}{m:zak}(hv:zdo w v m)(hf:zhd m):Calls Tryz.prog 19 #[v] w (zoS m w):=by
 have hmf := @zMF Tryz.prog;have hv0:=hv;obtain⟨u,rfl,hst⟩:=hv;obtain⟨A,cs,us,rfl,hsr⟩:=zkx hst;have hal:=zGA w (.cells #[.int .i64 m.kind,.int .i64 m.start,.string m.lead,.slice A m.states.length cs] 31) none;have hck:=zmX (w:=w.alloc (.cells #[.int .i64 m.kind,.int .i64 m.start,.string m.lead,.slice A m.states.length cs] 31)) (v:=.agg #[.int .i64 m.kind,.int .i64 m.start,.string m.lead,.slice A m.states.length cs]) (m:=m) ⟨_,rfl,hst.below (zcM hal)⟩ hf;have hbx:=zeR.new w m.kind m.start m.lead A m.states.length cs;obtain⟨x0,x1,x2,x3⟩:=hbx;have hsr1:=hsr.grown hal;have HC:=zHd hck;have HW:=zHd hal;have HS:=zHd (zAI hsr1 (zeR.new w m.kind m.start m.lead A m.states.length cs));clear hck hal hsr hst hv0 hf hsr1;unfold zoS;go_enter Tryz.func19,Tryz.ntmps19;go_wp2_with fail;refine HC.out.mono ?_;rintro e w1 ⟨rfl,hg1⟩;have HG:=zHd hg1;clear hg1 HC x0 x1 x2 x3;obtain⟨c,hc⟩:∃ c,checkC m=c:=⟨_,rfl⟩;rw[hc];have HCC:=zHd hc;clear hc
 by_cases h0:c=0
 ·subst h0
  obtain⟨hvalid,h60⟩:=zkd HCC.out;have hok:=zfz hvalid;obtain⟨s0,hs0,hs1⟩:=hok.start;have hal1:=zGA w1 (.cells #[.int .i64 0] 24) none;have hgs:=zaa HG.out hal1;have hbx:=HS.out.2.grown hgs;rw[hs0] at hbx;have h1:=zEu hok.kind m.states us A cs w.heap.size s0 m.lead (w1.alloc (.cells #[.int .i64 0] 24)) (hok.sts h60) (HS.out.1.grown hgs) hs1 hok.lead hbx
  have hat:=zob (WB:=w1.heap.size) 54 zwg #[] #[.pointer (some ⟨w.heap.size,0,none⟩)] (zjm hok.kind m.states m.lead s0) (fun v w'=>∃ g,v=.slice (some ⟨g,0,none⟩) m.states.length m.states.length/\g≠w1.heap.size/\zaq w' g 0 m.states.length (txs (frE hok.kind m.states m.lead s0)))
   (fun v wa wb b hb hg e hq=>by
    subst e;obtain⟨g,q1,q2,q3⟩:=hq;exact⟨g,q1,q2,q3.grownB hg q2⟩) w1 rfl (h1.mono (fun e w' h=>by
    rcases h with⟨hp,v,h1,⟨g,rfl,h2,h3⟩,h4⟩|h
    ·exact .inl ⟨hp,_,h1,⟨⟨_,_,_,rfl⟩,g,rfl,by simp at h2;omega,h3⟩,h4⟩
    ·exact .inr h))
  have HT:=zHd hat;have HK:=zHd (zAI hok.kind (zAI h60 hs0));clear hat h1 hbx hgs hal1 hvalid h60 hs0;go_wp2_with fail;refine HT.out.mono ?_;rintro e w2 (⟨hp,v,rfl,hq,hg2⟩|⟨hn2,rfl,hg2⟩)
  ·obtain⟨g,rfl,_,hq⟩:=hq
   have H2:=zHd (zAI hp (zAI hq (zaa (zaa HW.out HG.out) hg2)));clear hp hq hg2;go_wp2;exact zqby (v:=.tuple #[.slice (some ⟨g,0,none⟩) m.states.length m.states.length,.int .i64 0]) (by simp[results,Tryz.results19,go_sem]) rfl (.inr ⟨HCC.out,hok.kind,H2.out.2.2,.inl ⟨by rw[HK.out.2.2];exact H2.out.1,_,rfl,by rw[HK.out.2.2];exact(H2.out.2.1.row (zqab _) (by have:=HK.out.2.1;unfold maxLen;omega))⟩⟩)
  ·have H2:=zHd (zAI hn2 (zaa (zaa HW.out HG.out) hg2))
   clear hn2 hg2;go_wp2;exact zqby (v:=.tuple #[.slice none 0 0,.int .i64 2]) (by simp[results,Tryz.results19,go_sem]) rfl (.inr ⟨HCC.out,hok.kind,H2.out.2,.inr ⟨by rw[HK.out.2.2];exact H2.out.1,rfl⟩⟩)
 ·have t1:(c==0)=false:=by simpa using h0
  have t2:(c != 0)=true:=by simpa using h0
  have H0:=zHd h0;clear h0;go_wp2;exact zqby (v:=.tuple #[.slice none 0 0,.int .i64 c]) (by simp[results,Tryz.results19,go_sem]) rfl (.inl ⟨by rw[HCC.out];exact H0.out,zaa HW.out HG.out,by rw[HCC.out]⟩)
open Go.RowKit
def zmY (m:zak)(x:Nat):Bool:=(zhy m x).fin.size != 0
def zfh (m:zak)(k:Nat):List Nat:=(List.range k).filter (zmY m)
def zjn (m:zak):List Nat:=zcZ (zaV m) m.states.length 0 ([m.start.toNat].foldl zbe [])
def zeD (m:zak):List Nat:=zcZ (zbl m) m.states.length 0 ((zfh m m.states.length).foldl zbe [])
def znK (m:zak):List Nat:=(zjn m).filter (fun x=>decide (x∈zeD m))
theorem zEv (m:zak)(k:Nat):zfh m (k+1)=zfh m k++(if zmY m k then [k] else []):=by
 unfold zfh;rw[List.range_succ,List.filter_append];cases h:zmY m k <;> simp[List.filter,h]
theorem zlx {m:zak}{k x:Nat}:x∈zfh m k↔x<k/\zmY m x=true:=by
 unfold zfh;rw[List.mem_filter,List.mem_range]
theorem zwh (m:zak)(k:Nat):(zfh m k).length<=k:=by
 unfold zfh;exact zqam (List.length_filter_le _ _) (by simp)
theorem zyM {m:zak}{x:Nat}:isFin m x↔x<m.states.length/\zmY m x=true:=by
 unfold isFin zmY;constructor
 ·rintro ⟨s,hs,h⟩
  refine⟨(zqae.1 hs).1,?_⟩;rw[zhz hs];simpa using h
 ·rintro ⟨h,hb⟩
  have hs:m.states[x]?=some m.states[x]:=zqac h;rw[zhz hs] at hb;exact⟨_,hs,by simpa using hb⟩
theorem zhP {succ:Nat->List Nat}{S T:Nat->Prop}(h:∀ x,S x->T x){x:Nat}(hx:RFrom succ S x):RFrom succ T x:=by
 induction hx with
 | start h1=>exact .start (h _ h1)
 | step _ h2 ih=>exact .step ih h2
theorem zse {m:zak}(h:Wf m)(x:Nat):x∈zjn m↔RFrom (zaV m) (fun y=>y=m.start.toNat) x:=by
 have hst:m.start.toNat<m.states.length:=zlp h (.start rfl);unfold zjn;rw[zvQ (zhN h) (zcs List.nodup_nil) (zdE (fun z hz=>by simp at hz) (fun z hz=>by simp at hz;omega))];constructor
 ·exact zhP (fun y hy=>by rw[zfw] at hy;simpa using hy)
 ·exact zhP (fun y hy=>by rw[zfw];simpa using hy)
theorem zyN {m:zak}(x:Nat):x∈zeD m↔RFrom (zbl m) (isFin m) x:=by
 unfold zeD;rw[zvQ (n:=m.states.length) zhg (zcs List.nodup_nil) (zdE (fun z hz=>by simp at hz) (fun z hz=>(zlx.1 hz).1))];constructor
 ·exact zhP (fun y hy=>by rw[zfw] at hy;rw[zyM];simpa [zlx] using hy)
 ·exact zhP (fun y hy=>by rw[zfw];rw[zyM] at hy;simpa [zlx] using hy)
theorem ztm (m:zak):(zjn m).Nodup:=zqs (zcs List.nodup_nil)
theorem zEw (m:zak):(zeD m).Nodup:=zqs (zcs List.nodup_nil)
theorem ztn {m:zak}(h:Wf m):∀ x∈zjn m,x<m.states.length:=fun x hx=>zlp h ((zse h x).1 hx)
theorem zto {m:zak}:∀ x∈zeD m,x<m.states.length:=by
 intro x hx;have:=(zyN x).1 hx;cases this with
 | start h=>exact zKD h
 | step _ h=>exact zhg _ _ h
theorem zEx {m:zak}(h:Wf m):m.start.toNat∈zjn m:=(zse h _).2 (.start rfl)
theorem zEy {m:zak}(h:Wf m):(znK m).mergeSort (fun x y=>decide (x<=y))=usefulL m:=by
 have hp:=List.mergeSort_perm (znK m) (fun x y=>decide (x<=y));have hnd:(znK m).Nodup:=List.Pairwise.filter _ (ztm m);have hs:((znK m).mergeSort (fun x y=>decide (x<=y))).Pairwise (fun x y=>decide (x<=y)=true):=List.pairwise_mergeSort (fun a b c h1 h2=>by simp at *;omega) (fun a b=>by simp;omega) _;have hn2:=hp.nodup_iff.2 hnd;refine zEb ?_ (ztQ m) (fun x=>?_)
 ·exact(hs.and hn2).imp (fun⟨h1,h2⟩=>by simp at h1;omega)
 ·rw[hp.mem_iff,zdz h]
  unfold znK zji;rw[List.mem_filter,zse h,decide_eq_true_iff,zyN]
theorem zJz:∀ args w,(callFunc 186 args).run Tryz.prog w=.ok (.enter 186 args) w:=enters_of Tryz.func186 (by kernel_rfl) rfl
theorem zAX {W:World}{p g n x:Nat}{b:Bool}(h1:W.cell? ⟨p,0,none⟩=some (.slice (some ⟨g,0,none⟩) n n))(h2:W.cell? ⟨g,x,none⟩=some (.bool b))(hx:x<n) :
  FnGives Tryz.prog 186 #[.pointer (some ⟨p,0,none⟩)] #[.int .i64 (x:Int)] (.bool (!b)) W:=by
 have n1:(0:Int)<=(x:Int):=by omega
 have n2:(x:Int)<(n:Int):=by omega
 unfold FnGives;show Calls Tryz.prog 186 #[.int .i64 (x:Int),.pointer (some ⟨p,0,none⟩)] W _;go_enter Tryz.func186,Tryz.ntmps186;go_wp2
 all_goals (go_ret;exact⟨by simp_all,0,rfl⟩)
structure Ends (W:World)(p g n:Nat)(o:List Nat):Prop where
 var:W.cell? ⟨p,0,none⟩=some (.slice (some ⟨g,0,none⟩) n n)
 row:zcD W g (bv (zdM n o))
 hp:p<W.heap.size
def zke (n:Nat)(x:Fin n):Value:=.int .i64 (x.val:Int)
theorem Ends.gives {W W':World}{p g n:Nat}{o:List Nat}(h:Ends W p g n o)(x:Fin n)(h1:W'.cell? ⟨p,0,none⟩=W.cell? ⟨p,0,none⟩)(h2:∀ j,W'.cell? ⟨g,j,none⟩=W.cell? ⟨g,j,none⟩) :
  FnGives Tryz.prog 186 #[.pointer (some ⟨p,0,none⟩)] #[zke n x] (.bool (!decide (x.val∈o))) W' :=
 zAX (h1.trans h.var) ((h2 _).trans (by rw[h.row.cell];exact zvS _ _ _ (zgJ x.isLt))) x.isLt
theorem Ends.pred {W:World}{p g n:Nat}{o:List Nat}(h:Ends W p g n o):PredAt Tryz.prog 186 #[.pointer (some ⟨p,0,none⟩)] (zke n) (fun x => !decide (x.val∈o)) W :=
 fun W' x hb=>h.gives x (hb.cell (p:=⟨p,0,none⟩) h.hp) (fun j=>hb.cell (p:=⟨g,j,none⟩) h.row.lt)
theorem Ends.over {n:Nat}[Inhabited (Fin n)]{W:World}{p g:Nat}{o:List Nat}(h:Ends W p g n o){blk off size:Nat}(hp:p≠blk)(hg:g≠blk):PredOver Tryz.prog 186 #[.pointer (some ⟨p,0,none⟩)] (zke n) (fun x => !decide (x.val∈o)) blk off size W :=
 fun q os dk x _=>by
  have hgr:W.grownBy (sortWorld (zke n) W blk off q dk os) (some blk):=zjl (zke n) W blk off q dk os;exact h.gives x (World.cell?_of_block (hgr.block p h.hp (by simp;omega))) (fun j=>World.cell?_of_block (hgr.block g h.row.lt (by simp;omega)))
open Go.RowKit
def zeE (w:World)(g off:Nat)(l:List Nat):Prop:=∀ (j x:Nat),l[j]?=some x->w.cell? ⟨g,off+j,none⟩=some (.int .i64 (x:Int))/\w.frozen? ⟨g,off+j,none⟩=false
theorem QAt.holdsN {w:World}{B:Nat}{v:Value}{q:List Nat}(h:QAt w B v q)(hq:q≠[]):∃ g off cap,v=.slice (some ⟨g,off,none⟩) q.length cap/\B<=g/\g<w.heap.size/\q.length<=cap/\zeE w g off q:=by
 obtain⟨a,cap,hv,⟨h0,_⟩|⟨g,off,cur,ha,hB,hh,hc,ho,hx⟩⟩:=h
 ·exact absurd h0 hq
 ·subst ha
  exact⟨g,off,cap,hv,hB,(zqad.1 hh).1,hc,fun j x hj=>⟨by rw[zqbw w g _ _ _ (0,0) hh];exact hx j x hj,zqbx w g _ _ _ hh⟩⟩
theorem zeE.below {w w':World}{B g off:Nat}{l:List Nat}(h:zeE w g off l)(hb:Below B w w')(hg:g<B):zeE w' g off l:=fun j x hx =>
 ⟨(World.cell?_of_block (hb.block g hg)).trans (h j x hx).1,(World.frozen?_of_block (hb.block g hg)).trans (h j x hx).2⟩
theorem zEz {n:Nat}[Inhabited (Fin n)]{w:World}{g off:Nat}{l:List Nat}(h:zeE w g off l){d:List (Fin n)}(hd:d.map Fin.val=l):Go.Sort.Holds (zke n) w g off d.toArray:=by
 intro j hj;have hj2:j<d.length:=by simpa using hj
 have hx:l[j]?=some (d[j]).val:=by rw[<- hd,zqaj,zqac hj2];rfl
 have he:d.toArray[j]! = d[j]:=by
  rw[getElem!_pos d.toArray j hj];simp
 rw[he];exact h j _ hx
theorem zAY {n:Nat}[Inhabited (Fin n)]{w:World}{g off:Nat}{d:List (Fin n)}(h:Go.Sort.Holds (zke n) w g off d.toArray):zeE w g off (d.map Fin.val):=by
 intro j x hx;rw[zqaj] at hx;cases hd:d[j]? with
 | none=>rw[hd] at hx;cases hx
 | some y =>
  rw[hd] at hx;cases hx;obtain⟨hj,he⟩:=zqae.1 hd;have:=h j (by simpa using hj)
  have h2:d.toArray[j]! = y:=by
   rw[getElem!_pos d.toArray j (by simpa using hj)];simpa using he
  rw[h2] at this;exact this
theorem ztp {w:World}{g off:Nat}{l:List Nat}(h:zeE w g off l):Go.Sort.Holds (Value.int .i64) w g off (l.map (fun x:Nat=>(x:Int))).toArray:=by
 intro j hj;have hj2:j<l.length:=by simpa using hj
 have he:(l.map (fun x:Nat=>(x:Int))).toArray[j]! = ((l[j]:Nat):Int):=by
  rw[getElem!_pos _ j hj];simp
 rw[he];exact h j _ (zqac hj2)
theorem zAZ {w:World}{g off:Nat}{l:List Nat}(h:Go.Sort.Holds (Value.int .i64) w g off (l.map (fun x:Nat=>(x:Int))).toArray):zeE w g off l:=by
 intro j x hx;obtain⟨hj,hv⟩:=zqae.1 hx;have:=h j (by simpa using hj)
 have he:(l.map (fun x:Nat=>(x:Int))).toArray[j]! = (x:Int):=by
  rw[getElem!_pos _ j (by simpa using hj)];simp[hv]
 rw[he] at this;exact this
theorem ztV {w:World}{g off cap:Nat}{l:List Nat}(h:zeE w g off l)(hg:g<w.heap.size):NSl w (.slice (some ⟨g,off,none⟩) l.length cap) l :=
 ⟨_,cap,rfl,by unfold nvL;simp,fun _=>⟨_,rfl,hg,fun j u hu=>by
  unfold nvL at hu;rw[zqaj] at hu;cases hx:l[j]? with
  | none=>rw[hx] at hu;cases hu
  | some x =>
   rw[hx] at hu;cases hu;have hadd:Addr.add ⟨g,off,none⟩ j=⟨g,off+j,none⟩:=by unfold Addr.add;split <;> simp_all
   rw[hadd];exact(h j x hx).1⟩⟩
theorem zwi {n:Nat}:∀ {l:List Nat},(∀ x∈l,x<n)->∃ d:List (Fin n),d.map Fin.val=l
 | [],_=>⟨[],rfl⟩
 | x::l,h=>by
  obtain⟨d,hd⟩:=zwi (l:=l) (fun y hy=>h y (by simp[hy]));exact⟨⟨x,h x (by simp)⟩::d,by simp[hd]⟩
theorem zEA:∀ w,(zeroValue 3).run Tryz.prog w=.ok (.int .i64 0) w:=fun w=>by kernel_rfl
def zJA (blk off cap:Nat)(k:List Nat)(w:World)(e:Ending)(w':World):Prop:=e=.returned (.slice (some ⟨blk,off,none⟩) k.length cap)/\zeE w' blk off k/\w.grownBy w' (some blk)
theorem zBa {w:World}{p gm n blk off cap:Nat}{l o:List Nat}(hE:Ends w p gm n o)(hl:∀ x∈l,x<n)(hn:0<n)(hH:zeE w blk off l)(hp:p≠blk)(hg:gm≠blk)(hcap:l.length<=cap)(hsz:l.length<=1000000) :
  Calls Tryz.prog 185 #[.slice (some ⟨blk,off,none⟩) l.length cap,.func (.func 186) #[] #[.pointer (some ⟨p,0,none⟩)]] w (zJA blk off cap (l.filter (fun x=>decide (x∈o))) w):=by
 obtain⟨d,hd⟩:=zwi hl
 letI:Inhabited (Fin n):=⟨⟨0,hn⟩⟩
 have hlen:d.length=l.length:=by rw[<- hd,zqbn]
 have hH2:=zEz hH hd;have h:=Tryz.slices_DeleteFunc (zke n) (fun _=>rfl) (fun x => !decide (x.val∈o)) 186 #[.pointer (some ⟨p,0,none⟩)] zJz ⟨0,hn⟩ zEA blk off cap d.toArray w hE.pred (hE.over hp hg) hH2 (by simp;omega) (by simp;omega);have hsz2:d.toArray.size=l.length:=by simp[hlen]
 rw[hsz2] at h;refine h.mono ?_;rintro e w' ⟨rfl,q,rfl⟩
 have hk:(d.filter (fun x => !!decide (x.val∈o))).map Fin.val=l.filter (fun x=>decide (x∈o)):=by
  rw[<- hd,List.filter_map];congr 1;apply List.filter_congr;intro x _;simp[Function.comp]
 have hkl:(d.filter (fun x => !!decide (x.val∈o))).length=(l.filter (fun x=>decide (x∈o))).length:=by rw[<- hk,zqbn]
 refine⟨by show Ending.returned (.slice _ (d.filter _).length cap)=_;rw[hkl],?_,?_⟩
 ·have hP:=Go.Sort.holds_putRow (zke n) (Go.Sort.ahead w q) blk off d.toArray ((d.filter (fun x:Fin n => !!decide (x.val∈o)))++List.replicate (d.toArray.size-(d.filter (fun x:Fin n => !!decide (x.val∈o))).length) (⟨0,hn⟩:Fin n)).toArray hH2 (by
   have:=List.length_filter_le (fun x => !!decide (x.val∈o)) d;simp at this ⊢;omega)
  have h2:=zAY hP;intro j x hx;rw[<- hk] at hx
  have:=h2 j x (by
   rw[List.map_append,zqal (by rw[zqbn];have:=(zqae.1 hx).1;rw[zqbn] at this;exact this)];exact hx)
  rw[hsz2] at this;exact this
 ·exact zjl (zke n) w blk off q _ #[]
def zEB (blk off:Nat)(k:List Nat)(w:World)(e:Ending)(w':World):Prop:=e=.returned (.tuple #[])/\zeE w' blk off k/\w.grownBy w' (some blk)
theorem zHI {w:World}{blk off cap:Nat}{l:List Nat}(hH:zeE w blk off l)(hb:blk<w.heap.size)(hsz:l.length<=1000000) :
  Calls Tryz.prog 187 #[.slice (some ⟨blk,off,none⟩) l.length cap] w (zEB blk off (l.mergeSort (fun x y=>decide (x<=y))) w):=by
 have h:=Tryz.slices_Sort_int blk off cap (l.map (fun x:Nat=>(x:Int))) w (ztp hH) hb (by simp;omega);rw[zqbn] at h;refine h.mono ?_;rintro e w' ⟨rfl,q,os,rfl⟩
 have hms:(l.map (fun x:Nat=>(x:Int))).mergeSort (fun x y=>decide (x<=y))=(l.mergeSort (fun x y=>decide (x<=y))).map (fun x:Nat=>(x:Int)):=by
  symm
  apply List.map_mergeSort;intro a _ b _;simp
 rw[hms];refine⟨rfl,?_,zjl _ w blk off q _ os⟩;have hP:=Go.Sort.holds_putRow (Value.int .i64) (Go.Sort.ahead w q) blk off (l.map (fun x:Nat=>(x:Int))).toArray ((l.mergeSort (fun x y=>decide (x<=y))).map (fun x:Nat=>(x:Int))).toArray (ztp hH) (by simp);exact zAZ (Go.Sort.holds_grow _ _ os blk off _ (by simpa using hb) hP)
open Go.RowKit
def zJB (l:List Nat)(w:World)(e:Ending)(w':World):Prop:=∃ v,e=.returned v/\NSl w' v l/\w.grownBy w' none
theorem zqz {w W:World}{p:Nat}{A:Option Addr}{cap:Nat}{us:List Value}{v:Value}{m:zak}(hm:Small m)(hst:zdR w A us m.states)(hb:Below w.heap.size w W)(hbx:zav W p m (.slice A m.states.length cap))(hv:NSl W v [m.start.toNat]) :
  Calls Tryz.prog 182 #[.int .i64 (m.states.length:Int),v,.func (.func 218) #[] #[.pointer (some ⟨p,0,none⟩)]] W (zAC (zjn m) W):=by
 have hst0:m.start.toNat<m.states.length:=zlp hm.wf (.start rfl);exact zqw zxw (zAB hbx (hst.below hb) hm) (Below.refl _ _) hv hm.n (fun x hx=>by simp at hx;omega) (zhN hm.wf) (by simp)
theorem zBb {W:World}{p:Nat}{v:Value}{m:zak}(hm:Small m)(hbk:zkA W p m.states.length (zbl m))(hv:NSl W v (zfh m m.states.length)) :
  Calls Tryz.prog 182 #[.int .i64 (m.states.length:Int),v,.func (.func 219) #[] #[.pointer (some ⟨p,0,none⟩)]] W (zAC (zeD m) W):=by
 have hl:∀ x,(zbl m x).length<=1000000000:=fun x=>by
  have h:=zwd hm m.states.length 0 x;rw[zti] at h;exact zqam h (zqam (Nat.mul_le_mul_right _ (by have:=hm.n;omega:m.states.length+1<=3001)) (by decide))
 exact zqw zxE (zAS hbk hm hl) (Below.refl _ _) hv hm.n (fun x hx=>(zlx.1 hx).1) zhg (by have:=zwh m m.states.length;have:=hm.n;omega)
theorem QAt.nsl {w:World}{B:Nat}{v:Value}{q:List Nat}(h:QAt w B v q):NSl w v q:=by
 obtain⟨a,cap,hv,⟨h0,_⟩|⟨g,off,cur,ha,hB,hh,hc,ho,hq⟩⟩:=h
 ·subst h0
  exact⟨a,cap,hv,rfl,fun h=>by simp at h⟩
 ·refine⟨a,cap,hv,by unfold nvL;simp,fun _=>⟨_,ha,(zqad.1 hh).1,fun j u hu=>?_⟩⟩
  unfold nvL at hu;rw[zqaj] at hu;cases hx:q[j]? with
  | none=>rw[hx] at hu;cases hu
  | some x =>
   rw[hx] at hu;cases hu;have hadd:Addr.add ⟨g,off,none⟩ j=⟨g,off+j,none⟩:=by unfold Addr.add;split <;> simp_all
   rw[hadd,zqbw w g _ _ _ (0,0) hh];exact hq j x hx
theorem QAt.mono {w:World}{B B':Nat}{v:Value}{q:List Nat}(h:QAt w B v q)(hB:B'<=B):QAt w B' v q:=by
 obtain⟨a,cap,hv,h3|⟨g3,off3,cur3,k1,k2,k3⟩⟩:=h
 ·exact⟨a,cap,hv,.inl h3⟩
 ·exact⟨a,cap,hv,.inr ⟨g3,off3,cur3,k1,by omega,k3⟩⟩
theorem ztq (w:World)(x:Value):(w.alloc (.cells #[x] 3)).cell? ⟨w.heap.size,0,none⟩=some x:=by
 have h:(w.alloc (.cells #[x] 3)).heap[w.heap.size]?=some (.cells #[x] 3 (0,0)):=by
  show(w.heap.push _)[w.heap.size]?=_;rw[zqaz]
 rw[zqbw _ w.heap.size 0 _ _ (0,0) h];rfl
theorem zEC (w:World)(x:Value):(w.alloc (.cells #[x] 3)).drew.cell? ⟨w.heap.size,0,none⟩=some x:=ztq w x
theorem zyO {w:World}{g x:Nat}(h:w.cell? ⟨g,0,none⟩=some (.int .i64 (x:Int)))(hg:g<w.heap.size):NSl w (.slice (some ⟨g,0,none⟩) 1 1) [x] :=
 ⟨_,_,rfl,rfl,fun _=>⟨_,rfl,hg,fun j u hu=>by
  cases j with
  | zero=>cases hu;exact h
  | succ j=>simp[nvL] at hu⟩⟩
theorem zBc {w:World}{v:Value}{m:zak}(hv:zdo w v m)(hm:Small m):Calls Tryz.prog 145 #[v] w (zJB (usefulL m) w):=by
 have hv0:=hv;obtain⟨u,rfl,hst0⟩:=hv;obtain⟨A,cap,us,rfl,hS0⟩:=zdR.of hst0;have hg:w.grownBy (w.alloc (.cells #[.int .i64 m.kind,.int .i64 m.start,.string m.lead,.slice A m.states.length cap] 31)) none:=zGA _ _ _;have hbx:=zav.new w m (.slice A m.states.length cap);have HS:=zHd hS0;have HBX:=zHd hbx;have HG:=zHd hg;have HM:=zHd hm;have HV:=zHd hv0;have hn3:=hm.n;obtain⟨x0,x1,x2,x3⟩:=hbx.cells;have e1:(w.alloc (.cells #[.int .i64 m.kind,.int .i64 m.start,.string m.lead,.slice A m.states.length cap] 31)).heap.size=w.heap.size+1:=by simp
 clear hbx hg hst0 hS0 hm hv0;go_enter Tryz.func145,Tryz.ntmps145;go_wp2;generalize hW:w.alloc (.cells #[.int .i64 m.kind,.int .i64 m.start,.string m.lead,.slice A m.states.length cap] 31)=W at *;clear hW x0 x1 x2 x3
 go_loopw [3,15] (fun fv i wr=>∃ k:Nat,i=.int .i64 k/\k<=m.states.length/\QAt wr (w.heap.size+1) fv (zfh m k)/\W.grownBy wr none) (fun _ i _=>m.states.length-(intOf i).toNat)
 case atStart=>exact⟨0,rfl,by omega,QAt.nil _ _,World.grownBy.refl _ _⟩
 case round =>
  obtain⟨k,rfl,hk,hq,hgr⟩:=hrel
  rename_i fv
  have HQ:=zHd hq;have HGR:=zHd hgr;clear hq hgr
  by_cases hlt:k<m.states.length
  ·obtain⟨ad,s,B,cb,hA,hs,hu,hc,hra⟩:=(HS.out.below (zbj (zaa HG.out HGR.out))).at_ hlt
   subst hA;obtain⟨z0,z1⟩:=hc;have n1:(k:Int)<(m.states.length:Int):=by omega
   have n2:IntKind.i64.wrap ((k:Int)+1)=(k:Int)+1:=by rw[zqah];omega
   have hga:=zGA wr (.cells #[.string s.fin,.slice B s.arcs.length cb] 57) none;have HQ2:=zHd (HQ.out.grown hga (by simp));have HG2:=zHd (zaa HGR.out hga);have hfb:zmY m k=(s.fin.size != 0):=by unfold zmY;rw[zhz hs]
   have hnx:=zEv m k;have hfl:=zwh m k;have hsz:w.heap.size+1<=wr.heap.size:=by have:=HGR.out.size;omega
   clear hu hra hga
   by_cases hf0:s.fin.size=0
   ·have b1:(s.fin.toList==[])=true:=by rw[Lib.toList_data,beq_iff_eq,<- List.length_eq_zero_iff,zqbs];exact hf0
    have b2:(s.fin.toList != [])=false:=zDx b1;have he:zfh m (k+1)=zfh m k:=(by rw[hnx,hfb];simp[hf0]);have HE:=zHd he;clear he hnx hfb hs;go_wp2
    go_roundw
    case rel=>exact⟨k+1,by go_num,by omega,by rw[HE.out];exact HQ2.out,HG2.out⟩
    case measure=>simp[intOf];omega
   ·have b1:(s.fin.toList==[])=false:=by
     cases h:(s.fin.toList==[])
     ·rfl
     ·rw[Lib.toList_data,beq_iff_eq,<- List.length_eq_zero_iff,zqbs] at h;exact absurd h hf0
    have b2:(s.fin.toList != [])=true:=zDy b1;have he:zfh m (k+1)=zfh m k++[k]:=(by rw[hnx,hfb];simp[hf0]);have HE:=zHd he;clear he hnx hfb hs;have HQ3:=zHd (HQ2.out.grown (zGA (wr.alloc (.cells #[.string s.fin,.slice B s.arcs.length cb] 57)) (.cells #[.int .i64 (k:Int)] 3) none) (by simp));go_wp2_with (at_builtin;refine zoc HQ3.out (by simp;omega) rfl _ _ rfl rfl _ _ k rfl ?ca (by omega) ?_)
    case ca =>
     have:=ztc (wr.alloc (.cells #[.string s.fin,.slice B s.arcs.length cb] 57)) k;simp only[World.size_alloc] at this ⊢
     first|exact this|simpa using this
    intro v' w5 hq5 hb5;have HQ5:=zHd hq5;have HG5:=zHd (zbc (((zbj HG2.out).trans ((zbj (zGA (wr.alloc (.cells #[.string s.fin,.slice B s.arcs.length cb] 57)) (.cells #[.int .i64 (k:Int)] 3) none)).mono (by simp;omega))).trans (hb5.mono (by omega))));clear hq5 hb5 z0 z1;go_wp2
    go_roundw
    case rel=>exact⟨k+1,by go_num,by omega,by rw[HE.out];exact HQ5.out,HG5.out⟩
    case measure=>simp[intOf];omega
  ·have n1:¬ (k:Int)<(m.states.length:Int):=by omega
   have hke:k=m.states.length:=by omega
   subst hke;have hbx2:=(HBX.out.grown HGR.out);obtain⟨y0,y1,y2,y3⟩:=hbx2.cells;have HB2:=zHd (zbj (zaa HG.out HGR.out));have HF:=zHd HQ.out.nsl;clear hbx2;have HSC:Hid (m.start=(m.start.toNat:Int)):=zHd (by have:=HM.out.wf.start;omega);have hs1:w.heap.size+1<=wr.heap.size:=by have:=HGR.out.size;omega
   generalize wr=w4 at *;go_upto_region 8 with(fail)
   go_cut [6] from 28 to 36 (fun b wx=>QAt wx (w.heap.size+1) b (zjn m)/\w4.grownBy wx none)
   case first =>
    have d0:w4.drew.cell? ⟨w.heap.size,0,none⟩=some (.int .i64 m.kind):=y0;have d1:w4.drew.cell? ⟨w.heap.size,1,none⟩=some (.int .i64 m.start):=y1;have d2:w4.drew.cell? ⟨w.heap.size,2,none⟩=some (.string m.lead):=y2;have d3:w4.drew.cell? ⟨w.heap.size,3,none⟩=some (.slice A m.states.length cap):=y3;have q0:=World.new_ne w4 _ y0
    go_region_held3 (fun W'=>W'.cell? ⟨w.heap.size,0,none⟩=some (.int .i64 m.kind)/\W'.cell? ⟨w.heap.size,1,none⟩=some (.int .i64 m.start)/\W'.cell? ⟨w.heap.size,2,none⟩=some (.string m.lead)/\W'.cell? ⟨w.heap.size,3,none⟩=some (.slice A m.states.length cap)) (go_keep)
     (first
      | (go_at_call 183;refine zrV.mono ?_;rintro e w5 ⟨rfl,hbx5,hg5⟩;have s0:=hg5.cell (by first|exact d0|exact(zGA _ _ none).cell d0 (by simp)) (by simp);have s1:=hg5.cell (by first|exact d1|exact(zGA _ _ none).cell d1 (by simp)) (by simp);have s2:=hg5.cell (by first|exact d2|exact(zGA _ _ none).cell d2 (by simp)) (by simp);have s3:=hg5.cell (by first|exact d3|exact(zGA _ _ none).cell d3 (by simp)) (by simp);have q5:=World.new_ne w5 _ s0)
      | (go_at_call 182
         first
          | (refine(zqz (W:=w5) HM.out HS.out (HB2.out.trans ((zbj (zaa (zaa (zGA w4 _ none) (zag _ none)) hg5)).mono HB2.out.size)) (by simpa using hbx5) (zyO (by rw[<- HSC.out];exact hg5.cell (zEC w4 _) (by simp)) (by have:=hg5.size;simp at this;omega))).mono ?_
             rintro e w6 ⟨v6,rfl,hq6,hg6⟩;have hgg:=zaa (zaa (zaa (zGA w4 _ none) (zag _ none)) hg5) hg6;have p0:=hg6.cell s0 (by simp);have p1:=hg6.cell s1 (by simp);have p2:=hg6.cell s2 (by simp);have p3:=hg6.cell s3 (by simp))
          | (refine(zqz (W:=w5.alloc (.cells #[.int .i64 m.start] 3)) HM.out HS.out (HB2.out.trans ((zbj (zaa (zaa (zag w4 none) hg5) (zGA w5 _ none))).mono HB2.out.size)) (zav.grown (by simpa using hbx5) (zGA w5 _ none)) (zyO (by rw[<- HSC.out];exact ztq w5 _) (by simp))).mono ?_
             rintro e w6 ⟨v6,rfl,hq6,hg6⟩;have hgg:=zaa (zaa (zaa (zag w4 none) hg5) (zGA w5 _ none)) hg6;have hg7:=zaa (zGA w5 (.cells #[.int .i64 m.start] 3) none) hg6;have p0:=hg7.cell s0 (by simp);have p1:=hg7.cell s1 (by simp);have p2:=hg7.cell s2 (by simp);have p3:=hg7.cell s3 (by simp))
         have HGG:=zHd hgg;have HQ6:=zHd hq6))
    all_goals
     go_wp2_with (fail)
     go_meet
     case rel=>exact⟨HQ6.out.mono (by (try simp);first|omega|(have:=hg5.size;simp at this;omega)),HGG.out⟩
   case rest =>
    obtain⟨hq6,hg6⟩:=hcut;generalize wc=w6 at *;have HQ6:=zHd hq6;have hbx3:=(HBX.out.grown HGR.out).grown hg6;have HG6:=zHd (zaa HGR.out hg6);have HF6:=zHd (HF.out.grown hg6);have HV6:=zHd (HV.out.grown (zaa HG.out (zaa HGR.out hg6)));have HS6:=zHd hs1;have hs2:w.heap.size+1<=w6.heap.size:=(by have:=hg6.size;omega);clear y0 y1 y2 y3 hq6 hg6;obtain⟨y0,y1,y2,y3⟩:=hbx3.cells;clear hbx3;go_upto_region 9 with(fail);have d0:w6.drew.cell? ⟨w.heap.size,0,none⟩=some (.int .i64 m.kind):=y0;have d1:w6.drew.cell? ⟨w.heap.size,1,none⟩=some (.int .i64 m.start):=y1;have d2:w6.drew.cell? ⟨w.heap.size,2,none⟩=some (.string m.lead):=y2;have d3:w6.drew.cell? ⟨w.heap.size,3,none⟩=some (.slice A m.states.length cap):=y3;have HP:=zHd (zoR (HV6.out.grown (zag w6 none)) HM.out)
    go_region_held3 (fun W'=>W'.cell? ⟨w.heap.size,0,none⟩=some (.int .i64 m.kind)/\W'.cell? ⟨w.heap.size,1,none⟩=some (.int .i64 m.start)/\W'.cell? ⟨w.heap.size,2,none⟩=some (.string m.lead)/\W'.cell? ⟨w.heap.size,3,none⟩=some (.slice A m.states.length cap)) (go_keep)
     (first
      | (go_at_call 184;refine HP.out.mono ?_;rintro e w7 ⟨p7,rfl,hbk7,hg7⟩;have s0:=hg7.cell d0 (by simp);have s1:=hg7.cell d1 (by simp);have s2:=hg7.cell d2 (by simp);have s3:=hg7.cell d3 (by simp))
      | (go_at_call 182
         refine(zBb HM.out hbk7 (HF6.out.grown (zaa (zag w6 none) hg7))).mono ?_;rintro e w8 ⟨v8,rfl,hq8,hg8⟩;have p0:=hg8.cell s0 (by simp);have p1:=hg8.cell s1 (by simp);have p2:=hg8.cell s2 (by simp);have p3:=hg8.cell s3 (by simp)))
    have hg9:=zaa (zaa (zag w6 none) hg7) hg8;have HQ8:=zHd (hq8.mono (show 0<=w7.heap.size by omega));have HQ9:=zHd (HQ6.out.grown hg9 (by simp));have HG9:=zHd (zaa HG6.out hg9);have hs3:w.heap.size+1<=w8.heap.size:=(by have:=hg9.size;omega);have HBX9:=zHd ((HBX.out.grown HG9.out));clear d0 d1 d2 d3 s0 s1 s2 s3 y0 y1 y2 y3 hbk7 hg7 hq8 hg8 hg9;have hne:zjn m≠[]:=List.ne_nil_of_mem (zEx HM.out.wf);obtain⟨gf,off,capf,hv6,hgfB,hgf,hcapf,hHN⟩:=HQ9.out.holdsN hne;subst hv6;obtain⟨a8,c8,hv8,hr8⟩:=HQ8.out.nsl;subst hv8;have HR8:=zHd hr8;have HHN:=zHd hHN;have hfl:=short_list (ztm m) (ztn HM.out.wf);have hbl:=short_list (zEw m) (zto (m:=m));obtain⟨y0,y1,y2,y3⟩:=HBX9.out.cells;obtain⟨i0,hi,hz0,hz1,hz2⟩:=zdb zqv;clear hr8 hHN hne;go_wp2_with (at_make;refine wpList_make_full _ rfl _ _ 166 rfl w8.heap.size 4 i0 (.bool false) 1 Tryz.underlying166 hi hz0 hz1 _ _ _ _ m.states.length rfl rfl rfl rfl (by rw[hz2];omega) (by unfold maxLen;omega) (zqab _) ?_);intro w9 hown hgr;rw[zmL] at hown;have hga:=zGA w9 (.cells #[.slice (some ⟨w8.heap.size,0,none⟩) m.states.length m.states.length] 166) none;have hc9:=zcD.of_full hown;rw[<- zte] at hc9;have hlt9:=hc9.lt;have HC9:=zHd (show zcD _ w8.heap.size _ from(hga.block _ hc9.lt (by simp)).trans hc9)
    have hpv:(w9.alloc (.cells #[.slice (some ⟨w8.heap.size,0,none⟩) m.states.length m.states.length] 166)).heap[w9.heap.size]?=some (.cells #[.slice (some ⟨w8.heap.size,0,none⟩) m.states.length m.states.length] 166 (0,0)):=by
     show(w9.heap.push _)[w9.heap.size]?=_;rw[zqaz]
    have HPV:=zHd hpv;have HB9:=zHd (zbj (zaa hgr hga));clear hown hgr hga hc9 hpv y0 y1 y2 y3;go_wp2;generalize hW:w9.alloc (.cells #[.slice (some ⟨w8.heap.size,0,none⟩) m.states.length m.states.length] 166)=W9 at *;clear hW
    go_loopw [50] (fun i wr=>∃ j:Nat,i=.int .i64 j/\j<=(zeD m).length/\zcD wr w8.heap.size (bv (zdM m.states.length ((zeD m).take j)))/\wr.heap[w9.heap.size]?=some (.cells #[.slice (some ⟨w8.heap.size,0,none⟩) m.states.length m.states.length] 166 (0,0))/\Below w8.heap.size w8 wr) (fun i _=>(zeD m).length-(intOf i).toNat)
    case atStart=>exact⟨0,rfl,by omega,HC9.out,HPV.out,HB9.out⟩
    case round =>
     obtain⟨j,rfl,hj,hc,hpv,hb⟩:=hrel;have HC:=zHd hc;have HPV2:=zHd hpv;have HB:=zHd hb;obtain⟨x0,_⟩:=one_cell hpv;clear hpv
     by_cases hjl:j<(zeD m).length
     ·obtain⟨ad,x,hA,hx,hcx⟩:=zic ((HR8.out.below HB.out).more HB.out.size) hjl
      subst hA;have hxn:x<m.states.length:=zto x (zqak hx);have n1:(j:Int)<((zeD m).length:Int):=(by omega);have n2:IntKind.i64.wrap ((j:Int)+1)=(j:Int)+1:=(by rw[zqah];omega);have n3:(0:Int)<=(x:Int):=(by omega);have n4:(x:Int)<(m.states.length:Int):=(by omega);have hst:(zdM m.states.length ((zeD m).take j)).set x true=zdM m.states.length ((zeD m).take (j+1)):=(by rw[ztd hxn,zdL hx]);have HST:=zHd hst;have hfr:=hc.free x;have c0:wr.cell? ⟨w8.heap.size,x,none⟩=some (.bool (decide (x∈(zeD m).take j))):=(by rw[hc.cell];exact zvS _ _ _ (zgJ hxn));have hcs:=hc.set x (.bool true);rw[show(bv (zdM m.states.length ((zeD m).take j))).set x (.bool true)=bv ((zdM m.states.length ((zeD m).take j)).set x true) by unfold bv;rw[List.map_set],hst] at hcs;have HCS:=zHd hcs;have gs:=zac wr ⟨w8.heap.size,x,none⟩ (.bool true);have HP3:=zHd ((gs.block w9.heap.size (lt_of_block HPV2.out) (by simp;omega)).trans HPV2.out);have HB3:=zHd (HB.out.grown gs HB.out.size (fun b e=>by cases e;exact zqab _));clear hst hx hc hcs gs hb;go_wp2
      go_roundw
      case rel=>exact⟨j+1,by go_num,by omega,HCS.out,HP3.out,HB3.out⟩
      case measure=>simp[intOf];omega
     ·have n1:¬ (j:Int)<((zeD m).length:Int):=by omega
      have hce:=HC.out;rw[zqaf (by omega)] at hce;have HE:Hid (Ends wr w9.heap.size w8.heap.size m.states.length (zeD m)):=zHd ⟨x0,hce,lt_of_block HPV2.out⟩;have hH2:=HHN.out.below HB.out hgf;have HDEL:=zHd (zBa HE.out (ztn HM.out.wf) (by have:=HM.out.wf.start;omega) hH2 (by omega) (by omega) hcapf (by omega));have HB4:=zHd (zbc (((zbj (zaa HG.out HG9.out)).trans (HB.out.mono (by omega)))));clear hc hce hH2 hb;go_wp2_with fail;refine HDEL.out.mono ?_;rintro e w10 ⟨rfl,hk10,hg10⟩;have hb10:gf<w10.heap.size:=(by have:=hg10.size;have:=HB.out.size;omega);have HK:=zHd hk10;have HSO:=zHd (zHI (cap:=capf) hk10 hb10 (by have:=List.length_filter_le (fun x=>decide (x∈zeD m)) (zjn m);omega));have HG10:=zHd (zaj (g:=gf) HB4.out hg10 (by omega));clear hk10 hg10;go_wp2_with fail;refine HSO.out.mono ?_;rintro e w11 ⟨rfl,hk11,hg11⟩;have hks:=zEy HM.out.wf;unfold znK at hks;have hkl:((zjn m).filter (fun x=>decide (x∈zeD m))).length=(usefulL m).length:=(by rw[<- hks,List.length_mergeSort]);rw[hks] at hk11;have hns:=ztV (cap:=capf) hk11 (by have:=hg11.size;omega);rw[<- hkl] at hns;have HNS:=zHd hns;have HG11:=zHd (zaj (g:=gf) HG10.out hg11 (by omega));clear hk11 hg11 hks hkl hns;go_wp2;go_ret;exact⟨_,rfl,HNS.out,HG11.out⟩
end Go.Proofs.YtaogepcaoogpgaaGreatDoor
