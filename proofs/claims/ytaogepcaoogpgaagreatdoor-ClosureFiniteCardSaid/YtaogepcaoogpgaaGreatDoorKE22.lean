/- WE77 WE50 WE32 -/
import Derived.Test.YtaogepcaoogpgaaGreatDoorKE21
set_option linter.unusedVariables false
set_option linter.unusedSimpArgs false
set_option maxRecDepth 100000
set_option maxHeartbeats 16000000
namespace Go.Proofs.YtaogepcaoogpgaaGreatDoor
open Go.RowKit
section
variable {k:Int}
noncomputable def leadM (hk:zad k)(ld:ByteArray)(s0:Nat)(i:Nat):El k:=if i=s0 then vE hk ld else (srE k hk).zero
noncomputable def frE (hk:zad k)(l:List zah)(ld:ByteArray)(s0:Nat)(i:Nat):El k:=xsol (srE k hk) (fun x y=>arcM hk l y x) l.length (leadM hk ld s0) i
def zhn (hk:zad k)(l:List zah)(ld:ByteArray)(s0:Nat):Prop:=zfL hk l∧SolveFits (srE k hk) FitE l.length l.length 1 (fun x y=>arcM hk l y x) (fun x _=>leadM hk ld s0 x)
theorem zBb (hk:zad k){ld:ByteArray}(h:∃ v,Val k ld v)(s0 i:Nat):FitE (leadM hk ld s0 i):=by
 unfold leadM
 split
 ·exact(zlu hk h).2
 ·exact zbR hk
theorem zBc (hk:zad k)(l:List zah)(us:List Value)(As:Option Addr)(cs gc:Nat)(w:World)(hok:zcx k l)(hst:StsR w l us As cs)(hcal:zca w gc k) :
  Calls Tryz.prog 94 #[.slice As l.length cs,.func (.func 98) #[] #[.pointer (some ⟨gc,0,none⟩)]] w fun e w'=>∃ zs:List Value,e = .returned (.slice (some ⟨w.heap.size,0,none⟩) l.length l.length)∧zdU w' w.heap.size w.heap.size l.length 1 zs (fun i=>txs (fun _=>(srE k hk).zero))∧w'.heap[w.heap.size]? = some (.cells zs.toArray 33 (0,0))∧w.grownBy w' none:=by
 have h:=zgr 98 zlA #[] #[.pointer (some ⟨gc,0,none⟩)] l us As cs 1 (fun _=>True) (fun i=>txs (fun _=>(srE k hk).zero)) w (by have:=hok.n60;omega) hst (fun i s u hs hu w' hw' ha=>by
  obtain⟨Au,cu,rfl,_⟩:=ha;have h1:=zpz gc undef s.fin Au s.arcs.length cu hk w' (hcal.grown hw');refine h1.mono (fun e w3 h => ?_);obtain⟨g,e1,q1,q2,q3⟩:=h;exact .inl ⟨trivial,_,e1,⟨g,0,1,rfl,Nat.le_refl _,by unfold maxLen;omega,.inr q1,q2⟩,q3⟩)
 refine h.mono (fun e w3 h => ?_);rcases h with⟨_,v,e1,⟨zs,rfl,q1,q2⟩,q3⟩|⟨hn,_⟩
 ·exact⟨zs,e1,q1,q2,q3⟩
 ·exact absurd (fun _ _=>trivial) hn
theorem zBd (hk:zad k){w:World}{H n s0 gl:Nat}{zs:List Value}{ld:ByteArray}(hn:n≤60)(hs:s0<n)(hz:zdU w H H n 1 zs (fun i=>txs (fun _=>(srE k hk).zero)))(hrow:w.heap[H]? = some (.cells zs.toArray 33 (0,0)))
  (hgl:gl≠H) (hl:zam w gl 0 1 (txs (fun _=>vE hk ld))) :
  MatV (w.setCell ⟨H,s0,none⟩ (.slice (some ⟨gl,0,none⟩) 1 1)) (.slice (some ⟨H,0,none⟩) n n) n 1 (fun i _=>leadM hk ld s0 i):=by
 have hset:=heap_setCell_same w H s0 _ _ (.slice (some ⟨gl,0,none⟩) 1 1) hrow;have hzl:=hz.1;refine⟨fun i=>if i=s0 then .slice (some ⟨gl,0,none⟩) 1 1 else zs.getD i (.slice none 0 0),⟨_,n,rfl,Nat.le_refl _,by unfold maxLen;omega,fun j hj=>⟨_,rfl,(Array.getElem?_eq_some_iff.1 hset).1,?_⟩⟩,fun i hi => ?_⟩
 ·rw[zbA,Nat.zero_add,cell_of_row _ H j _ _ (0,0) hset,List.setIfInBounds_toArray,List.getElem?_toArray,List.getElem?_set]
  by_cases e:s0=j
  ·subst e
   rw[if_pos rfl,if_pos (by omega)];simp
  ·rw[if_neg e,List.getElem?_eq_getElem (by omega)]
   dsimp only
   rw[if_neg (Ne.symm e),List.getD_eq_getElem?_getD,List.getElem?_eq_getElem (by omega)]
   rfl
 ·by_cases e:i=s0
  ·subst e
   refine⟨gl,0,1,by simp,Nat.le_refl _,by unfold maxLen;omega,?_⟩;have h:=hl.grownB (zac w ⟨H,i,none⟩ (.slice (some ⟨gl,0,none⟩) 1 1)) hgl;refine⟨h.1,fun j hj=>(h.2 j hj).trans ?_⟩;unfold txs leadM
   dsimp only
   rw[if_pos rfl]
  ·obtain⟨gi,o,c,h1,h2,h3,h4,h5⟩:=hz.2.2 i hi
   refine⟨gi,o,c,by dsimp only;rw[if_neg e];exact h1,h2,h3,?_⟩;have h:=h5.grownB (zac w ⟨H,s0,none⟩ (.slice (some ⟨gl,0,none⟩) 1 1)) h4;refine⟨h.1,fun j hj=>(h.2 j hj).trans ?_⟩;unfold txs leadM
   dsimp only
   rw[if_neg e]
theorem zxX {n:Nat}{F:Nat→Nat→El k}{w:World}{v:Value}(hn:n≤60)(hv:MatV w v n n F) :
  Calls Tryz.prog 99 #[v] w (fun e w'=>∃ g,e = .returned (.slice (some ⟨g,0,none⟩) n n)∧MatV w' (.slice (some ⟨g,0,none⟩) n n) n n (fun x y=>F y x)∧w.grownBy w' none):=by
 obtain⟨rs,h1,h2⟩:=hv;refine(zph n rs (fun i j=>tx (F i j)) v w (by omega) h1 (fun i hi=>(h2 i hi).row)).mono (fun e w' h => ?_);obtain⟨zs,e1,e2,e3,e4,e5⟩:=h;refine⟨_,e1,⟨_,e3.row (Nat.le_refl _) (by unfold maxLen;omega),fun i hi => ?_⟩,e5⟩;obtain⟨g,q1,q2,q3⟩:=e4 i (by omega);exact⟨g,0,n,q1,Nat.le_refl _,by unfold maxLen;omega,q3⟩
theorem zrh (hk:zad k)(l:List zah)(us:List Value)(As:Option Addr)(cs s0:Nat)(ld:ByteArray)(w:World)(hok:zcx k l)(hst:StsR w l us As cs)(hs0:s0<l.length)(hld:∃ v,Val k ld v) :
  Calls Tryz.prog 55 #[.agg #[.int .i64 k,.int .i64 (s0:Int),.string ld,.slice As l.length cs]] w (zbn (zhn hk l ld s0) (fun v w'=>∃ g,v = .slice (some ⟨g,0,none⟩) l.length l.length∧w.heap.size≤g∧zam w' g 0 l.length (txs (frE hk l ld s0))) w):=by
 have hmf:∀ (fn:Fn) (first cap:Array Value) (w:World),(Instr.makeFunc fn first cap).run Tryz.prog w = .ok (.func fn first cap) w:=fun _ _ _ _=>rfl;have hof:=fun w'=>zln k w';have hfin:=fun(gc:Nat) (w':World) (hg:w.grownBy w' none) (hcal:zca w' gc k)=>zBc hk l us As cs gc w' hok (hst.grown hg) hcal;have hsteps:=fun(w':World) (hg:w.grownBy w' none)=>zqv hk l us As cs k (s0:Int) ld w' hok (hst.grown hg);have hturn:=fun(v:Value) (w':World) (hv:MatV w' v l.length l.length (arcM hk l))=>zxX hok.n60 hv
 have hsolve:=fun(av bv:Value) (w':World) (ha:MatV w' av l.length l.length (fun x y=>arcM hk l y x)) (hb:MatV w' bv l.length 1 (fun i _=>leadM hk ld s0 i)) (hf:zfL hk l)=>zhO hk 1 (Nat.le_refl _) l.length l.length (fun x y=>arcM hk l y x) (fun x _=>leadM hk ld s0 x) av bv w' (Nat.le_refl _) (by have:=hok.n60;omega)
  ⟨ha,hb,fun i _ j hj=>ztq hk hf hj i,fun i hi j _=>zBb hk hld s0 i⟩
 have hcol:=fun(v:Value) (w':World) (hv:MatV w' v l.length 1 (solveF (srE k hk) l.length l.length (fun x y=>arcM hk l y x) (fun x _=>leadM hk ld s0 x))) =>
  (show Calls Tryz.prog 96 #[v] w' (fun e w2=>∃ u,e = .returned u∧u = .slice (some ⟨w'.heap.size,0,none⟩) l.length l.length∧zam w2 w'.heap.size 0 l.length (fun i => .string (tx (solveF (srE k hk) l.length l.length (fun x y=>arcM hk l y x) (fun x _=>leadM hk ld s0 x) i 0)))∧w'.grownBy w2 none) from by
   obtain⟨rs,h1,h2⟩:=hv;exact znV l.length 1 rs (fun i=>txs (solveF (srE k hk) l.length l.length (fun x y=>arcM hk l y x) (fun x _=>leadM hk ld s0 x) i)) _ v w' (by have:=hok.n60;omega) (by omega) h1 (fun i hi=>(h2 i hi).row) (fun i hi=>rfl))
 have hval:∀ i,i<l.length→solveF (srE k hk) l.length l.length (fun x y=>arcM hk l y x) (fun x _=>leadM hk ld s0 x) i 0=frE hk l ld s0 i:=fun i hi=>zdO _ _ _ _ _ (Nat.le_refl _) i 0 hi;have hlt:=zlu hk hld;have HO:=zHd hof;have HF:=zHd hfin;have HT:=zHd hsteps;have HU:=zHd hturn;have HS:=zHd hsolve;have HC:=zHd hcol;have HV:=zHd hval;have HN:=zHd (zAI hok.n60 (zAI hs0 hlt));have hal:=zGA w (.cells #[.int .i64 k,.int .i64 (s0:Int),.string ld,.slice As l.length cs] 31) none;obtain⟨x0,x1,x2,x3⟩:=MBox.new w k (s0:Int) ld As l.length cs;have HW:=zHd hal;have i1:(s0:Int)<(l.length:Int):=by omega
 have i2:(0:Int)≤(s0:Int):=by omega
 clear hof hfin hsteps hturn hsolve hcol hval hok hst hal hs0 hld hlt;unfold calV at *;go_enter Tryz.func55,Tryz.ntmps55;go_wp2_with fail;refine(HO.out _).mono ?_;rintro e w1 ⟨rfl,hg1⟩;have hal:=zGA w1 (.cells #[.int .i64 k,.string (zaf k),.string (oneT k)] 64) none;have hg2:=zaa hg1 hal;have y0:=hg2.cell x0 (by simp);have y1:=hg2.cell x1 (by simp);have y2:=hg2.cell x2 (by simp);have y3:=hg2.cell x3 (by simp);have xc:zca (w1.alloc (.cells #[.int .i64 k,.string (zaf k),.string (oneT k)] 64)) w1.heap.size k:=⟨zak w1 _ _ rfl,zak w1 _ _ rfl,zak w1 _ _ rfl⟩;have hws1:w.heap.size+1≤w1.heap.size:=by have:=hg1.size;simpa using this
 have HG2:=zHd (zaa HW.out hg2);have HXC:=zHd xc;have HWS:=zHd hws1;clear x0 x1 x2 x3 hg1 hal hg2 xc HO HW hws1;go_wp2_with fail;refine(HF.out w1.heap.size _ HG2.out HXC.out).mono ?_;rintro e w3 ⟨zs,rfl,hzs,hzr,hg3⟩;have z0:=hg3.cell y0 (by simp);have z1:=hg3.cell y1 (by simp);have z2:=hg3.cell y2 (by simp);have z3:=hg3.cell y3 (by simp);have zc:=HXC.out.grown hg3;rw[show(w1.alloc (.cells #[.int .i64 k,.string (zaf k),.string (oneT k)] 64)).heap.size=w1.heap.size+1 by simp] at hzs hzr;have hal:=zGA w3 (.cells #[.string ld] 9) none;have hw3:w1.heap.size+1<w3.heap.size:=(Array.getElem?_eq_some_iff.1 hzr).1;have hzr4:=(hal.block _ hw3 (by simp)).trans hzr;have r0:=cell_of_row _ (w1.heap.size+1) s0 _ _ (0,0) hzr4;obtain⟨zz,hzz⟩:∃ zz,zs[s0]? = some zz:=⟨_,List.getElem?_eq_getElem (by have:=hzs.1;have:=HN.out.2.1;omega)⟩;rw[List.getElem?_toArray,hzz] at r0;have f0:=frozen_of_row _ (w1.heap.size+1) s0 _ _ hzr4;have hne1:¬ w.heap.size=w1.heap.size+1:=by have:=HWS.out;omega
 have hne2:¬ w1.heap.size+1=w.heap.size:=by have:=HWS.out;omega
 have hz4:zdU (w3.alloc (.cells #[.string ld] 9)) (w1.heap.size+1) (w1.heap.size+1) l.length 1 zs (fun i=>txs (fun _=>(srE k hk).zero)):=⟨hzs.1,hzs.2.1.grown hal,fun i hi=>by
  obtain⟨gi,o,c,q1,q2,q3,q4,q5⟩:=hzs.2.2 i hi;exact⟨gi,o,c,q1,q2,q3,q4,q5.grown hal⟩⟩
 have hlr:zam (w3.alloc (.cells #[.string ld] 9)) w3.heap.size 0 1 (txs (fun _=>vE hk ld)):=by
  have h:=zpg w3 (.string ld) 9;refine⟨h.1,fun j hj=>(h.2 j hj).trans ?_⟩;unfold txs;rw[← HN.out.2.2.1]
 have hmat:=zBd hk (ld:=ld) HN.out.1 HN.out.2.1 hz4 hzr4 (by omega) hlr;have hg4:w.grownBy ((w3.alloc (.cells #[.string ld] 9)).setCell ⟨w1.heap.size+1,s0,none⟩ (.slice (some ⟨w3.heap.size,0,none⟩) 1 1)) none:=zai (zaa (zaa HG2.out hg3) hal) (zac _ _ _) (by show w.heap.size≤w1.heap.size+1;have:=HWS.out;omega);have k0:=zba (o:=s0) (u := .slice (some ⟨w3.heap.size,0,none⟩) 1 1) hne1 (hal.cell z0 (by simp));have k1:=zba (o:=s0) (u := .slice (some ⟨w3.heap.size,0,none⟩) 1 1) hne1 (hal.cell z1 (by simp));have k2:=zba (o:=s0) (u := .slice (some ⟨w3.heap.size,0,none⟩) 1 1) hne1 (hal.cell z2 (by simp));have k3:=zba (o:=s0) (u := .slice (some ⟨w3.heap.size,0,none⟩) 1 1) hne1 (hal.cell z3 (by simp));have j0:=zba (o:=s0) (u := .slice (some ⟨w3.heap.size,0,none⟩) 1 1) (show w1.heap.size≠w1.heap.size+1 by omega) (hal.cell zc.1 (by simp));have j1:=zba (o:=s0) (u := .slice (some ⟨w3.heap.size,0,none⟩) 1 1) (show w1.heap.size≠w1.heap.size+1 by omega) (hal.cell zc.2.1 (by simp));have j2:=zba (o:=s0) (u := .slice (some ⟨w3.heap.size,0,none⟩) 1 1) (show w1.heap.size≠w1.heap.size+1 by omega) (hal.cell zc.2.2 (by simp));have HK:=zHd (zAI j0 (zAI j1 (zAI j2 (zAI k0 (zAI k1 (zAI k2 k3))))));have HG4:=zHd hg4;have HFM:=zHd hmat;clear hg4 hmat hlr hz4 hzr4 hzs hzr hg3 hzz HXC HF y0 y1 y2 y3 zc hw3 k0 k1 k2 k3 j0 j1 j2;go_upto_region 4 with(fail)
 obtain⟨j0,j1,j2,k0,k1,k2,k3⟩:=HK.out;generalize ((w3.alloc (.cells #[.string ld] 9)).setCell ⟨w1.heap.size+1,s0,none⟩ (.slice (some ⟨w3.heap.size,0,none⟩) 1 1))=w4 at *;have S3:(fun W':World=>W'.cell? ⟨w1.heap.size,0,none⟩=some (.int .i64 k)∧W'.cell? ⟨w1.heap.size,1,none⟩=some (.string (zaf k))∧W'.cell? ⟨w1.heap.size,2,none⟩=some (.string (oneT k))∧W'.cell? ⟨w.heap.size,0,none⟩=some (.int .i64 k)∧W'.cell? ⟨w.heap.size,1,none⟩=some (.int .i64 (s0:Int))∧W'.cell? ⟨w.heap.size,2,none⟩=some (.string ld)∧W'.cell? ⟨w.heap.size,3,none⟩=some (.slice As l.length cs)) w4.drew:=⟨j0,j1,j2,k0,k1,k2,k3⟩;have HGD:=zHd (zaa HG4.out (zae w4 none));clear j0 j1 j2 k0 k1 k2 k3 HK z0 z1 z2 z3 r0 f0
 go_region_held2 (fun W'=>W'.cell? ⟨w1.heap.size,0,none⟩=some (.int .i64 k)∧W'.cell? ⟨w1.heap.size,1,none⟩=some (.string (zaf k))∧W'.cell? ⟨w1.heap.size,2,none⟩=some (.string (oneT k))∧W'.cell? ⟨w.heap.size,0,none⟩=some (.int .i64 k)∧W'.cell? ⟨w.heap.size,1,none⟩=some (.int .i64 (s0:Int))∧W'.cell? ⟨w.heap.size,2,none⟩=some (.string ld)∧W'.cell? ⟨w.heap.size,3,none⟩=some (.slice As l.length cs)) (first|exact S3|exact S5|exact S8|exact S6|exact S7|go_keep)
  (first
  | (go_at_call 97;refine(HT.out _ HGD.out).mono ?_;rintro e w5 (⟨hp,v5,rfl,hm5,hg5⟩|⟨hn,rfl,hg5⟩);rotate_left 1;(exact⟨rfl,.inr ⟨fun h=>hn h.1,rfl,zaa HGD.out hg5⟩⟩);obtain⟨A5,e5,rfl⟩:=hm5.shape;have S5:(fun W':World=>W'.cell? ⟨w1.heap.size,0,none⟩=some (.int .i64 k)∧W'.cell? ⟨w1.heap.size,1,none⟩=some (.string (zaf k))∧W'.cell? ⟨w1.heap.size,2,none⟩=some (.string (oneT k))∧W'.cell? ⟨w.heap.size,0,none⟩=some (.int .i64 k)∧W'.cell? ⟨w.heap.size,1,none⟩=some (.int .i64 (s0:Int))∧W'.cell? ⟨w.heap.size,2,none⟩=some (.string ld)∧W'.cell? ⟨w.heap.size,3,none⟩=some (.slice As l.length cs)) w5:=⟨hg5.cell S3.1 (by simp),hg5.cell S3.2.1 (by simp),hg5.cell S3.2.2.1 (by simp),hg5.cell S3.2.2.2.1 (by simp),hg5.cell S3.2.2.2.2.1 (by simp),hg5.cell S3.2.2.2.2.2.1 (by simp),hg5.cell S3.2.2.2.2.2.2 (by simp)⟩;have H5:=zHd (zAI hp (zAI hm5 hg5));clear hp hm5 hg5)
  | (go_at_call 99;refine(HU.out _ w5 H5.out.2.1).mono ?_;rintro e w8 ⟨g8,rfl,hm8,hg8⟩;have S8:(fun W':World=>W'.cell? ⟨w1.heap.size,0,none⟩=some (.int .i64 k)∧W'.cell? ⟨w1.heap.size,1,none⟩=some (.string (zaf k))∧W'.cell? ⟨w1.heap.size,2,none⟩=some (.string (oneT k))∧W'.cell? ⟨w.heap.size,0,none⟩=some (.int .i64 k)∧W'.cell? ⟨w.heap.size,1,none⟩=some (.int .i64 (s0:Int))∧W'.cell? ⟨w.heap.size,2,none⟩=some (.string ld)∧W'.cell? ⟨w.heap.size,3,none⟩=some (.slice As l.length cs)) w8:=⟨hg8.cell S5.1 (by simp),hg8.cell S5.2.1 (by simp),hg8.cell S5.2.2.1 (by simp),hg8.cell S5.2.2.2.1 (by simp),hg8.cell S5.2.2.2.2.1 (by simp),hg8.cell S5.2.2.2.2.2.1 (by simp),hg8.cell S5.2.2.2.2.2.2 (by simp)⟩;have H8:=zHd (zAI hm8 hg8);clear hm8 hg8)
  | (go_at_call 43;refine(HS.out _ _ w8 H8.out.1 (((HFM.out.grown (zae w4 none)).grown H5.out.2.2).grown H8.out.2) H5.out.1).mono ?_;rintro e w6 (⟨hp,v6,rfl,hm6,hg6⟩|⟨hn,rfl,hg6⟩);rotate_left 1;(exact⟨rfl,.inr ⟨fun h=>hn h.2,rfl,zaa (zaa (zaa HGD.out H5.out.2.2) H8.out.2) hg6⟩⟩);obtain⟨A6,e6,rfl⟩:=hm6.shape;have S6:(fun W':World=>W'.cell? ⟨w1.heap.size,0,none⟩=some (.int .i64 k)∧W'.cell? ⟨w1.heap.size,1,none⟩=some (.string (zaf k))∧W'.cell? ⟨w1.heap.size,2,none⟩=some (.string (oneT k))∧W'.cell? ⟨w.heap.size,0,none⟩=some (.int .i64 k)∧W'.cell? ⟨w.heap.size,1,none⟩=some (.int .i64 (s0:Int))∧W'.cell? ⟨w.heap.size,2,none⟩=some (.string ld)∧W'.cell? ⟨w.heap.size,3,none⟩=some (.slice As l.length cs)) w6:=⟨hg6.cell S8.1 (by simp),hg6.cell S8.2.1 (by simp),hg6.cell S8.2.2.1 (by simp),hg6.cell S8.2.2.2.1 (by simp),hg6.cell S8.2.2.2.2.1 (by simp),hg6.cell S8.2.2.2.2.2.1 (by simp),hg6.cell S8.2.2.2.2.2.2 (by simp)⟩;have H6:=zHd (zAI hp (zAI hm6 hg6));clear hp hm6 hg6)
  | (go_at_call 96;refine(HC.out _ w6 H6.out.2.1).mono ?_;rintro e w7 ⟨u7,rfl,rfl,hr7,hg7⟩;have S7:(fun W':World=>W'.cell? ⟨w1.heap.size,0,none⟩=some (.int .i64 k)∧W'.cell? ⟨w1.heap.size,1,none⟩=some (.string (zaf k))∧W'.cell? ⟨w1.heap.size,2,none⟩=some (.string (oneT k))∧W'.cell? ⟨w.heap.size,0,none⟩=some (.int .i64 k)∧W'.cell? ⟨w.heap.size,1,none⟩=some (.int .i64 (s0:Int))∧W'.cell? ⟨w.heap.size,2,none⟩=some (.string ld)∧W'.cell? ⟨w.heap.size,3,none⟩=some (.slice As l.length cs)) w7:=⟨hg7.cell S6.1 (by simp),hg7.cell S6.2.1 (by simp),hg7.cell S6.2.2.1 (by simp),hg7.cell S6.2.2.2.1 (by simp),hg7.cell S6.2.2.2.2.1 (by simp),hg7.cell S6.2.2.2.2.2.1 (by simp),hg7.cell S6.2.2.2.2.2.2 (by simp)⟩;have H7:=zHd (zAI hr7 hg7);clear hr7 hg7))
 all_goals
  go_wp2;go_ret;refine .inl ⟨⟨H5.out.1,H6.out.1⟩,_,rfl,⟨w6.heap.size,rfl,?_,H7.out.1.1,fun j hj=>(H7.out.1.2 j hj).trans ?_⟩,zaa (zaa (zaa (zaa HGD.out H5.out.2.2) H8.out.2) H6.out.2.2) H7.out.2⟩
  ·have h1:=HGD.out.size
   have h2:=H5.out.2.2.size;have h4:=H8.out.2.size;have h3:=H6.out.2.2.size
   omega
  ·unfold txs
   rw[← HV.out j hj]
end
open Go.RowKit
theorem zDS {k:Int}{v:Ext}(h:wgtE k v=true):hasE k v=true:=by
 rcases v with(_|_)|x
 ·cases h
 ·cases h
 ·unfold wgtE at h
  unfold hasE;simp only[Bool.or_eq_true,Bool.and_eq_true,decide_eq_true_eq] at h ⊢;rcases h with h|⟨h,h2⟩
  ·exact .inl h
  ·exact .inr ⟨h,by grind⟩
theorem zkK {k:Int}{a:ByteArray}(h:wgtB k a=true):∃ v,Val k a v:=by
 obtain⟨v,hv⟩:=zmp h;exact⟨v,hv.e,zDS hv.has⟩
structure MOk (m:Mach):Prop where
 kind:zad m.kind
 start:∃ s0:Nat,m.start=(s0:Int)∧s0<m.states.length
 lead:∃ v,Val m.kind m.lead v
 arcs:∀ i,i<m.states.length→ztl m.kind m.states.length (stA m.states i)∧(stA m.states i).length≤30000
 fins:∀ i,i<m.states.length→stF m.states i=⟨#[]⟩∨∃ v,Val m.kind (stF m.states i) v
theorem zdZ {m:Mach}(h:validB m=true):MOk m:=by
 obtain⟨h1,h2,h3,h4,h5,h6⟩:=zdv (zdu h);refine⟨(zqf _).1 h1,⟨m.start.toNat,by omega,by omega⟩,zkK h6,fun i hi => ?_,fun i hi => ?_⟩
 ·have hs:m.states[i]? = some m.states[i]:=List.getElem?_eq_getElem hi
  rw[zkC hs];obtain⟨_,ha⟩:=zeB (zfq h hs);refine⟨fun a hm => ?_,?_⟩
  ·obtain⟨_,_,_,_,q1,q2,q3⟩:=zgj (ha a hm)
   exact⟨q1,q2,zkK q3⟩
  ·have:=zqg (List.mem_of_getElem? hs)
   have:=zjc h
   omega
 ·have hs:m.states[i]? = some m.states[i]:=List.getElem?_eq_getElem hi
  rw[ziw hs];obtain⟨hf,_⟩:=zeB (zfq h hs);unfold finB at hf;simp only[Bool.or_eq_true,decide_eq_true_eq] at hf;rcases hf with hf|hf
  ·exact .inl (ByteArray.ext (Array.eq_empty_of_size_eq_zero hf))
  ·exact .inr (zkK hf)
theorem MOk.sts {m:Mach}(h:MOk m)(hn:m.states.length≤60):zcx m.kind m.states:=⟨hn,h.arcs,h.fins⟩
noncomputable def checkC (m:Mach):Int:=if validB m=true then (if 60<m.states.length then 2 else 0) else 1
theorem zkL {w:World}{v:Value}{m:Mach}(hv:zcr w v m)(hf:zfp m):Calls Tryz.prog 50 #[v] w fun e w'=>e = .returned (.int .i64 (checkC m))∧w.grownBy w' none:=by
 obtain⟨u,rfl,hst⟩:=hv;obtain⟨A,cs,us,rfl,hsr⟩:=ziv hst;obtain⟨n,hn⟩:∃ n,m.states.length=n:=⟨_,rfl⟩;have hal:=zGA w (.cells #[.int .i64 m.kind,.int .i64 m.start,.string m.lead,.slice A m.states.length cs] 31) none;have hval:=znY (w:=w.alloc (.cells #[.int .i64 m.kind,.int .i64 m.start,.string m.lead,.slice A m.states.length cs] 31)) (v := .agg #[.int .i64 m.kind,.int .i64 m.start,.string m.lead,.slice A m.states.length cs]) (m:=m) ⟨_,rfl,hst.below (zbX hal)⟩ hf;obtain⟨x0,x1,x2,x3⟩:=MBox.new w m.kind m.start m.lead A m.states.length cs;have HV:=zHd hval;have HW:=zHd hal;have HN:=zHd hf.n;clear hval hal hst hsr hf;rw[hn] at HV HW x0 x1 x2 x3 HN;have hcc:checkC m=(if validB m=true then (if 60<n then 2 else 0) else 1):=by unfold checkC;rw[hn]
 have HCC:=zHd hcc;clear hcc;generalize checkC m=cc at *;rw[hn];go_enter Tryz.func50,Tryz.ntmps50;go_wp2_with fail;refine HV.out.mono ?_;rintro e w1 ⟨rfl,hg1⟩;have y3:=hg1.cell x3 (by simp);have HG:=zHd (zaa HW.out hg1);clear hg1 x0 x1 x2 x3 HV HW;cases hb:validB m
 ·go_wp2
  go_ret;have e:=HCC.out;rw[hb] at e;subst e;exact⟨rfl,HG.out⟩
 ·by_cases h60:60<n
  ·have t1:decide (60<n)=true:=by simpa using h60
   have t2:decide ((60:Int)<(n:Int))=true:=by simp;omega
   have t3:(60:Int)<(n:Int):=by omega
   have H6:=zHd h60;clear h60;go_wp2;go_ret;have e:=HCC.out;rw[hb,if_pos rfl,if_pos H6.out] at e;subst e;exact⟨rfl,HG.out⟩
  ·have t1:decide (60<n)=false:=by simpa using h60
   have t2:decide ((60:Int)<(n:Int))=false:=by simp;omega
   have t3:¬ (60:Int)<(n:Int):=by omega
   have H6:=zHd h60;clear h60;go_wp2;go_ret;have e:=HCC.out;rw[hb,if_pos rfl,if_neg H6.out] at e;subst e;exact⟨rfl,HG.out⟩
open Go.RowKit
theorem zhZ {m:Mach}(h:checkC m=0):validB m=true∧m.states.length≤60:=by
 unfold checkC at h
 split at h
 ·split at h
  ·omega
  ·exact⟨by assumption,by omega⟩
 ·omega
def ztz (m:Mach)(P:Prop)(L:Nat→Value)(w:World)(e:Ending)(w':World):Prop :=
 w.grownBy w' none∧((P∧∃ v,e = .returned (.tuple #[v,.int .i64 0])∧RowR w' v m.states.length L)∨(¬ P∧e = .returned (.tuple #[.slice none 0 0,.int .i64 2])))
theorem zxY:Enters 52:=enters_of Tryz.func52 (by kernel_rfl) rfl
theorem zFL {k:Int}(hk:zad k)(l:List zah)(us:List Value)(As:Option Addr)(cs g s0:Nat)(ld:ByteArray)(w:World)(hok:zcx k l)(hst:StsR w l us As cs)(hs0:s0<l.length)(hld:∃ v,Val k ld v)(hb:MBox w g k (s0:Int) ld As l.length cs) :
  Calls Tryz.prog 52 #[.pointer (some ⟨g,0,none⟩)] w (zbn (zgp hk l) (fun v w'=>∃ g,v = .slice (some ⟨g,0,none⟩) l.length l.length∧w.heap.size≤g∧zam w' g 0 l.length (txs (toE hk l))) w):=by
 have h:=zqy hk l us As cs (s0:Int) ld w hok hst;obtain⟨x0,x1,x2,x3⟩:=hb;have H:=zHd h;clear h hok hst hs0 hld;go_enter Tryz.func52,Tryz.ntmps52;go_wp2_with fail;refine H.out.mono ?_;rintro e w1 (⟨hp,v,rfl,hq,hg1⟩|⟨hn,rfl,hg1⟩)
 ·have HP:=zHd (zAI hp (zAI hq hg1))
  clear hp hq hg1 H;go_wp2;go_ret;exact .inl ⟨HP.out.1,_,rfl,HP.out.2.1,HP.out.2.2⟩
 ·exact⟨rfl,.inr ⟨hn,rfl,hg1⟩⟩
def ztA (m:Mach)(w:World)(e:Ending)(w':World):Prop :=
 (checkC m≠0∧w.grownBy w' none∧e = .returned (.tuple #[.slice none 0 0,.int .i64 (checkC m)]))∨(checkC m=0∧∃ hk:zad m.kind,ztz m (zgp hk m.states) (txs (toE hk m.states)) w e w')
theorem zGU {w:World}{v:Value}{m:Mach}(hv:zcr w v m)(hf:zfp m):Calls Tryz.prog 18 #[v] w (ztA m w):=by
 have hmf:∀ (fn:Fn) (first cap:Array Value) (w:World),(Instr.makeFunc fn first cap).run Tryz.prog w = .ok (.func fn first cap) w:=fun _ _ _ _=>rfl;have hv0:=hv;obtain⟨u,rfl,hst⟩:=hv;obtain⟨A,cs,us,rfl,hsr⟩:=ziv hst;have hal:=zGA w (.cells #[.int .i64 m.kind,.int .i64 m.start,.string m.lead,.slice A m.states.length cs] 31) none;have hck:=zkL (w:=w.alloc (.cells #[.int .i64 m.kind,.int .i64 m.start,.string m.lead,.slice A m.states.length cs] 31)) (v := .agg #[.int .i64 m.kind,.int .i64 m.start,.string m.lead,.slice A m.states.length cs]) (m:=m) ⟨_,rfl,hst.below (zbX hal)⟩ hf;have hbx:=MBox.new w m.kind m.start m.lead A m.states.length cs;obtain⟨x0,x1,x2,x3⟩:=hbx;have hsr1:=hsr.grown hal;have HC:=zHd hck;have HW:=zHd hal;have HS:=zHd (zAI hsr1 (MBox.new w m.kind m.start m.lead A m.states.length cs));clear hck hal hsr hst hv0 hf hsr1;unfold ztA;go_enter Tryz.func18,Tryz.ntmps18;go_wp2_with fail;refine HC.out.mono ?_;rintro e w1 ⟨rfl,hg1⟩;have HG:=zHd hg1;clear hg1 HC x0 x1 x2 x3;obtain⟨c,hc⟩:∃ c,checkC m=c:=⟨_,rfl⟩;rw[hc];have HCC:=zHd hc;clear hc
 by_cases h0:c=0
 ·subst h0
  obtain⟨hvalid,h60⟩:=zhZ HCC.out;have hok:=zdZ hvalid;obtain⟨s0,hs0,hs1⟩:=hok.start;have hal1:=zGA w1 (.cells #[.int .i64 0] 24) none;have hgs:=zaa HG.out hal1;have hbx:=HS.out.2.grown hgs;rw[hs0] at hbx;have h1:=zFL hok.kind m.states us A cs w.heap.size s0 m.lead (w1.alloc (.cells #[.int .i64 0] 24)) (hok.sts h60) (HS.out.1.grown hgs) hs1 hok.lead hbx
  have hat:=zlO (WB:=w1.heap.size) 52 zxY #[] #[.pointer (some ⟨w.heap.size,0,none⟩)] (zgp hok.kind m.states) (fun v w'=>∃ g,v = .slice (some ⟨g,0,none⟩) m.states.length m.states.length∧g≠w1.heap.size∧zam w' g 0 m.states.length (txs (toE hok.kind m.states)))
   (fun v wa wb b hb hg e hq=>by
    subst e;obtain⟨g,q1,q2,q3⟩:=hq;exact⟨g,q1,q2,q3.grownB hg q2⟩) w1 rfl (h1.mono (fun e w' h=>by
    rcases h with⟨hp,v,h1,⟨g,rfl,h2,h3⟩,h4⟩|h
    ·exact .inl ⟨hp,_,h1,⟨⟨_,_,_,rfl⟩,g,rfl,by simp at h2;omega,h3⟩,h4⟩
    ·exact .inr h))
  have HT:=zHd hat;have HK:=zHd (zAI hok.kind (zAI h60 hs0));clear hat h1 hbx hgs hal1 hvalid h60 hs0;go_wp2_with fail;refine HT.out.mono ?_;rintro e w2 (⟨hp,v,rfl,hq,hg2⟩|⟨hn2,rfl,hg2⟩)
  ·obtain⟨g,rfl,_,hq⟩:=hq
   have H2:=zHd (zAI hp (zAI hq (zaa (zaa HW.out HG.out) hg2)));clear hp hq hg2;go_wp2;exact bodyPost_ret (v := .tuple #[.slice (some ⟨g,0,none⟩) m.states.length m.states.length,.int .i64 0]) (by simp[results,Tryz.results18,go_sem]) rfl (.inr ⟨HCC.out,hok.kind,H2.out.2.2,.inl ⟨H2.out.1,_,rfl,(H2.out.2.1.row (Nat.le_refl _) (by have:=HK.out.2.1;unfold maxLen;omega))⟩⟩)
  ·have H2:=zHd (zAI hn2 (zaa (zaa HW.out HG.out) hg2))
   clear hn2 hg2;go_wp2;exact bodyPost_ret (v := .tuple #[.slice none 0 0,.int .i64 2]) (by simp[results,Tryz.results18,go_sem]) rfl (.inr ⟨HCC.out,hok.kind,H2.out.2,.inr ⟨H2.out.1,rfl⟩⟩)
 ·have t1:(c == 0)=false:=by simpa using h0
  have t2:(c != 0)=true:=by simpa using h0
  have H0:=zHd h0;clear h0;go_wp2;exact bodyPost_ret (v := .tuple #[.slice none 0 0,.int .i64 c]) (by simp[results,Tryz.results18,go_sem]) rfl (.inl ⟨by rw[HCC.out];exact H0.out,zaa HW.out HG.out,by rw[HCC.out]⟩)
theorem ztB:Enters 54:=enters_of Tryz.func54 (by kernel_rfl) rfl
theorem zBe {k:Int}(hk:zad k)(l:List zah)(us:List Value)(As:Option Addr)(cs g s0:Nat)(ld:ByteArray)(w:World)(hok:zcx k l)(hst:StsR w l us As cs)(hs0:s0<l.length)(hld:∃ v,Val k ld v)(hb:MBox w g k (s0:Int) ld As l.length cs) :
  Calls Tryz.prog 54 #[.pointer (some ⟨g,0,none⟩)] w (zbn (zhn hk l ld s0) (fun v w'=>∃ g,v = .slice (some ⟨g,0,none⟩) l.length l.length∧w.heap.size≤g∧zam w' g 0 l.length (txs (frE hk l ld s0))) w):=by
 have h:=zrh hk l us As cs s0 ld w hok hst hs0 hld;obtain⟨x0,x1,x2,x3⟩:=hb;have H:=zHd h;clear h hok hst hs0 hld;go_enter Tryz.func54,Tryz.ntmps54;go_wp2_with fail;refine H.out.mono ?_;rintro e w1 (⟨hp,v,rfl,hq,hg1⟩|⟨hn,rfl,hg1⟩)
 ·have HP:=zHd (zAI hp (zAI hq hg1))
  clear hp hq hg1 H;go_wp2;go_ret;exact .inl ⟨HP.out.1,_,rfl,HP.out.2.1,HP.out.2.2⟩
 ·exact⟨rfl,.inr ⟨hn,rfl,hg1⟩⟩
def zmA (m:Mach)(w:World)(e:Ending)(w':World):Prop :=
 (checkC m≠0∧w.grownBy w' none∧e = .returned (.tuple #[.slice none 0 0,.int .i64 (checkC m)]))∨(checkC m=0∧∃ hk:zad m.kind,ztz m (zhn hk m.states m.lead m.start.toNat) (txs (frE hk m.states m.lead m.start.toNat)) w e w')
theorem zDT {w:World}{v:Value}{m:Mach}(hv:zcr w v m)(hf:zfp m):Calls Tryz.prog 19 #[v] w (zmA m w):=by
 have hmf:∀ (fn:Fn) (first cap:Array Value) (w:World),(Instr.makeFunc fn first cap).run Tryz.prog w = .ok (.func fn first cap) w:=fun _ _ _ _=>rfl;have hv0:=hv;obtain⟨u,rfl,hst⟩:=hv;obtain⟨A,cs,us,rfl,hsr⟩:=ziv hst;have hal:=zGA w (.cells #[.int .i64 m.kind,.int .i64 m.start,.string m.lead,.slice A m.states.length cs] 31) none;have hck:=zkL (w:=w.alloc (.cells #[.int .i64 m.kind,.int .i64 m.start,.string m.lead,.slice A m.states.length cs] 31)) (v := .agg #[.int .i64 m.kind,.int .i64 m.start,.string m.lead,.slice A m.states.length cs]) (m:=m) ⟨_,rfl,hst.below (zbX hal)⟩ hf;have hbx:=MBox.new w m.kind m.start m.lead A m.states.length cs;obtain⟨x0,x1,x2,x3⟩:=hbx;have hsr1:=hsr.grown hal;have HC:=zHd hck;have HW:=zHd hal;have HS:=zHd (zAI hsr1 (MBox.new w m.kind m.start m.lead A m.states.length cs));clear hck hal hsr hst hv0 hf hsr1;unfold zmA;go_enter Tryz.func19,Tryz.ntmps19;go_wp2_with fail;refine HC.out.mono ?_;rintro e w1 ⟨rfl,hg1⟩;have HG:=zHd hg1;clear hg1 HC x0 x1 x2 x3;obtain⟨c,hc⟩:∃ c,checkC m=c:=⟨_,rfl⟩;rw[hc];have HCC:=zHd hc;clear hc
 by_cases h0:c=0
 ·subst h0
  obtain⟨hvalid,h60⟩:=zhZ HCC.out;have hok:=zdZ hvalid;obtain⟨s0,hs0,hs1⟩:=hok.start;have hal1:=zGA w1 (.cells #[.int .i64 0] 24) none;have hgs:=zaa HG.out hal1;have hbx:=HS.out.2.grown hgs;rw[hs0] at hbx;have h1:=zBe hok.kind m.states us A cs w.heap.size s0 m.lead (w1.alloc (.cells #[.int .i64 0] 24)) (hok.sts h60) (HS.out.1.grown hgs) hs1 hok.lead hbx
  have hat:=zlO (WB:=w1.heap.size) 54 ztB #[] #[.pointer (some ⟨w.heap.size,0,none⟩)] (zhn hok.kind m.states m.lead s0) (fun v w'=>∃ g,v = .slice (some ⟨g,0,none⟩) m.states.length m.states.length∧g≠w1.heap.size∧zam w' g 0 m.states.length (txs (frE hok.kind m.states m.lead s0)))
   (fun v wa wb b hb hg e hq=>by
    subst e;obtain⟨g,q1,q2,q3⟩:=hq;exact⟨g,q1,q2,q3.grownB hg q2⟩) w1 rfl (h1.mono (fun e w' h=>by
    rcases h with⟨hp,v,h1,⟨g,rfl,h2,h3⟩,h4⟩|h
    ·exact .inl ⟨hp,_,h1,⟨⟨_,_,_,rfl⟩,g,rfl,by simp at h2;omega,h3⟩,h4⟩
    ·exact .inr h))
  have HT:=zHd hat;have HK:=zHd (zAI hok.kind (zAI h60 hs0));clear hat h1 hbx hgs hal1 hvalid h60 hs0;go_wp2_with fail;refine HT.out.mono ?_;rintro e w2 (⟨hp,v,rfl,hq,hg2⟩|⟨hn2,rfl,hg2⟩)
  ·obtain⟨g,rfl,_,hq⟩:=hq
   have H2:=zHd (zAI hp (zAI hq (zaa (zaa HW.out HG.out) hg2)));clear hp hq hg2;go_wp2;exact bodyPost_ret (v := .tuple #[.slice (some ⟨g,0,none⟩) m.states.length m.states.length,.int .i64 0]) (by simp[results,Tryz.results19,go_sem]) rfl (.inr ⟨HCC.out,hok.kind,H2.out.2.2,.inl ⟨by rw[HK.out.2.2];exact H2.out.1,_,rfl,by rw[HK.out.2.2];exact(H2.out.2.1.row (Nat.le_refl _) (by have:=HK.out.2.1;unfold maxLen;omega))⟩⟩)
  ·have H2:=zHd (zAI hn2 (zaa (zaa HW.out HG.out) hg2))
   clear hn2 hg2;go_wp2;exact bodyPost_ret (v := .tuple #[.slice none 0 0,.int .i64 2]) (by simp[results,Tryz.results19,go_sem]) rfl (.inr ⟨HCC.out,hok.kind,H2.out.2,.inr ⟨by rw[HK.out.2.2];exact H2.out.1,rfl⟩⟩)
 ·have t1:(c == 0)=false:=by simpa using h0
  have t2:(c != 0)=true:=by simpa using h0
  have H0:=zHd h0;clear h0;go_wp2;exact bodyPost_ret (v := .tuple #[.slice none 0 0,.int .i64 c]) (by simp[results,Tryz.results19,go_sem]) rfl (.inl ⟨by rw[HCC.out];exact H0.out,zaa HW.out HG.out,by rw[HCC.out]⟩)
open Go.RowKit
def hasF (m:Mach)(x:Nat):Bool:=(stOf m x).fin.size != 0
def zdJ (m:Mach)(k:Nat):List Nat:=(List.range k).filter (hasF m)
def fwdL (m:Mach):List Nat:=srch (zaF m) m.states.length 0 ([m.start.toNat].foldl zaJ [])
def bwdL (m:Mach):List Nat:=srch (zaQ m) m.states.length 0 ((zdJ m m.states.length).foldl zaJ [])
def zlw (m:Mach):List Nat:=(fwdL m).filter (fun x=>decide (x∈bwdL m))
theorem zBf (m:Mach)(k:Nat):zdJ m (k+1)=zdJ m k++(if hasF m k then [k] else []):=by
 unfold zdJ;rw[List.range_succ,List.filter_append];cases h:hasF m k <;> simp[List.filter,h]
theorem zjs {m:Mach}{k x:Nat}:x∈zdJ m k↔x<k∧hasF m x=true:=by
 unfold zdJ;rw[List.mem_filter,List.mem_range]
theorem ztC (m:Mach)(k:Nat):(zdJ m k).length≤k:=by
 unfold zdJ;exact Nat.le_trans (List.length_filter_le _ _) (by simp)
theorem zvZ {m:Mach}{x:Nat}:isFin m x↔x<m.states.length∧hasF m x=true:=by
 unfold isFin hasF
 constructor
 ·rintro ⟨s,hs,h⟩
  refine⟨(List.getElem?_eq_some_iff.1 hs).1,?_⟩;rw[zfK hs]
  simpa using h
 ·rintro ⟨h,hb⟩
  have hs:m.states[x]? = some m.states[x]:=List.getElem?_eq_getElem h;rw[zfK hs] at hb;exact⟨_,hs,by simpa using hb⟩
theorem zfX {succ:Nat→List Nat}{S T:Nat→Prop}(h:∀ x,S x→T x){x:Nat}(hx:RFrom succ S x):RFrom succ T x:=by
 induction hx with
 | start h1=>exact .start (h _ h1)
 | step _ h2 ih=>exact .step ih h2
theorem zpA {m:Mach}(h:Wf m)(x:Nat):x∈fwdL m↔RFrom (zaF m) (fun y=>y=m.start.toNat) x:=by
 have hst:m.start.toNat<m.states.length:=zjp h (.start rfl);unfold fwdL;rw[ztn (zfV h) (zbJ List.nodup_nil) (zcA (fun z hz=>by simp at hz) (fun z hz=>by simp at hz;omega))]
 constructor
 ·exact zfX (fun y hy=>by rw[zdW] at hy;simpa using hy)
 ·exact zfX (fun y hy=>by rw[zdW];simpa using hy)
theorem zwa {m:Mach}(x:Nat):x∈bwdL m↔RFrom (zaQ m) (isFin m) x:=by
 unfold bwdL;rw[ztn (n:=m.states.length) zfs (zbJ List.nodup_nil) (zcA (fun z hz=>by simp at hz) (fun z hz=>(zjs.1 hz).1))]
 constructor
 ·exact zfX (fun y hy=>by rw[zdW] at hy;rw[zvZ];simpa [zjs] using hy)
 ·exact zfX (fun y hy=>by rw[zdW];rw[zvZ] at hy;simpa [zjs] using hy)
theorem zqC (m:Mach):(fwdL m).Nodup:=znS (zbJ List.nodup_nil)
theorem zBg (m:Mach):(bwdL m).Nodup:=znS (zbJ List.nodup_nil)
theorem zqD {m:Mach}(h:Wf m):∀ x∈fwdL m,x<m.states.length:=fun x hx=>zjp h ((zpA h x).1 hx)
theorem zqE {m:Mach}:∀ x∈bwdL m,x<m.states.length:=by
 intro x hx;have:=(zwa x).1 hx;cases this with
 | start h=>exact zGQ h
 | step _ h=>exact zfs _ _ h
theorem zBh {m:Mach}(h:Wf m):m.start.toNat∈fwdL m:=(zpA h _).2 (.start rfl)
theorem zBi {m:Mach}(h:Wf m):(zlw m).mergeSort (fun x y=>decide (x≤y))=usefulL m:=by
 have hp:=List.mergeSort_perm (zlw m) (fun x y=>decide (x≤y));have hnd:(zlw m).Nodup:=List.Pairwise.filter _ (zqC m);have hs:((zlw m).mergeSort (fun x y=>decide (x≤y))).Pairwise (fun x y=>decide (x≤y)=true):=List.pairwise_mergeSort (fun a b c h1 h2=>by simp at *;omega) (fun a b=>by simp;omega) _;have hn2:=hp.nodup_iff.2 hnd;refine zAV ?_ (zrd m) (fun x => ?_)
 ·exact(hs.and hn2).imp (fun⟨h1,h2⟩=>by simp at h1;omega)
 ·rw[hp.mem_iff,zcw h]
  unfold zlw zhk;rw[List.mem_filter,zpA h,decide_eq_true_iff,zwa]
theorem zFM:∀ args w,(callFunc 186 args).run Tryz.prog w = .ok (.enter 186 args) w:=enters_of Tryz.func186 (by kernel_rfl) rfl
theorem zxZ {W:World}{p g n x:Nat}{b:Bool}(h1:W.cell? ⟨p,0,none⟩=some (.slice (some ⟨g,0,none⟩) n n))(h2:W.cell? ⟨g,x,none⟩=some (.bool b))(hx:x<n) :
  FnGives Tryz.prog 186 #[.pointer (some ⟨p,0,none⟩)] #[.int .i64 (x:Int)] (.bool (!b)) W:=by
 have n1:(0:Int)≤(x:Int):=by omega
 have n2:(x:Int)<(n:Int):=by omega
 unfold FnGives;show Calls Tryz.prog 186 #[.int .i64 (x:Int),.pointer (some ⟨p,0,none⟩)] W _;go_enter Tryz.func186,Tryz.ntmps186;go_wp2
 all_goals (go_ret;exact⟨by simp_all,0,rfl⟩)
structure Ends (W:World)(p g n:Nat)(o:List Nat):Prop where
 var:W.cell? ⟨p,0,none⟩=some (.slice (some ⟨g,0,none⟩) n n)
 row:zbP W g (bv (zcJ n o))
 hp:p<W.heap.size
def encF (n:Nat)(x:Fin n):Value := .int .i64 (x.val:Int)
theorem Ends.gives {W W':World}{p g n:Nat}{o:List Nat}(h:Ends W p g n o)(x:Fin n)(h1:W'.cell? ⟨p,0,none⟩=W.cell? ⟨p,0,none⟩)(h2:∀ j,W'.cell? ⟨g,j,none⟩=W.cell? ⟨g,j,none⟩) :
  FnGives Tryz.prog 186 #[.pointer (some ⟨p,0,none⟩)] #[encF n x] (.bool (!decide (x.val∈o))) W' :=
 zxZ (h1.trans h.var) ((h2 _).trans (by rw[h.row.cell];exact ztp _ _ _ (zeZ x.isLt))) x.isLt
theorem Ends.pred {W:World}{p g n:Nat}{o:List Nat}(h:Ends W p g n o):PredAt Tryz.prog 186 #[.pointer (some ⟨p,0,none⟩)] (encF n) (fun x => !decide (x.val∈o)) W :=
 fun W' x hb=>h.gives x (hb.cell (p:=⟨p,0,none⟩) h.hp) (fun j=>hb.cell (p:=⟨g,j,none⟩) h.row.lt)
theorem Ends.over {n:Nat}[Inhabited (Fin n)]{W:World}{p g:Nat}{o:List Nat}(h:Ends W p g n o){blk off size:Nat}(hp:p≠blk)(hg:g≠blk):PredOver Tryz.prog 186 #[.pointer (some ⟨p,0,none⟩)] (encF n) (fun x => !decide (x.val∈o)) blk off size W :=
 fun q os dk x _=>by
  have hgr:W.grownBy (sortWorld (encF n) W blk off q dk os) (some blk):=zhm (encF n) W blk off q dk os;exact h.gives x (World.cell?_of_block (hgr.block p h.hp (by simp;omega))) (fun j=>World.cell?_of_block (hgr.block g h.row.lt (by simp;omega)))
open Go.RowKit
def zdm (w:World)(g off:Nat)(l:List Nat):Prop:=∀ (j x:Nat),l[j]? = some x→w.cell? ⟨g,off+j,none⟩=some (.int .i64 (x:Int))∧w.frozen? ⟨g,off+j,none⟩=false
theorem QAt.holdsN {w:World}{B:Nat}{v:Value}{q:List Nat}(h:QAt w B v q)(hq:q≠[]):∃ g off cap,v = .slice (some ⟨g,off,none⟩) q.length cap∧B≤g∧g<w.heap.size∧q.length≤cap∧zdm w g off q:=by
 obtain⟨a,cap,hv,⟨h0,_⟩|⟨g,off,cur,ha,hB,hh,hc,ho,hx⟩⟩:=h
 ·exact absurd h0 hq
 ·subst ha
  exact⟨g,off,cap,hv,hB,(Array.getElem?_eq_some_iff.1 hh).1,hc,fun j x hj=>⟨by rw[cell_of_row w g _ _ _ (0,0) hh];exact hx j x hj,frozen_of_row w g _ _ _ hh⟩⟩
theorem zdm.below {w w':World}{B g off:Nat}{l:List Nat}(h:zdm w g off l)(hb:Below B w w')(hg:g<B):zdm w' g off l:=fun j x hx =>
 ⟨(World.cell?_of_block (hb.block g hg)).trans (h j x hx).1,(World.frozen?_of_block (hb.block g hg)).trans (h j x hx).2⟩
theorem zBj {n:Nat}[Inhabited (Fin n)]{w:World}{g off:Nat}{l:List Nat}(h:zdm w g off l){d:List (Fin n)}(hd:d.map Fin.val=l):Go.Sort.Holds (encF n) w g off d.toArray:=by
 intro j hj;have hj2:j<d.length:=by simpa using hj
 have hx:l[j]? = some (d[j]).val:=by rw[← hd,List.getElem?_map,List.getElem?_eq_getElem hj2];rfl
 have he:d.toArray[j]! = d[j]:=by
  rw[getElem!_pos d.toArray j hj];simp
 rw[he];exact h j _ hx
theorem zya {n:Nat}[Inhabited (Fin n)]{w:World}{g off:Nat}{d:List (Fin n)}(h:Go.Sort.Holds (encF n) w g off d.toArray):zdm w g off (d.map Fin.val):=by
 intro j x hx;rw[List.getElem?_map] at hx;cases hd:d[j]? with
 | none=>rw[hd] at hx;cases hx
 | some y =>
  rw[hd] at hx;cases hx;obtain⟨hj,he⟩:=List.getElem?_eq_some_iff.1 hd;have:=h j (by simpa using hj)
  have h2:d.toArray[j]! = y:=by
   rw[getElem!_pos d.toArray j (by simpa using hj)]
   simpa using he
  rw[h2] at this;exact this
theorem zqF {w:World}{g off:Nat}{l:List Nat}(h:zdm w g off l):Go.Sort.Holds (Value.int .i64) w g off (l.map (fun x:Nat=>(x:Int))).toArray:=by
 intro j hj;have hj2:j<l.length:=by simpa using hj
 have he:(l.map (fun x:Nat=>(x:Int))).toArray[j]! = ((l[j]:Nat):Int):=by
  rw[getElem!_pos _ j hj];simp
 rw[he];exact h j _ (List.getElem?_eq_getElem hj2)
theorem zyb {w:World}{g off:Nat}{l:List Nat}(h:Go.Sort.Holds (Value.int .i64) w g off (l.map (fun x:Nat=>(x:Int))).toArray):zdm w g off l:=by
 intro j x hx;obtain⟨hj,hv⟩:=List.getElem?_eq_some_iff.1 hx;have:=h j (by simpa using hj)
 have he:(l.map (fun x:Nat=>(x:Int))).toArray[j]! = (x:Int):=by
  rw[getElem!_pos _ j (by simpa using hj)];simp[hv]
 rw[he] at this;exact this
theorem zri {w:World}{g off cap:Nat}{l:List Nat}(h:zdm w g off l)(hg:g<w.heap.size):NSl w (.slice (some ⟨g,off,none⟩) l.length cap) l :=
 ⟨_,cap,rfl,by unfold nvL;simp,fun _=>⟨_,rfl,hg,fun j u hu=>by
  unfold nvL at hu;rw[List.getElem?_map] at hu;cases hx:l[j]? with
  | none=>rw[hx] at hu;cases hu
  | some x =>
   rw[hx] at hu;cases hu;have hadd:Addr.add ⟨g,off,none⟩ j=⟨g,off+j,none⟩:=by unfold Addr.add;split <;> simp_all
   rw[hadd];exact(h j x hx).1⟩⟩
theorem ztD {n:Nat}:∀ {l:List Nat},(∀ x∈l,x<n)→∃ d:List (Fin n),d.map Fin.val=l
 | [],_=>⟨[],rfl⟩
 | x::l,h=>by
  obtain⟨d,hd⟩:=ztD (l:=l) (fun y hy=>h y (by simp[hy]));exact⟨⟨x,h x (by simp)⟩::d,by simp[hd]⟩
theorem zBk:∀ w,(zeroValue 3).run Tryz.prog w = .ok (.int .i64 0) w:=fun w=>by kernel_rfl
def zFN (blk off cap:Nat)(k:List Nat)(w:World)(e:Ending)(w':World):Prop:=e = .returned (.slice (some ⟨blk,off,none⟩) k.length cap)∧zdm w' blk off k∧w.grownBy w' (some blk)
theorem zyc {w:World}{p gm n blk off cap:Nat}{l o:List Nat}(hE:Ends w p gm n o)(hl:∀ x∈l,x<n)(hn:0<n)(hH:zdm w blk off l)(hp:p≠blk)(hg:gm≠blk)(hcap:l.length≤cap)(hsz:l.length≤1000000) :
  Calls Tryz.prog 185 #[.slice (some ⟨blk,off,none⟩) l.length cap,.func (.func 186) #[] #[.pointer (some ⟨p,0,none⟩)]] w (zFN blk off cap (l.filter (fun x=>decide (x∈o))) w):=by
 obtain⟨d,hd⟩:=ztD hl
 letI:Inhabited (Fin n):=⟨⟨0,hn⟩⟩
 have hlen:d.length=l.length:=by rw[← hd,List.length_map]
 have hH2:=zBj hH hd;have h:=Tryz.slices_DeleteFunc (encF n) (fun _=>rfl) (fun x => !decide (x.val∈o)) 186 #[.pointer (some ⟨p,0,none⟩)] zFM ⟨0,hn⟩ zBk blk off cap d.toArray w hE.pred (hE.over hp hg) hH2 (by simp;omega) (by simp;omega);have hsz2:d.toArray.size=l.length:=by simp[hlen]
 rw[hsz2] at h;refine h.mono ?_;rintro e w' ⟨rfl,q,rfl⟩
 have hk:(d.filter (fun x => !!decide (x.val∈o))).map Fin.val=l.filter (fun x=>decide (x∈o)):=by
  rw[← hd,List.filter_map]
  congr 1
  apply List.filter_congr
  intro x _;simp[Function.comp]
 have hkl:(d.filter (fun x => !!decide (x.val∈o))).length=(l.filter (fun x=>decide (x∈o))).length:=by rw[← hk,List.length_map]
 refine⟨by show Ending.returned (.slice _ (d.filter _).length cap)=_;rw[hkl],?_,?_⟩
 ·have hP:=Go.Sort.holds_putRow (encF n) (Go.Sort.ahead w q) blk off d.toArray ((d.filter (fun x:Fin n => !!decide (x.val∈o)))++List.replicate (d.toArray.size - (d.filter (fun x:Fin n => !!decide (x.val∈o))).length) (⟨0,hn⟩:Fin n)).toArray hH2 (by
   have:=List.length_filter_le (fun x => !!decide (x.val∈o)) d;simp at this ⊢;omega)
  have h2:=zya hP;intro j x hx;rw[← hk] at hx
  have:=h2 j x (by
   rw[List.map_append,List.getElem?_append_left (by rw[List.length_map];have:=(List.getElem?_eq_some_iff.1 hx).1;rw[List.length_map] at this;exact this)];exact hx)
  rw[hsz2] at this;exact this
 ·exact zhm (encF n) w blk off q _ #[]
def zBl (blk off:Nat)(k:List Nat)(w:World)(e:Ending)(w':World):Prop:=e = .returned (.tuple #[])∧zdm w' blk off k∧w.grownBy w' (some blk)
theorem zDU {w:World}{blk off cap:Nat}{l:List Nat}(hH:zdm w blk off l)(hb:blk<w.heap.size)(hsz:l.length≤1000000) :
  Calls Tryz.prog 187 #[.slice (some ⟨blk,off,none⟩) l.length cap] w (zBl blk off (l.mergeSort (fun x y=>decide (x≤y))) w):=by
 have h:=Tryz.slices_Sort_int blk off cap (l.map (fun x:Nat=>(x:Int))) w (zqF hH) hb (by simp;omega);rw[List.length_map] at h;refine h.mono ?_;rintro e w' ⟨rfl,q,os,rfl⟩
 have hms:(l.map (fun x:Nat=>(x:Int))).mergeSort (fun x y=>decide (x≤y))=(l.mergeSort (fun x y=>decide (x≤y))).map (fun x:Nat=>(x:Int)):=by
  symm
  apply List.map_mergeSort
  intro a _ b _;simp
 rw[hms];refine⟨rfl,?_,zhm _ w blk off q _ os⟩;have hP:=Go.Sort.holds_putRow (Value.int .i64) (Go.Sort.ahead w q) blk off (l.map (fun x:Nat=>(x:Int))).toArray ((l.mergeSort (fun x y=>decide (x≤y))).map (fun x:Nat=>(x:Int))).toArray (zqF hH) (by simp);exact zyb (Go.Sort.holds_grow _ _ os blk off _ (by simpa using hb) hP)
open Go.RowKit
def zFO (l:List Nat)(w:World)(e:Ending)(w':World):Prop:=∃ v,e = .returned v∧NSl w' v l∧w.grownBy w' none
theorem znZ {w W:World}{p:Nat}{A:Option Addr}{cap:Nat}{us:List Value}{v:Value}{m:Mach}(hm:Small m)(hst:StAt w A us m.states)(hb:Below w.heap.size w W)(hbx:zao W p m (.slice A m.states.length cap))(hv:NSl W v [m.start.toNat]) :
  Calls Tryz.prog 182 #[.int .i64 (m.states.length:Int),v,.func (.func 218) #[] #[.pointer (some ⟨p,0,none⟩)]] W (zxL (fwdL m) W):=by
 have hst0:m.start.toNat<m.states.length:=zjp hm.wf (.start rfl);exact znX zuH (zxK hbx (hst.below hb) hm) (Below.refl _ _) hv hm.n (fun x hx=>by simp at hx;omega) (zfV hm.wf) (by simp)
theorem zyd {W:World}{p:Nat}{v:Value}{m:Mach}(hm:Small m)(hbk:zix W p m.states.length (zaQ m))(hv:NSl W v (zdJ m m.states.length)) :
  Calls Tryz.prog 182 #[.int .i64 (m.states.length:Int),v,.func (.func 219) #[] #[.pointer (some ⟨p,0,none⟩)]] W (zxL (bwdL m) W):=by
 have hl:∀ x,(zaQ m x).length≤1000000000:=fun x=>by
  have h:=zty hm m.states.length 0 x;rw[zqz] at h;exact Nat.le_trans h (Nat.le_trans (Nat.mul_le_mul_right _ (by have:=hm.n;omega:m.states.length+1≤3001)) (by decide))
 exact znX zuO (zxW hbk hm hl) (Below.refl _ _) hv hm.n (fun x hx=>(zjs.1 hx).1) zfs (by have:=ztC m m.states.length;have:=hm.n;omega)
theorem QAt.nsl {w:World}{B:Nat}{v:Value}{q:List Nat}(h:QAt w B v q):NSl w v q:=by
 obtain⟨a,cap,hv,⟨h0,_⟩|⟨g,off,cur,ha,hB,hh,hc,ho,hq⟩⟩:=h
 ·subst h0
  exact⟨a,cap,hv,rfl,fun h=>by simp at h⟩
 ·refine⟨a,cap,hv,by unfold nvL;simp,fun _=>⟨_,ha,(Array.getElem?_eq_some_iff.1 hh).1,fun j u hu => ?_⟩⟩
  unfold nvL at hu;rw[List.getElem?_map] at hu;cases hx:q[j]? with
  | none=>rw[hx] at hu;cases hu
  | some x =>
   rw[hx] at hu;cases hu;have hadd:Addr.add ⟨g,off,none⟩ j=⟨g,off+j,none⟩:=by unfold Addr.add;split <;> simp_all
   rw[hadd,cell_of_row w g _ _ _ (0,0) hh];exact hq j x hx
theorem QAt.mono {w:World}{B B':Nat}{v:Value}{q:List Nat}(h:QAt w B v q)(hB:B'≤B):QAt w B' v q:=by
 obtain⟨a,cap,hv,h3|⟨g3,off3,cur3,k1,k2,k3⟩⟩:=h
 ·exact⟨a,cap,hv,.inl h3⟩
 ·exact⟨a,cap,hv,.inr ⟨g3,off3,cur3,k1,by omega,k3⟩⟩
theorem zqG (w:World)(x:Value):(w.alloc (.cells #[x] 3)).cell? ⟨w.heap.size,0,none⟩=some x:=by
 have h:(w.alloc (.cells #[x] 3)).heap[w.heap.size]? = some (.cells #[x] 3 (0,0)):=by
  show(w.heap.push _)[w.heap.size]? = _;rw[Array.getElem?_push_size]
 rw[cell_of_row _ w.heap.size 0 _ _ (0,0) h];rfl
theorem zBm (w:World)(x:Value):(w.alloc (.cells #[x] 3)).drew.cell? ⟨w.heap.size,0,none⟩=some x:=zqG w x
theorem zwb {w:World}{g x:Nat}(h:w.cell? ⟨g,0,none⟩=some (.int .i64 (x:Int)))(hg:g<w.heap.size):NSl w (.slice (some ⟨g,0,none⟩) 1 1) [x] :=
 ⟨_,_,rfl,rfl,fun _=>⟨_,rfl,hg,fun j u hu=>by
  cases j with
  | zero=>cases hu;exact h
  | succ j=>simp[nvL] at hu⟩⟩
theorem zye {w:World}{v:Value}{m:Mach}(hv:zcr w v m)(hm:Small m):Calls Tryz.prog 145 #[v] w (zFO (usefulL m) w):=by
 have hv0:=hv;obtain⟨u,rfl,hst0⟩:=hv;obtain⟨A,cap,us,rfl,hS0⟩:=StAt.of hst0;have hg:w.grownBy (w.alloc (.cells #[.int .i64 m.kind,.int .i64 m.start,.string m.lead,.slice A m.states.length cap] 31)) none:=zGA _ _ _;have hbx:=zao.new w m (.slice A m.states.length cap);have HS:=zHd hS0;have HBX:=zHd hbx;have HG:=zHd hg;have HM:=zHd hm;have HV:=zHd hv0;have hn3:=hm.n;obtain⟨x0,x1,x2,x3⟩:=hbx.cells;have e1:(w.alloc (.cells #[.int .i64 m.kind,.int .i64 m.start,.string m.lead,.slice A m.states.length cap] 31)).heap.size=w.heap.size+1:=by simp
 clear hbx hg hst0 hS0 hm hv0;go_enter Tryz.func145,Tryz.ntmps145;go_wp2;generalize hW:w.alloc (.cells #[.int .i64 m.kind,.int .i64 m.start,.string m.lead,.slice A m.states.length cap] 31)=W at *;clear hW x0 x1 x2 x3
 go_loopw [3,15] (fun fv i wr=>∃ k:Nat,i = .int .i64 k∧k≤m.states.length∧QAt wr (w.heap.size+1) fv (zdJ m k)∧W.grownBy wr none) (fun _ i _=>m.states.length - (intOf i).toNat)
 case atStart=>exact⟨0,rfl,by omega,QAt.nil _ _,World.grownBy.refl _ _⟩
 case round =>
  obtain⟨k,rfl,hk,hq,hgr⟩:=hrel
  rename_i fv
  have HQ:=zHd hq;have HGR:=zHd hgr;clear hq hgr
  by_cases hlt:k<m.states.length
  ·obtain⟨ad,s,B,cb,hA,hs,hu,hc,hra⟩:=(HS.out.below (zaO (zaa HG.out HGR.out))).at_ hlt
   subst hA;obtain⟨z0,z1⟩:=hc;have n1:(k:Int)<(m.states.length:Int):=by omega
   have n2:IntKind.i64.wrap ((k:Int)+1)=(k:Int)+1:=by rw[IntKind.wrap_i64];omega
   have hga:=zGA wr (.cells #[.string s.fin,.slice B s.arcs.length cb] 57) none;have HQ2:=zHd (HQ.out.grown hga (by simp));have HG2:=zHd (zaa HGR.out hga);have hfb:hasF m k=(s.fin.size != 0):=by unfold hasF;rw[zfK hs]
   have hnx:=zBf m k;have hfl:=ztC m k;have hsz:w.heap.size+1≤wr.heap.size:=by have:=HGR.out.size;omega
   clear hu hra hga
   by_cases hf0:s.fin.size=0
   ·have b1:(s.fin.toList == [])=true:=by rw[Lib.toList_data,beq_iff_eq,← List.length_eq_zero_iff,Array.length_toList];exact hf0
    have b2:(s.fin.toList != [])=false:=zAo b1;have he:zdJ m (k+1)=zdJ m k:=by rw[hnx,hfb];simp[hf0]
    have HE:=zHd he;clear he hnx hfb hs;go_wp2
    go_roundw
    case rel=>exact⟨k+1,by go_num,by omega,by rw[HE.out];exact HQ2.out,HG2.out⟩
    case measure=>simp[intOf];omega
   ·have b1:(s.fin.toList == [])=false:=by
     cases h:(s.fin.toList == [])
     ·rfl
     ·rw[Lib.toList_data,beq_iff_eq,← List.length_eq_zero_iff,Array.length_toList] at h;exact absurd h hf0
    have b2:(s.fin.toList != [])=true:=zAp b1;have he:zdJ m (k+1)=zdJ m k++[k]:=by rw[hnx,hfb];simp[hf0]
    have HE:=zHd he;clear he hnx hfb hs;have HQ3:=zHd (HQ2.out.grown (zGA (wr.alloc (.cells #[.string s.fin,.slice B s.arcs.length cb] 57)) (.cells #[.int .i64 (k:Int)] 3) none) (by simp));go_wp2_with (at_builtin;refine zlR HQ3.out (by simp;omega) rfl _ _ rfl rfl _ _ k rfl ?ca (by omega) ?_)
    case ca =>
     have:=zqu (wr.alloc (.cells #[.string s.fin,.slice B s.arcs.length cb] 57)) k;simp only[World.size_alloc] at this ⊢
     first|exact this|simpa using this
    intro v' w5 hq5 hb5;have HQ5:=zHd hq5;have HG5:=zHd (zaI (((zaO HG2.out).trans ((zaO (zGA (wr.alloc (.cells #[.string s.fin,.slice B s.arcs.length cb] 57)) (.cells #[.int .i64 (k:Int)] 3) none)).mono (by simp;omega))).trans (hb5.mono (by omega))));clear hq5 hb5 z0 z1;go_wp2
    go_roundw
    case rel=>exact⟨k+1,by go_num,by omega,by rw[HE.out];exact HQ5.out,HG5.out⟩
    case measure=>simp[intOf];omega
  ·have n1:¬ (k:Int)<(m.states.length:Int):=by omega
   have hke:k=m.states.length:=by omega
   subst hke;have hbx2:=(HBX.out.grown HGR.out);obtain⟨y0,y1,y2,y3⟩:=hbx2.cells;have HB2:=zHd (zaO (zaa HG.out HGR.out));have HF:=zHd HQ.out.nsl;clear hbx2;have HSC:Hid (m.start=(m.start.toNat:Int)):=zHd (by have:=HM.out.wf.start;omega);have hs1:w.heap.size+1≤wr.heap.size:=by have:=HGR.out.size;omega
   generalize wr=w4 at *;go_upto_region 8 with(fail)
   go_cut [6] from 28 to 36 (fun b wx=>QAt wx (w.heap.size+1) b (fwdL m)∧w4.grownBy wx none)
   case first =>
    have d0:w4.drew.cell? ⟨w.heap.size,0,none⟩=some (.int .i64 m.kind):=y0;have d1:w4.drew.cell? ⟨w.heap.size,1,none⟩=some (.int .i64 m.start):=y1;have d2:w4.drew.cell? ⟨w.heap.size,2,none⟩=some (.string m.lead):=y2;have d3:w4.drew.cell? ⟨w.heap.size,3,none⟩=some (.slice A m.states.length cap):=y3;have q0:=World.new_ne w4 _ y0
    go_region_held3 (fun W'=>W'.cell? ⟨w.heap.size,0,none⟩=some (.int .i64 m.kind)∧W'.cell? ⟨w.heap.size,1,none⟩=some (.int .i64 m.start)∧W'.cell? ⟨w.heap.size,2,none⟩=some (.string m.lead)∧W'.cell? ⟨w.heap.size,3,none⟩=some (.slice A m.states.length cap)) (go_keep)
     (first
      | (go_at_call 183;refine zpv.mono ?_;rintro e w5 ⟨rfl,hbx5,hg5⟩;have s0:=hg5.cell (by first|exact d0|exact(zGA _ _ none).cell d0 (by simp)) (by simp);have s1:=hg5.cell (by first|exact d1|exact(zGA _ _ none).cell d1 (by simp)) (by simp);have s2:=hg5.cell (by first|exact d2|exact(zGA _ _ none).cell d2 (by simp)) (by simp);have s3:=hg5.cell (by first|exact d3|exact(zGA _ _ none).cell d3 (by simp)) (by simp);have q5:=World.new_ne w5 _ s0)
      | (go_at_call 182
         first
          | (refine(znZ (W:=w5) HM.out HS.out (HB2.out.trans ((zaO (zaa (zaa (zGA w4 _ none) (zae _ none)) hg5)).mono HB2.out.size)) (by simpa using hbx5) (zwb (by rw[← HSC.out];exact hg5.cell (zBm w4 _) (by simp)) (by have:=hg5.size;simp at this;omega))).mono ?_
             rintro e w6 ⟨v6,rfl,hq6,hg6⟩;have hgg:=zaa (zaa (zaa (zGA w4 _ none) (zae _ none)) hg5) hg6;have p0:=hg6.cell s0 (by simp);have p1:=hg6.cell s1 (by simp);have p2:=hg6.cell s2 (by simp);have p3:=hg6.cell s3 (by simp))
          | (refine(znZ (W:=w5.alloc (.cells #[.int .i64 m.start] 3)) HM.out HS.out (HB2.out.trans ((zaO (zaa (zaa (zae w4 none) hg5) (zGA w5 _ none))).mono HB2.out.size)) (zao.grown (by simpa using hbx5) (zGA w5 _ none)) (zwb (by rw[← HSC.out];exact zqG w5 _) (by simp))).mono ?_
             rintro e w6 ⟨v6,rfl,hq6,hg6⟩;have hgg:=zaa (zaa (zaa (zae w4 none) hg5) (zGA w5 _ none)) hg6;have hg7:=zaa (zGA w5 (.cells #[.int .i64 m.start] 3) none) hg6;have p0:=hg7.cell s0 (by simp);have p1:=hg7.cell s1 (by simp);have p2:=hg7.cell s2 (by simp);have p3:=hg7.cell s3 (by simp))
         have HGG:=zHd hgg;have HQ6:=zHd hq6))
    all_goals
     go_wp2_with (fail)
     go_meet
     case rel=>exact⟨HQ6.out.mono (by (try simp);first|omega|(have:=hg5.size;simp at this;omega)),HGG.out⟩
   case rest =>
    obtain⟨hq6,hg6⟩:=hcut;generalize wc=w6 at *;have HQ6:=zHd hq6;have hbx3:=(HBX.out.grown HGR.out).grown hg6;have HG6:=zHd (zaa HGR.out hg6);have HF6:=zHd (HF.out.grown hg6);have HV6:=zHd (HV.out.grown (zaa HG.out (zaa HGR.out hg6)));have HS6:=zHd hs1;have hs2:w.heap.size+1≤w6.heap.size:=by have:=hg6.size;omega
    clear y0 y1 y2 y3 hq6 hg6;obtain⟨y0,y1,y2,y3⟩:=hbx3.cells;clear hbx3;go_upto_region 9 with(fail)
    have d0:w6.drew.cell? ⟨w.heap.size,0,none⟩=some (.int .i64 m.kind):=y0;have d1:w6.drew.cell? ⟨w.heap.size,1,none⟩=some (.int .i64 m.start):=y1;have d2:w6.drew.cell? ⟨w.heap.size,2,none⟩=some (.string m.lead):=y2;have d3:w6.drew.cell? ⟨w.heap.size,3,none⟩=some (.slice A m.states.length cap):=y3;have HP:=zHd (zmz (HV6.out.grown (zae w6 none)) HM.out)
    go_region_held3 (fun W'=>W'.cell? ⟨w.heap.size,0,none⟩=some (.int .i64 m.kind)∧W'.cell? ⟨w.heap.size,1,none⟩=some (.int .i64 m.start)∧W'.cell? ⟨w.heap.size,2,none⟩=some (.string m.lead)∧W'.cell? ⟨w.heap.size,3,none⟩=some (.slice A m.states.length cap)) (go_keep)
     (first
      | (go_at_call 184;refine HP.out.mono ?_;rintro e w7 ⟨p7,rfl,hbk7,hg7⟩;have s0:=hg7.cell d0 (by simp);have s1:=hg7.cell d1 (by simp);have s2:=hg7.cell d2 (by simp);have s3:=hg7.cell d3 (by simp))
      | (go_at_call 182
         refine(zyd HM.out hbk7 (HF6.out.grown (zaa (zae w6 none) hg7))).mono ?_;rintro e w8 ⟨v8,rfl,hq8,hg8⟩;have p0:=hg8.cell s0 (by simp);have p1:=hg8.cell s1 (by simp);have p2:=hg8.cell s2 (by simp);have p3:=hg8.cell s3 (by simp)))
    have hg9:=zaa (zaa (zae w6 none) hg7) hg8;have HQ8:=zHd (hq8.mono (show 0≤w7.heap.size by omega));have HQ9:=zHd (HQ6.out.grown hg9 (by simp));have HG9:=zHd (zaa HG6.out hg9);have hs3:w.heap.size+1≤w8.heap.size:=by have:=hg9.size;omega
    have HBX9:=zHd ((HBX.out.grown HG9.out));clear d0 d1 d2 d3 s0 s1 s2 s3 y0 y1 y2 y3 hbk7 hg7 hq8 hg8 hg9;have hne:fwdL m≠[]:=List.ne_nil_of_mem (zBh HM.out.wf);obtain⟨gf,off,capf,hv6,hgfB,hgf,hcapf,hHN⟩:=HQ9.out.holdsN hne;subst hv6;obtain⟨a8,c8,hv8,hr8⟩:=HQ8.out.nsl;subst hv8;have HR8:=zHd hr8;have HHN:=zHd hHN;have hfl:=short_list (zqC m) (zqD HM.out.wf);have hbl:=short_list (zBg m) (zqE (m:=m));obtain⟨y0,y1,y2,y3⟩:=HBX9.out.cells;obtain⟨i0,hi,hz0,hz1,hz2⟩:=zci znW;clear hr8 hHN hne;go_wp2_with (at_make;refine wpList_make_full _ rfl _ _ 166 rfl w8.heap.size 4 i0 (.bool false) 1 Tryz.underlying166 hi hz0 hz1 _ _ _ _ m.states.length rfl rfl rfl rfl (by rw[hz2];omega) (by unfold maxLen;omega) (Nat.le_refl _) ?_);intro w9 hown hgr;rw[zkB] at hown;have hga:=zGA w9 (.cells #[.slice (some ⟨w8.heap.size,0,none⟩) m.states.length m.states.length] 166) none;have hc9:=zbP.of_full hown;rw[← zqx] at hc9;have hlt9:=hc9.lt;have HC9:=zHd (show zbP _ w8.heap.size _ from(hga.block _ hc9.lt (by simp)).trans hc9)
    have hpv:(w9.alloc (.cells #[.slice (some ⟨w8.heap.size,0,none⟩) m.states.length m.states.length] 166)).heap[w9.heap.size]? = some (.cells #[.slice (some ⟨w8.heap.size,0,none⟩) m.states.length m.states.length] 166 (0,0)):=by
     show(w9.heap.push _)[w9.heap.size]? = _;rw[Array.getElem?_push_size]
    have HPV:=zHd hpv;have HB9:=zHd (zaO (zaa hgr hga));clear hown hgr hga hc9 hpv y0 y1 y2 y3;go_wp2;generalize hW:w9.alloc (.cells #[.slice (some ⟨w8.heap.size,0,none⟩) m.states.length m.states.length] 166)=W9 at *;clear hW
    go_loopw [50] (fun i wr=>∃ j:Nat,i = .int .i64 j∧j≤(bwdL m).length∧zbP wr w8.heap.size (bv (zcJ m.states.length ((bwdL m).take j)))∧wr.heap[w9.heap.size]? = some (.cells #[.slice (some ⟨w8.heap.size,0,none⟩) m.states.length m.states.length] 166 (0,0))∧Below w8.heap.size w8 wr) (fun i _=>(bwdL m).length - (intOf i).toNat)
    case atStart=>exact⟨0,rfl,by omega,HC9.out,HPV.out,HB9.out⟩
    case round =>
     obtain⟨j,rfl,hj,hc,hpv,hb⟩:=hrel;have HC:=zHd hc;have HPV2:=zHd hpv;have HB:=zHd hb;obtain⟨x0,_⟩:=one_cell hpv;clear hpv
     by_cases hjl:j<(bwdL m).length
     ·obtain⟨ad,x,hA,hx,hcx⟩:=zgn ((HR8.out.below HB.out).more HB.out.size) hjl
      subst hA;have hxn:x<m.states.length:=zqE x (List.mem_of_getElem? hx);have n1:(j:Int)<((bwdL m).length:Int):=by omega
      have n2:IntKind.i64.wrap ((j:Int)+1)=(j:Int)+1:=by rw[IntKind.wrap_i64];omega
      have n3:(0:Int)≤(x:Int):=by omega
      have n4:(x:Int)<(m.states.length:Int):=by omega
      have hst:(zcJ m.states.length ((bwdL m).take j)).set x true=zcJ m.states.length ((bwdL m).take (j+1)):=by rw[zqw hxn,zcI hx]
      have HST:=zHd hst;have hfr:=hc.free x;have c0:wr.cell? ⟨w8.heap.size,x,none⟩=some (.bool (decide (x∈(bwdL m).take j))):=by rw[hc.cell];exact ztp _ _ _ (zeZ hxn)
      have hcs:=hc.set x (.bool true);rw[show(bv (zcJ m.states.length ((bwdL m).take j))).set x (.bool true)=bv ((zcJ m.states.length ((bwdL m).take j)).set x true) by unfold bv;rw[List.map_set],hst] at hcs;have HCS:=zHd hcs;have gs:=zac wr ⟨w8.heap.size,x,none⟩ (.bool true);have HP3:=zHd ((gs.block w9.heap.size (lt_of_block HPV2.out) (by simp;omega)).trans HPV2.out);have HB3:=zHd (HB.out.grown gs HB.out.size (fun b e=>by cases e;exact Nat.le_refl _));clear hst hx hc hcs gs hb;go_wp2
      go_roundw
      case rel=>exact⟨j+1,by go_num,by omega,HCS.out,HP3.out,HB3.out⟩
      case measure=>simp[intOf];omega
     ·have n1:¬ (j:Int)<((bwdL m).length:Int):=by omega
      have hce:=HC.out;rw[List.take_of_length_le (by omega)] at hce;have HE:Hid (Ends wr w9.heap.size w8.heap.size m.states.length (bwdL m)):=zHd ⟨x0,hce,lt_of_block HPV2.out⟩;have hH2:=HHN.out.below HB.out hgf;have HDEL:=zHd (zyc HE.out (zqD HM.out.wf) (by have:=HM.out.wf.start;omega) hH2 (by omega) (by omega) hcapf (by omega));have HB4:=zHd (zaI (((zaO (zaa HG.out HG9.out)).trans (HB.out.mono (by omega)))));clear hc hce hH2 hb;go_wp2_with fail;refine HDEL.out.mono ?_;rintro e w10 ⟨rfl,hk10,hg10⟩;have hb10:gf<w10.heap.size:=by have:=hg10.size;have:=HB.out.size;omega
      have HK:=zHd hk10;have HSO:=zHd (zDU (cap:=capf) hk10 hb10 (by have:=List.length_filter_le (fun x=>decide (x∈bwdL m)) (fwdL m);omega));have HG10:=zHd (zai (g:=gf) HB4.out hg10 (by omega));clear hk10 hg10;go_wp2_with fail;refine HSO.out.mono ?_;rintro e w11 ⟨rfl,hk11,hg11⟩;have hks:=zBi HM.out.wf;unfold zlw at hks;have hkl:((fwdL m).filter (fun x=>decide (x∈bwdL m))).length=(usefulL m).length:=by rw[← hks,List.length_mergeSort]
      rw[hks] at hk11;have hns:=zri (cap:=capf) hk11 (by have:=hg11.size;omega);rw[← hkl] at hns;have HNS:=zHd hns;have HG11:=zHd (zai (g:=gf) HG10.out hg11 (by omega));clear hk11 hg11 hks hkl hns;go_wp2;go_ret;exact⟨_,rfl,HNS.out,HG11.out⟩
end Go.Proofs.YtaogepcaoogpgaaGreatDoor
