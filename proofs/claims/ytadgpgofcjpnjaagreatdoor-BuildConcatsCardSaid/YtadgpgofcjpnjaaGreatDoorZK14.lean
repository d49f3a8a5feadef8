/- Part. -/
import Derived.Test.YtadgpgofcjpnjaaGreatDoorZK13
set_option linter.unusedVariables false
set_option linter.defProp false
set_option linter.unusedSimpArgs false
set_option maxRecDepth 100000
set_option maxHeartbeats 16000000
namespace Go.Proofs.YtadgpgofcjpnjaaGreatDoor
open Go.Proofs.Tryz
open Go.RowKit
def zBr:(prog.info? 105).map (fun i=>(i.zero,i.size,i.bytes))=some (some (.slice none 0 0),1,24):=by kernel_rfl
structure AtA (k:Int)(W0:World)(ga X Y n:Nat)(gs:List Nat)(bss:Nat->List Nat)(W:World):Prop where
 cube:zdl W ga (X+1) (Y+1) n gs bss (fun _ _ _=>zaV k)
 gr:W0.grownBy W none
 low:∀ (i g:Nat),gs[i]?=some g->W0.heap.size<=g
 fst:∀ r j b,r<gs.length->(bss r)[j]?=some b->¬ (r=0/\j=0)->(bss 0).getD 0 0<b
 lowv:∀ (r j b:Nat),r<gs.length->(bss r)[j]?=some b->W0.heap.size<=b
def AtA.grown {k:Int}{W0 W W':World}{ga X Y n:Nat}{gs:List Nat}{bss:Nat->List Nat}(h:AtA k W0 ga X Y n gs bss W)(hg:W.grownBy W' none):AtA k W0 ga X Y n gs bss W':=⟨h.cube.grown hg,zaa h.gr hg,h.low,h.fst,h.lowv⟩
def zdl.start {w W:World}{M N n:Nat}(h:zbI 105 (.slice none 0 0) M [] w W)(bss:Nat->List Nat)(H:Nat->Nat->Nat->ByteArray):zdl W w.heap.size M N n [] bss H :=
 ⟨h.row,zqaw _,fun i g hi=>by simp at hi,fun i j g hi=>by simp at hi⟩
def zcY.start {w W:World}{N n:Nat}(h:zbI 109 (.slice none 0 0) N [] w W)(G:Nat->Nat->ByteArray):zcY W w.heap.size N n [] G :=
 ⟨h.row,zqaw _,fun i b hi=>by simp at hi⟩
def znd {k:Int}(P:Prop)(F:El k)(w:World)(e:Ending)(w':World):Prop :=
 w.grownBy w' none/\((zav F/\e=.returned (.tuple #[.string (tx F),.int .i64 0]))∨(¬ P/\e=.returned (.tuple #[.string ⟨#[]⟩,.int .i64 2])))
def AtA.push {k:Int}{W0 W W':World}{ga X Y n:Nat}{gs:List Nat}{bss:Nat->List Nat}(h:AtA k W0 ga X Y n gs bss W)(hl:gs.length<X+1)(hg:W.grownBy W' none){b:Nat}(hb:W.heap.size<=b)(hr:zcY W' b (Y+1) n [] (fun _ _=>zaV k))(hga:W0.heap.size<=ga) :
  AtA k W0 ga X Y n (gs++[b]) (fun x=>if x=gs.length then [] else bss x) (W'.setCell ⟨ga,gs.length,none⟩ (.slice (some ⟨b,0,none⟩) (Y+1) (Y+1))):=by
 have hc:=h.cube.push hl hg hb hr;refine⟨⟨hc.top,hc.le,fun i g hi=>(hc.rows i g hi).congr (fun j _ q _=>?_),hc.dis⟩,zae (zaa h.gr hg) (zad W' ⟨ga,gs.length,none⟩ (.slice (some ⟨b,0,none⟩) (Y+1) (Y+1))) hga,fun i g hi=>?_,fun r j c hr' hc' hne=>?_,fun r j c hr' hc'=>?_⟩
 ·split <;> rfl
 ·by_cases e:i<gs.length
  ·rw[zqal e] at hi;exact h.low i g hi
  rw[zqaq (by omega)] at hi
  have e1:i-gs.length=0:=by
   rcases Nat.eq_zero_or_pos (i-gs.length) with e|e;exact e;rw[zqas (by simp;omega)] at hi;cases hi
  rw[e1] at hi;cases hi;have:=h.gr.size;omega
 ·rw[zqag,zqbq] at hr'
  by_cases e:r=gs.length
  rw[if_pos e] at hc';simp at hc';rw[if_neg e] at hc'
  by_cases e0:0=gs.length
  omega;rw[if_neg e0];exact h.fst r j c (by omega) hc' hne
 rw[zqag,zqbq] at hr'
 by_cases e:r=gs.length
 rw[if_pos e] at hc';simp at hc';rw[if_neg e] at hc';exact h.lowv r j c (by omega) hc'
def AtA.put {k:Int}{W0 W W':World}{ga X Y n:Nat}{gs:List Nat}{bss:Nat->List Nat}(h:AtA k W0 ga X Y n gs bss W){i g b:Nat}(hi:gs[i]?=some g)(hl:(bss i).length<Y+1)(hg:W.grownBy W' none)(hb:W.heap.size<=b)(hr:zbe W' b n (fun _=>zaV k))(hlast:i+1=gs.length)(h0:¬ (i=0/\(bss i).length=0)->0<(bss 0).length/\0<gs.length) :
  AtA k W0 ga X Y n gs (fun x=>if x=i then bss i++[b] else bss x) (W'.setCell ⟨g,(bss i).length,none⟩ (.slice (some ⟨b,0,none⟩) n n)):=by
 have zW:=(h.cube.grown hg).rows i g hi;have hc:=(h.cube.grown hg).row hi (zW.push hl hr);refine⟨⟨hc.top,hc.le,fun x c hx=>(hc.rows x c hx).congr (fun j _ q _=>?_),hc.dis⟩,zae (zaa h.gr hg) (zad W' ⟨g,(bss i).length,none⟩ (.slice (some ⟨b,0,none⟩) n n)) (h.low i g hi),h.low,fun r j c hr' hc' hne=>?_,fun r j c hr' hc'=>?_⟩
 ·by_cases e1:x=i
  ·rw[if_pos e1]
   by_cases e2:j=(bss i).length
   rw[if_pos e2];rw[if_neg e2]
  rw[if_neg e1]
 ·have old:∀ r j c,r<gs.length->(bss r)[j]?=some c->c<W.heap.size:=fun r j c hr hc=>by
   have hgr:gs[r]?=some (gs[r]'hr):=zqac hr;exact((h.cube.rows r _ hgr).rows j c hc).lt
  have hil:=(zqae.1 hi).1
  by_cases e0:i=0
  ·subst e0
   rw[if_pos rfl]
   by_cases e:r=0
   ·subst e
    rw[if_pos rfl] at hc'
    by_cases ej:j<(bss 0).length
    ·rw[zqal ej] at hc'
     have:=h.fst 0 j c hil hc' hne;rw[zqaa,zqal (by omega),<- zqaa];exact this
    rw[zqaq (by omega)] at hc'
    have e1:j-(bss 0).length=0:=by
     rcases Nat.eq_zero_or_pos (j-(bss 0).length) with e|e;exact e;exact zQcn
    rw[e1] at hc';cases hc';have hp:=(h0 (fun e=>hne ⟨rfl,by omega⟩)).1;rw[zqaa,zqal hp,zqac hp];have:=old 0 0 _ hil (zqac hp);show(bss 0)[0]<b;omega
   exfalso;omega
  rw[if_neg (fun e=>e0 e.symm)]
  by_cases e:r=i
  ·subst e
   rw[if_pos rfl] at hc'
   by_cases ej:j<(bss r).length
   ·rw[zqal ej] at hc'
    exact h.fst r j c hil hc' hne
   rw[zqaq (by omega)] at hc'
   have e1:j-(bss r).length=0:=by
    rcases Nat.eq_zero_or_pos (j-(bss r).length) with e|e;exact e;exact zQcn
   rw[e1] at hc';cases hc';obtain⟨hp,hp2⟩:=h0 (fun e=>e0 e.1);have:=old 0 0 _ hp2 (zqac hp);rw[zqaa,zqac hp];show(bss 0)[0]<b;omega
  rw[if_neg e] at hc';exact h.fst r j c hr' hc' hne
 by_cases e:r=i
 ·subst e
  rw[if_pos rfl] at hc'
  by_cases ej:j<(bss r).length
  ·rw[zqal ej] at hc'
   exact h.lowv r j c hr' hc'
  rw[zqaq (by omega)] at hc'
  have e1:j-(bss r).length=0:=by
   rcases Nat.eq_zero_or_pos (j-(bss r).length) with e|e;exact e;exact zQcn
  rw[e1] at hc';cases hc';have:=h.gr.size;omega
 rw[if_neg e] at hc';exact h.lowv r j c hr' hc'
def ziY {w:World}{A:Option Addr}{X c:Nat}{x:List Nat}(h:zax w (.slice A X c) (x.map (fun s:Nat=>(s:Int))))(hX:x.length=X){i:Nat}(hi:i<X):∃ ad,A=some ad/\w.cell? (ad.add i)=some (.int .i64 ((x.getD i 0:Nat):Int)):=by
 obtain⟨A',c',e,_,_,h3⟩:=h;cases e;obtain⟨ad,e1,_,hc⟩:=h3 i (by rw[zqbn,hX];exact hi);refine⟨ad,e1,hc.trans ?_⟩
 have:(x.map (fun s:Nat=>(s:Int))).getD i 0=((x.getD i 0:Nat):Int):=by
  rw[zqaa,zqaa,zqaj];cases x[i]? <;> rfl
 exact zqbz (fun z:Int=>some (Value.int .i64 z)) this
def zne {x:List Nat}(h:zat (x.map (fun s:Nat=>(s:Int)))=true){i:Nat}(hi:i<x.length):1<=x.getD i 0:=by
 unfold zat at h;simp only[zqbb,List.all_eq_true] at h;have h2:=h.2 ((x[i]:Nat):Int) (zqbf.2 ⟨x[i],List.getElem_mem hi,rfl⟩);unfold zaI at h2;simp only[zqca] at h2;rw[zqaa,zqac hi];show 1<=x[i];omega
def AtC.free9 {k:Int}{W0 W:World}{ga X Y n:Nat}{gs:List Nat}{U:Nat->Nat->Nat->El k}(h:AtC W0 ga X Y n gs U W){i g:Nat}(hg:gs[i]?=some g)(j:Nat):W.frozen? ⟨g,j,none⟩=false:=by
 obtain⟨bss,h1,_⟩:=h.ex;exact(h1.rows i g hg).free j
section
variable {k:Int} (hk:zam k) (l:List zac) (x y:List Nat) (V:Nat->Nat->Nat->El k) (i j:Nat)
def zjl (kk:Nat)(h1:1<=kk)(h3:kk<=3):st9 hk l x y V i j kk i j=zaW (srE k hk) (wm9 hk l) (V i j):=by
 rcases (by omega:kk=1∨kk=2∨kk=3) with rfl|rfl|rfl;exact zbS _ _ _
 ·show zci _ _ _ _ i j i j=_
  rw[zdU,zbS]
 show zdk _ _ _ _ i j i j=_;rw[zhU,zdU,zbS]
def zBs (h:i<x.length)(i' j' q:Nat):st9 hk l x y V i j 2 i' j' q=(if i'=i+1/\j'=j then fun q=>(srE k hk).add (st9 hk l x y V i j 1 (i+1) j q) (stp (srE k hk) (wm9 hk l) (zaW (srE k hk) (wm9 hk l) (V i j)) (x.getD i 0) 0 q) else st9 hk l x y V i j 1 i' j') q:=by
 show zci (srE k hk) (wm9 hk l) x (proc1 (srE k hk) (wm9 hk l) V i j) i j i' j' q=_;unfold zci;rw[if_pos h,zbS];unfold zfj;split <;> rfl
def zBt (h:¬ i<x.length)(i' j' q:Nat):st9 hk l x y V i j 2 i' j' q=st9 hk l x y V i j 1 i' j' q:=by
 show zci (srE k hk) (wm9 hk l) x (proc1 (srE k hk) (wm9 hk l) V i j) i j i' j' q=_;unfold zci;rw[if_neg h];rfl
def zBu (h:j<y.length)(i' j' q:Nat):st9 hk l x y V i j 3 i' j' q=(if i'=i/\j'=j+1 then fun q=>(srE k hk).add (st9 hk l x y V i j 2 i (j+1) q) (stp (srE k hk) (wm9 hk l) (zaW (srE k hk) (wm9 hk l) (V i j)) 0 (y.getD j 0) q) else st9 hk l x y V i j 2 i' j') q:=by
 show zdk (srE k hk) (wm9 hk l) y (zci (srE k hk) (wm9 hk l) x (proc1 (srE k hk) (wm9 hk l) V i j) i j) i j i' j' q=_;unfold zdk;rw[if_pos h,zdU,zbS];unfold zfj;split <;> rfl
def zBv (h:¬ j<y.length)(i' j' q:Nat):st9 hk l x y V i j 3 i' j' q=st9 hk l x y V i j 2 i' j' q:=by
 show zdk (srE k hk) (wm9 hk l) y (zci (srE k hk) (wm9 hk l) x (proc1 (srE k hk) (wm9 hk l) V i j) i j) i j i' j' q=_;unfold zdk;rw[if_neg h];rfl
def zBw (h:i<x.length/\j<y.length)(i' j' q:Nat):st9 hk l x y V i j 4 i' j' q=(if i'=i+1/\j'=j+1 then fun q=>(srE k hk).add (st9 hk l x y V i j 3 (i+1) (j+1) q) (stp (srE k hk) (wm9 hk l) (zaW (srE k hk) (wm9 hk l) (V i j)) (x.getD i 0) (y.getD j 0) q) else st9 hk l x y V i j 3 i' j') q:=by
 show zfQ (srE k hk) (wm9 hk l) x y V i j i' j' q=_;unfold zfQ zgL;rw[if_pos h,zhU,zdU,zbS];unfold zfj;split <;> rfl
def zsj (h:¬ (i<x.length/\j<y.length))(i' j' q:Nat):st9 hk l x y V i j 4 i' j' q=st9 hk l x y V i j 3 i' j' q:=by
 show zfQ (srE k hk) (wm9 hk l) x y V i j i' j' q=_;unfold zfQ zgL;rw[if_neg h];rfl
end
def AtA.lead {k:Int}(hk:zam k){W0 W:World}{ga X Y n:Nat}{gs:List Nat}{bss:Nat->List Nat}(h:AtA k W0 ga X Y n gs bss W)(hl:gs.length=X+1)(hb:∀ r,r<=X->(bss r).length=Y+1){b s0:Nat}(hb0:(bss 0)[0]?=some b)(hs:s0<n){ld:ByteArray}{lead:El k}(hld:ld=tx lead)(hfl:zav lead) :
  AtC W0 ga X Y n gs (V09 (srE k hk) lead s0) (W.setCell ⟨b,s0,none⟩ (.string ld)):=by
 have hset:=zad W ⟨b,s0,none⟩ (.string ld);have hg0:gs[0]?=some (gs[0]'(by omega)):=zqac _;have hbr:=(h.cube.rows 0 _ hg0).rows 0 b hb0
 have hbg:∀ (i g:Nat),gs[i]?=some g->g≠b:=fun i g hi e=>by
  have h1:=(h.cube.rows i g hi).top;have h2:=hbr;unfold zbe at h2;rw[e,h2] at h1;have:=(Obj.cells.inj (Option.some.inj h1)).2.1
  revert this
  decide
 have hba:ga≠b:=fun e=>by
  have h1:=h.cube.top;have h2:=hbr;unfold zbe at h2;rw[e,h2] at h1;have:=(Obj.cells.inj (Option.some.inj h1)).2.1
  revert this
  decide
 have hlow:W0.heap.size<=b:=h.lowv 0 0 b (by omega) hb0;refine⟨⟨bss,⟨(hset.block ga h.cube.lt (by show some ga≠some b;intro e;exact hba (Option.some.inj e))).trans h.cube.top,h.cube.le,fun i g hi=>?_,h.cube.dis⟩,hb⟩,hl,zae h.gr hset hlow,fun i j q _ _ _=>?_,h.low⟩
 ·have hr:=h.cube.rows i g hi
  refine⟨(hset.block g hr.lt (by show some g≠some b;intro e;exact hbg i g hi (Option.some.inj e))).trans hr.top,hr.le,fun j c hc=>?_⟩
  by_cases e:i=0/\j=0
  ·obtain⟨rfl,rfl⟩:=e
   rw[hb0] at hc;cases hc;refine(hbr.put hs ld).congr (fun q _=>?_);unfold V09
   by_cases eq:q=s0
   rw[if_pos eq,if_pos ⟨rfl,rfl,eq⟩];exact hld;rw[if_neg eq,if_neg (fun e=>eq e.2.2)];exact(zbJ hk).symm
  have hlt:=h.fst i j c (zqae.1 hi).1 hc e;rw[zqaa,hb0] at hlt;have hlt:b<c:=hlt;refine((hr.rows j c hc).grownB hset (by show c≠b;omega)).congr (fun q _=>?_);unfold V09;rw[if_neg (fun e2=>e ⟨e2.1,e2.2.1⟩)];exact(zbJ hk).symm
 unfold V09;split;exact hfl;exact zbp hk
def zuF {k st:Int}{ld:ByteArray}{l:List zac}(hk:zam k)(x y:List Nat)(mv xv yv:Value)(w:World)(hm:zan w mv ⟨k,st,ld,l⟩)(hmf:zaZ ⟨k,st,ld,l⟩)(zV:validB ⟨k,st,ld,l⟩=true)
  (hx:zax w xv (x.map (fun s:Nat=>(s:Int)))) (hy:zax w yv (y.map (fun s:Nat=>(s:Int)))) (hxw:zat (x.map (fun s:Nat=>(s:Int)))=true) (hyw:zat (y.map (fun s:Nat=>(s:Int)))=true) :
  Calls prog 49 #[mv,xv,yv] w (znd (zsF hk l (vE hk ld) st.toNat x y) (zbK (srE k hk) (vE hk) (finE hk) ⟨k,st,ld,l⟩ x y) w):=by
 have hok7:=zBb zV;obtain⟨s0,hs0,hs1⟩:=hok7.start
 replace hs0:st=(s0:Int):=hs0
 replace hs1:s0<l.length:=hs1
 have hok:zmR k l:=⟨hok7.arcs,hok7.fins⟩;obtain⟨hld1,hld2⟩:=znH hk hok7.lead
 replace hld1:ld=tx (vE hk ld):=hld1
 replace hld2:zav (vE hk ld):=hld2
 have hn3:l.length<=3000:=(zdG (zeh zV)).2.2.1;obtain⟨u,rfl,hstl⟩:=hm;obtain⟨As,cs,us,rfl,hst⟩:=zGm hstl;obtain⟨n,hln⟩:∃ n,l.length=n:=⟨_,rfl⟩;obtain⟨X,hX⟩:∃ X,x.length=X:=⟨_,rfl⟩;obtain⟨Y,hY⟩:∃ Y,y.length=Y:=⟨_,rfl⟩
 have hX2:X<=200:=by
  unfold zat at hxw;simp only[zqbb,zqca,zqbn] at hxw;omega
 have hY2:Y<=200:=by
  unfold zat at hyw;simp only[zqbb,zqca,zqbn] at hyw;omega
 have hxr:∃ A c,xv=.slice A X c:=by obtain⟨A,c,e,_⟩:=hx;rw[zqbn,hX] at e;exact⟨A,c,e⟩
 have hyr:∃ A c,yv=.slice A Y c:=by obtain⟨A,c,e,_⟩:=hy;rw[zqbn,hY] at e;exact⟨A,c,e⟩
 obtain⟨Ax,cx,rfl⟩:=hxr;obtain⟨Ay,cy,rfl⟩:=hyr;show Calls prog 49 #[.agg #[.int .i64 k,.int .i64 st,.string ld,.slice As l.length cs],.slice Ax X cx,.slice Ay Y cy] w _;rw[hln];rw[hln] at hn3 hs1;have hal:=zGA w (.cells #[.int .i64 k,.int .i64 st,.string ld,.slice As n cs] 29) none;obtain⟨x0,x1,x2,x3⟩:=zmO.new w k st ld As n cs;have hsz:(w.alloc (.cells #[.int .i64 k,.int .i64 st,.string ld,.slice As n cs] 29)).heap.size=w.heap.size+1:=by simp
 have hmv:zan w (.agg #[.int .i64 k,.int .i64 st,.string ld,.slice As n cs]) ⟨k,st,ld,l⟩:=⟨_,rfl,by rw[<- hln];exact hstl⟩;have HM:=zHd (hmv.below (zhj hal));have HX:=zHd (hx.grown hal);have HY:=zHd (hy.grown hal);have HST:=zHd (hst.grown hal);have HP:=zHd (zAI hok (zAI hmf (zAI zV (zAI hxw hyw))));have HN:=zHd hn3;have HLN:=zHd (zAI hln (zAI hX (zAI hY (zAI hX2 hY2))));have HT3:Hid (st.toNat=s0):=zHd (by rw[hs0];rfl);have HS0:=zHd (zAI hs0 (zAI hs1 (zAI hld1 hld2)));have HAL:=zHd hal;have HSZ:=zHd hsz;clear hok7 hok hn3 hmf zV hxw hyw hx hy hst hstl hal hsz hmv hs0 hs1 hld1 hld2 hln hX hY hX2 hY2;go_enter func49,ntmps49;go_upto_region 1 with(fail);generalize w.alloc (.cells #[.int .i64 k,.int .i64 st,.string ld,.slice As n cs] 29)=W0 at *;go_wp2_with fail;refine(zaB HM.out HP.out.2.1).mono ?_;rintro e w1 ⟨rfl,hg1⟩;rw[HP.out.2.2.1];have HX1:=zHd (HX.out.grown hg1);have HY1:=zHd (HY.out.grown hg1);have y0:=hg1.cell x0 (by simp);have y1:=hg1.cell x1 (by simp);have y2:=hg1.cell x2 (by simp);have y3:=hg1.cell x3 (by simp);have HG1:=zHd hg1;clear hg1;go_wp2_with fail;refine(zeR _ _ _ HX1.out).mono ?_;rintro e w2 ⟨rfl,hg2⟩;rw[HP.out.2.2.2.1];have HY2:=zHd (HY1.out.grown hg2);have HG2:=zHd (zaa HG1.out hg2);clear hg2 y0 y1 y2 y3;go_wp2_with fail;refine(zeR _ _ _ HY2.out).mono ?_;rintro e w3 ⟨rfl,hg3⟩;rw[HP.out.2.2.2.2];have hg03:=zaa HG2.out hg3;have y0:=hg03.cell x0 (by simp);have y1:=hg03.cell x1 (by simp);have y2:=hg03.cell x2 (by simp);have y3:=hg03.cell x3 (by simp);have HXX:=zHd (zAI x0 (zAI x1 (zAI x2 x3)));have hsil:=zuB hk l us As n cs st ld w3 HLN.out.1 HN.out HP.out.1 (HST.out.grown hg03);have HSI:=zHd hsil;have HG3:=zHd hg03;clear hg3 hg03 hsil x0 x1 x2 x3;go_wp2_with fail;refine HSI.out.mono ?_;rintro e w4 ⟨hg4,hcase⟩
 have hc2:(∃ sv,e=.returned (.tuple #[sv,.int .i64 0])/\zuD hk l st ld As n cs sv w4)∨(¬ zsF hk l (vE hk ld) st.toNat x y/\e=.returned (.tuple #[.slice none 0 0,.int .i64 2])):=by
  rcases hcase with⟨hno,rfl⟩|⟨ha,v,rfl,hm2,_,hM⟩|⟨ha,hnf,rfl⟩;exact .inl ⟨_,rfl,zBp hk l st ld As n cs w4 HLN.out.1 hno⟩;exact .inl ⟨v,rfl,zBq hk l st ld As n cs v w4 HLN.out.1 HN.out (by have:=HS0.out.2.1;omega) ha hm2 hM⟩;exact .inr ⟨fun h=>hnf (h.sil ha),rfl⟩
 have HG4:=zHd (zaa HG3.out hg4);clear hcase hg4 y0 y1 y2 y3;rcases hc2 with⟨sv,rfl,hrc⟩|⟨hnw,rfl⟩;rotate_left 1
 ·have HNW:=zHd hnw
  clear hnw;go_wp2;go_ret2;exact⟨zaa HAL.out HG4.out,.inr ⟨HNW.out,rfl⟩⟩
 have HRC:=zHd hrc;clear hrc;obtain⟨r0,ri,rz0,rz1,rz2⟩:=info_parts zBr;obtain⟨i0,ii,iz0,iz1,iz2⟩:=info_parts zoK;have n0:¬ ((X:Int)+1)<0:=by omega
 have n0':¬ (((X+1:Nat):Int))<0:=by omega
 have m0:¬ ((Y:Int)+1)<0:=by omega
 have wX:IntKind.i64.wrap ((X:Int)+1)=(X:Int)+1:=by have:=HLN.out;rw[zqah];omega
 have wY:IntKind.i64.wrap ((Y:Int)+1)=(Y:Int)+1:=by have:=HLN.out;rw[zqah];omega
 go_wp2_with (at_make;refine wpList_make_full _ rfl _ _ 108 rfl w4.heap.size 105 r0 (.slice none 0 0) 1 underlying108 ri rz0 rz1 _ _ _ _ (X+1) rfl rfl ?c0 ?c1 ?c2 (by have:=HLN.out;unfold maxLen;omega) (zqab _) ?_)
 case c0=>omega
 case c1=>omega
 case c2=>have:=HLN.out;first|omega|(rw[rz2];omega)
 intro w5 zO hgr;have zF:=zbI.start zO hgr;have HA0:Hid (AtA k w4 w4.heap.size X Y n [] (fun _=>[]) w5):=zHd ⟨zdl.start zF _ _,hgr,fun i g hi=>by simp at hi,fun r j b hr=>absurd hr (Nat.not_lt_zero r),fun r j b hr=>absurd hr (Nat.not_lt_zero r)⟩;clear zO hgr zF;obtain⟨ga,hga⟩:∃ ga,w4.heap.size=ga:=⟨_,rfl⟩;rw[hga] at HA0;have HGA:=zHd hga;have hXc:w5.heap.size>=0:=zqaw _;clear hXc;go_wp2;rw[hga];clear hga
 go_loopw [11] (fun iv wr=>∃ (i:Nat) (gs:List Nat) (bss:Nat->List Nat),i<=X+1/\iv=.int .i64 (i:Int)/\gs.length=i/\(∀ r,r<i->(bss r).length=Y+1)/\AtA k w4 ga X Y n gs bss wr) (fun iv _=>X+1-(intOf iv).toNat)
 case atStart=>exact⟨0,[],_,zqaw _,rfl,rfl,fun r hr=>absurd hr (Nat.not_lt_zero r),HA0.out⟩
 case round =>
  obtain⟨i,gs,bss,hi',rfl,hgl,hbl,ha⟩:=hrel
  by_cases hin:i<=X
  ·have u1:decide (i<=X)=true:=by simpa using hin
   have u1':decide ((i:Int)<=(X:Int))=true:=by simpa using hin
   have u2:(i:Int)<=(X:Int):=by omega
   have u2':(i:Int)<(X:Int)+1:=by omega
   have u3:(0:Int)<=(i:Int):=by omega
   have u4:IntKind.i64.wrap ((i:Int)+1)=(i:Int)+1:=by have:=HLN.out;rw[zqah];omega
   have HI:=zHd (zAI hin (zAI hgl (zAI hbl ha)));clear hi' hin hgl hbl ha;go_wp2_with (at_make;refine wpList_make_full _ rfl _ _ 105 rfl wr.heap.size 109 i0 (.slice none 0 0) 1 underlying105 ii iz0 iz1 _ _ _ _ (Y+1) rfl rfl ?c0 ?c1 ?c2 (by have:=HLN.out;unfold maxLen;omega) (zqab _) ?_)
   case c0=>omega
   case c1=>omega
   case c2=>have:=HLN.out;first|omega|(rw[iz2];omega)
   intro w6 zO hgr;have zF:=zbI.start zO hgr;have hcu:=HI.out.2.2.2.cube.grown hgr;have nx:=hcu.nil_ (by rw[HI.out.2.1];have:=HI.out.1;omega);have nz:=hcu.free i;rw[HI.out.2.1] at nx;have hpu:=HI.out.2.2.2.push (by rw[HI.out.2.1];have:=HI.out.1;omega) hgr (zqab _) (zcY.start zF (fun _ _=>zaV k)) (by rw[HGA.out];exact zqab _);rw[HI.out.2.1] at hpu;have HPU:=zHd hpu;clear zO hgr zF hcu hpu;obtain⟨g,hgdef⟩:∃ g,wr.heap.size=g:=⟨_,rfl⟩;rw[hgdef] at HPU;go_wp2;clear nx nz;generalize wr=wq at *;have hgi:(gs++[g])[i]?=some g:=by rw[zqaq (by rw[HI.out.2.1];exact zqab _),HI.out.2.1,zqbr];rfl
   have HGI:=zHd hgi;clear hgi;rw[hgdef];clear hgdef
   go_loopw [12] (fun jv wr=>∃ (j:Nat) (bss:Nat->List Nat),j<=Y+1/\jv=.int .i64 (j:Int)/\(∀ r,r<i->(bss r).length=Y+1)/\(bss i).length=j/\AtA k w4 ga X Y n (gs++[g]) bss wr) (fun jv _=>Y+1-(intOf jv).toNat)
   case atStart=>exact⟨0,_,zqaw _,rfl,fun r hr=>(by rw[if_neg (by omega)];exact HI.out.2.2.1 r hr),by rw[if_pos rfl];rfl,HPU.out⟩
   case round =>
    obtain⟨j,bss2,hj',rfl,hbl2,hbi,ha⟩:=hrel
    by_cases hjn:j<=Y
    ·have x1:decide (j<=Y)=true:=by simpa using hjn
     have x1':decide ((j:Int)<=(Y:Int))=true:=(by simpa using hjn);have x2:(j:Int)<=(Y:Int):=(by omega);have x2':(j:Int)<(Y:Int)+1:=(by omega);have x3:(0:Int)<=(j:Int):=(by omega);have x4:IntKind.i64.wrap ((j:Int)+1)=(j:Int)+1:=(by have:=HLN.out;rw[zqah];omega);have q1:=ha.cube.at_ HGI.out;have hgr:=zaa HG4.out ha.gr;have y0:=hgr.cell HXX.out.1 (by simp);have y1:=hgr.cell HXX.out.2.1 (by simp);have y2:=hgr.cell HXX.out.2.2.1 (by simp);have y3:=hgr.cell HXX.out.2.2.2 (by simp);have HJ:=zHd (zAI hjn (zAI hbl2 (zAI hbi ha)));clear hj' hjn hbl2 hbi ha hgr;unfold sl9 at q1;go_upto_region 14 with(fail);refine zeq (e:=8) (n:=8) (fun W':World=>W'.cell? ⟨ga,i,none⟩=some (.slice (some ⟨g,0,none⟩) (Y+1) (Y+1))/\W'.cell? ⟨w.heap.size,0,none⟩=some (.int .i64 k)/\W'.cell? ⟨w.heap.size,1,none⟩=some (.int .i64 st)/\W'.cell? ⟨w.heap.size,2,none⟩=some (.string ld)/\W'.cell? ⟨w.heap.size,3,none⟩=some (.slice As n cs)) (by kernel_rfl) (by kernel_rfl) rfl ?_;have hS0:(fun W':World=>W'.cell? ⟨ga,i,none⟩=some (.slice (some ⟨g,0,none⟩) (Y+1) (Y+1))/\W'.cell? ⟨w.heap.size,0,none⟩=some (.int .i64 k)/\W'.cell? ⟨w.heap.size,1,none⟩=some (.int .i64 st)/\W'.cell? ⟨w.heap.size,2,none⟩=some (.string ld)/\W'.cell? ⟨w.heap.size,3,none⟩=some (.slice As n cs)) wr.drew:=⟨q1,y0,y1,y2,y3⟩;refine tk9 0 (.slice (some ⟨ga,0,none⟩) (X+1) (X+1)) rfl hS0 ?_;(try simp only[zS,Act.put]);refine tk9 1 (.int .i64 (i:Int)) rfl hS0 ?_;(try simp only[zS,Act.put]);refine tk9 2 (.pointer (some ⟨ga,i,none⟩)) rfl hS0 ?_;(try simp only[zS,Act.put]);refine tk9 3 (.slice (some ⟨g,0,none⟩) (Y+1) (Y+1)) rfl hS0 ?_;(try simp only[zS,Act.put]);refine tk9 4 (.int .i64 (j:Int)) rfl hS0 ?_;(try simp only[zS,Act.put]);refine tk9 5 (.agg #[.int .i64 k,.int .i64 st,.string ld,.slice As n cs]) rfl hS0 ?_;(try simp only[zS,Act.put]);refine zqcc (rs:=[6]) (by kernel_rfl) (by simp) ?_;refine AllReadyH.cons rfl (fun K hK=>?_) AllReadyH.nil;go_simp;refine(zio k st ld As n cs _ HN.out).mono ?_;rintro e w5 ⟨gb,rfl,hgb,hg5,hr5⟩;have S5:(fun W':World=>W'.cell? ⟨ga,i,none⟩=some (.slice (some ⟨g,0,none⟩) (Y+1) (Y+1))/\W'.cell? ⟨w.heap.size,0,none⟩=some (.int .i64 k)/\W'.cell? ⟨w.heap.size,1,none⟩=some (.int .i64 st)/\W'.cell? ⟨w.heap.size,2,none⟩=some (.string ld)/\W'.cell? ⟨w.heap.size,3,none⟩=some (.slice As n cs)) w5:=⟨hg5.cell hS0.1 (by simp),hg5.cell hS0.2.1 (by simp),hg5.cell hS0.2.2.1 (by simp),hg5.cell hS0.2.2.2.1 (by simp),hg5.cell hS0.2.2.2.2 (by simp)⟩;have H5:=zHd (zAI hgb (zAI (zaa (zag wr none) hg5) hr5));clear hgb hg5 hr5 hS0;refine hK.out _ _ (S5) (fun zH=>?_);clear hK K;(try simp only[zS,Act.put]);refine tk9 7 (.pointer (some ⟨g,j,none⟩)) rfl zH ?_;(try simp only[zS,Act.put]);have hcu:=HJ.out.2.2.2.cube.grown H5.out.2.1;have nx:=(hcu.rows i g HGI.out).nil_ (by rw[HJ.out.2.2.1];have:=HJ.out.1;omega);rw[HJ.out.2.2.1] at nx;have nz:=(hcu.rows i g HGI.out).free j
     have hput:=HJ.out.2.2.2.put HGI.out (by rw[HJ.out.2.2.1];have:=HJ.out.1;omega) H5.out.2.1 H5.out.1 H5.out.2.2 (by rw[zqag,HI.out.2.1];rfl) (fun hne=>by
      rw[HJ.out.2.2.1] at hne;refine⟨?_,by rw[zqag];simp⟩
      by_cases e0:i=0
      ·rw[e0] at hne
       have hl0:=HJ.out.2.2.1;rw[e0] at hl0;rw[hl0];rcases Nat.eq_zero_or_pos j with e|e
       exact absurd ⟨rfl,e⟩ hne;exact e
      rw[HJ.out.2.1 0 (by omega)];omega)
     rw[HJ.out.2.2.1] at hput;have HPUT:=zHd hput;clear hcu hput;clear zH;refine wpAnyH_done (by kernel_rfl) ?_ _;refine zgB (by rfl) (fun K hK=>?_);go_simp;refine hK _ _ ?_;clear nx nz S5;go_wp2;exact⟨⟨j+1,_,by have:=HJ.out.1;omega,by simp,fun r hr=>(by rw[if_neg (by omega)];exact HJ.out.2.1 r hr),by rw[if_pos rfl,zqag,HJ.out.2.2.1];rfl,HPUT.out⟩,by have:=HJ.out.1;simp[intOf];omega⟩
    obtain rfl:j=Y+1:=by omega
    have v1:decide (Y+1<=Y)=false:=(by simp);have v2:¬ ((Y:Int)+1<=(Y:Int)):=(by omega);have v3:¬ (((Y+1:Nat):Int)<=(Y:Int)):=(by omega);have HJ:=zHd (zAI hbl2 (zAI hbi ha));clear hj' hjn hbl2 hbi ha;go_wp2
    exact⟨⟨i+1,gs++[g],bss2,by have:=HI.out.1;omega,by simp,by rw[zqag,HI.out.2.1];rfl,fun r hr=>(by
     by_cases e:r<i
     exact HJ.out.1 r e;rw[show r=i by omega];exact HJ.out.2.1),HJ.out.2.2⟩,by have:=HI.out.1;simp[intOf];omega⟩
  obtain rfl:i=X+1:=by omega
  have v1:decide (X+1<=X)=false:=by simp
  have v1':decide (((X+1:Nat):Int)<=(X:Int))=false:=by simp;omega
  have v2:¬ ((X:Int)+1<=(X:Int)):=by omega
  have v3:¬ (((X+1:Nat):Int)<=(X:Int)):=by omega
  obtain⟨g,hg0⟩:∃ g,gs[0]?=some g:=⟨_,zqac (by rw[hgl];omega)⟩;obtain⟨b,hb0⟩:∃ b,(bss 0)[0]?=some b:=⟨_,zqac (by rw[hbl 0 (by omega)];omega)⟩;have q1:=ha.cube.at_ hg0;have q2:=(ha.cube.rows 0 g hg0).at_ hb0;have hsr:=(ha.cube.rows 0 g hg0).rows 0 b hb0;have c0:=hsr.cell HS0.out.2.1;have z0:wr.drew.frozen? ⟨b,s0,none⟩=false:=hsr.free s0;have hgr:=zaa HG4.out ha.gr;have y0:=hgr.cell HXX.out.1 (by simp);have y1:=hgr.cell HXX.out.2.1 (by simp);have y2:=hgr.cell HXX.out.2.2.1 (by simp);have y3:=hgr.cell HXX.out.2.2.2 (by simp);have i1:(0:Int)<=st:=by have:=HS0.out.1;omega
  have i2:st<(n:Int):=by have:=HS0.out;omega
  have i3:st.toNat=s0:=by have:=HS0.out.1;omega
  have j1:(0:Int)<(X:Int)+1:=by omega
  have j2:(0:Int)<(Y:Int)+1:=by omega
  have hC:=(ha.grown (zag wr none)).lead hk hgl (fun r hr=>hbl r (by omega)) hb0 HS0.out.2.1 HS0.out.2.2.1 HS0.out.2.2.2;have HC:=zHd hC;have HGS:=zHd hgl;clear hi' hin hgl hbl ha hsr hC hgr hg0 hb0;unfold sl9 at q1 q2;go_upto_region 15 with(fail);have f0:wr.drew.cell? ⟨b,s0,none⟩=some (.string (zaV k)):=c0;clear c0;refine zeq (e:=10) (n:=10) (fun W':World=>W'.cell? ⟨ga,0,none⟩=some (.slice (some ⟨g,0,none⟩) (Y+1) (Y+1))/\W'.cell? ⟨g,0,none⟩=some (.slice (some ⟨b,0,none⟩) n n)/\W'.cell? ⟨w.heap.size,0,none⟩=some (.int .i64 k)/\W'.cell? ⟨w.heap.size,1,none⟩=some (.int .i64 st)/\W'.cell? ⟨w.heap.size,2,none⟩=some (.string ld)/\W'.cell? ⟨w.heap.size,3,none⟩=some (.slice As n cs)) (by kernel_rfl) (by kernel_rfl) rfl ?_;have hS0:(fun W':World=>W'.cell? ⟨ga,0,none⟩=some (.slice (some ⟨g,0,none⟩) (Y+1) (Y+1))/\W'.cell? ⟨g,0,none⟩=some (.slice (some ⟨b,0,none⟩) n n)/\W'.cell? ⟨w.heap.size,0,none⟩=some (.int .i64 k)/\W'.cell? ⟨w.heap.size,1,none⟩=some (.int .i64 st)/\W'.cell? ⟨w.heap.size,2,none⟩=some (.string ld)/\W'.cell? ⟨w.heap.size,3,none⟩=some (.slice As n cs)) wr.drew:=⟨q1,q2,y0,y1,y2,y3⟩;refine tk9 0 (.slice (some ⟨ga,0,none⟩) (X+1) (X+1)) rfl hS0 ?_;(try simp only[zS,Act.put]);refine tk9 1 (.pointer (some ⟨ga,0,none⟩)) rfl hS0 ?_;(try simp only[zS,Act.put]);refine tk9 2 (.slice (some ⟨g,0,none⟩) (Y+1) (Y+1)) rfl hS0 ?_;(try simp only[zS,Act.put]);refine tk9 3 (.pointer (some ⟨g,0,none⟩)) rfl hS0 ?_;(try simp only[zS,Act.put]);refine tk9 4 (.slice (some ⟨b,0,none⟩) n n) rfl hS0 ?_;(try simp only[zS,Act.put]);refine tk9 5 (.pointer (some ⟨w.heap.size,1,none⟩)) rfl hS0 ?_;(try simp only[zS,Act.put]);refine tk9 6 (.int .i64 st) rfl hS0 ?_;(try simp only[zS,Act.put]);refine tk9 7 (.pointer (some ⟨w.heap.size,2,none⟩)) rfl hS0 ?_;(try simp only[zS,Act.put]);refine tk9 8 (.string ld) rfl hS0 ?_;(try simp only[zS,Act.put]);refine tk9 9 (.pointer (some ⟨b,s0,none⟩)) rfl hS0 ?_;(try simp only[zS,Act.put]);clear hS0;refine wpAnyH_done (by kernel_rfl) ?_ _;refine zgB (by rfl) (fun K hK=>?_);go_simp;refine hK _ _ ?_;clear q1 q2 y0 y1 y2 y3 z0 f0;go_wp2;clear i1 i2 i3;generalize wr=wq at *
  go_loopw [13] (fun iv wr=>∃ i:Nat,i<=X+1/\iv=.int .i64 (i:Int)/\AtC w4 ga X Y n gs (VI9 hk l (vE hk ld) s0 x y i 0) wr) (fun iv _=>X+1-(intOf iv).toNat)
  case atStart=>exact⟨0,zqaw _,rfl,HC.out⟩
  case round =>
   obtain⟨i,hi',rfl,ha⟩:=hrel
   by_cases hin:i<=X
   ·have u1:decide (i<=X)=true:=by simpa using hin
    have u1':decide ((i:Int)<=(X:Int))=true:=(by simpa using hin);have u2:(i:Int)<=(X:Int):=(by omega);have u2':(i:Int)<(X:Int)+1:=(by omega);have u3:(0:Int)<=(i:Int):=(by omega);have u4:IntKind.i64.wrap ((i:Int)+1)=(i:Int)+1:=(by have:=HLN.out;rw[zqah];omega);have HI:=zHd (zAI hin ha);have hin9:=zHd hin;clear hi' hin ha;go_wp2;generalize wr=wz at *
    go_loopw [14] (fun jv wr=>∃ j:Nat,j<=Y+1/\jv=.int .i64 (j:Int)/\AtC w4 ga X Y n gs (VI9 hk l (vE hk ld) s0 x y i j) wr) (fun jv _=>Y+1-(intOf jv).toNat)
    case atStart=>exact⟨0,zqaw _,rfl,HI.out.2⟩
    case round =>
     obtain⟨j,hj',rfl,ha⟩:=hrel
     by_cases hjn:j<=Y
     ·have x1:decide (j<=Y)=true:=by simpa using hjn
      have x1':decide ((j:Int)<=(Y:Int))=true:=(by simpa using hjn);have x2:(j:Int)<=(Y:Int):=(by omega);have x2':(j:Int)<(Y:Int)+1:=(by omega);have x3:(0:Int)<=(j:Int):=(by omega);have x4:IntKind.i64.wrap ((j:Int)+1)=(j:Int)+1:=(by have:=HLN.out;rw[zqah];omega);obtain⟨g,b,hgs,q1,q2,q3,hne,hsr⟩:=ha.get hin9.out hjn;have hgr:=zaa HG4.out ha.gr;have y0:=hgr.cell HXX.out.1 (by simp);have y1:=hgr.cell HXX.out.2.1 (by simp);have y2:=hgr.cell HXX.out.2.2.1 (by simp);have y3:=hgr.cell HXX.out.2.2.2 (by simp);have zC:=HRC.out wr.drew b (VI9 hk l (vE hk ld) s0 x y i j i j) (zaa ha.gr (zag wr none)) (hsr.grown (zag wr none)) (fun q hq=>ha.fit i j q hin9.out hjn hq);have HCALL:=zHd zC;have HJ:=zHd (zAI hjn (zAI ha hgs));clear hj' hjn ha hgr zC hsr q3 hne hgs;go_upto_region 22 with(fail);have d1:wr.drew.cell? ⟨ga,i,none⟩=some (.slice (some ⟨g,0,none⟩) (Y+1) (Y+1)):=q1;have d2:wr.drew.cell? ⟨g,j,none⟩=some (.slice (some ⟨b,0,none⟩) n n):=q2;have d3:wr.drew.cell? ⟨w.heap.size,0,none⟩=some (.int .i64 k):=y0;have d4:wr.drew.cell? ⟨w.heap.size,1,none⟩=some (.int .i64 st):=y1;have d5:wr.drew.cell? ⟨w.heap.size,2,none⟩=some (.string ld):=y2;have d6:wr.drew.cell? ⟨w.heap.size,3,none⟩=some (.slice As n cs):=y3;clear q1 q2 y0 y1 y2 y3
      go_region_held2 (fun W':World=>W'.cell? ⟨ga,i,none⟩=some (.slice (some ⟨g,0,none⟩) (Y+1) (Y+1))/\W'.cell? ⟨g,j,none⟩=some (.slice (some ⟨b,0,none⟩) n n)/\W'.cell? ⟨w.heap.size,0,none⟩=some (.int .i64 k)/\W'.cell? ⟨w.heap.size,1,none⟩=some (.int .i64 st)/\W'.cell? ⟨w.heap.size,2,none⟩=some (.string ld)/\W'.cell? ⟨w.heap.size,3,none⟩=some (.slice As n cs)) (first|exact⟨d1,d2,d3,d4,d5,d6⟩|exact S7|go_keep)
       (first|(go_at_call 72;refine(HCALL.out).mono ?_;rintro e w7 hpost;obtain⟨RV,E,rfl,hg7,hcase⟩:=hpost.two;have S7:(fun W':World=>W'.cell? ⟨ga,i,none⟩=some (.slice (some ⟨g,0,none⟩) (Y+1) (Y+1))/\W'.cell? ⟨g,j,none⟩=some (.slice (some ⟨b,0,none⟩) n n)/\W'.cell? ⟨w.heap.size,0,none⟩=some (.int .i64 k)/\W'.cell? ⟨w.heap.size,1,none⟩=some (.int .i64 st)/\W'.cell? ⟨w.heap.size,2,none⟩=some (.string ld)/\W'.cell? ⟨w.heap.size,3,none⟩=some (.slice As n cs)) w7:=⟨hg7.cell d1 (by simp),hg7.cell d2 (by simp),hg7.cell d3 (by simp),hg7.cell d4 (by simp),hg7.cell d5 (by simp),hg7.cell d6 (by simp)⟩;have H7:=zHd (zAI hg7 hcase);clear hpost hg7 hcase))
      all_goals
       clear d1 d2 d3 d4 d5 d6 S7;rcases H7.out.2 with⟨rfl,b1,rfl,hb1,hf1⟩|⟨rfl,rfl,hnf⟩
       ·have ha7:=HJ.out.2.1.grown (zaa (zag wr none) H7.out.1)
        obtain⟨g',b',hgs',q1,q2,q3,hne,_⟩:=ha7.get HI.out.1 HJ.out.1;obtain rfl:g'=g:=by have h:=hgs'.symm.trans HJ.out.2.2;cases h;rfl
        have hput:=ha7.put HI.out.1 HJ.out.1 HJ.out.2.2 hb1 hf1;have hb1n:=ha7.srow HJ.out.2.2 hb1 j (.slice (some ⟨b1,0,none⟩) n n);have HPUT:=zHd (zAI hput hb1n);have HB1:=zHd hf1;clear hput hb1n hb1 hf1 ha7 hne hgs';go_wp2;clear q1 q2 q3;generalize wr=wy at *
        go_loopw [17] (fun kv wr=>∃ kk:Nat,1<=kk/\kk<=4/\kv=.int .i64 (kk:Int)/\zbe wr b1 n (fun q=>tx (zaW (srE k hk) (wm9 hk l) (VI9 hk l (vE hk ld) s0 x y i j i j) q))/\AtC w4 ga X Y n gs (st9 hk l x y (VI9 hk l (vE hk ld) s0 x y i j) i j kk) wr) (fun kv _=>4-(intOf kv).toNat)
        case atStart =>
         refine⟨1,by omega,by omega,rfl,HPUT.out.2,HPUT.out.1.congr (fun i' j' q _ _ _=>?_)⟩;show _=proc1 (srE k hk) (wm9 hk l) (VI9 hk l (vE hk ld) s0 x y i j) i j i' j' q;unfold proc1 zov;split <;> rfl
        case round =>
         obtain⟨kk,hk1,hk4,rfl,hb1,hat⟩:=hrel;have hgr:=zaa HG4.out hat.gr;have y0:=hgr.cell HXX.out.1 (by simp);have y1:=hgr.cell HXX.out.2.1 (by simp);have y2:=hgr.cell HXX.out.2.2.1 (by simp);have y3:=hgr.cell HXX.out.2.2.2 (by simp);have HK:=zHd (zAI hk1 (zAI hb1 hat));have hAt0:=hgr;clear hgr hat;rcases (by omega:kk=1∨kk=2∨kk=3∨kk=4) with rfl|rfl|rfl|rfl
         ·clear hk1 hk4
          by_cases hmv:i<X
          ·have m1:(i:Int)+1<=(X:Int):=by omega
           have m1':¬ (X:Int)<(i:Int)+1:=(by omega);have m2:(j:Int)<=(Y:Int):=(by omega);have m2':¬ (Y:Int)<(j:Int):=(by omega);have m3:(i:Int)<(X:Int):=(by omega);obtain⟨ad1,had1,hxc⟩:=ziY HX.out HLN.out.2.1 (show i<X by omega);obtain rfl:=had1
           replace hxc:=hAt0.cell hxc (by simp)
           obtain⟨sa,hsa⟩:∃ sa:Nat,x.getD i 0=sa:=⟨_,rfl⟩;rw[hsa] at hxc;have HSA:=zHd hsa;clear hsa;have zS':=zlE hk l us As n cs st ld b1 (zaW (srE k hk) (wm9 hk l) (VI9 hk l (vE hk ld) s0 x y i j i j)) sa 0 (fun e=>by have:=zne HP.out.2.2.2.1 (show i<x.length by have:=HLN.out.2.1;omega);rw[HSA.out] at this;omega) wr HLN.out.1 HN.out HP.out.1 (HST.out.grown hAt0) hb1 HB1.out
           try rw[show((0:Nat):Int)=0 from rfl] at zS'
           have HSTEP:=zHd zS';have HMV:=zHd hmv;clear zS' hmv hb1 hAt0;have be1:bits BinOp.and IntKind.i64 1 1=1:=(by decide);have be2:wrap64 ((i:Int)+1)=(i:Int)+1:=(by have:=HLN.out;have:=HI.out.1;unfold wrap64;omega);have be3:wrap64 (j:Int)=(j:Int):=(by have:=HLN.out;have:=HJ.out.1;unfold wrap64;omega);go_wp2_with fail;refine HSTEP.out.mono ?_;rintro e w8 hpost;obtain⟨TV,E,rfl,hg8,hcase⟩:=hpost.two
           replace y0:=hg8.cell y0 (by simp)
           have H8:=zHd (zAI hg8 hcase);clear hpost hg8 hcase y1 y2 y3 hxc;clear be1 be2 be3;rcases H8.out.2 with⟨rfl,sb,rfl,hsb,hsf⟩|⟨rfl,rfl,hnf⟩
           ·have hAt:=HK.out.2.2.grown H8.out.1
            obtain⟨g2,b2,hgs2,q1,q2,q3,hne,hb2⟩:=hAt.get (i:=i+1) (j:=j) (by have:=HMV.out;have:=HI.out.1;omega) (by have:=HMV.out;have:=HJ.out.1;omega);have hne2:g2≠ga:=hne;have hlow:=hAt.low _ _ hgs2;have hne3:g2≠w.heap.size:=(by have h1:=hlow;have h2:=HG4.out.size;have h3:=HSZ.out;omega);have hsum:=zmY hk n (.slice (some ⟨b2,0,none⟩) n n) (.slice (some ⟨sb,0,none⟩) n n) (st9 hk l x y (VI9 hk l (vE hk ld) s0 x y i j) i j 1 (i+1) (j)) (stp (srE k hk) (wm9 hk l) (zaW (srE k hk) (wm9 hk l) (VI9 hk l (vE hk ld) s0 x y i j i j)) sa 0) w8.drew HN.out ((hb2.rowR (by have:=HN.out;unfold maxLen;omega)).grown (zag w8 none)) ((hsb.rowR (by have:=HN.out;unfold maxLen;omega)).grown (zag w8 none)) (fun q hq=>hAt.fit _ _ q (by have:=HMV.out;have:=HI.out.1;omega) (by have:=HMV.out;have:=HJ.out.1;omega) hq) hsf;have HSUM:=zHd hsum;have HAT:=zHd (zAI hAt (zAI hgs2 hlow));clear hsum hb2 hsb hsf hlow hne;go_upto_region 39 with(fail)
            replace q1:w8.drew.cell? ⟨ga,i+1,none⟩=some (.slice (some ⟨g2,0,none⟩) (Y+1) (Y+1)):=q1
            replace q2:w8.drew.cell? ⟨g2,j,none⟩=some (.slice (some ⟨b2,0,none⟩) n n):=q2
            replace y0:w8.drew.cell? ⟨w.heap.size,0,none⟩=some (.int .i64 k):=y0
            replace hAt:=hAt.grown (zag w8 none)
            have z1:¬ ((i:Int)+1<0):=(by omega);have z2:¬ ((j:Int)+1<0):=(by omega);have z3:IntKind.i64.wrap (i:Int)=(i:Int):=(by have:=HLN.out;have:=HI.out.1;rw[zqah];omega);have z4:IntKind.i64.wrap (j:Int)=(j:Int):=(by have:=HLN.out;have:=HJ.out.1;rw[zqah];omega);refine wp_region_held_drew (S:=fun W':World=>W'.cell? ⟨ga,i+1,none⟩=some (.slice (some ⟨g2,0,none⟩) (Y+1) (Y+1))/\W'.cell? ⟨w.heap.size,0,none⟩=some (.int .i64 k)) (by kernel_rfl) (⟨q1,y0⟩) (fun zH=>?_);refine tk9 0 (.slice (some ⟨ga,0,none⟩) (X+1) (X+1)) rfl zH ?_;(try simp only[zS,Act.put]);refine tk9 1 (.int .i64 (i:Int)) rfl zH ?_;(try simp only[zS,Act.put]);refine tk9 2 (.int .i64 1) rfl zH ?_;(try simp only[zS,Act.put]);refine tk9 3 (.int .i64 ((i:Int)+1)) rfl zH ?_;(try simp only[zS,Act.put]);refine tk9 4 (.pointer (some ⟨ga,i+1,none⟩)) rfl zH ?_;(try simp only[zS,Act.put]);refine tk9 5 (.slice (some ⟨g2,0,none⟩) (Y+1) (Y+1)) rfl zH ?_;(try simp only[zS,Act.put]);refine tk9 6 (.int .i64 (j:Int)) rfl zH ?_;(try simp only[zS,Act.put]);refine tk9 7 (.int .i64 0) rfl zH ?_;(try simp only[zS,Act.put]);refine tk9 8 (.int .i64 (j:Int)) rfl zH ?_;(try simp only[zS,Act.put]);refine tk9 9 (.pointer (some ⟨w.heap.size,0,none⟩)) rfl zH ?_;(try simp only[zS,Act.put]);refine tk9 10 (.int .i64 k) rfl zH ?_;(try simp only[zS,Act.put]);refine tk9 11 (.slice (some ⟨ga,0,none⟩) (X+1) (X+1)) rfl zH ?_;(try simp only[zS,Act.put]);refine tk9 12 (.int .i64 (i:Int)) rfl zH ?_;(try simp only[zS,Act.put]);refine tk9 13 (.int .i64 1) rfl zH ?_;(try simp only[zS,Act.put]);refine tk9 14 (.int .i64 ((i:Int)+1)) rfl zH ?_;(try simp only[zS,Act.put]);refine tk9 15 (.pointer (some ⟨ga,i+1,none⟩)) rfl zH ?_;(try simp only[zS,Act.put]);refine tk9 16 (.slice (some ⟨g2,0,none⟩) (Y+1) (Y+1)) rfl zH ?_;(try simp only[zS,Act.put]);refine tk9 17 (.int .i64 (j:Int)) rfl zH ?_;(try simp only[zS,Act.put]);refine tk9 18 (.int .i64 0) rfl zH ?_;(try simp only[zS,Act.put]);refine tk9 19 (.int .i64 (j:Int)) rfl zH ?_;(try simp only[zS,Act.put]);refine tk9 20 (.pointer (some ⟨g2,j,none⟩)) rfl zH ?_;(try simp only[zS,Act.put]);refine tk9 22 (.slice (some ⟨sb,0,none⟩) n n) rfl zH ?_;(try simp only[zS,Act.put]);refine zqcc (rs:=[21]) (by kernel_rfl) (by simp) ?_;refine AllReadyH.cons rfl (fun K hK=>?_) AllReadyH.nil;go_simp;refine hK.out _ _ zH (fun zH=>?_);clear hK K;(try simp only[zS,Act.put]);refine zqcc (rs:=[23]) (by kernel_rfl) (by simp) ?_;refine AllReadyH.cons rfl (fun K hK=>?_) AllReadyH.nil;go_simp;refine(HSUM.out).mono ?_;rintro e w9 hpost;obtain⟨SV,E2,rfl,hg9,hcase⟩:=hpost.two;obtain⟨sA,sL,sC,rfl⟩:∃ A L C,SV=Value.slice A L C:=by rcases hcase with⟨_,_,_,rfl,_⟩|⟨_,rfl,_⟩ <;> exact⟨_,_,_,rfl⟩
            have S9:(fun W':World=>W'.cell? ⟨ga,i+1,none⟩=some (.slice (some ⟨g2,0,none⟩) (Y+1) (Y+1))/\W'.cell? ⟨w.heap.size,0,none⟩=some (.int .i64 k)) w9:=⟨hg9.cell q1 (by simp),hg9.cell y0 (by simp)⟩;have q2':=hg9.cell q2 (by simp);have q3':w9.frozen? ⟨g2,j,none⟩=false:=(hAt.grown hg9).free9 hgs2 _;have H9:=zHd (zAI hg9 hcase);clear hpost hg9 hcase q1 q2 q3 y0;refine hK.out _ _ (S9) (fun zH=>?_);clear hK K;(try simp only[zS,Act.put]);refine tk9 24 (.tuple #[.slice sA sL sC,.int .i64 E2]) rfl zH ?_;(try simp only[zS,Act.put]);refine tk9 25 (.slice sA sL sC) rfl zH ?_;(try simp only[zS,Act.put]);refine tk9 26 (.int .i64 E2) rfl zH ?_;(try simp only[zS,Act.put]);refine tk9 27 (.pointer (some ⟨g2,j,none⟩)) rfl zH ?_;(try simp only[zS,Act.put]);refine zqcc (rs:=[28]) (by kernel_rfl) (by simp) ?_;refine AllReadyH.cons rfl (fun K hK=>?_) AllReadyH.nil;go_simp;have S10:(fun W':World=>W'.cell? ⟨ga,i+1,none⟩=some (.slice (some ⟨g2,0,none⟩) (Y+1) (Y+1))/\W'.cell? ⟨w.heap.size,0,none⟩=some (.int .i64 k)) (w9.setCell ⟨g2,j,none⟩ (.slice sA sL sC)):=⟨(World.cell?_setCell_far _ _ _ _ hne2).trans S9.1,(World.cell?_setCell_far _ _ _ _ hne3).trans S9.2⟩;refine hK.out _ _ (S10) (fun zH=>?_);clear hK K S9;(try simp only[zS,Act.put]);refine tk9 29 (.int .i64 E2) rfl zH ?_;(try simp only[zS,Act.put]);refine wpAnyH_done (by kernel_rfl) ?_ _;clear zH S10 q2' q3' z1 z2 z3 z4;rcases H9.out.2 with⟨e8,hfs,nb,e9,hnb⟩|⟨e8,e9,hnf⟩
            ·cases e8;cases e9
             have hput:=(HAT.out.1.grown (zaa (zag w8 none) H9.out.1)).put (i:=i+1) (j:=j) (by have:=HMV.out;have:=HI.out.1;omega) (by have:=HMV.out;have:=HJ.out.1;omega) HAT.out.2.1 hnb hfs;have hb1n:=(HAT.out.1.grown (zaa (zag w8 none) H9.out.1)).srow HAT.out.2.1 ((HK.out.2.1.grown H8.out.1).grown (zaa (zag w8 none) H9.out.1)) (j) (.slice (some ⟨nb,0,none⟩) n n);have HPUT:=zHd (zAI hput hb1n);clear hput hb1n hnb hfs hne2 hne3 hgs2 hAt;go_wp2;refine⟨⟨2,by omega,by omega,rfl,HPUT.out.2,HPUT.out.1.congr (fun i' j' q _ _ _=>?_)⟩,by simp[intOf]⟩;have hm:=(zBs hk l x y (VI9 hk l (vE hk ld) s0 x y i j) i j (by rw[HLN.out.2.1];exact HMV.out) i' j' q).symm;rw[HSA.out] at hm;exact hm
            cases e8;cases e9;have HNF:=zHd hnf;clear hnf hne2 hne3 hgs2 hAt;go_wp2;go_ret2;refine⟨zaa HAL.out (zaa HG4.out (zae (zaa HAT.out.1.gr (zaa (zag w8 none) H9.out.1)) (zad w9 ⟨g2,j,none⟩ _) HAT.out.2.2)),.inr ⟨fun h=>HNF.out ?_,rfl⟩⟩
            try rw[HT3.out] at h
            intro q hq;have hp:=((h.place i j (by rw[HLN.out.2.1];exact HI.out.1) (by rw[HLN.out.2.2.1];exact HJ.out.1)).in_ (by rw[HLN.out.2.1];exact HMV.out)).sum q (by rw[HLN.out.1];exact hq);exact zQbh
           have HNF:=zHd hnf;clear hnf y0;go_wp2;go_ret2;refine⟨zaa HAL.out (zaa HG4.out (zaa HK.out.2.2.gr H8.out.1)),.inr ⟨fun h=>HNF.out ?_,rfl⟩⟩
           try rw[HT3.out] at h
           have hp:=((h.place i j (by rw[HLN.out.2.1];exact HI.out.1) (by rw[HLN.out.2.2.1];exact HJ.out.1)).in_ (by rw[HLN.out.2.1];exact HMV.out)).step;exact zQbh
          have m1:¬ (i:Int)+1<=(X:Int):=(by omega);have m1':(X:Int)<(i:Int)+1:=(by omega);have HMV:=zHd hmv;clear hmv;clear hb1 hAt0 y0 y1 y2 y3;have be1:bits BinOp.and IntKind.i64 1 1=1:=(by decide);have be2:wrap64 ((i:Int)+1)=(i:Int)+1:=(by have:=HLN.out;have:=HI.out.1;unfold wrap64;omega);have be3:wrap64 (j:Int)=(j:Int):=(by have:=HLN.out;have:=HJ.out.1;unfold wrap64;omega);go_wp2;refine⟨⟨2,by omega,by omega,rfl,HK.out.2.1,HK.out.2.2.congr (fun i' j' q _ _ _=>?_)⟩,by simp[intOf]⟩;exact(zBt hk l x y _ i j (by rw[HLN.out.2.1];exact HMV.out) i' j' q).symm
         ·clear hk1 hk4
          by_cases hmv:j<Y
          ·have m1:(j:Int)+1<=(Y:Int):=by omega
           have m1':¬ (Y:Int)<(j:Int)+1:=(by omega);have m2:(i:Int)<=(X:Int):=(by omega);have m2':¬ (X:Int)<(i:Int):=(by omega);have m4:(j:Int)<(Y:Int):=(by omega);obtain⟨ad2,had2,hyc⟩:=ziY HY.out HLN.out.2.2.1 (show j<Y by omega);obtain rfl:=had2
           replace hyc:=hAt0.cell hyc (by simp)
           obtain⟨sb2,hsb2⟩:∃ sb2:Nat,y.getD j 0=sb2:=⟨_,rfl⟩;rw[hsb2] at hyc;have HSB:=zHd hsb2;clear hsb2;have zS':=zlE hk l us As n cs st ld b1 (zaW (srE k hk) (wm9 hk l) (VI9 hk l (vE hk ld) s0 x y i j i j)) 0 sb2 (fun e=>by have:=zne HP.out.2.2.2.2 (show j<y.length by have:=HLN.out.2.2.1;omega);rw[HSB.out] at this;omega) wr HLN.out.1 HN.out HP.out.1 (HST.out.grown hAt0) hb1 HB1.out
           try rw[show((0:Nat):Int)=0 from rfl] at zS'
           have HSTEP:=zHd zS';have HMV:=zHd hmv;clear zS' hmv hb1 hAt0;have be1:bits BinOp.and IntKind.i64 2 1=0:=(by decide);have be2:wrap64 (i:Int)=(i:Int):=(by have:=HLN.out;have:=HI.out.1;unfold wrap64;omega);have be3:wrap64 ((j:Int)+1)=(j:Int)+1:=(by have:=HLN.out;have:=HJ.out.1;unfold wrap64;omega);go_wp2_with fail;refine HSTEP.out.mono ?_;rintro e w8 hpost;obtain⟨TV,E,rfl,hg8,hcase⟩:=hpost.two
           replace y0:=hg8.cell y0 (by simp)
           have H8:=zHd (zAI hg8 hcase);clear hpost hg8 hcase y1 y2 y3 hyc;clear be1 be2 be3;rcases H8.out.2 with⟨rfl,sb,rfl,hsb,hsf⟩|⟨rfl,rfl,hnf⟩
           ·have hAt:=HK.out.2.2.grown H8.out.1
            obtain⟨g2,b2,hgs2,q1,q2,q3,hne,hb2⟩:=hAt.get (i:=i) (j:=j+1) (by have:=HMV.out;have:=HI.out.1;omega) (by have:=HMV.out;have:=HJ.out.1;omega);have hne2:g2≠ga:=hne;have hlow:=hAt.low _ _ hgs2;have hne3:g2≠w.heap.size:=(by have h1:=hlow;have h2:=HG4.out.size;have h3:=HSZ.out;omega);have hsum:=zmY hk n (.slice (some ⟨b2,0,none⟩) n n) (.slice (some ⟨sb,0,none⟩) n n) (st9 hk l x y (VI9 hk l (vE hk ld) s0 x y i j) i j 2 (i) (j+1)) (stp (srE k hk) (wm9 hk l) (zaW (srE k hk) (wm9 hk l) (VI9 hk l (vE hk ld) s0 x y i j i j)) 0 sb2) w8.drew HN.out ((hb2.rowR (by have:=HN.out;unfold maxLen;omega)).grown (zag w8 none)) ((hsb.rowR (by have:=HN.out;unfold maxLen;omega)).grown (zag w8 none)) (fun q hq=>hAt.fit _ _ q (by have:=HMV.out;have:=HI.out.1;omega) (by have:=HMV.out;have:=HJ.out.1;omega) hq) hsf;have HSUM:=zHd hsum;have HAT:=zHd (zAI hAt (zAI hgs2 hlow));clear hsum hb2 hsb hsf hlow hne;go_upto_region 39 with(fail)
            replace q1:w8.drew.cell? ⟨ga,i,none⟩=some (.slice (some ⟨g2,0,none⟩) (Y+1) (Y+1)):=q1
            replace q2:w8.drew.cell? ⟨g2,j+1,none⟩=some (.slice (some ⟨b2,0,none⟩) n n):=q2
            replace y0:w8.drew.cell? ⟨w.heap.size,0,none⟩=some (.int .i64 k):=y0
            replace hAt:=hAt.grown (zag w8 none)
            have z1:¬ ((i:Int)+1<0):=(by omega);have z2:¬ ((j:Int)+1<0):=(by omega);have z3:IntKind.i64.wrap (i:Int)=(i:Int):=(by have:=HLN.out;have:=HI.out.1;rw[zqah];omega);have z4:IntKind.i64.wrap (j:Int)=(j:Int):=(by have:=HLN.out;have:=HJ.out.1;rw[zqah];omega);refine wp_region_held_drew (S:=fun W':World=>W'.cell? ⟨ga,i,none⟩=some (.slice (some ⟨g2,0,none⟩) (Y+1) (Y+1))/\W'.cell? ⟨w.heap.size,0,none⟩=some (.int .i64 k)) (by kernel_rfl) (⟨q1,y0⟩) (fun zH=>?_);refine tk9 0 (.slice (some ⟨ga,0,none⟩) (X+1) (X+1)) rfl zH ?_;(try simp only[zS,Act.put]);refine tk9 1 (.int .i64 (i:Int)) rfl zH ?_;(try simp only[zS,Act.put]);refine tk9 2 (.int .i64 0) rfl zH ?_;(try simp only[zS,Act.put]);refine tk9 3 (.int .i64 (i:Int)) rfl zH ?_;(try simp only[zS,Act.put]);refine tk9 4 (.pointer (some ⟨ga,i,none⟩)) rfl zH ?_;(try simp only[zS,Act.put]);refine tk9 5 (.slice (some ⟨g2,0,none⟩) (Y+1) (Y+1)) rfl zH ?_;(try simp only[zS,Act.put]);refine tk9 6 (.int .i64 (j:Int)) rfl zH ?_;(try simp only[zS,Act.put]);refine tk9 7 (.int .i64 1) rfl zH ?_;(try simp only[zS,Act.put]);refine tk9 8 (.int .i64 ((j:Int)+1)) rfl zH ?_;(try simp only[zS,Act.put]);refine tk9 9 (.pointer (some ⟨w.heap.size,0,none⟩)) rfl zH ?_;(try simp only[zS,Act.put]);refine tk9 10 (.int .i64 k) rfl zH ?_;(try simp only[zS,Act.put]);refine tk9 11 (.slice (some ⟨ga,0,none⟩) (X+1) (X+1)) rfl zH ?_;(try simp only[zS,Act.put]);refine tk9 12 (.int .i64 (i:Int)) rfl zH ?_;(try simp only[zS,Act.put]);refine tk9 13 (.int .i64 0) rfl zH ?_;(try simp only[zS,Act.put]);refine tk9 14 (.int .i64 (i:Int)) rfl zH ?_;(try simp only[zS,Act.put]);refine tk9 15 (.pointer (some ⟨ga,i,none⟩)) rfl zH ?_;(try simp only[zS,Act.put]);refine tk9 16 (.slice (some ⟨g2,0,none⟩) (Y+1) (Y+1)) rfl zH ?_;(try simp only[zS,Act.put]);refine tk9 17 (.int .i64 (j:Int)) rfl zH ?_;(try simp only[zS,Act.put]);refine tk9 18 (.int .i64 1) rfl zH ?_;(try simp only[zS,Act.put]);refine tk9 19 (.int .i64 ((j:Int)+1)) rfl zH ?_;(try simp only[zS,Act.put]);refine tk9 20 (.pointer (some ⟨g2,j+1,none⟩)) rfl zH ?_;(try simp only[zS,Act.put]);refine tk9 22 (.slice (some ⟨sb,0,none⟩) n n) rfl zH ?_;(try simp only[zS,Act.put]);refine zqcc (rs:=[21]) (by kernel_rfl) (by simp) ?_;refine AllReadyH.cons rfl (fun K hK=>?_) AllReadyH.nil;go_simp;refine hK.out _ _ zH (fun zH=>?_);clear hK K;(try simp only[zS,Act.put]);refine zqcc (rs:=[23]) (by kernel_rfl) (by simp) ?_;refine AllReadyH.cons rfl (fun K hK=>?_) AllReadyH.nil;go_simp;refine(HSUM.out).mono ?_;rintro e w9 hpost;obtain⟨SV,E2,rfl,hg9,hcase⟩:=hpost.two;obtain⟨sA,sL,sC,rfl⟩:∃ A L C,SV=Value.slice A L C:=by rcases hcase with⟨_,_,_,rfl,_⟩|⟨_,rfl,_⟩ <;> exact⟨_,_,_,rfl⟩
            have S9:(fun W':World=>W'.cell? ⟨ga,i,none⟩=some (.slice (some ⟨g2,0,none⟩) (Y+1) (Y+1))/\W'.cell? ⟨w.heap.size,0,none⟩=some (.int .i64 k)) w9:=⟨hg9.cell q1 (by simp),hg9.cell y0 (by simp)⟩;have q2':=hg9.cell q2 (by simp);have q3':w9.frozen? ⟨g2,j+1,none⟩=false:=(hAt.grown hg9).free9 hgs2 _;have H9:=zHd (zAI hg9 hcase);clear hpost hg9 hcase q1 q2 q3 y0;refine hK.out _ _ (S9) (fun zH=>?_);clear hK K;(try simp only[zS,Act.put]);refine tk9 24 (.tuple #[.slice sA sL sC,.int .i64 E2]) rfl zH ?_;(try simp only[zS,Act.put]);refine tk9 25 (.slice sA sL sC) rfl zH ?_;(try simp only[zS,Act.put]);refine tk9 26 (.int .i64 E2) rfl zH ?_;(try simp only[zS,Act.put]);refine tk9 27 (.pointer (some ⟨g2,j+1,none⟩)) rfl zH ?_;(try simp only[zS,Act.put]);refine zqcc (rs:=[28]) (by kernel_rfl) (by simp) ?_;refine AllReadyH.cons rfl (fun K hK=>?_) AllReadyH.nil;go_simp;have S10:(fun W':World=>W'.cell? ⟨ga,i,none⟩=some (.slice (some ⟨g2,0,none⟩) (Y+1) (Y+1))/\W'.cell? ⟨w.heap.size,0,none⟩=some (.int .i64 k)) (w9.setCell ⟨g2,j+1,none⟩ (.slice sA sL sC)):=⟨(World.cell?_setCell_far _ _ _ _ hne2).trans S9.1,(World.cell?_setCell_far _ _ _ _ hne3).trans S9.2⟩;refine hK.out _ _ (S10) (fun zH=>?_);clear hK K S9;(try simp only[zS,Act.put]);refine tk9 29 (.int .i64 E2) rfl zH ?_;(try simp only[zS,Act.put]);refine wpAnyH_done (by kernel_rfl) ?_ _;clear zH S10 q2' q3' z1 z2 z3 z4;rcases H9.out.2 with⟨e8,hfs,nb,e9,hnb⟩|⟨e8,e9,hnf⟩
            ·cases e8;cases e9
             have hput:=(HAT.out.1.grown (zaa (zag w8 none) H9.out.1)).put (i:=i) (j:=j+1) (by have:=HMV.out;have:=HI.out.1;omega) (by have:=HMV.out;have:=HJ.out.1;omega) HAT.out.2.1 hnb hfs;have hb1n:=(HAT.out.1.grown (zaa (zag w8 none) H9.out.1)).srow HAT.out.2.1 ((HK.out.2.1.grown H8.out.1).grown (zaa (zag w8 none) H9.out.1)) (j+1) (.slice (some ⟨nb,0,none⟩) n n);have HPUT:=zHd (zAI hput hb1n);clear hput hb1n hnb hfs hne2 hne3 hgs2 hAt;go_wp2;refine⟨⟨3,by omega,by omega,rfl,HPUT.out.2,HPUT.out.1.congr (fun i' j' q _ _ _=>?_)⟩,by simp[intOf]⟩;have hm:=(zBu hk l x y (VI9 hk l (vE hk ld) s0 x y i j) i j (by rw[HLN.out.2.2.1];exact HMV.out) i' j' q).symm;rw[HSB.out] at hm;exact hm
            cases e8;cases e9;have HNF:=zHd hnf;clear hnf hne2 hne3 hgs2 hAt;go_wp2;go_ret2;refine⟨zaa HAL.out (zaa HG4.out (zae (zaa HAT.out.1.gr (zaa (zag w8 none) H9.out.1)) (zad w9 ⟨g2,j+1,none⟩ _) HAT.out.2.2)),.inr ⟨fun h=>HNF.out ?_,rfl⟩⟩
            try rw[HT3.out] at h
            intro q hq;have hp:=((h.place i j (by rw[HLN.out.2.1];exact HI.out.1) (by rw[HLN.out.2.2.1];exact HJ.out.1)).out (by rw[HLN.out.2.2.1];exact HMV.out)).sum q (by rw[HLN.out.1];exact hq);exact zQbi
           have HNF:=zHd hnf;clear hnf y0;go_wp2;go_ret2;refine⟨zaa HAL.out (zaa HG4.out (zaa HK.out.2.2.gr H8.out.1)),.inr ⟨fun h=>HNF.out ?_,rfl⟩⟩
           try rw[HT3.out] at h
           have hp:=((h.place i j (by rw[HLN.out.2.1];exact HI.out.1) (by rw[HLN.out.2.2.1];exact HJ.out.1)).out (by rw[HLN.out.2.2.1];exact HMV.out)).step;exact zQbi
          have m1:¬ (j:Int)+1<=(Y:Int):=(by omega);have m1':(Y:Int)<(j:Int)+1:=(by omega);have m2:(i:Int)<=(X:Int):=(by omega);have m2':¬ (X:Int)<(i:Int):=(by omega);have HMV:=zHd hmv;clear hmv;clear hb1 hAt0 y0 y1 y2 y3;have be1:bits BinOp.and IntKind.i64 2 1=0:=(by decide);have be2:wrap64 (i:Int)=(i:Int):=(by have:=HLN.out;have:=HI.out.1;unfold wrap64;omega);have be3:wrap64 ((j:Int)+1)=(j:Int)+1:=(by have:=HLN.out;have:=HJ.out.1;unfold wrap64;omega);go_wp2;refine⟨⟨3,by omega,by omega,rfl,HK.out.2.1,HK.out.2.2.congr (fun i' j' q _ _ _=>?_)⟩,by simp[intOf]⟩;exact(zBv hk l x y _ i j (by rw[HLN.out.2.2.1];exact HMV.out) i' j' q).symm
         ·clear hk1 hk4
          by_cases hmv:i<X/\j<Y
          ·have m1:(i:Int)+1<=(X:Int):=by omega
           have m1':¬ (X:Int)<(i:Int)+1:=(by omega);have m2:(j:Int)+1<=(Y:Int):=(by omega);have m2':¬ (Y:Int)<(j:Int)+1:=(by omega);have m3:(i:Int)<(X:Int):=(by omega);obtain⟨ad1,had1,hxc⟩:=ziY HX.out HLN.out.2.1 (show i<X by omega);obtain rfl:=had1
           replace hxc:=hAt0.cell hxc (by simp)
           obtain⟨sa,hsa⟩:∃ sa:Nat,x.getD i 0=sa:=⟨_,rfl⟩;rw[hsa] at hxc;have HSA:=zHd hsa;clear hsa;have m4:(j:Int)<(Y:Int):=(by omega);obtain⟨ad2,had2,hyc⟩:=ziY HY.out HLN.out.2.2.1 (show j<Y by omega);obtain rfl:=had2
           replace hyc:=hAt0.cell hyc (by simp)
           obtain⟨sb2,hsb2⟩:∃ sb2:Nat,y.getD j 0=sb2:=⟨_,rfl⟩;rw[hsb2] at hyc;have HSB:=zHd hsb2;clear hsb2;have zS':=zlE hk l us As n cs st ld b1 (zaW (srE k hk) (wm9 hk l) (VI9 hk l (vE hk ld) s0 x y i j i j)) sa sb2 (fun e=>by have:=zne HP.out.2.2.2.1 (show i<x.length by have:=HLN.out.2.1;omega);rw[HSA.out] at this;omega) wr HLN.out.1 HN.out HP.out.1 (HST.out.grown hAt0) hb1 HB1.out
           try rw[show((0:Nat):Int)=0 from rfl] at zS'
           have HSTEP:=zHd zS';have HMV:=zHd hmv;clear zS' hmv hb1 hAt0;have be1:bits BinOp.and IntKind.i64 3 1=1:=(by decide);have be2:wrap64 ((i:Int)+1)=(i:Int)+1:=(by have:=HLN.out;have:=HI.out.1;unfold wrap64;omega);have be3:wrap64 ((j:Int)+1)=(j:Int)+1:=(by have:=HLN.out;have:=HJ.out.1;unfold wrap64;omega);go_wp2_with fail;refine HSTEP.out.mono ?_;rintro e w8 hpost;obtain⟨TV,E,rfl,hg8,hcase⟩:=hpost.two
           replace y0:=hg8.cell y0 (by simp)
           have H8:=zHd (zAI hg8 hcase);clear hpost hg8 hcase y1 y2 y3 hxc hyc;clear be1 be2 be3;rcases H8.out.2 with⟨rfl,sb,rfl,hsb,hsf⟩|⟨rfl,rfl,hnf⟩
           ·have hAt:=HK.out.2.2.grown H8.out.1
            obtain⟨g2,b2,hgs2,q1,q2,q3,hne,hb2⟩:=hAt.get (i:=i+1) (j:=j+1) (by have:=HMV.out;have:=HI.out.1;omega) (by have:=HMV.out;have:=HJ.out.1;omega);have hne2:g2≠ga:=hne;have hlow:=hAt.low _ _ hgs2;have hne3:g2≠w.heap.size:=(by have h1:=hlow;have h2:=HG4.out.size;have h3:=HSZ.out;omega);have hsum:=zmY hk n (.slice (some ⟨b2,0,none⟩) n n) (.slice (some ⟨sb,0,none⟩) n n) (st9 hk l x y (VI9 hk l (vE hk ld) s0 x y i j) i j 3 (i+1) (j+1)) (stp (srE k hk) (wm9 hk l) (zaW (srE k hk) (wm9 hk l) (VI9 hk l (vE hk ld) s0 x y i j i j)) sa sb2) w8.drew HN.out ((hb2.rowR (by have:=HN.out;unfold maxLen;omega)).grown (zag w8 none)) ((hsb.rowR (by have:=HN.out;unfold maxLen;omega)).grown (zag w8 none)) (fun q hq=>hAt.fit _ _ q (by have:=HMV.out;have:=HI.out.1;omega) (by have:=HMV.out;have:=HJ.out.1;omega) hq) hsf;have HSUM:=zHd hsum;have HAT:=zHd (zAI hAt (zAI hgs2 hlow));clear hsum hb2 hsb hsf hlow hne;go_upto_region 39 with(fail)
            replace q1:w8.drew.cell? ⟨ga,i+1,none⟩=some (.slice (some ⟨g2,0,none⟩) (Y+1) (Y+1)):=q1
            replace q2:w8.drew.cell? ⟨g2,j+1,none⟩=some (.slice (some ⟨b2,0,none⟩) n n):=q2
            replace y0:w8.drew.cell? ⟨w.heap.size,0,none⟩=some (.int .i64 k):=y0
            replace hAt:=hAt.grown (zag w8 none)
            have z1:¬ ((i:Int)+1<0):=(by omega);have z2:¬ ((j:Int)+1<0):=(by omega);have z3:IntKind.i64.wrap (i:Int)=(i:Int):=(by have:=HLN.out;have:=HI.out.1;rw[zqah];omega);have z4:IntKind.i64.wrap (j:Int)=(j:Int):=(by have:=HLN.out;have:=HJ.out.1;rw[zqah];omega);refine wp_region_held_drew (S:=fun W':World=>W'.cell? ⟨ga,i+1,none⟩=some (.slice (some ⟨g2,0,none⟩) (Y+1) (Y+1))/\W'.cell? ⟨w.heap.size,0,none⟩=some (.int .i64 k)) (by kernel_rfl) (⟨q1,y0⟩) (fun zH=>?_);refine tk9 0 (.slice (some ⟨ga,0,none⟩) (X+1) (X+1)) rfl zH ?_;(try simp only[zS,Act.put]);refine tk9 1 (.int .i64 (i:Int)) rfl zH ?_;(try simp only[zS,Act.put]);refine tk9 2 (.int .i64 1) rfl zH ?_;(try simp only[zS,Act.put]);refine tk9 3 (.int .i64 ((i:Int)+1)) rfl zH ?_;(try simp only[zS,Act.put]);refine tk9 4 (.pointer (some ⟨ga,i+1,none⟩)) rfl zH ?_;(try simp only[zS,Act.put]);refine tk9 5 (.slice (some ⟨g2,0,none⟩) (Y+1) (Y+1)) rfl zH ?_;(try simp only[zS,Act.put]);refine tk9 6 (.int .i64 (j:Int)) rfl zH ?_;(try simp only[zS,Act.put]);refine tk9 7 (.int .i64 1) rfl zH ?_;(try simp only[zS,Act.put]);refine tk9 8 (.int .i64 ((j:Int)+1)) rfl zH ?_;(try simp only[zS,Act.put]);refine tk9 9 (.pointer (some ⟨w.heap.size,0,none⟩)) rfl zH ?_;(try simp only[zS,Act.put]);refine tk9 10 (.int .i64 k) rfl zH ?_;(try simp only[zS,Act.put]);refine tk9 11 (.slice (some ⟨ga,0,none⟩) (X+1) (X+1)) rfl zH ?_;(try simp only[zS,Act.put]);refine tk9 12 (.int .i64 (i:Int)) rfl zH ?_;(try simp only[zS,Act.put]);refine tk9 13 (.int .i64 1) rfl zH ?_;(try simp only[zS,Act.put]);refine tk9 14 (.int .i64 ((i:Int)+1)) rfl zH ?_;(try simp only[zS,Act.put]);refine tk9 15 (.pointer (some ⟨ga,i+1,none⟩)) rfl zH ?_;(try simp only[zS,Act.put]);refine tk9 16 (.slice (some ⟨g2,0,none⟩) (Y+1) (Y+1)) rfl zH ?_;(try simp only[zS,Act.put]);refine tk9 17 (.int .i64 (j:Int)) rfl zH ?_;(try simp only[zS,Act.put]);refine tk9 18 (.int .i64 1) rfl zH ?_;(try simp only[zS,Act.put]);refine tk9 19 (.int .i64 ((j:Int)+1)) rfl zH ?_;(try simp only[zS,Act.put]);refine tk9 20 (.pointer (some ⟨g2,j+1,none⟩)) rfl zH ?_;(try simp only[zS,Act.put]);refine tk9 22 (.slice (some ⟨sb,0,none⟩) n n) rfl zH ?_;(try simp only[zS,Act.put]);refine zqcc (rs:=[21]) (by kernel_rfl) (by simp) ?_;refine AllReadyH.cons rfl (fun K hK=>?_) AllReadyH.nil;go_simp;refine hK.out _ _ zH (fun zH=>?_);clear hK K;(try simp only[zS,Act.put]);refine zqcc (rs:=[23]) (by kernel_rfl) (by simp) ?_;refine AllReadyH.cons rfl (fun K hK=>?_) AllReadyH.nil;go_simp;refine(HSUM.out).mono ?_;rintro e w9 hpost;obtain⟨SV,E2,rfl,hg9,hcase⟩:=hpost.two;obtain⟨sA,sL,sC,rfl⟩:∃ A L C,SV=Value.slice A L C:=by rcases hcase with⟨_,_,_,rfl,_⟩|⟨_,rfl,_⟩ <;> exact⟨_,_,_,rfl⟩
            have S9:(fun W':World=>W'.cell? ⟨ga,i+1,none⟩=some (.slice (some ⟨g2,0,none⟩) (Y+1) (Y+1))/\W'.cell? ⟨w.heap.size,0,none⟩=some (.int .i64 k)) w9:=⟨hg9.cell q1 (by simp),hg9.cell y0 (by simp)⟩;have q2':=hg9.cell q2 (by simp);have q3':w9.frozen? ⟨g2,j+1,none⟩=false:=(hAt.grown hg9).free9 hgs2 _;have H9:=zHd (zAI hg9 hcase);clear hpost hg9 hcase q1 q2 q3 y0;refine hK.out _ _ (S9) (fun zH=>?_);clear hK K;(try simp only[zS,Act.put]);refine tk9 24 (.tuple #[.slice sA sL sC,.int .i64 E2]) rfl zH ?_;(try simp only[zS,Act.put]);refine tk9 25 (.slice sA sL sC) rfl zH ?_;(try simp only[zS,Act.put]);refine tk9 26 (.int .i64 E2) rfl zH ?_;(try simp only[zS,Act.put]);refine tk9 27 (.pointer (some ⟨g2,j+1,none⟩)) rfl zH ?_;(try simp only[zS,Act.put]);refine zqcc (rs:=[28]) (by kernel_rfl) (by simp) ?_;refine AllReadyH.cons rfl (fun K hK=>?_) AllReadyH.nil;go_simp;have S10:(fun W':World=>W'.cell? ⟨ga,i+1,none⟩=some (.slice (some ⟨g2,0,none⟩) (Y+1) (Y+1))/\W'.cell? ⟨w.heap.size,0,none⟩=some (.int .i64 k)) (w9.setCell ⟨g2,j+1,none⟩ (.slice sA sL sC)):=⟨(World.cell?_setCell_far _ _ _ _ hne2).trans S9.1,(World.cell?_setCell_far _ _ _ _ hne3).trans S9.2⟩;refine hK.out _ _ (S10) (fun zH=>?_);clear hK K S9;(try simp only[zS,Act.put]);refine tk9 29 (.int .i64 E2) rfl zH ?_;(try simp only[zS,Act.put]);refine wpAnyH_done (by kernel_rfl) ?_ _;clear zH S10 q2' q3' z1 z2 z3 z4;rcases H9.out.2 with⟨e8,hfs,nb,e9,hnb⟩|⟨e8,e9,hnf⟩
            ·cases e8;cases e9
             have hput:=(HAT.out.1.grown (zaa (zag w8 none) H9.out.1)).put (i:=i+1) (j:=j+1) (by have:=HMV.out;have:=HI.out.1;omega) (by have:=HMV.out;have:=HJ.out.1;omega) HAT.out.2.1 hnb hfs;have hb1n:=(HAT.out.1.grown (zaa (zag w8 none) H9.out.1)).srow HAT.out.2.1 ((HK.out.2.1.grown H8.out.1).grown (zaa (zag w8 none) H9.out.1)) (j+1) (.slice (some ⟨nb,0,none⟩) n n);have HPUT:=zHd (zAI hput hb1n);clear hput hb1n hnb hfs hne2 hne3 hgs2 hAt;go_wp2;refine⟨⟨4,by omega,by omega,rfl,HPUT.out.2,HPUT.out.1.congr (fun i' j' q _ _ _=>?_)⟩,by simp[intOf]⟩;have hm:=(zBw hk l x y (VI9 hk l (vE hk ld) s0 x y i j) i j ⟨by rw[HLN.out.2.1];exact HMV.out.1,by rw[HLN.out.2.2.1];exact HMV.out.2⟩ i' j' q).symm;rw[HSA.out,HSB.out] at hm;exact hm
            cases e8;cases e9;have HNF:=zHd hnf;clear hnf hne2 hne3 hgs2 hAt;go_wp2;go_ret2;refine⟨zaa HAL.out (zaa HG4.out (zae (zaa HAT.out.1.gr (zaa (zag w8 none) H9.out.1)) (zad w9 ⟨g2,j+1,none⟩ _) HAT.out.2.2)),.inr ⟨fun h=>HNF.out ?_,rfl⟩⟩
            try rw[HT3.out] at h
            intro q hq;have hp:=((h.place i j (by rw[HLN.out.2.1];exact HI.out.1) (by rw[HLN.out.2.2.1];exact HJ.out.1)).both ⟨by rw[HLN.out.2.1];exact HMV.out.1,by rw[HLN.out.2.2.1];exact HMV.out.2⟩).sum q (by rw[HLN.out.1];exact hq);exact zQbe
           have HNF:=zHd hnf;clear hnf y0;go_wp2;go_ret2;refine⟨zaa HAL.out (zaa HG4.out (zaa HK.out.2.2.gr H8.out.1)),.inr ⟨fun h=>HNF.out ?_,rfl⟩⟩
           try rw[HT3.out] at h
           have hp:=((h.place i j (by rw[HLN.out.2.1];exact HI.out.1) (by rw[HLN.out.2.2.1];exact HJ.out.1)).both ⟨by rw[HLN.out.2.1];exact HMV.out.1,by rw[HLN.out.2.2.1];exact HMV.out.2⟩).step;exact zQbe
          by_cases hix:i<X
          ·have m1:(i:Int)+1<=(X:Int):=by omega
           have m1':¬ (X:Int)<(i:Int)+1:=(by omega);have m2:¬ (j:Int)+1<=(Y:Int):=(by omega);have m2':(Y:Int)<(j:Int)+1:=(by omega);exact zQaA
          have m1:¬ (i:Int)+1<=(X:Int):=(by omega);have m1':(X:Int)<(i:Int)+1:=(by omega);exact zQaA
         clear hk1 hk4 hb1 hAt0 y0 y1 y2 y3;go_wp2;refine⟨⟨j+1,by have:=HJ.out.1;omega,by simp,?_⟩,by have:=HJ.out.1;simp[intOf];omega⟩;exact HK.out.2.2
       have HNF:=zHd hnf;clear hnf;go_wp2;go_ret2;refine⟨zaa HAL.out (zaa HG4.out (zaa HJ.out.2.1.gr (zaa (zag wr none) H7.out.1))),.inr ⟨fun h=>HNF.out ?_,rfl⟩⟩
       try rw[HT3.out] at h
       exact(h.place i j (by rw[HLN.out.2.1];exact HI.out.1) (by rw[HLN.out.2.2.1];exact HJ.out.1)).rest
     obtain rfl:j=Y+1:=by omega
     have v1:decide (Y+1<=Y)=false:=(by simp);have v2:¬ ((Y:Int)+1<=(Y:Int)):=(by omega);have v3:¬ (((Y+1:Nat):Int)<=(Y:Int)):=(by omega);have HJ:=zHd ha;clear hj' hjn ha;go_wp2;refine⟨⟨i+1,by have:=HI.out.1;omega,by simp,?_⟩,by have:=HI.out.1;simp[intOf];omega⟩;have e:VI9 hk l (vE hk ld) s0 x y (i+1) 0=VI9 hk l (vE hk ld) s0 x y i (Y+1):=(by unfold VI9;rw[zuk,HLN.out.2.2.1]);rw[e];exact HJ.out
   obtain rfl:i=X+1:=by omega
   have v1:decide (X+1<=X)=false:=(by simp);have v2:¬ ((X:Int)+1<=(X:Int)):=(by omega);have v3:¬ (((X+1:Nat):Int)<=(X:Int)):=(by omega);obtain⟨g,b,hgs,q1,q2,q3,hne,hsr⟩:=ha.get (zqab X) (zqab Y);have hgr:=zaa HG4.out ha.gr;have y0:=hgr.cell HXX.out.1 (by simp);have y1:=hgr.cell HXX.out.2.1 (by simp);have y2:=hgr.cell HXX.out.2.2.1 (by simp);have y3:=hgr.cell HXX.out.2.2.2 (by simp);have j3:(X:Int)<(X:Int)+1:=(by omega);have j4:(Y:Int)<(Y:Int)+1:=(by omega);have j5:(0:Int)<=(X:Int):=(by omega);have j6:(0:Int)<=(Y:Int):=(by omega);have zC:=zuA hk l us As n cs st ld (.slice (some ⟨b,0,none⟩) n n) (VI9 hk l (vE hk ld) s0 x y (X+1) 0 X Y) wr.drew HLN.out.1 HN.out HP.out.1 (HST.out.grown (zaa hgr (zag wr none))) ((hsr.rowR (by have:=HN.out;unfold maxLen;omega)).grown (zag wr none)) (fun q hq=>ha.fit X Y q (zqab X) (zqab Y) hq);have HCALL:=zHd zC;have HJ:=zHd ha;clear hi' hin ha hgr zC hsr q3 hne hgs;go_upto_region 42 with(fail);have d1:wr.drew.cell? ⟨ga,X,none⟩=some (.slice (some ⟨g,0,none⟩) (Y+1) (Y+1)):=q1;have d2:wr.drew.cell? ⟨g,Y,none⟩=some (.slice (some ⟨b,0,none⟩) n n):=q2;have d3:wr.drew.cell? ⟨w.heap.size,0,none⟩=some (.int .i64 k):=y0;have d4:wr.drew.cell? ⟨w.heap.size,1,none⟩=some (.int .i64 st):=y1;have d5:wr.drew.cell? ⟨w.heap.size,2,none⟩=some (.string ld):=y2;have d6:wr.drew.cell? ⟨w.heap.size,3,none⟩=some (.slice As n cs):=y3;clear q1 q2 y0 y1 y2 y3
   go_region_held2 (fun W':World=>W'.cell? ⟨ga,X,none⟩=some (.slice (some ⟨g,0,none⟩) (Y+1) (Y+1))/\W'.cell? ⟨g,Y,none⟩=some (.slice (some ⟨b,0,none⟩) n n)/\W'.cell? ⟨w.heap.size,0,none⟩=some (.int .i64 k)/\W'.cell? ⟨w.heap.size,1,none⟩=some (.int .i64 st)/\W'.cell? ⟨w.heap.size,2,none⟩=some (.string ld)/\W'.cell? ⟨w.heap.size,3,none⟩=some (.slice As n cs)) (first|exact⟨d1,d2,d3,d4,d5,d6⟩|exact S7|go_keep)
    (first|(go_at_call 75;refine(HCALL.out).mono ?_;rintro e w7 hpost;obtain⟨RV,E,rfl,hg7,hcase⟩:=hpost.two;have S7:(fun W':World=>W'.cell? ⟨ga,X,none⟩=some (.slice (some ⟨g,0,none⟩) (Y+1) (Y+1))/\W'.cell? ⟨g,Y,none⟩=some (.slice (some ⟨b,0,none⟩) n n)/\W'.cell? ⟨w.heap.size,0,none⟩=some (.int .i64 k)/\W'.cell? ⟨w.heap.size,1,none⟩=some (.int .i64 st)/\W'.cell? ⟨w.heap.size,2,none⟩=some (.string ld)/\W'.cell? ⟨w.heap.size,3,none⟩=some (.slice As n cs)) w7:=⟨hg7.cell d1 (by simp),hg7.cell d2 (by simp),hg7.cell d3 (by simp),hg7.cell d4 (by simp),hg7.cell d5 (by simp),hg7.cell d6 (by simp)⟩;have H7:=zHd (zAI hg7 hcase);clear hpost hg7 hcase))
   all_goals
    clear d1 d2 d3 d4 d5 d6 S7;go_wp2;go_ret2;refine⟨zaa HAL.out (zaa HG4.out (zaa HJ.out.gr (zaa (zag wr none) H7.out.1))),?_⟩
    have hvi:VI9 hk l (vE hk ld) s0 x y (X+1) 0 X Y=VI (srE k hk) (wm9 hk l) x y (V09 (srE k hk) (vE hk ld) s0) x.length (y.length+1) x.length y.length:=by
     unfold VI9;rw[<- HLN.out.2.1,<- HLN.out.2.2.1,zuk]
    have zV:=zDZ (S:=srE k hk) (wm9 hk l) x y (V:=V09 (srE k hk) (vE hk ld) s0) (lead:=vE hk ld) (start:=s0) (by show s0<l.length;rw[HLN.out.1];exact HS0.out.2.1) (fun i j q=>rfl);rcases H7.out.2 with⟨rfl,rfl,hp⟩|⟨rfl,rfl,hp⟩
    ·refine .inl ?_
     have e:csE hk (finI hk l (VI9 hk l (vE hk ld) s0 x y (X+1) 0 X Y) n) 0=zbK (srE k hk) (vE hk) (finE hk) ⟨k,st,ld,l⟩ x y:=by
      unfold csE finI;have h1:=zGq (S:=srE k hk) (vE hk) (finE hk) (zcB hk) (zcC hk) l (VI9 hk l (vE hk ld) s0 x y (X+1) 0 X Y);rw[HLN.out.1] at h1;rw[h1,hvi];refine zV.trans ?_;unfold zbK;show _=(srE k hk).mul (vE hk ld) (bk (srE k hk) (wm9 hk l) x y st.toNat);rw[HT3.out]
     have hf:=zaR.all hp (zbp hk) 0;refine⟨?_,?_⟩;rw[<- e];exact hf;rw[<- e];rfl
    refine .inr ⟨fun h=>hp ?_,rfl⟩
    try rw[HT3.out] at h
    have h1:=h.fin;rw[HLN.out.1] at h1;have e:VI9 hk l (vE hk ld) s0 x y x.length (y.length+1) x.length y.length=VI9 hk l (vE hk ld) s0 x y (X+1) 0 X Y:=(by rw[hvi];rfl);rw[e] at h1;exact h1
end Go.Proofs.YtadgpgofcjpnjaaGreatDoor
