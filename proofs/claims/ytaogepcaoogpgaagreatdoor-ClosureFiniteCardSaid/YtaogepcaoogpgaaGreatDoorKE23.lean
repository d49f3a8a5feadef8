/- WE33 -/
import Derived.Test.YtaogepcaoogpgaaGreatDoorKE21
set_option linter.unusedVariables false
set_option linter.unusedSimpArgs false
set_option maxRecDepth 100000
set_option maxHeartbeats 16000000
namespace Go.Proofs.YtaogepcaoogpgaaGreatDoor
open Go.RowKit
def TabI (W:World)(g n:Nat)(f:Nat→Int):Prop:=W.heap[g]? = some (.cells ((List.range n).map (fun x=>Value.int .i64 (f x))).toArray 3 (0,0))
theorem TabI.lt {W:World}{g n:Nat}{f:Nat→Int}(h:TabI W g n f):g<W.heap.size:=lt_of_block h
theorem TabI.cell {W:World}{g n x:Nat}{f:Nat→Int}(h:TabI W g n f)(hx:x<n):W.cell? ⟨g,x,none⟩=some (.int .i64 (f x)):=by
 rw[cell_of_row W g x _ _ (0,0) h,List.getElem?_toArray,List.getElem?_map,List.getElem?_range hx];rfl
theorem TabI.free {W:World}{g n:Nat}{f:Nat→Int}(h:TabI W g n f)(x:Nat):W.frozen? ⟨g,x,none⟩=false:=frozen_of_row W g x _ _ h
theorem TabI.congr {W:World}{g n:Nat}{f f':Nat→Int}(h:TabI W g n f)(he:∀ x,x<n→f x=f' x):TabI W g n f':=by
 unfold TabI at *;rw[h]
 congr 3
 apply List.map_congr_left
 intro x hx;rw[he x (List.mem_range.1 hx)]
theorem TabI.set {W:World}{g n x:Nat}{f:Nat→Int}(h:TabI W g n f)(v:Int):TabI (W.setCell ⟨g,x,none⟩ (.int .i64 v)) g n (fun y=>if y=x then v else f y):=by
 unfold TabI;rw[heap_setCell_same W g x _ _ _ h]
 congr 3
 apply Array.ext'
 rw[Array.toList_setIfInBounds]
 apply List.ext_getElem?
 intro i;rw[List.getElem?_set]
 by_cases e:x=i
 ·subst e
  rw[if_pos rfl]
  by_cases hx:x<n
  ·rw[if_pos (by simpa using hx),List.getElem?_map,List.getElem?_range hx];simp
  ·rw[if_neg (by simpa using hx),List.getElem?_eq_none (by simpa using hx)]
 ·rw[if_neg e]
  simp only[List.getElem?_map]
  by_cases hi:i<n
  ·rw[List.getElem?_range hi]
   simp[Ne.symm e]
  ·rw[List.getElem?_eq_none (by simpa using hi)];rfl
theorem TabI.kept {W W':World}{g n:Nat}{f:Nat→Int}{r:Option Nat}(h:TabI W g n f)(hg:W.grownBy W' r)(hr:some g≠r):TabI W' g n f:=(hg.block g h.lt hr).trans h
theorem TabI.of_full {w:World}{B g n:Nat}(h:w.ownsRow B 3 1 (.slice (some ⟨g,0,none⟩) n n) n (madeCells #[Value.int .i64 0] n).toList):TabI w g n (fun _=>0):=by
 have h1:=ztx h;rw[toList_madeCells_one] at h1;unfold TabI;rw[h1]
 congr 3
 apply List.ext_getElem?
 intro i;rw[List.getElem?_replicate,List.getElem?_map]
 by_cases hi:i<n
 ·rw[List.getElem?_range hi,if_pos hi];rfl
 ·rw[List.getElem?_eq_none (by simpa using hi),if_neg hi];rfl
structure zcb (W:World)(C g:Nat)(ss:List zah)(us:List Value):Prop where
 row:W.heap[g]? = some (.cells ((ss.zip us).flatMap stC).toArray 57 (0,0))
 len:us.length=ss.length
 own:∀ (k:Nat) (s:zah) (x:Value),ss[k]? = some s→us[k]? = some x→W.ownsRow C 59 4 x s.arcs.length (s.arcs.flatMap arcC)
 dis:∀ (i j:Nat) (v v':Value),i≠j→us[i]? = some v→us[j]? = some v'→v.ownBlock=none∨v.ownBlock≠v'.ownBlock
 hr:g<C
 hC:C≤W.heap.size
theorem zcb.next {W W':World}{C g:Nat}{ss:List zah}{us:List Value}(h:zcb W C g ss us)(hg:W.grownBy W' none):zcb W' C g ss us :=
 ⟨(hg.block g (by have:=h.hr;have:=h.hC;omega) (by simp)).trans h.row,h.len,fun k v q hv hq=>(h.own k v q hv hq).kept hg (by cases e:q.ownBlock <;> simp),h.dis,h.hr,by have:=hg.size;have:=h.hC;omega⟩
theorem zcb.other {W W':World}{C g b:Nat}{ss:List zah}{us:List Value}(h:zcb W C g ss us)(hg:W.grownBy W' (some b))(hb:b<C)(hne:b≠g):zcb W' C g ss us :=
 ⟨(hg.block g (by have:=h.hr;have:=h.hC;omega) (by simpa using Ne.symm hne)).trans h.row,h.len,fun k v q hv hq=>(h.own k v q hv hq).kept hg (by
   cases e:q.ownBlock with
   | none=>exact .inl rfl
   | some c=>exact .inr (by have:=((h.own k v q hv hq).lt c e).1;intro e2;cases e2;omega)),h.dis,h.hr,by have:=hg.size;have:=h.hC;omega⟩
theorem zcb.at_ {W:World}{C g k:Nat}{ss:List zah}{us:List Value}(h:zcb W C g ss us){s:zah}(hs:ss[k]? = some s) :
  ∃ x,us[k]? = some x∧W.cell? ⟨g,k * 2,none⟩=some (.string s.fin)∧W.cell? ⟨g,k * 2+1,none⟩=some x∧(∀ j,W.frozen? ⟨g,j,none⟩=false)∧W.ownsRow C 59 4 x s.arcs.length (s.arcs.flatMap arcC):=by
 have hk:=(List.getElem?_eq_some_iff.1 hs).1;have hu:us[k]? = some (us[k]'(by rw[h.len];exact hk)):=List.getElem?_eq_getElem (by rw[h.len];exact hk);have hz:(ss.zip us)[k]? = some (s,us[k]'(by rw[h.len];exact hk)):=by rw[List.getElem?_zip_eq_some];exact⟨hs,hu⟩
 have h0:=flat_get stC 2 zes (ss.zip us) k 0 _ hz (by omega);have h1:=flat_get stC 2 zes (ss.zip us) k 1 _ hz (by omega);rw[Nat.add_zero] at h0;refine⟨_,hu,?_,?_,fun j=>frozen_of_row W g j _ _ h.row,h.own k s _ hs hu⟩
 ·rw[cell_of_row W g _ _ _ (0,0) h.row,List.getElem?_toArray];exact h0
 ·rw[cell_of_row W g _ _ _ (0,0) h.row,List.getElem?_toArray];exact h1
theorem zcb.set_fin {W:World}{C g k:Nat}{ss:List zah}{us:List Value}(h:zcb W C g ss us){s:zah}(hs:ss[k]? = some s)(f:ByteArray) :
  zcb (W.setCell ⟨g,k * 2,none⟩ (.string f)) C g (ss.set k ⟨f,s.arcs⟩) us:=by
 have hk:=(List.getElem?_eq_some_iff.1 hs).1;have hu:us[k]? = some (us[k]'(by rw[h.len];exact hk)):=List.getElem?_eq_getElem (by rw[h.len];exact hk);have hz:(ss.zip us)[k]? = some (s,us[k]'(by rw[h.len];exact hk)):=by rw[List.getElem?_zip_eq_some];exact⟨hs,hu⟩
 have hself:us.set k (us[k]'(by rw[h.len];exact hk))=us:=by simp
 have hfl:=zmy stC 2 zes (ss.zip us) k 0 _ (⟨f,s.arcs⟩,us[k]'(by rw[h.len];exact hk)) (.string f) hz (by omega) rfl;rw[Nat.add_zero,← zpy,hself] at hfl;have gs:=zac W ⟨g,k * 2,none⟩ (.string f);refine⟨?_,by rw[List.length_set];exact h.len,fun i t x hi hx => ?_,h.dis,h.hr,by have:=h.hC;simp;exact this⟩
 ·rw[heap_setCell_same W g _ _ _ _ h.row,hfl];simp
 ·have hne:x.ownBlock=none∨x.ownBlock≠some g:=by
   cases eb:x.ownBlock with
   | none=>exact .inl rfl
   | some b =>
    right
    intro e;cases e;obtain⟨t2,ht2⟩:∃ t2,ss[i]? = some t2:=⟨_,List.getElem?_eq_getElem (by have:=(List.getElem?_eq_some_iff.1 hx).1;rw[h.len] at this;exact this)⟩;have:=((h.own i t2 x ht2 hx).lt _ eb).1;have:=h.hr
    omega
  by_cases e:i=k
  ·subst e
   rw[List.getElem?_set_self hk] at hi;cases hi;exact(h.own i s x hs hx).kept gs hne
  ·rw[List.getElem?_set_ne (Ne.symm e)] at hi
   exact(h.own i t x hi hx).kept gs hne
theorem zcb.push {W w1:World}{C g y gg c:Nat}{ss:List zah}{us:List Value}{s:zah}{v:Value}{a:MArc}(h:zcb W C g ss us)(hs:ss[y]? = some s)(hv:us[y]? = some v)
  (hown:w1.ownsRow C 59 4 (.slice (some ⟨gg,0,none⟩) (s.arcs.length+1) c) (s.arcs.length+1) (s.arcs.flatMap arcC++arcC a)) (hg:W.grownBy w1 v.ownBlock) (hat:v.ownBlock=some gg∨gg=W.heap.size) :
  zcb (w1.setCell ⟨g,y * 2+1,none⟩ (.slice (some ⟨gg,0,none⟩) (s.arcs.length+1) c)) C g (ss.set y ⟨s.fin,s.arcs++[a]⟩) (us.set y (.slice (some ⟨gg,0,none⟩) (s.arcs.length+1) c)):=by
 have hyl:=(List.getElem?_eq_some_iff.1 hs).1;have hyu:=(List.getElem?_eq_some_iff.1 hv).1;have hvo:=(h.own y s v hs hv).lt;have hr:=h.hr;have hC:=h.hC;have h1:w1.heap[g]? = some (.cells ((ss.zip us).flatMap stC).toArray 57 (0,0)):=(hg.block g (by omega) (fun e=>by have:=(hvo g e.symm).1;omega)).trans h.row;have gs:=zac w1 ⟨g,y * 2+1,none⟩ (.slice (some ⟨gg,0,none⟩) (s.arcs.length+1) c);have hgC:C≤gg:=(hown.lt gg rfl).1;have hz:(ss.zip us)[y]? = some (s,v):=by rw[List.getElem?_zip_eq_some];exact⟨hs,hv⟩
 have hfl:=zmy stC 2 zes (ss.zip us) y 1 _ (⟨s.fin,s.arcs++[a]⟩,.slice (some ⟨gg,0,none⟩) (s.arcs.length+1) c) (.slice (some ⟨gg,0,none⟩) (s.arcs.length+1) c) hz (by omega) rfl;rw[← zpy] at hfl;refine⟨?_,by rw[List.length_set,List.length_set];exact h.len,fun k t u ht hu => ?_,fun i j u u' hne hu hu' => ?_,hr,by have:=hg.size;simp;omega⟩
 ·rw[heap_setCell_same w1 g _ _ _ _ h1,hfl];simp
 ·by_cases e:k=y
  ·subst e
   rw[List.getElem?_set_self hyu] at hu;rw[List.getElem?_set_self hyl] at ht;cases hu;cases ht;have hh:=hown.kept gs (.inr (by show some gg≠some g;intro e;cases e;omega));show World.ownsRow _ _ _ _ _ (s.arcs++[a]).length ((s.arcs++[a]).flatMap arcC);rw[List.length_append,List.length_singleton,List.flatMap_append,List.flatMap_singleton];exact hh
  ·rw[List.getElem?_set_ne (Ne.symm e)] at hu ht
   have ho:=h.own k t u ht hu
   have h2:=ho.kept hg (by
    rcases h.dis k y u v e hu hv with h|h
    ·exact .inl h
    ·exact .inr h)
   exact h2.kept gs (by
    cases eb:u.ownBlock with
    | none=>exact .inl rfl
    | some b=>exact .inr (by have:=(ho.lt b eb).1;show some b≠some g;intro e;cases e;omega))
 ·have hlt:∀ (k:Nat) (z:Value),us[k]? = some z→z.ownBlock≠some W.heap.size:=fun k z hz e=>by
   obtain⟨p,hp⟩:∃ p,ss[k]? = some p:=⟨_,List.getElem?_eq_getElem (by have:=(List.getElem?_eq_some_iff.1 hz).1;rw[h.len] at this;exact this)⟩;have:=((h.own k p z hp hz).lt _ e).2
   omega
  by_cases ea:i=y
  ·subst ea
   rw[List.getElem?_set_self hyu] at hu;rw[List.getElem?_set_ne hne] at hu';cases hu
   right
   show some gg≠u'.ownBlock;rcases hat with e|e
   ·intro e2
    rcases h.dis i j v u' hne hv hu' with h3|h3
    ·rw[e] at h3;cases h3
    ·exact h3 (e.trans e2)
   ·intro e2;exact hlt j u' hu' (by rw[← e2,e])
  ·rw[List.getElem?_set_ne (Ne.symm ea)] at hu
   by_cases eb:j=y
   ·subst eb
    rw[List.getElem?_set_self hyu] at hu';cases hu';show u.ownBlock=none∨u.ownBlock≠some gg;rcases hat with e|e
    ·rcases h.dis i j u v hne hu hv with h3|h3
     ·exact .inl h3
     ·exact .inr (by rw[← e];exact h3)
    ·exact .inr (by rw[e];exact hlt i u hu)
   ·rw[List.getElem?_set_ne (Ne.symm eb)] at hu'
    exact h.dis i j u u' hne hu hu'
theorem zcb.reads {W:World}{C g:Nat}{ss:List zah}{us:List Value}(h:zcb W C g ss us):Reads W W.heap.size 2 (some ⟨g,0,none⟩) ss.length ((ss.zip us).flatMap stC):=by
 refine⟨?_,fun _=>⟨_,rfl,lt_of_block h.row,fun j u hu => ?_⟩⟩
 ·rw[List.length_flatMap]
  have:(ss.zip us).length=ss.length:=by rw[List.length_zip,h.len,Nat.min_self]
  rw[← this];generalize ss.zip us=z
  induction z with
  | nil=>rfl
  | cons a z ih=>simp[zes] at ih ⊢;omega
 ·have hadd:Addr.add ⟨g,0,none⟩ j=⟨g,0+j,none⟩:=by unfold Addr.add;split <;> simp_all
  rw[hadd,Nat.zero_add,cell_of_row W g _ _ _ (0,0) h.row,List.getElem?_toArray];exact hu
theorem zcb.stN {W:World}{C g cap B:Nat}{ss:List zah}{us:List Value}(h:zcb W C g ss us)(hC:B≤C)(hg:B≤g):StN W B (.slice (some ⟨g,0,none⟩) ss.length cap) ss:=by
 refine⟨_,cap,us,rfl,h.len,?_,fun _ ad hA=>by cases hA;exact hg,fun k s x hs hx=>⟨zuM (h.own k s x hs hx),fun h0 b hb=>Nat.le_trans hC ((h.own k s x hs hx).lt b hb).1⟩⟩;exact h.reads
theorem zcb.start {W:World}{g n:Nat}(hc:W.heap[g]? = some (.cells ((List.replicate n (⟨ByteArray.empty,[]⟩,Value.slice none 0 0)).flatMap stC).toArray 57 (0,0))):zcb W W.heap.size g (List.replicate n ⟨ByteArray.empty,[]⟩) (List.replicate n (.slice none 0 0)):=by
 refine⟨?_,by simp,fun k v q hv hq => ?_,fun i j v v' _ hv _ => ?_,lt_of_block hc,Nat.le_refl _⟩
 ·rw[hc,List.zip_replicate']
 ·rw[List.getElem?_replicate] at hv hq
  split at hv
  ·cases hv
   rw[if_pos (by assumption)] at hq;cases hq;exact World.ownsRow_nil _ _ _ _
  ·cases hv
 ·rw[List.getElem?_replicate] at hv
  split at hv
  ·cases hv;exact .inl rfl
  ·cases hv
open Go.RowKit
def numP (l:List Nat)(j x:Nat):Int:=if x∈l.take j then (l.idxOf x:Int) else -1
def numF (l:List Nat)(x:Nat):Int:=if x∈l then (l.idxOf x:Int) else -1
theorem zBn (l:List Nat)(x:Nat):numP l 0 x = -1:=by unfold numP;simp
theorem zDV {l:List Nat}{j:Nat}(h:l.length≤j)(x:Nat):numP l j x=numF l x:=by unfold numP numF;rw[List.take_of_length_le h]
theorem zBo {l:List Nat}(hn:l.Nodup){j y:Nat}(h:l[j]? = some y)(x:Nat):(if x=y then (j:Int) else numP l j x)=numP l (j+1) x:=by
 unfold numP;rw[zcI h]
 by_cases e:x=y
 ·subst e
  rw[if_pos rfl,if_pos (by simp),zFJ hn h]
 ·rw[if_neg e]
  simp[e]
def st0:zah:=⟨ByteArray.empty,[]⟩
def ssP (m:Mach)(l:List Nat)(k:Nat)(s:zah):List zah:=(l.take k).map (fun x=>zhl l (stOf m x))++s::List.replicate (l.length - k - 1) st0
def ssR (m:Mach)(l:List Nat)(k:Nat):List zah:=(l.take k).map (fun x=>zhl l (stOf m x))++List.replicate (l.length - k) st0
theorem zDW (m:Mach)(l:List Nat):ssR m l 0=List.replicate l.length st0:=by unfold ssR;simp
theorem zFP {m:Mach}{l:List Nat}{k:Nat}(h:l.length≤k):ssR m l k=(zaH m l).states:=by
 unfold ssR;rw[List.take_of_length_le h,show l.length - k=0 by omega];simp[zaH]
theorem zqH {m:Mach}{l:List Nat}{k:Nat}(h:k<l.length):ssR m l k=ssP m l k st0:=by
 unfold ssR ssP;rw[show l.length - k=(l.length - k - 1)+1 by omega,List.replicate_succ]
 congr 3
theorem zlx {m:Mach}{l:List Nat}{k:Nat}{s:zah}(h:k<l.length):(ssP m l k s)[k]? = some s:=by
 unfold ssP;rw[List.getElem?_append_right (by simp;omega)];simp[Nat.min_eq_left (Nat.le_of_lt h)]
theorem zwc {m:Mach}{l:List Nat}{k:Nat}{s s':zah}(h:k<l.length):(ssP m l k s).set k s'=ssP m l k s':=by
 unfold ssP;rw[List.set_append_right _ _ (by simp;omega)];simp[Nat.min_eq_left (Nat.le_of_lt h)]
theorem zDX {m:Mach}{l:List Nat}{k x:Nat}(h:l[k]? = some x):ssP m l k (zhl l (stOf m x))=ssR m l (k+1):=by
 unfold ssP ssR;rw[zcI h,List.map_append,List.append_assoc,Nat.sub_sub]
 rfl
def zdx (l:List Nat)(as':List MArc)(j:Nat):List MArc:=(as'.take j).filterMap (zcv l)
theorem zyf {l:List Nat}{as':List MArc}{j:Nat}{a:MArc}(h:as'[j]? = some a)(hn:zcv l a=none):zdx l as' (j+1)=zdx l as' j:=by
 unfold zdx;rw[zcI h,List.filterMap_append];simp[hn]
theorem zyg {l:List Nat}{as':List MArc}{j:Nat}{a b:MArc}(h:as'[j]? = some a)(hn:zcv l a=some b):zdx l as' (j+1)=zdx l as' j++[b]:=by
 unfold zdx;rw[zcI h,List.filterMap_append];simp[hn]
theorem zBp {l:List Nat}{as':List MArc}{j:Nat}(h:as'.length≤j):zdx l as' j=as'.filterMap (zcv l):=by unfold zdx;rw[List.take_of_length_le h]
theorem zBq (l:List Nat)(as':List MArc)(j:Nat):(zdx l as' j).length≤as'.length:=by
 unfold zdx;exact Nat.le_trans (List.length_filterMap_le _ _) (by simp;omega)
structure OInv (w W0 W:World)(C gr:Nat)(ss:List zah)(us:List Value):Prop where
 rows:zcb W C gr ss us
 kp:∀ b,b<C→b≠gr→W.heap[b]? = W0.heap[b]?
 bel:Below w.heap.size w W
 lt:w.heap.size<gr
theorem OInv.next {w W0 W W':World}{C gr:Nat}{ss:List zah}{us:List Value}(h:OInv w W0 W C gr ss us)(hg:W.grownBy W' none):OInv w W0 W' C gr ss us :=
 ⟨h.rows.next hg,fun b hb hne=>(hg.block b (by have:=h.rows.hC;omega) (by simp)).trans (h.kp b hb hne),zaO (zaa (zaI h.bel) hg),h.lt⟩
theorem OInv.set_fin {w W0 W:World}{C gr j:Nat}{ss:List zah}{us:List Value}{s:zah}(h:OInv w W0 W C gr ss us)(hs:ss[j]? = some s)(f:ByteArray) :
  OInv w W0 (W.setCell ⟨gr,j * 2,none⟩ (.string f)) C gr (ss.set j ⟨f,s.arcs⟩) us:=by
 have gs:=zac W ⟨gr,j * 2,none⟩ (.string f);have hl:=h.lt;have hC:=h.rows.hC;exact⟨h.rows.set_fin hs f,fun b hb hne=>(gs.block b (by omega) (by simpa using hne)).trans (h.kp b hb hne),h.bel.grown gs h.bel.size (fun b e=>by cases e;show w.heap.size≤gr;omega),hl⟩
theorem OInv.push {w W0 W w1:World}{C gr y gg c:Nat}{ss:List zah}{us:List Value}{s:zah}{v:Value}{a:MArc}(h:OInv w W0 W C gr ss us)(hs:ss[y]? = some s)(hv:us[y]? = some v)
  (hown:w1.ownsRow C 59 4 (.slice (some ⟨gg,0,none⟩) (s.arcs.length+1) c) (s.arcs.length+1) (s.arcs.flatMap arcC++arcC a)) (hg:W.grownBy w1 v.ownBlock) (hat:v.ownBlock=some gg∨gg=W.heap.size) :
  OInv w W0 (w1.setCell ⟨gr,y * 2+1,none⟩ (.slice (some ⟨gg,0,none⟩) (s.arcs.length+1) c)) C gr (ss.set y ⟨s.fin,s.arcs++[a]⟩) (us.set y (.slice (some ⟨gg,0,none⟩) (s.arcs.length+1) c)):=by
 have gs:=zac w1 ⟨gr,y * 2+1,none⟩ (.slice (some ⟨gg,0,none⟩) (s.arcs.length+1) c);have hl:=h.lt;have hC:=h.rows.hC;have hr:=h.rows.hr;have hvo:=(h.rows.own y s v hs hv).lt;have h1:=h.bel.grown hg h.bel.size (fun b e=>by have:=(hvo b e).1;omega)
 exact⟨h.rows.push hs hv hown hg hat,fun b hb hne=>((gs.block b (by have:=hg.size;omega) (by simpa using hne)).trans (hg.block b (by omega) (fun e=>by have:=(hvo b e.symm).1;omega))).trans (h.kp b hb hne),
  h1.grown gs h1.size (fun b e=>by cases e;show w.heap.size≤gr;omega),hl⟩
open Go.RowKit
theorem zuP (n:Nat):madeCells (Value.agg #[.string ByteArray.empty,.slice none 0 0]).cells (n * 2)=((List.replicate n (st0,Value.slice none 0 0)).flatMap stC).toArray:=by
 have hc:(Value.agg #[.string ByteArray.empty,.slice none 0 0]).cells=#[.string ByteArray.empty,.slice none 0 0]:=by simp[Value.cells]
 rw[hc]
 apply Array.ext'
 apply List.ext_getElem?
 intro j;unfold madeCells;rw[Array.toList_map,Array.toList_range,List.getElem?_map]
 by_cases hj:j<n * 2
 ·rw[List.getElem?_range hj]
  have hx:(List.replicate n (st0,Value.slice none 0 0))[j / 2]? = some (st0,Value.slice none 0 0):=by rw[List.getElem?_replicate,if_pos (by omega)]
  have h1:=flat_get stC 2 zes (List.replicate n (st0,Value.slice none 0 0)) (j / 2) (j % 2) _ hx (by omega);rw[show j / 2 * 2+j % 2=j by omega] at h1;refine Eq.trans ?_ h1.symm;have:j % 2=0∨j % 2=1:=by omega
  rcases this with e|e <;> simp[e,stC,st0]
 ·rw[List.getElem?_eq_none (by simpa using hj),List.getElem?_eq_none]
  ·rfl
  ·have hl:∀ n:Nat,((List.replicate n (st0,Value.slice none 0 0)).flatMap stC).length=n * 2:=fun n=>by
    induction n with
    | zero=>rfl
    | succ n ih=>rw[List.replicate_succ,List.flatMap_cons,List.length_append,ih,zes];omega
   rw[hl];omega
theorem zBr {n:Nat}(hn:n≤3000):∃ mk:World→World,(∀ w:World,(Instr.makeSlice 29 (.int .i64 (n:Int)) (.int .i64 (n:Int))).run Tryz.prog w = .ok (.slice (some ⟨w.heap.size,0,none⟩) n n) (mk w))∧(∀ w:World,w.grownBy (mk w) none)∧(∀ w:World,(mk w).heap.size=w.heap.size+1) ∧
  ∀ w:World,(mk w).heap[w.heap.size]? = some (.cells ((List.replicate n (st0,Value.slice none 0 0)).flatMap stC).toArray 57 (0,0)):=by
 obtain⟨i0,hi,hz0,hz1,hz2⟩:=zci zvV;refine⟨fun w=>w.alloc (.cells ((List.replicate n (st0,Value.slice none 0 0)).flatMap stC).toArray 57),fun w => ?_,fun w=>zGA _ _ _,fun w=>by simp,fun w=>by show(w.heap.push _)[w.heap.size]? = _;rw[Array.getElem?_push_size]⟩;have h:=run_makeSlice (w:=w) 29 57 i0 _ Tryz.underlying29 hi hz0 .i64 .i64 (n:Int) (n:Int) (by omega) (by omega) (by rw[hz1];simp;omega) (by rw[hz2];omega) (by omega);rw[hz1,show((n:Int).toNat)=n by simp,zuP] at h;exact h
theorem zDY {w:World}{v lv:Value}{m:Mach}{l:List Nat}(hv:zcr w v m)(hm:Small m)(hl:NSl w lv l)(hn:l.Nodup)(hb:∀ x∈l,x<m.states.length)(hs0:m.start.toNat∈l):Calls Tryz.prog 147 #[v,lv] w (zkx (zaH m l) w):=by
 obtain⟨u,rfl,hst0⟩:=hv;obtain⟨A,cap,us,rfl,hS0⟩:=StAt.of hst0;obtain⟨Al,capl,rfl,hrl⟩:=hl;have hll:=short_list hn hb;have g1:w.grownBy (w.alloc (.cells #[.int .i64 m.kind,.int .i64 m.start,.string m.lead,.slice A m.states.length cap] 31)) none:=zGA _ _ _;have b1:=zao.new w m (.slice A m.states.length cap);have e1:(w.alloc (.cells #[.int .i64 m.kind,.int .i64 m.start,.string m.lead,.slice A m.states.length cap] 31)).heap.size=w.heap.size+1:=by simp
 have g2:=zGA (w.alloc (.cells #[.int .i64 m.kind,.int .i64 m.start,.string m.lead,.slice A m.states.length cap] 31)) (.cells #[.int .i64 0,.int .i64 0,.string ByteArray.empty,.slice none 0 0] 31) none;have b2:=zao.new (w.alloc (.cells #[.int .i64 m.kind,.int .i64 m.start,.string m.lead,.slice A m.states.length cap] 31)) zaP (.slice none 0 0);rw[e1] at b2;have e2:((w.alloc (.cells #[.int .i64 m.kind,.int .i64 m.start,.string m.lead,.slice A m.states.length cap] 31)).alloc (.cells #[.int .i64 0,.int .i64 0,.string ByteArray.empty,.slice none 0 0] 31)).heap.size=w.heap.size+2:=by simp
 have hb1:=b1.grown g2;have hg:=zaa g1 g2;have HG:=zHd hg;have HB1:=zHd hb1;have HB2:=zHd b2;have HS:=zHd hS0;have HM:=zHd hm;have HRL:=zHd hrl;have HND:=zHd hn;have HBL:=zHd hb;have HS0:=zHd hs0;have hn3:=hm.n;obtain⟨i0,hi,hz0,hz1,hz2⟩:=zci zqA;obtain⟨x0,x1,x2,x3⟩:=hb1.cells;clear hst0 hS0 hrl g1 g2 b1 b2 e1 hb1 hg hm hn hb hs0;go_enter Tryz.func147,Tryz.ntmps147;go_wp2_with (at_make;refine wpList_make_full _ rfl _ _ 51 rfl (w.heap.size+2) 3 i0 (.int .i64 0) 1 Tryz.underlying51 hi hz0 hz1 _ _ _ _ m.states.length rfl rfl rfl rfl (by rw[hz2];omega) (by unfold maxLen;omega) (by simp) ?_);intro W hown hgr;have ht:=TabI.of_full hown;have hlt:=ht.lt;have HT:=zHd ht;have HG1:=zHd (zaa HG.out hgr);have HB1a:=zHd (HB1.out.grown hgr);have HB2a:=zHd (HB2.out.grown hgr);clear x0 x1 x2 x3 hown hgr ht;go_wp2
 go_loopw [20] (fun i wr=>∃ k:Nat,i = .int .i64 k∧k≤m.states.length∧TabI wr (w.heap.size+1+1) m.states.length (fun x=>if x<k then -1 else 0)∧W.grownBy wr (some (w.heap.size+1+1))) (fun i _=>m.states.length - (intOf i).toNat)
 case atStart=>exact⟨0,rfl,by omega,HT.out.congr (fun x hx=>by simp),World.grownBy.refl _ _⟩
 case round =>
  obtain⟨k,rfl,hk,ht,hgr⟩:=hrel;have HT2:=zHd ht;have HGR:=zHd hgr;clear ht hgr
  by_cases hlt2:k<m.states.length
  ·have c0:=HT2.out.cell hlt2
   have c1:=HT2.out.free k;have n1:(k:Int)<(m.states.length:Int):=by omega
   have n2:IntKind.i64.wrap ((k:Int)+1)=(k:Int)+1:=by rw[IntKind.wrap_i64];omega
   have n3:(0:Int)≤(k:Int):=by omega
   have HT3:=zHd ((HT2.out.set (x:=k) (-1)).congr (f':=fun x=>if x<k+1 then -1 else 0) (fun x hx=>by
    by_cases e:x=k
    ·simp[e]
    ·by_cases e2:x<k
     ·simp[e,e2];omega
     ·simp[e,e2];omega))
   have HG2:=zHd (World.grownBy.trans HGR.out (zac wr ⟨w.heap.size+1+1,k,none⟩ (.int .i64 (-1))));go_wp2
   go_roundw
   case rel=>exact⟨k+1,by go_num,by omega,HT3.out,HG2.out⟩
   case measure=>simp[intOf];omega
  ·have n1:¬ (k:Int)<(m.states.length:Int):=by omega
   have HT3:=zHd (HT2.out.congr (f':=numP l 0) (fun x hx=>by rw[zBn,if_pos (by omega)]));generalize wr=w4 at *;go_wp2
   go_loopw [29] (fun i wr=>∃ j:Nat,i = .int .i64 j∧j≤l.length∧TabI wr (w.heap.size+1+1) m.states.length (numP l j)∧W.grownBy wr (some (w.heap.size+1+1))) (fun i _=>l.length - (intOf i).toNat)
   case atStart=>exact⟨0,rfl,by omega,HT3.out,HGR.out⟩
   case round =>
    obtain⟨j,rfl,hj,ht,hgr⟩:=hrel;have HT4:=zHd ht;have HGR2:=zHd hgr;have HBW:=zHd (zaO (zai (g:=w.heap.size+1+1) HG1.out hgr (by omega)));clear ht hgr
    by_cases hjl:j<l.length
    ·obtain⟨ad,x,hA,hx,hcx⟩:=zgn ((HRL.out.below HBW.out).more HBW.out.size) hjl
     subst hA;have hxn:=HBL.out x (List.mem_of_getElem? hx);have c0:=HT4.out.cell hxn;have c1:=HT4.out.free x;have n4:(j:Int)<(l.length:Int):=by omega
     have n5:IntKind.i64.wrap ((j:Int)+1)=(j:Int)+1:=by rw[IntKind.wrap_i64];omega
     have n6:(0:Int)≤(x:Int):=by omega
     have n7:(x:Int)<(m.states.length:Int):=by omega
     have HT5:=zHd ((HT4.out.set (x:=x) (j:Int)).congr (f':=numP l (j+1)) (fun y hy=>zBo HND.out hx y));have HG5:=zHd (World.grownBy.trans HGR2.out (zac wr ⟨w.heap.size+1+1,x,none⟩ (.int .i64 (j:Int))));clear hx;go_wp2
     go_roundw
     case rel=>exact⟨j+1,by go_num,by omega,HT5.out,HG5.out⟩
     case measure=>simp[intOf];omega
    ·have n4:¬ (j:Int)<(l.length:Int):=by omega
     have HT6:=zHd (HT4.out.congr (fun x hx=>zDV (by omega) x));have HB1b:=zHd ((HGR2.out.block _ HB1a.out.lt (by simp;omega)).trans HB1a.out);have HB2b:=zHd ((HGR2.out.block _ HB2a.out.lt (by simp)).trans HB2a.out);obtain⟨y0,y1,y2,y3⟩:=zao.cells HB1b.out;have hst:=HM.out.wf.start;have c0:=HT6.out.cell (x:=m.start.toNat) (by omega);generalize wr=w5 at *;go_upto_region 12 with(fail)
     have d0:w5.drew.cell? ⟨w.heap.size,0,none⟩=some (.int .i64 m.kind):=y0;have d1:w5.drew.cell? ⟨w.heap.size,1,none⟩=some (.int .i64 m.start):=y1;have d2:w5.drew.cell? ⟨w.heap.size,2,none⟩=some (.string m.lead):=y2;have d3:w5.drew.cell? ⟨w.heap.size+1+1,m.start.toNat,none⟩=some (.int .i64 (numF l m.start.toNat)):=c0;have q0:=World.new_ne w5 _ y0;have q1:=World.new_ne w5 _ c0;obtain⟨mk,hmk,hmg,hms,hmh⟩:=zBr (n:=l.length) (by omega);have HMG:=zHd hmg;have HMH:=zHd hmh;have p0:=(hmg w5.drew).cell d0 (by simp);have p1:=(hmg w5.drew).cell d1 (by simp);have p2:=(hmg w5.drew).cell d2 (by simp);have p3:=(hmg w5.drew).cell d3 (by simp);have hal:w5.drew.grownBy (w5.alloc (.cells #[.int .i64 0,.int .i64 0,.string ⟨#[]⟩,.slice none 0 0] 31)).drew none:=zGA w5.drew _ none;have hbn:zao (mk (w5.alloc (.cells #[.int .i64 0,.int .i64 0,.string ⟨#[]⟩,.slice none 0 0] 31)).drew) w5.heap.size zaP (.slice none 0 0):=(zao.new w5.drew zaP (.slice none 0 0)).grown (hmg (w5.alloc (.cells #[.int .i64 0,.int .i64 0,.string ⟨#[]⟩,.slice none 0 0] 31)).drew);have HBN:=zHd hbn;obtain⟨t0,t1,t2,t3⟩:=hbn.cells;have f0:=hbn.free 0;have f1:=hbn.free 1;have f2:=hbn.free 2;have f3:=hbn.free 3;simp only[zaP] at t0 t1 t2;have hmg2:=zaa hal (hmg (w5.alloc (.cells #[.int .i64 0,.int .i64 0,.string ⟨#[]⟩,.slice none 0 0] 31)).drew);have r0:=hmg2.cell d0 (by simp);have r1:=hmg2.cell d1 (by simp);have r2:=hmg2.cell d2 (by simp);have r3:=hmg2.cell d3 (by simp);have q2:=World.new_ne (mk w5.drew) _ p0;have q3:=World.new_ne (mk w5.drew) _ p3;clear hmg hmh hal hmg2 hbn
     go_cut [9] from 39 to 51 (fun b wx=>∃ g r:Nat,b = .pointer (some ⟨g,0,none⟩)∧w5.grownBy wx none∧g≠r∧w5.heap.size≤g∧w5.heap.size≤r∧zao wx g ⟨m.kind,numF l m.start.toNat,m.lead,[]⟩ (.slice (some ⟨r,0,none⟩) l.length l.length)∧wx.heap[r]? = some (.cells ((List.replicate l.length (st0,Value.slice none 0 0)).flatMap stC).toArray 57 (0,0)))
     case first =>
      go_region_held3 (fun W'=>W'.cell? ⟨w.heap.size,0,none⟩=some (.int .i64 m.kind)∧W'.cell? ⟨w.heap.size,1,none⟩=some (.int .i64 m.start)∧W'.cell? ⟨w.heap.size,2,none⟩=some (.string m.lead)∧W'.cell? ⟨w.heap.size+1+1,m.start.toNat,none⟩=some (.int .i64 (numF l m.start.toNat))) (go_keep) (fail)
      ·go_wp2_with (fail)
       go_meet
       case rel =>
        have hga:=zGA (mk w5.drew) (.cells #[.int .i64 m.kind,.int .i64 (numF l m.start.toNat),.string m.lead,.slice (some ⟨w5.heap.size,0,none⟩) l.length l.length] 31) none;have hsz:(mk w5.drew).heap.size=w5.heap.size+1:=hms w5.drew;have hbn:=zao.new (mk w5.drew) ⟨m.kind,numF l m.start.toNat,m.lead,[]⟩ (.slice (some ⟨w5.heap.size,0,none⟩) l.length l.length);rw[hsz] at hbn;exact⟨w5.heap.size+1,w5.heap.size,rfl,zaa (zaa (zae w5 none) (HMG.out w5.drew)) hga,by omega,by omega,by omega,hbn,(hga.block w5.heap.size (by omega) (by simp)).trans (HMH.out w5.drew)⟩
      ·go_wp2_with (fail)
       go_meet
       case rel =>
        obtain⟨hbf,hgf⟩:=zfM (n:=⟨m.kind,numF l m.start.toNat,m.lead,[]⟩) (v := .slice (some ⟨w5.heap.size+1,0,none⟩) l.length l.length) HBN.out;have hsz:=hms (w5.alloc (.cells #[.int .i64 0,.int .i64 0,.string ⟨#[]⟩,.slice none 0 0] 31)).drew;have hsz2:(w5.alloc (.cells #[.int .i64 0,.int .i64 0,.string ⟨#[]⟩,.slice none 0 0] 31)).drew.heap.size=w5.heap.size+1:=by simp
        have hrw:=HMH.out (w5.alloc (.cells #[.int .i64 0,.int .i64 0,.string ⟨#[]⟩,.slice none 0 0] 31)).drew;rw[hsz2] at hsz hrw;exact⟨w5.heap.size,w5.heap.size+1,rfl,zai (g:=w5.heap.size) (zaa (zaa (zGA w5 _ none) (zae _ none)) (HMG.out _)) hgf (by omega),by omega,by omega,by omega,hbf,(hgf.block _ (by omega) (by simp)).trans hrw⟩
     case rest =>
      obtain⟨g,r,rfl,hgc,hgr,hg0,hr0,hbox,hrow⟩:=hcut;have hro:=zcb.start hrow;rw[show List.replicate l.length (⟨ByteArray.empty,[]⟩:zah)=ssR m l 0 from(zDW m l).symm] at hro;have hw5:w.heap.size+1+1<w5.heap.size:=HT6.out.lt;have hgw:=zai (g:=w.heap.size+1+1) HG1.out HGR2.out (by omega);have HI0:Hid (OInv w wc wc wc.heap.size r (ssR m l 0) (List.replicate l.length (.slice none 0 0))):=zHd ⟨hro,fun _ _ _=>rfl,zaO (zaa hgw hgc),by omega⟩;have HBX:=zHd hbox;have HB1c:=zHd (zao.grown HB1b.out hgc);have HB2c:=zHd (zao.grown HB2b.out hgc);have HT7:=zHd (HT6.out.kept hgc (by simp));have hgC:=hbox.lt;have hsC:=hgc.size;have hrC:=hro.hr;clear hgc hbox hrow hro hgw y0 y1 y2 y3 c0 hmk hms HMG HMH HBN d0 d1 d2 d3 q0 q1 q2 q3 p0 p1 p2 p3 r0 r1 r2 r3 t0 t1 t2 t3 f0 f1 f2 f3;go_wp2
      go_loopw [54] (fun i wr=>∃ (k:Nat) (us':List Value),i = .int .i64 k∧k≤l.length∧OInv w wc wr wc.heap.size r (ssR m l k) us') (fun i _=>l.length - (intOf i).toNat)
      case atStart=>exact⟨0,_,rfl,by omega,HI0.out⟩
      case round =>
       obtain⟨k,us',rfl,hk,hinv⟩:=hrel;have HINV:=zHd hinv;have HB1d:=zHd ((hinv.kp w.heap.size (by omega) (by omega)).trans HB1c.out);have HBXd:=zHd ((hinv.kp g hgC hgr).trans HBX.out);have HB2d:=zHd ((hinv.kp (w.heap.size+1) (by omega) (by omega)).trans HB2c.out)
       by_cases hlt3:k<l.length
       ·obtain⟨ad,x,hA,hx,hcx⟩:=zgn ((HRL.out.below hinv.bel).more hinv.bel.size) hlt3
        subst hA;have hxn:=HBL.out x (List.mem_of_getElem? hx);obtain⟨ad2,s,Br,cb,hA2,hs,hu,hc,hra⟩:=(HS.out.below hinv.bel).at_ hxn;subst hA2;obtain⟨z0,z1⟩:=hc
        have hadb:ad2.block<w.heap.size:=by
         obtain⟨ad',e,hb',_⟩:=HS.out.row.2 (by omega);cases e;exact hb'
        have hsg:=zlx (m:=m) (s:=st0) hlt3;rw[← zqH hlt3] at hsg;obtain⟨x',hux,w0,w1,hfree,_⟩:=hinv.rows.at_ hsg;have n10:(k:Int)<(l.length:Int):=by omega
        have n11:IntKind.i64.wrap ((k:Int)+1)=(k:Int)+1:=by rw[IntKind.wrap_i64];omega
        have n12:(0:Int)≤(k:Int):=by omega
        have n13:(0:Int)≤(x:Int):=by omega
        have n14:(x:Int)<(m.states.length:Int):=by omega
        obtain⟨_,_,_,y3⟩:=zao.cells HB1d.out;obtain⟨_,_,_,b3⟩:=zao.cells HBXd.out;have f0:=hfree (k * 2);have hset:=hinv.set_fin hsg s.fin;rw[zqH hlt3,zwc hlt3] at hset;have HI1:=zHd hset;have HSS:=zHd hs;have HU:=zHd hu;have HX:=zHd hx;have hal:=HM.out.a s (List.mem_of_getElem? hs);simp only[st0] at w0;clear hinv hx hs hu hra hset hsg hux hfree w1;go_upto_region 16 with(fail);have d1:g≠r:=hgr;have d2:w.heap.size≠r:=by omega
        have d3:(ad2.add (x * 2)).block≠r:=by rw[zff];omega
        have d4:ad2.block≠r:=by omega
        have hgs:=zac wr ⟨r,k * 2,none⟩ (.string s.fin);have e3:(wr.setCell ⟨r,k * 2,none⟩ (.string s.fin)).drew.cell? ⟨g,3,none⟩=some (.slice (some ⟨r,0,none⟩) l.length l.length):=hgs.cell b3 (by simp;omega);have e4:(wr.setCell ⟨r,k * 2,none⟩ (.string s.fin)).drew.cell? ⟨w.heap.size,3,none⟩=some (.slice (some ad2) m.states.length cap):=hgs.cell y3 (by simp;omega);have e5:(wr.setCell ⟨r,k * 2,none⟩ (.string s.fin)).drew.cell? (ad2.add (x * 2))=some (.string s.fin):=hgs.cell z0 (by rw[zff];simp;omega)
        go_region_held3 (fun W'=>W'.cell? ⟨g,3,none⟩=some (.slice (some ⟨r,0,none⟩) l.length l.length)∧W'.cell? ⟨w.heap.size,3,none⟩=some (.slice (some ad2) m.states.length cap)∧W'.cell? (ad2.add (x * 2))=some (.string s.fin)) (go_keep) (fail)
        clear y3 b3 w0 z0 z1 f0;clear e3 e4 e5 hgs d3 d4;have HI2:=zHd (HI1.out.next (zae _ none));generalize hWa:(wr.setCell ⟨r,k * 2,none⟩ (.string s.fin)).drew=Wa at *;clear hWa HINV HB1d HBXd HB2d HI1;have hb1:=(HI2.out.kp w.heap.size (by omega) (by omega)).trans HB1c.out;obtain⟨_,_,_,y3⟩:=zao.cells hb1;obtain⟨ad3,s3,Br3,cb3,hA3,hs3,hu3,hc3,_⟩:=(HS.out.below HI2.out.bel).at_ hxn;cases hA3;rw[HSS.out] at hs3;cases hs3;rw[HU.out] at hu3;cases hu3;obtain⟨z0,z1⟩:=hc3;clear hb1;go_wp2;clear y3 z0 z1;generalize Wa=wa at *
        go_loopw [77] (fun i wr=>∃ (j:Nat) (us':List Value),i = .int .i64 j∧j≤s.arcs.length∧OInv w wc wr wc.heap.size r (ssP m l k ⟨s.fin,zdx l s.arcs j⟩) us') (fun i _=>s.arcs.length - (intOf i).toNat)
        case atStart=>exact⟨0,_,rfl,by omega,HI2.out⟩
        case round =>
         obtain⟨j,us2,rfl,hj,hinv⟩:=hrel;have HINV:=zHd hinv;clear hinv
         by_cases hjl:j<s.arcs.length
         ·obtain⟨ad5,a,hBr,hab,haj,hat⟩:=zit ((HS.out.below HINV.out.bel).arcs_at HSS.out HU.out) hjl
          subst hBr;obtain⟨z0,z1,z2,z3⟩:=hat;have harc:=HM.out.wf.arcs s (List.mem_of_getElem? HSS.out) a (List.mem_of_getElem? haj);obtain⟨y,hy⟩:∃ y:Nat,a.t=(y:Int):=⟨a.t.toNat,by omega⟩;have hyn:y<m.states.length:=by omega
          have hyt:a.t.toNat=y:=by omega
          have c0:=TabI.cell (show TabI wr (w.heap.size+1+1) m.states.length (numF l) from(HINV.out.kp _ (by omega) (by omega)).trans HT7.out) hyn;rw[hy] at z3;have n15:(j:Int)<(s.arcs.length:Int):=by omega
          have n16:IntKind.i64.wrap ((j:Int)+1)=(j:Int)+1:=by rw[IntKind.wrap_i64];omega
          have n17:(0:Int)≤(y:Int):=by omega
          have n18:(y:Int)<(m.states.length:Int):=by omega
          have HAJ:=zHd haj;have HY:=zHd hy;have HYT:=zHd hyt;clear haj harc hy hyt
          by_cases hyl:y∈l
          ·have hnum:numF l y=(l.idxOf y:Int):=by unfold numF;rw[if_pos hyl]
           rw[hnum] at c0;have n19:¬ ((l.idxOf y:Int)<0):=by omega
           have c0b:=(zGA wr (.cells #[.int .i64 a.i,.int .i64 a.o,.string a.w,.int .i64 (y:Int)] 59) none).cell c0 (by simp);have hkeep:zcv l a=some ⟨a.i,a.o,a.w,(l.idxOf y:Int)⟩:=by unfold zcv;rw[HYT.out,if_pos hyl]
           have HK:=zHd (zyg HAJ.out hkeep);have hga:=zGA wr (.cells #[.int .i64 a.i,.int .i64 a.o,.string a.w,.int .i64 (l.idxOf y:Int)] 59) none;have hi4:=HINV.out.next hga;have HI4:=zHd hi4;obtain⟨vy,hvy,_,c3,hfr,hown⟩:=hi4.rows.at_ (zlx (m:=m) (s:=⟨s.fin,zdx l s.arcs j⟩) hlt3);have HVY:=zHd hvy;have HOWN:=zHd hown;obtain⟨_,_,_,c1⟩:=zao.cells ((hi4.kp g hgC hgr).trans HBX.out);have HC1:=zHd c1;have HC3:=zHd c3;have HF3:=zHd (hfr (k * 2+1));have HAR:=zHd (zvU wr ⟨a.i,a.o,a.w,(l.idxOf y:Int)⟩);have hCr:=HINV.out.rows.hC;have hlo:=fun b (e:vy.ownBlock=some b)=>(hown.lt b e).1;obtain⟨vx,hvx,_,_,_,hownx⟩:=HINV.out.rows.at_ (zlx (m:=m) (s:=⟨s.fin,zdx l s.arcs j⟩) hlt3);rw[hvy] at hvx;cases hvx;have N1:some g≠vy.ownBlock:=fun e=>by have:=hlo _ e.symm;omega
           have N2:some wr.heap.size≠vy.ownBlock:=fun e=>by have:=(hownx.lt _ e.symm).2;omega
           have N3:some r≠vy.ownBlock:=fun e=>by have:=hlo _ e.symm;omega
           have HN1:=zHd N1;have HN2:=zHd N2;have HN3:=zHd N3;have hql:=zBq l s.arcs j;have hsz4:(wr.alloc (.cells #[.int .i64 a.i,.int .i64 a.o,.string a.w,.int .i64 (l.idxOf y:Int)] 59)).heap.size=wr.heap.size+1:=by simp
           obtain⟨i1,hj1,hy0,hy1,hy2⟩:=zci zDQ;clear hnum hkeep hi4 hvy hown hownx c1 c3 hfr N1 N2 N3 hlo hga hyl;go_upto_region 22 with(fail);generalize hW3:wr.alloc (.cells #[.int .i64 a.i,.int .i64 a.o,.string a.w,.int .i64 (l.idxOf y:Int)] 59)=W3 at *;clear hW3 z0 z1 z2 z3 c0 c0b;have HSZ4:=zHd hsz4;have hle4:wc.heap.size≤W3.heap.size:=by omega
           clear hsz4;have c1:=HC1.out;have c3:=HC3.out;have f3:=HF3.out;have hA:=HAR.out;obtain⟨a0,a1,a2,a3⟩:=hA;simp only[Nat.zero_add] at a1 a2 a3;have N1:=HN1.out;have N2:=HN2.out;have N3:=HN3.out;have q1:=World.new_ne W3 _ c1;have q2:=World.new_ne W3 _ a0;have q3:=World.new_ne W3 _ c3;refine zmT (e:=14) (n:=14) (fun W'=>W'.cell? ⟨g,3,none⟩=some (.slice (some ⟨r,0,none⟩) l.length l.length)∧W'.cell? ⟨wr.heap.size,0,none⟩=some (.int .i64 a.i)∧W'.cell? ⟨wr.heap.size,1,none⟩=some (.int .i64 a.o)∧W'.cell? ⟨wr.heap.size,2,none⟩=some (.string a.w)∧W'.cell? ⟨wr.heap.size,3,none⟩=some (.int .i64 (l.idxOf y:Int))∧W'.cell? ⟨r,k * 2+1,none⟩=some vy) (by kernel_rfl) (by kernel_rfl) rfl ?_;have hS0:(fun W':World=>W'.cell? ⟨g,3,none⟩=some (.slice (some ⟨r,0,none⟩) l.length l.length)∧W'.cell? ⟨wr.heap.size,0,none⟩=some (.int .i64 a.i)∧W'.cell? ⟨wr.heap.size,1,none⟩=some (.int .i64 a.o)∧W'.cell? ⟨wr.heap.size,2,none⟩=some (.string a.w)∧W'.cell? ⟨wr.heap.size,3,none⟩=some (.int .i64 (l.idxOf y:Int))∧W'.cell? ⟨r,k * 2+1,none⟩=some vy) W3.drew:=⟨c1,a0,a1,a2,a3,c3⟩;refine zTk 0 (.pointer (some ⟨g,3,none⟩)) rfl hS0 ?_
           (try simp only[Act.put,List.setIfInBounds_toArray,List.set_cons_zero,List.set_cons_succ])
           refine zTk 1 (.slice (some ⟨r,0,none⟩) l.length l.length) rfl hS0 ?_
           (try simp only[Act.put,List.setIfInBounds_toArray,List.set_cons_zero,List.set_cons_succ])
           refine zTk 2 (.int .i64 (k:Int)) rfl hS0 ?_
           (try simp only[Act.put,List.setIfInBounds_toArray,List.set_cons_zero,List.set_cons_succ])
           refine zTk 3 (.pointer (some ⟨g,3,none⟩)) rfl hS0 ?_
           (try simp only[Act.put,List.setIfInBounds_toArray,List.set_cons_zero,List.set_cons_succ])
           refine zTk 4 (.slice (some ⟨r,0,none⟩) l.length l.length) rfl hS0 ?_
           (try simp only[Act.put,List.setIfInBounds_toArray,List.set_cons_zero,List.set_cons_succ])
           refine zTk 5 (.int .i64 (k:Int)) rfl hS0 ?_
           (try simp only[Act.put,List.setIfInBounds_toArray,List.set_cons_zero,List.set_cons_succ])
           refine zTk 6 (.pointer (some ⟨r,k * 2,none⟩)) rfl hS0 ?_
           (try simp only[Act.put,List.setIfInBounds_toArray,List.set_cons_zero,List.set_cons_succ])
           refine zTk 7 (.pointer (some ⟨r,k * 2+1,none⟩)) rfl hS0 ?_
           (try simp only[Act.put,List.setIfInBounds_toArray,List.set_cons_zero,List.set_cons_succ])
           refine zTk 8 (vy) rfl hS0 ?_
           (try simp only[Act.put,List.setIfInBounds_toArray,List.set_cons_zero,List.set_cons_succ])
           refine zTk 9 (.agg #[.int .i64 a.i,.int .i64 a.o,.string a.w,.int .i64 (l.idxOf y:Int)]) rfl hS0 ?_
           (try simp only[Act.put,List.setIfInBounds_toArray,List.set_cons_zero,List.set_cons_succ])
           refine wpAnyH_ready (rs:=[10]) (by kernel_rfl) (by simp) ?_;refine AllReadyH.cons rfl (fun K hK => ?_) AllReadyH.nil
           go_simp
           refine hK.out _ _ ⟨zdw c1,zdw a0,zdw a1,zdw a2,zdw a3,zdw c3⟩ (fun hHeld => ?_);refine wpAnyH_ready (rs:=[11]) (by kernel_rfl) (by simp) ?_;refine AllReadyH.cons rfl (fun K hK => ?_) AllReadyH.nil;refine step_append_lies _ (by rfl) _ _ _ (by rfl) wc.heap.size 59 i1 (.agg #[.int .i64 0,.int .i64 0,.string ByteArray.empty,.int .i64 0]) 4 40 Tryz.underlying55 hj1 hy0 hy1 hy2 rfl (by omega) vy (zdx l s.arcs j).length ((zdx l s.arcs j).flatMap arcC) (by rfl) ((HOWN.out.alloc _).drew) ⟨W3.heap.size,0,none⟩ 1 1 [.int .i64 a.i,.int .i64 a.o,.string a.w,.int .i64 (l.idxOf y:Int)] (by rfl) (by rfl) (World.news_of_block (cs:=#[.int .i64 a.i,.int .i64 a.o,.string a.w,.int .i64 (l.idxOf y:Int)]) (t:=59) (fr:=(0,0)) (heap_alloc_new W3 _)) (by simp[Value.oneCell']) (by omega) (by unfold maxLen;omega) (by omega) (by simp;omega) (W3.heap.size+1) (by simp) ?_;intro gg cc w6 hown6 hgrow hat hlt6;refine hK.out _ _ ⟨zcl c1 hgrow N1,zcl a0 hgrow N2,zcl a1 hgrow N2,zcl a2 hgrow N2,zcl a3 hgrow N2,zcl c3 hgrow N3⟩ (fun hHeld => ?_);have s4:=zqB (a:=⟨r,k * 2+1,none⟩) (by show r<W3.heap.size;omega) f3 hgrow N3;have s3:=zcl c3 hgrow N3;refine zTk 12 (.pointer (some ⟨r,k * 2,none⟩)) rfl hHeld ?_
           (try simp only[Act.put,List.setIfInBounds_toArray,List.set_cons_zero,List.set_cons_succ])
           refine zTk 13 (.pointer (some ⟨r,k * 2+1,none⟩)) rfl hHeld ?_
           (try simp only[Act.put,List.setIfInBounds_toArray,List.set_cons_zero,List.set_cons_succ])
           refine wpAnyH_done (by kernel_rfl) ?_ _;refine zeg (by rfl) (fun K hK => ?_)
           go_simp
           refine hK _ _ ?_;have hX:W3.grownBy (W3.alloc (.cells #[.int .i64 a.i,.int .i64 a.o,.string a.w,.int .i64 (l.idxOf y:Int)] 59)).drew none:=zaa (zGA _ _ _) (zae _ _);have hr7:=(HI4.out.next hX).push (a:=⟨a.i,a.o,a.w,(l.idxOf y:Int)⟩) (zlx hlt3) HVY.out hown6 hgrow (by first|exact hat|(simp;exact hat)|simpa using hat);rw[zwc hlt3] at hr7;simp only[] at hr7;rw[← HK.out] at hr7;have HR7:=zHd hr7;clear hX hr7 hown6 hgrow hat s3 s4 c1 c3 f3 q1 q2 q3 N1 N2 N3;go_wp2
           go_roundw
           case rel=>exact⟨j+1,_,by go_num,by omega,HR7.out⟩
           case measure=>simp[intOf];omega
          ·have hnum:numF l y = -1:=by unfold numF;rw[if_neg hyl]
           rw[hnum] at c0;have hkeep:zcv l a=none:=by unfold zcv;rw[HYT.out,if_neg hyl]
           have he:=zyf HAJ.out hkeep;have c0b:=(zGA wr (.cells #[.int .i64 a.i,.int .i64 a.o,.string a.w,.int .i64 (y:Int)] 59) none).cell c0 (by simp);have hga:=zGA wr (.cells #[.int .i64 a.i,.int .i64 a.o,.string a.w,.int .i64 (y:Int)] 59) none;have hi4:=HINV.out.next hga;rw[← he] at hi4;have HI4:=zHd hi4;clear hnum hkeep he hga hi4;go_wp2
           go_roundw
           case rel=>exact⟨j+1,us2,by go_num,by omega,HI4.out⟩
           case measure=>simp[intOf];omega
         ·have n15:¬ (j:Int)<(s.arcs.length:Int):=by omega
          have hinv:=HINV.out;rw[zBp (by omega),show(⟨s.fin,s.arcs.filterMap (zcv l)⟩:zah)=zhl l (stOf m x) by rw[zfK HSS.out];rfl,zDX HX.out] at hinv;have HI5:=zHd hinv;clear hinv;go_wp2
          go_roundw
          case rel=>exact⟨k+1,us2,by go_num,by omega,HI5.out⟩
          case measure=>simp[intOf];omega
       ·have n10:¬ (k:Int)<(l.length:Int):=by omega
        rw[zFP (by omega)] at hinv;have hlr:(zaH m l).states.length=l.length:=by simp[zaH]
        obtain⟨r0,r1,r2,r3⟩:=zao.cells HBXd.out;obtain⟨v0,v1,v2,v3⟩:=zao.cells HB2d.out;simp only[zaP] at v0 v1 v2;have f0:=zao.free HB2d.out 0;have f1:=zao.free HB2d.out 1;have f2:=zao.free HB2d.out 2;have f3:=zao.free HB2d.out 3;obtain⟨hbf,hgf⟩:=zfM (n:=⟨m.kind,numF l m.start.toNat,m.lead,[]⟩) (v := .slice (some ⟨r,0,none⟩) l.length l.length) HB2d.out;have HGF:=zHd (zai (g:=w.heap.size+1) (zaI hinv.bel) hgf (by omega));have hsl:=(hinv.rows.other hgf (by omega) (by omega)).stN (cap:=l.length) (B:=w.heap.size) (by omega) (by omega);rw[hlr] at hsl;have HSL:=zHd hsl;obtain⟨c0,c1,c2,c3⟩:=hbf.cells;have hst:numF l m.start.toNat=(l.idxOf m.start.toNat:Int):=by unfold numF;rw[if_pos HS0.out]
        have HST:=zHd hst;clear hbf hgf hsl hinv hst;go_wp2_with fail;generalize (((wr.setCell ⟨w.heap.size+1,0,none⟩ (.int .i64 m.kind)).setCell ⟨w.heap.size+1,1,none⟩ (.int .i64 (numF l m.start.toNat))).setCell ⟨w.heap.size+1,2,none⟩ (.string m.lead)).setCell ⟨w.heap.size+1,3,none⟩ (.slice (some ⟨r,0,none⟩) l.length l.length)=WW at *;exact bodyPost_ret (v := .agg #[.int .i64 m.kind,.int .i64 (numF l m.start.toNat),.string m.lead,.slice (some ⟨r,0,none⟩) l.length l.length]) (by simp[results,Tryz.results147,go_sem,c0,c1,c2,c3]) rfl ⟨_,rfl,⟨_,by rw[HST.out];rfl,HSL.out⟩,HGF.out⟩
end Go.Proofs.YtaogepcaoogpgaaGreatDoor
