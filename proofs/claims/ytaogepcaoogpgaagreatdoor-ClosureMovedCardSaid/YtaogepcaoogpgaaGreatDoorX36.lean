/- WB6 -/
import Derived.Test.YtaogepcaoogpgaaGreatDoorX33
set_option linter.unusedVariables false
set_option linter.unusedSimpArgs false
set_option maxRecDepth 100000
set_option maxHeartbeats 16000000
namespace Go.Proofs.YtaogepcaoogpgaaGreatDoor
open Go.RowKit
structure Grid (W:World)(g:Nat)(vs:List Value)(rows:Nat→List Value):Prop where
 row:W.heap[g]? = some (.cells vs.toArray 33 (0,0))
 own:∀ (i:Nat) (v:Value),vs[i]? = some v→W.ownsRow (g+1) 9 1 v (rows i).length (rows i)
 dis:∀ (i j:Nat) (v v':Value),i≠j→vs[i]? = some v→vs[j]? = some v'→v.ownBlock=none∨v.ownBlock≠v'.ownBlock
theorem Grid.lt {W:World}{g:Nat}{vs:List Value}{rows:Nat→List Value}(h:Grid W g vs rows):g<W.heap.size:=(Array.getElem?_eq_some_iff.1 h.row).1
theorem Grid.next {W W':World}{g:Nat}{vs:List Value}{rows:Nat→List Value}(h:Grid W g vs rows)(hg:W.grownBy W' none):Grid W' g vs rows :=
 ⟨(hg.block g h.lt (by simp)).trans h.row,fun i v hv=>(h.own i v hv).kept hg (by cases e:v.ownBlock <;> simp),h.dis⟩
theorem Grid.other {W W':World}{g b:Nat}{vs:List Value}{rows:Nat→List Value}(h:Grid W g vs rows)(hg:W.grownBy W' (some b))(hb:b<g):Grid W' g vs rows :=
 ⟨(hg.block g h.lt (by simp;omega)).trans h.row,fun i v hv=>(h.own i v hv).kept hg (by
   cases e:v.ownBlock with
   | none=>exact .inl rfl
   | some c=>exact .inr (by have:=((h.own i v hv).lt c e).1;intro e2;cases e2;omega)),h.dis⟩
theorem Grid.cell {W:World}{g i:Nat}{vs:List Value}{rows:Nat→List Value}(h:Grid W g vs rows){v:Value}(hv:vs[i]? = some v):W.cell? ⟨g,i,none⟩=some v:=by
 rw[cell_of_row W g i _ _ (0,0) h.row,List.getElem?_toArray];exact hv
theorem Grid.put {W W':World}{g i:Nat}{vs:List Value}{rows:Nat→List Value}{v v':Value}{l:List Value}(h:Grid W g vs rows)(hv:vs[i]? = some v)(hg:W.grownBy W' v.ownBlock)
  (hown:W'.ownsRow (g+1) 9 1 v' l.length l) (hat:∀ c,v'.ownBlock=some c→v.ownBlock=some c∨W.heap.size≤c) :
  Grid (W'.setCell ⟨g,i,none⟩ v') g (vs.set i v') (fun x=>if x=i then l else rows x):=by
 have hlt:=h.lt;have hi:=(List.getElem?_eq_some_iff.1 hv).1;have hne:some g≠v.ownBlock:=fun e=>by have:=((h.own i v hv).lt g e.symm).1;omega
 have hrow:W'.heap[g]? = some (.cells vs.toArray 33 (0,0)):=(hg.block g hlt hne).trans h.row
 have hfar:∀ (u:Value) (l':List Value),W'.ownsRow (g+1) 9 1 u l'.length l'→(W'.setCell ⟨g,i,none⟩ v').ownsRow (g+1) 9 1 u l'.length l':=fun u l' ho=>ho.kept (zac W' ⟨g,i,none⟩ v') (by
  cases e:u.ownBlock with
  | none=>exact .inl rfl
  | some c=>exact .inr (by have:=(ho.lt c e).1;show some c≠some g;intro e2;cases e2;omega))
 refine⟨?_,fun x u hx => ?_,fun x y u u' hxy hx hy => ?_⟩
 ·rw[heap_setCell_same W' g i _ _ _ hrow]
  simp
 ·by_cases e:x=i
  ·subst e
   rw[List.getElem?_set_self hi] at hx;cases hx;rw[if_pos rfl];exact hfar _ _ hown
  ·rw[List.getElem?_set_ne (Ne.symm e)] at hx
   rw[if_neg e];refine hfar _ _ ((h.own x u hx).kept hg ?_);exact h.dis x i u v e hx hv
 ·by_cases ex:x=i
  ·subst ex
   rw[List.getElem?_set_self hi] at hx;rw[List.getElem?_set_ne hxy] at hy;cases hx;cases ev:v'.ownBlock with
   | none=>exact .inl rfl
   | some c =>
    refine .inr (fun e2 => ?_);have h2:=(h.own y u' hy).lt c e2.symm;rcases hat c ev with h3|h3
    ·rcases h.dis x y v u' hxy hv hy with h4|h4
     ·rw[h4] at h3;cases h3
     ·exact h4 (h3.trans e2)
    ·omega
  ·rw[List.getElem?_set_ne (Ne.symm ex)] at hx
   by_cases ey:y=i
   ·subst ey
    rw[List.getElem?_set_self hi] at hy;cases hy;cases eu:u.ownBlock with
    | none=>exact .inl rfl
    | some c =>
     refine .inr (fun e2 => ?_);have h2:=(h.own x u hx).lt c eu;rcases hat c e2.symm with h3|h3
     ·rcases h.dis x y u v hxy hx hv with h4|h4
      ·rw[h4] at eu;cases eu
      ·exact h4 (eu.trans h3.symm)
     ·omega
   ·rw[List.getElem?_set_ne (Ne.symm ey)] at hy
    exact h.dis x y u u' hxy hx hy
theorem Grid.made {w w1:World}{n:Nat}(h:zas 33 (.slice none 0 0) n [] w w1):Grid w1 w.heap.size (List.replicate n (.slice none 0 0)) (fun _=>[]):=by
 have hr:=h.row;simp only[List.nil_append,List.length_nil,Nat.sub_zero] at hr;refine⟨hr,fun i v hv => ?_,fun i j v v' _ hv _ => .inl ?_⟩
 ·obtain⟨h1,rfl⟩:=List.getElem?_eq_some_iff.1 hv
  rw[List.getElem_replicate];exact World.ownsRow_nil _ _ _ _
 ·obtain⟨h1,rfl⟩:=List.getElem?_eq_some_iff.1 hv
  rw[List.getElem_replicate]
  rfl
def cntR (n i j x:Nat):Nat:=if x<i then n else if x=i then j else 0
def zbs (n:Nat)(G:Nat→Nat→ByteArray)(i j x:Nat):List Value:=(List.range (cntR n i j x)).map (fun y => .string (G x y))
theorem zfd (n:Nat)(G:Nat→Nat→ByteArray)(i j x:Nat):(zbs n G i j x).length=cntR n i j x:=by simp[zbs]
def putG (G:Nat→Nat→ByteArray)(i j:Nat)(s:ByteArray)(x y:Nat):ByteArray:=if x=i∧y=j then s else G x y
theorem zCn {n i j:Nat}{G:Nat→Nat→ByteArray}{s:ByteArray}(hj:j<n):(fun x=>if x=i then zbs n G i j i++[.string s] else zbs n G i j x)=zbs n (putG G i j s) i (j+1):=by
 funext x
 by_cases e:x=i
 ·subst e
  rw[if_pos rfl];unfold zbs cntR;rw[if_neg (Nat.lt_irrefl _),if_pos rfl,if_neg (Nat.lt_irrefl _),if_pos rfl,List.range_succ,List.map_append]
  congr 1
  ·refine List.map_congr_left (fun y hy => ?_)
   have:=List.mem_range.1 hy;unfold putG;rw[if_neg (by omega)]
  ·simp[putG]
 ·rw[if_neg e]
  unfold zbs;have hc:cntR n i j x=cntR n i (j+1) x:=by unfold cntR;rw[if_neg e,if_neg e]
  rw[hc];refine List.map_congr_left (fun y hy => ?_);unfold putG;rw[if_neg (by omega)]
theorem zmV (n i x:Nat):cntR n i n x=cntR n (i+1) 0 x:=by
 unfold cntR
 by_cases h:x<i
 ·rw[if_pos h,if_pos (by omega)]
 ·rw[if_neg h]
  by_cases e:x=i
  ·rw[if_pos e,if_pos (by omega)]
  ·rw[if_neg e,if_neg (by omega)]
   split <;> rfl
theorem zyS (n:Nat)(G:Nat→Nat→ByteArray)(i:Nat):zbs n G i n=zbs n G (i+1) 0:=by
 funext x
 unfold zbs;rw[zmV]
theorem zis (n:Nat)(G:Nat→Nat→ByteArray):zbs n G 0 0=fun _=>[]:=by
 funext x
 unfold zbs cntR;rw[if_neg (by omega)]
 split <;> rfl
theorem zev {n x j:Nat}(hx:x<n):cntR n n j x=n:=by unfold cntR;rw[if_pos hx]
def RowN (w:World)(b:Nat)(v:Value)(n:Nat)(L:Nat→Value):Prop :=
 ∃ A cap,v = .slice A n cap∧n≤cap∧cap≤maxLen∧∀ j,j<n→∃ ad,A=some ad∧ad.block<w.heap.size∧ad.block≠b∧w.cell? (ad.add j)=some (L j)
theorem RowN.grown {w w':World}{b:Nat}{v:Value}{n:Nat}{L:Nat→Value}(h:RowN w b v n L)(hg:w.grownBy w' (some b)):RowN w' b v n L:=by
 obtain⟨A,cap,rfl,h1,h2,h3⟩:=h;refine⟨A,cap,rfl,h1,h2,fun j hj => ?_⟩;obtain⟨ad,rfl,hb,hne,hc⟩:=h3 j hj;exact⟨ad,rfl,Nat.lt_of_lt_of_le hb hg.size,hne,(zaq (ad:=ad.add j) (by rw[zaj];exact hg.block ad.block hb (by simpa using hne))).trans hc⟩
theorem RowN.of {w:World}{b:Nat}{v:Value}{n:Nat}{L:Nat→Value}(h:RowR w v n L)(hb:w.heap.size≤b):RowN w b v n L:=by
 obtain⟨A,cap,rfl,h1,h2,h3⟩:=h;refine⟨A,cap,rfl,h1,h2,fun j hj => ?_⟩;obtain⟨ad,rfl,hl,hc⟩:=h3 j hj;exact⟨ad,rfl,hl,by omega,hc⟩
theorem RowN.row {w:World}{b:Nat}{v:Value}{n:Nat}{L:Nat→Value}(h:RowN w b v n L):RowR w v n L:=by
 obtain⟨A,cap,rfl,h1,h2,h3⟩:=h;refine⟨A,cap,rfl,h1,h2,fun j hj => ?_⟩;obtain⟨ad,rfl,hl,_,hc⟩:=h3 j hj;exact⟨ad,rfl,hl,hc⟩
def MatN (w:World)(b:Nat)(v:Value)(n:Nat)(G:Nat→Nat→ByteArray):Prop :=
 ∃ rs:Nat→Value,RowN w b v n rs∧∀ i,i<n→RowN w b (rs i) n (fun j => .string (G i j))
theorem MatN.grown {w w':World}{b:Nat}{v:Value}{n:Nat}{G:Nat→Nat→ByteArray}(h:MatN w b v n G)(hg:w.grownBy w' (some b)):MatN w' b v n G:=by
 obtain⟨rs,h1,h2⟩:=h;exact⟨rs,h1.grown hg,fun i hi=>(h2 i hi).grown hg⟩
theorem MatN.of {w:World}{b:Nat}{v:Value}{n:Nat}{G:Nat→Nat→ByteArray}(h:MatA w v n (fun _=>n) G)(hb:w.heap.size≤b):MatN w b v n G:=by
 obtain⟨rs,h1,h2⟩:=h;exact⟨rs,.of h1 hb,fun i hi => .of (h2 i hi) hb⟩
theorem MatN.mat {w:World}{b:Nat}{v:Value}{n:Nat}{G:Nat→Nat→ByteArray}(h:MatN w b v n G):MatA w v n (fun _=>n) G:=by
 obtain⟨rs,h1,h2⟩:=h;exact⟨rs,h1.row,fun i hi=>(h2 i hi).row⟩
theorem MatN.shape {w:World}{b:Nat}{v:Value}{n:Nat}{G:Nat→Nat→ByteArray}(h:MatN w b v n G):∃ A c,v = .slice A n c:=by
 obtain⟨rs,⟨A,c,e,_⟩,_⟩:=h;exact⟨A,c,e⟩
theorem MatN.at_ {w:World}{b:Nat}{A:Option Addr}{c:Nat}{n:Nat}{G:Nat→Nat→ByteArray}(h:MatN w b (.slice A n c) n G){i j:Nat}(hi:i<n)(hj:j<n) :
  ∃ ad rd ci,A=some ad∧w.cell? (ad.add i)=some (.slice (some rd) n ci)∧w.cell? (rd.add j)=some (.string (G i j))∧ad.block≠b∧rd.block≠b∧ad.block<w.heap.size∧rd.block<w.heap.size:=by
 obtain⟨rs,⟨A',c',e,_,_,h3⟩,hr⟩:=h;simp only[Value.slice.injEq] at e;obtain⟨rfl,_,rfl⟩:=e;obtain⟨ad,rfl,hl,hne,hc⟩:=h3 i hi;obtain⟨Ai,ci,he,_,_,h4⟩:=hr i hi;obtain⟨rd,rfl,hl2,hne2,hc2⟩:=h4 j hj;rw[he] at hc;exact⟨ad,rd,ci,rfl,hc,hc2,hne,hne2,hl,hl2⟩
theorem Grid.rows {W:World}{g n:Nat}{vs:List Value}{G:Nat→Nat→ByteArray}(h:Grid W g vs (zbs n G n 0))(hn:vs.length=n)(hn2:n≤10000) :
  (∀ j,j<n→W.cell? ⟨g,0+j,none⟩=some (vs.getD j (.slice none 0 0)))∧∀ i,i<n→∃ c cap,vs.getD i (.slice none 0 0) = .slice (some ⟨c,0,none⟩) n cap∧n≤cap∧cap≤maxLen∧g<c∧c<W.heap.size∧∀ j,j<n→W.cell? ((⟨c,0,none⟩:Addr).add j)=some (.string (G i j)):=by
 refine⟨fun j hj => ?_,fun i hi => ?_⟩
 ·rw[Nat.zero_add]
  refine h.cell ?_;rw[List.getD_eq_getElem?_getD,List.getElem?_eq_getElem (by omega)]
  rfl
 ·have hv:vs[i]? = some (vs.getD i (.slice none 0 0)):=by
   rw[List.getD_eq_getElem?_getD,List.getElem?_eq_getElem (by omega)]
   rfl
  have ho:=h.own i _ hv;rw[zfd,zev hi] at ho;rcases ho.2 with⟨he,h0⟩|⟨c,cap,cur,he,hbc,hgc,h1,h2,h3,h4⟩
  ·omega
  ·refine⟨c,cap,he,h1,h2,by omega,(Array.getElem?_eq_some_iff.1 hgc).1,fun j hj => ?_⟩
   exact ho.cells (g:=c) (by rw[he];rfl) j (.string (G i j)) (by
    unfold zbs;rw[List.getElem?_map,List.getElem?_range (by rw[zev hi];exact hj)]
    rfl)
theorem Grid.mat {W:World}{g b n:Nat}{vs:List Value}{G:Nat→Nat→ByteArray}(h:Grid W g vs (zbs n G n 0))(hn:vs.length=n)(hn2:n≤10000)(hb:b<g):MatN W b (.slice (some ⟨g,0,none⟩) n n) n G:=by
 obtain⟨h1,h2⟩:=h.rows hn hn2;refine⟨fun i=>vs.getD i (.slice none 0 0),⟨_,_,rfl,Nat.le_refl _,by unfold maxLen;omega,fun j hj=>⟨_,rfl,h.lt,by show g≠b;omega,by rw[zbF];exact h1 j hj⟩⟩,fun i hi => ?_⟩;obtain⟨c,cap,he,e1,e2,e3,e4,e5⟩:=h2 i hi;exact⟨_,_,he,e1,e2,fun j hj=>⟨_,rfl,e4,by show c≠b;omega,e5 j hj⟩⟩
theorem Grid.matA {W:World}{g n:Nat}{vs:List Value}{G:Nat→Nat→ByteArray}(h:Grid W g vs (zbs n G n 0))(hn:vs.length=n)(hn2:n≤10000):MatA W (.slice (some ⟨g,0,none⟩) n n) n (fun _=>n) G:=by
 obtain⟨h1,h2⟩:=h.rows hn hn2;refine⟨fun i=>vs.getD i (.slice none 0 0),⟨_,_,rfl,Nat.le_refl _,by unfold maxLen;omega,fun j hj=>⟨_,rfl,h.lt,by rw[zbF];exact h1 j hj⟩⟩,fun i hi => ?_⟩;obtain⟨c,cap,he,e1,e2,e3,e4,e5⟩:=h2 i hi;exact⟨_,_,he,e1,e2,fun j hj=>⟨_,rfl,e4,e5 j hj⟩⟩
open Go.RowKit
def zlO (k:Int)(sb:Nat)(bad:Bool)(w:World):Prop:=w.heap[sb]? = some (.cells #[.int .i64 k,.bool bad] 45 (0,0))
theorem zlO.lt {k:Int}{sb:Nat}{bad:Bool}{w:World}(h:zlO k sb bad w):sb<w.heap.size:=(Array.getElem?_eq_some_iff.1 h).1
theorem zlO.kept {k:Int}{sb:Nat}{bad:Bool}{w w':World}(h:zlO k sb bad w)(hg:w.grownBy w' none):zlO k sb bad w':=(hg.block sb h.lt (by simp)).trans h
structure zaW (r:Option Nat)(n:Nat)(w:World)(g i j:Nat)(vs:List Value)(G:Nat→Nat→ByteArray)(wr:World):Prop where
 len:vs.length=n
 grid:Grid wr g vs (zbs n G i j)
 gr:w.grownBy wr r
 far:w.heap.size≤g
 low:∀ b,r=some b→b<w.heap.size
theorem zaW.kept {r:Option Nat}{n:Nat}{w:World}{g i j:Nat}{vs:List Value}{G:Nat→Nat→ByteArray}{wr w2:World}(h:zaW r n w g i j vs G wr)(hg:wr.grownBy w2 r):zaW r n w g i j vs G w2:=by
 refine⟨h.len,?_,zaa h.gr hg,h.far,h.low⟩;cases r with
 | none=>exact h.grid.next hg
 | some b=>exact h.grid.other hg (by have:=h.low b rfl;have:=h.far;omega)
theorem zaW.row {r:Option Nat}{n:Nat}{w:World}{g i:Nat}{vs:List Value}{G:Nat→Nat→ByteArray}{wr:World}(h:zaW r n w g i n vs G wr):zaW r n w g (i+1) 0 vs G wr :=
 ⟨h.len,by rw[← zyS];exact h.grid,h.gr,h.far,h.low⟩
theorem zaW.at_ {r:Option Nat}{n:Nat}{w:World}{g i j:Nat}{vs:List Value}{G:Nat→Nat→ByteArray}{wr:World}(h:zaW r n w g i j vs G wr)(hi:i<n) :
  ∃ v,vs[i]? = some v∧wr.cell? ⟨g,i,none⟩=some v∧wr.ownsRow (g+1) 9 1 v j (zbs n G i j i)∧v.ownBlock≠some g∧∃ A c,v = .slice A j c:=by
 have hv:vs[i]? = some (vs[i]'(by rw[h.len];exact hi)):=List.getElem?_eq_getElem (by rw[h.len];exact hi);have ho:=h.grid.own i _ hv;have hc:cntR n i j i=j:=by unfold cntR;rw[if_neg (Nat.lt_irrefl _),if_pos rfl]
 rw[zfd,hc] at ho;refine⟨_,hv,h.grid.cell hv,ho,fun e=>by have:=(ho.lt g e).1;omega,?_⟩;rcases ho.2 with⟨e,h0⟩|⟨c,cap,cur,e,_⟩
 ·exact⟨none,0,by rw[e,h0]⟩
 ·exact⟨_,_,e⟩
theorem zaW.ready {r:Option Nat}{n:Nat}{w:World}{g i j:Nat}{vs:List Value}{G:Nat→Nat→ByteArray}{wr W':World}{v:Value}{o:Obj}(h:zaW r n w g i j vs G wr)(hv:vs[i]? = some v)(hg:(wr.alloc o).grownBy W' v.ownBlock) :
  W'.cell? ⟨g,i,none⟩=some v∧W'.frozen? ⟨g,i,none⟩=false:=by
 have hne:some g≠v.ownBlock:=fun e=>by have:=((h.grid.own i v hv).lt g e.symm).1;omega
 have h1:=(zGA wr o none).block g h.grid.lt (by simp);have hb:W'.heap[g]? = wr.heap[g]? := (hg.block g (Nat.lt_of_lt_of_le h.grid.lt (zGA wr o none).size) hne).trans h1;exact⟨(zaq (ad:=⟨g,i,none⟩) hb).trans (h.grid.cell hv),frozen_of_row W' g i _ _ (hb.trans h.grid.row)⟩
theorem zaW.apart {r:Option Nat}{n:Nat}{w:World}{g i j:Nat}{vs:List Value}{G:Nat→Nat→ByteArray}{wr W':World}{v:Value}{o:Obj}(h:zaW r n w g i j vs G wr)(hv:vs[i]? = some v)(hg:(wr.alloc o).grownBy W' v.ownBlock){b:Nat}(hb:b<w.heap.size):W'.heap[b]? = wr.heap[b]? := by
 have hgA:=zGA wr o none;have hlw:=h.gr.size;have hfar:=h.far;have hsz:(wr.alloc o).heap.size=wr.heap.size+1:=by simp
 have e2:W'.heap[b]? = (wr.alloc o).heap[b]? := hg.block b (by omega) (fun e=>by have:=((h.grid.own i v hv).lt b e.symm).1;omega);exact e2.trans (hgA.block b (by omega) (by simp))
theorem zaW.start {r:Option Nat}{n:Nat}{w w1:World}(h:zas 33 (.slice none 0 0) n [] w w1)(hr:∀ b,r=some b→b<w.heap.size):zaW r n w w.heap.size 0 0 (List.replicate n (.slice none 0 0)) (fun _ _=>⟨#[]⟩) w1 :=
 ⟨List.length_replicate ..,by rw[zis];exact Grid.made h,by cases r with
  | none=>exact h.gr
  | some b=>exact zaV h.gr,Nat.le_refl _,hr⟩
theorem zaW.put {r:Option Nat}{n:Nat}{w:World}{g i j g2 cap:Nat}{vs:List Value}{G:Nat→Nat→ByteArray}{wr W':World}{v:Value}{o:Obj}{s:ByteArray}(h:zaW r n w g i j vs G wr)(hi:i<n)(hj:j<n)(hv:vs[i]? = some v)
  (hg:(wr.alloc o).grownBy W' v.ownBlock) (hown:W'.ownsRow (g+1) 9 1 (.slice (some ⟨g2,0,none⟩) (j+1) cap) (j+1) (zbs n G i j i++[.string s])) (hat:v.ownBlock=some g2∨g2=wr.heap.size+1) :
  zaW r n w g i (j+1) (vs.set i (.slice (some ⟨g2,0,none⟩) (j+1) cap)) (putG G i j s) (W'.setCell ⟨g,i,none⟩ (.slice (some ⟨g2,0,none⟩) (j+1) cap)) ∧
   ∀ b,b<w.heap.size→(W'.setCell ⟨g,i,none⟩ (.slice (some ⟨g2,0,none⟩) (j+1) cap)).heap[b]? = wr.heap[b]? := by
 have hgA:=zGA wr o none;have hfar:=h.far;have hlw:=h.gr.size;have hob:∀ c,v.ownBlock=some c→g+1≤c:=fun c e=>((h.grid.own i v hv).lt c e).1
 have hl:(zbs n G i j i++[Value.string s]).length=j+1:=by
  rw[List.length_append,zfd];unfold cntR;rw[if_neg (Nat.lt_irrefl _),if_pos rfl];rfl
 have hsz:(wr.alloc o).heap.size=wr.heap.size+1:=by simp
 refine⟨⟨by rw[List.length_set];exact h.len,?_,?_,h.far,h.low⟩,fun b hb => ?_⟩
 ·have h1:=(h.grid.next hgA).put (l:=zbs n G i j i++[.string s]) (v' := .slice (some ⟨g2,0,none⟩) (j+1) cap) hv hg (by rw[hl];exact hown) (fun c e=>by
   have e2:g2=c:=by simpa [Value.ownBlock] using e
   subst e2;rcases hat with h2|h2
   ·exact .inl h2
   ·exact .inr (by rw[hsz];omega))
  rw[zCn hj] at h1;exact h1
 ·have h1:w.grownBy W' r:=by
   have h0:w.grownBy (wr.alloc o) r:=zaa h.gr (zaV hgA);cases e:v.ownBlock with
   | none=>rw[e] at hg;exact zaa h0 (zaV hg)
   | some c=>rw[e] at hg;exact zai h0 hg (by have:=hob c e;omega)
  exact zai h1 (zac _ _ _) hfar
 ·have e1:(W'.setCell ⟨g,i,none⟩ (.slice (some ⟨g2,0,none⟩) (j+1) cap)).heap[b]? = W'.heap[b]? := heap_setCell_other W' _ b _ (by show b≠g;omega)
  have e2:W'.heap[b]? = (wr.alloc o).heap[b]? := hg.block b (by omega) (fun e=>by have:=hob b e.symm;omega);exact e1.trans (e2.trans (hgA.block b (by omega) (by simp)))
theorem zaW.mat {r:Option Nat}{n sb:Nat}{w:World}{g:Nat}{vs:List Value}{G:Nat→Nat→ByteArray}{wr:World}(h:zaW r n w g n 0 vs G wr)(hn:n≤10000)(hsb:sb<w.heap.size):MatN wr sb (.slice (some ⟨g,0,none⟩) n n) n G :=
 h.grid.mat h.len hn (by have:=h.far;omega)
theorem zaW.matA {r:Option Nat}{n:Nat}{w:World}{g:Nat}{vs:List Value}{G:Nat→Nat→ByteArray}{wr:World}(h:zaW r n w g n 0 vs G wr)(hn:n≤10000):MatA wr (.slice (some ⟨g,0,none⟩) n n) n (fun _=>n) G:=h.grid.matA h.len hn
theorem zaW.any {r:Option Nat}{n:Nat}{w:World}{g:Nat}{vs:List Value}{G:Nat→Nat→ByteArray}{wr:World}(h:zaW r n w g 0 0 vs G wr)(G':Nat→Nat→ByteArray):zaW r n w g 0 0 vs G' wr :=
 ⟨h.len,by rw[zis,← zis n G];exact h.grid,h.gr,h.far,h.low⟩
def Told {k:Int}(bad:Bool)(n i j:Nat)(M:Nat→Nat→El k)(G:Nat→Nat→ByteArray)(b1:Bool):Prop :=
 (∀ x y,y<cntR n i j x→TxOk k (G x y))∧(b1=false→bad=false∧∀ x y,y<cntR n i j x→G x y=tx (M x y)∧FitE (M x y))
theorem Told.next {k:Int}{bad:Bool}{n i:Nat}{M:Nat→Nat→El k}{G:Nat→Nat→ByteArray}{b1:Bool}(h:Told bad n i n M G b1):Told bad n (i+1) 0 M G b1 :=
 ⟨fun x y hy=>h.1 x y (by rw[zmV];exact hy),fun hb=>⟨(h.2 hb).1,fun x y hy=>(h.2 hb).2 x y (by rw[zmV];exact hy)⟩⟩
theorem Told.more {k:Int}{bad:Bool}{n i j:Nat}{M:Nat→Nat→El k}{G:Nat→Nat→ByteArray}{b1 b2:Bool}(h:Told bad n i j M G b1)(hb:b2=false→b1=false):Told bad n i j M G b2:=⟨h.1,fun e=>h.2 (hb e)⟩
theorem zwN {n i j x y:Nat}(h:y<cntR n i (j+1) x)(hne:¬ (x=i∧y=j)):y<cntR n i j x:=by
 unfold cntR at *
 by_cases h1:x<i
 ·rw[if_pos h1] at h ⊢;exact h
 ·rw[if_neg h1] at h ⊢
  by_cases h2:x=i
  ·rw[if_pos h2] at h ⊢;have:y≠j:=fun e=>hne ⟨h2,e⟩;omega
  ·rw[if_neg h2] at h ⊢;exact h
theorem Told.put {k:Int}{bad:Bool}{n i j:Nat}{M:Nat→Nat→El k}{G:Nat→Nat→ByteArray}{b1:Bool}{s:ByteArray}(h:Told bad n i j M G b1)(hs:TxOk k s)(ht:b1=false→s=tx (M i j)∧FitE (M i j)):Told bad n i (j+1) M (putG G i j s) b1:=by
 refine⟨fun x y hy => ?_,fun hb=>⟨(h.2 hb).1,fun x y hy => ?_⟩⟩
 ·unfold putG
  split
  ·exact hs
  ·rename_i e;exact h.1 x y (zwN hy e)
 ·unfold putG
  split
  ·rename_i e;rw[e.1,e.2];exact ht hb
  ·rename_i e;exact(h.2 hb).2 x y (zwN hy e)
theorem Told.start {k:Int}{bad:Bool}{n:Nat}{M:Nat→Nat→El k}{G:Nat→Nat→ByteArray}:Told bad n 0 0 M G bad :=
 ⟨fun x y hy=>by unfold cntR at hy;rw[if_neg (by omega)] at hy;split at hy <;> omega,fun hb=>⟨hb,fun x y hy=>by unfold cntR at hy;rw[if_neg (by omega)] at hy;split at hy <;> omega⟩⟩
def zId {k:Int}(sb n:Nat)(bad:Bool)(M:Nat→Nat→El k)(w:World)(e:Ending)(w':World):Prop :=
 ∃ g vs G b1,e = .returned (.slice (some ⟨g,0,none⟩) n n)∧zaW (some sb) n w g n 0 vs G w'∧zlO k sb b1 w'∧Told bad n n 0 M G b1
def zrK {k:Int}(bad:Bool)(n:Nat)(G:Nat→Nat→ByteArray)(M:Nat→Nat→El k):Prop :=
 (∀ i j,i<n→j<n→TxOk k (G i j))∧(bad=false→∀ i j,i<n→j<n→G i j=tx (M i j)∧FitE (M i j))
theorem Told.tell {k:Int}{bad:Bool}{n:Nat}{M:Nat→Nat→El k}{G:Nat→Nat→ByteArray}{b1:Bool}(h:Told bad n n 0 M G b1):zrK b1 n G M :=
 ⟨fun i j hi hj=>h.1 i j (by rw[zev hi];exact hj),fun hb i j hi hj=>(h.2 hb).2 i j (by rw[zev hi];exact hj)⟩
theorem zrK.more {k:Int}{bad b2:Bool}{n:Nat}{M:Nat→Nat→El k}{G:Nat→Nat→ByteArray}(h:zrK bad n G M)(hb:b2=false→bad=false):zrK b2 n G M:=⟨h.1,fun e=>h.2 (hb e)⟩
end Go.Proofs.YtaogepcaoogpgaaGreatDoor
