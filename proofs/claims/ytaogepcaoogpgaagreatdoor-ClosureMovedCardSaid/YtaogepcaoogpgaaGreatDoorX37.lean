/- WB9 -/
import Derived.Test.YtaogepcaoogpgaaGreatDoorX36
set_option linter.unusedVariables false
set_option linter.unusedSimpArgs false
set_option maxRecDepth 100000
set_option maxHeartbeats 16000000
namespace Go.Proofs.YtaogepcaoogpgaaGreatDoor
open Go.RowKit
theorem zEU {W:World}{B c n cap j:Nat}{T:TypeId}{xs:List Value}(h:W.ownsRow B T 1 (.slice (some ⟨c,0,none⟩) n cap) n xs)(hj:j<n)(u:Value) :
  (W.setCell ⟨c,j,none⟩ u).ownsRow B T 1 (.slice (some ⟨c,0,none⟩) n cap) n (xs.set j u):=by
 refine⟨by rw[List.length_set];exact h.1,?_⟩;rcases h.2 with⟨e,h0⟩|⟨g',cap',cur,e,hb,hg,h1,h2,h3,h4⟩
 ·omega
 ·simp only[Value.slice.injEq,Option.some.injEq,Addr.mk.injEq,and_true,true_and] at e
  obtain⟨rfl,rfl⟩:=e;refine .inr ⟨c,cap,cur.setIfInBounds j u,rfl,hb,heap_setCell_same W c j _ _ u hg,h1,h2,by rw[Array.size_setIfInBounds];exact h3,?_⟩;rw[Array.toList_setIfInBounds,← h4]
  apply List.ext_getElem?
  intro i;simp only[List.getElem?_take,List.getElem?_set,List.length_take]
  by_cases hi:i<n * 1
  ·rw[if_pos hi]
   by_cases e:j=i
   ·rw[if_pos e,if_pos e]
    subst e;have:j<cur.toList.length:=by rw[Array.length_toList];omega
    rw[if_pos this,if_pos (by omega)]
   ·rw[if_neg e,if_neg e,if_pos hi]
  ·rw[if_neg hi,if_neg (by omega),if_neg hi]
theorem zCo {n i j:Nat}{G:Nat→Nat→ByteArray}{s:ByteArray}(hi:i<n)(hj:j<n)(x:Nat):zbs n (putG G i j s) n 0 x=if x=i then (zbs n G n 0 i).set j (.string s) else zbs n G n 0 x:=by
 by_cases e:x=i
 ·subst e
  rw[if_pos rfl];unfold zbs;rw[zev hi]
  apply List.ext_getElem?
  intro y;rw[List.getElem?_set];simp only[List.getElem?_map,List.length_map,List.length_range]
  by_cases hy:y<n
  ·rw[List.getElem?_range hy]
   by_cases e2:j=y
   ·subst e2;rw[if_pos rfl,if_pos hj];simp[putG]
   ·rw[if_neg e2];simp[putG,Ne.symm e2]
  ·rw[List.getElem?_eq_none (by simpa using hy),if_neg (by omega)];rfl
 ·rw[if_neg e]
  unfold zbs;refine List.map_congr_left (fun y hy => ?_);unfold putG;rw[if_neg (by omega)]
theorem zaW.get {r:Option Nat}{n:Nat}{w:World}{g i j:Nat}{vs:List Value}{G:Nat→Nat→ByteArray}{wr:World}(h:zaW r n w g n 0 vs G wr)(hi:i<n)(hj:j<n) :
  ∃ c cap,vs[i]? = some (.slice (some ⟨c,0,none⟩) n cap)∧wr.cell? ⟨g,i,none⟩=some (.slice (some ⟨c,0,none⟩) n cap)∧wr.cell? ⟨c,j,none⟩=some (.string (G i j))∧wr.frozen? ⟨c,j,none⟩=false∧g<c∧c<wr.heap.size:=by
 have hv:vs[i]? = some (vs[i]'(by rw[h.len];exact hi)):=List.getElem?_eq_getElem (by rw[h.len];exact hi);have ho:=h.grid.own i _ hv;rw[zfd,zev hi] at ho;have hc0:=h.grid.cell hv;rcases ho.2 with⟨e,h0⟩|⟨c,cap,cur,e,hb,hg,h1,h2,h3,h4⟩
 ·omega
 ·have hc:=ho.cells (g:=c) (by rw[e];rfl) j (.string (G i j)) (by
   unfold zbs;rw[List.getElem?_map,List.getElem?_range (by rw[zev hi];exact hj)]
   rfl)
  rw[zbF,Nat.zero_add] at hc;rw[e] at hv hc0;exact⟨c,cap,hv,hc0,hc,frozen_of_row wr c j _ _ hg,by omega,(Array.getElem?_eq_some_iff.1 hg).1⟩
theorem zaW.set {r:Option Nat}{n:Nat}{w:World}{g i j c cap:Nat}{vs:List Value}{G:Nat→Nat→ByteArray}{wr:World}{s:ByteArray}(h:zaW r n w g n 0 vs G wr)(hi:i<n)(hj:j<n)(hv:vs[i]? = some (.slice (some ⟨c,0,none⟩) n cap)) :
  zaW r n w g n 0 vs (putG G i j s) (wr.setCell ⟨c,j,none⟩ (.string s)):=by
 have ho:=h.grid.own i _ hv;rw[zfd,zev hi] at ho;have hc:=(ho.lt c rfl).1;have hfar:=h.far;have gs:=zac wr ⟨c,j,none⟩ (.string s);refine⟨h.len,⟨(gs.block g h.grid.lt (by show some g≠some c;intro e;cases e;omega)).trans h.grid.row,fun x u hx => ?_,h.grid.dis⟩,zai h.gr gs (by show w.heap.size≤c;omega),h.far,h.low⟩;rw[zCo hi hj x]
 by_cases e:x=i
 ·subst e
  rw[hv] at hx;cases hx;rw[if_pos rfl,List.length_set,zfd,zev hi];exact zEU ho hj _
 ·rw[if_neg e]
  refine(h.grid.own x u hx).kept gs ?_;have:=h.grid.dis x i u _ e hx hv;rcases this with h1|h1
  ·exact .inl h1
  ·exact .inr h1
end Go.Proofs.YtaogepcaoogpgaaGreatDoor
