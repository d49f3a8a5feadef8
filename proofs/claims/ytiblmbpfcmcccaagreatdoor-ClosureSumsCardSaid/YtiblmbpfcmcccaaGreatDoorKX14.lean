/- Part. -/
import Derived.Test.YtiblmbpfcmcccaaGreatDoorTie
import Derived.Test.YtiblmbpfcmcccaaGreatDoorCards
import Derived.Deep.DeepHandedRow
import Derived.Test.YtiblmbpfcmcccaaGreatDoorKX13
set_option linter.unusedVariables false
set_option linter.defProp false
set_option linter.unusedSimpArgs false
set_option maxRecDepth 100000
set_option maxHeartbeats 16000000
namespace Go.Proofs.YtiblmbpfcmcccaaGreatDoor
open Go.Proofs.Tryz
open Go.ChangeShapes Go.WideShapes Go.ChangeAt Go.RowKit Go.Lib
def own:ownKnob prog.godebug=none:=by kernel_rfl
def putCells (cs:Array Value):Obj->Obj
 | .cells _ t frozen=>.cells cs t frozen
 | o=>o
mutual
def zxw:DataW Unit->List Value
 | .lit (.int k n)=>[.int k n]
 | .agg parts=>zzU parts
 | _=>[]
def zzU:List (DataW Unit)->List Value
 | []=>[]
 | d::r=>zxw d++zzU r
end
noncomputable def laidWorld (os:Os):World :=
 { World.holding prog os ⟨#[],#[],[]⟩ with heap:=((World.holding prog os ⟨#[],#[],[]⟩).heap.modify 3 (putCells (zxw Rows.laid_unicode_utf8_first).toArray)).modify 4 (putCells (zxw Rows.laid_unicode_utf8_acceptRanges).toArray) }
def zCi {H:Type}{enc:TypeId×Value->H}{P:Program}{f:Func}{s:ChangeSpec}{apart fresh handsOn:Bool}{W W':World}{args:Array Value}{v:Value}{ds gs:List (DataW H)}{before pa pv:List MemPlace}
  (hW:DataW.Whole enc P f.params.toList s.vars apart W args.toList ds gs before)
  (hres:∀ (b:Nat) (sp:Nat->Bool) (hd:Bool),DataW.TrodAll enc P W' b sp hd f.resultTypes.toList (v.resultList f.resultTypes.size) (s.fn H (ds++gs)).results [])
  (hargs:DataW.TrodAll enc P W' 0 (fun b=>decide (b<W.heap.size)) true f.params.toList args.toList (s.fn H (ds++gs)).args pa)
  (hvars:DataW.TrodVars enc P W' (fun b=>decide (b<W.heap.size)) s.vars (s.fn H (ds++gs)).vars pv)
  (hb:Below W.heap.size W W'):s.post enc P f apart fresh handsOn false W args v W' :=
 ⟨ds,gs,before,[],pa,pv,hW,hres _ _ _,hargs,hvars,hb.frame _,fun h=>by cases h⟩
open Go.ChangeShapes Go.WideShapes Go.ChangeAt Go.RowKit Go.Lib
def zCj {H:Type}{enc:TypeId×Value->H}{W W':World}{t:TypeId}{v:Value}{d:DataW H}{p:List MemPlace}(hr:prog.readableRec t=true)(zW:t<prog.types.size)
  (h:DataW.Trod enc prog W 0 (fun _=>true) true t v d p) (hb:Below W.heap.size W W') (hlt:∀ x∈p,x.block<W.heap.size) :
  DataW.Trod enc prog W' 0 (fun b=>decide (b<W.heap.size)) true t v d p:=Below.trod (by kernel_rfl) hr zW h hb hlt
open Go.RowKit
def e3 (x:Rat)(h:decide (0<=x)=true):El 3:=⟨.inr x,by show(decide ((3:Int)=1) || ((decide ((3:Int)=2) || decide ((3:Int)=3))&&decide (0<=x)))=true;rw[h];rfl⟩
def K2:Nat->Nat->El 2:=fun _ _=>e2 1 (by decide +kernel)
open Go.RowKit
def zbh {w w':World}(o:Option Nat)(h:w.grownBy w' none):w.grownBy w' o:=⟨h.os,h.tape,h.output,h.size,fun i hi _=>h.block i hi (by simp)⟩
def zKY {w:World}{b:Nat}{u0 u1 v:Value}{T:TypeId}(h:w.heap[b]?=some (.cells #[u0,u1] T (0,0))):(w.setCell ⟨b,1,none⟩ v).heap[b]?=some (.cells #[u0,v] T (0,0)):=by
 rw[heap_setCell_same w b 1 _ _ v h];rfl
open Go.RowKit
def zJc {α:Type}(S:Sr α)(A:Nat->Nat->α)(n i j:Nat):stM S (fun a b=>A b a) n i j=stM S A n j i:=by
 unfold stM;rw[zfm];congr 1;unfold idm
 by_cases h:i=j
 subst h;rfl;rw[if_neg h,if_neg (fun e=>h e.symm)]
def zMb {k:Int}(hk:zad k)(l:List zah)(ld:ByteArray){s0 i:Nat}(hs:s0<l.length):frE hk l ld s0 i=(srE k hk).mul (vE hk ld) (stM (srE k hk) (arcM hk l) l.length s0 i):=by
 unfold frE zbN
 have e:∀ m,m<l.length->(srE k hk).mul (stM (srE k hk) (fun x y=>arcM hk l y x) l.length i m) (leadM hk ld s0 m)=(srE k hk).mul (idm (srE k hk) s0 m) ((srE k hk).mul (vE hk ld) (stM (srE k hk) (arcM hk l) l.length m i)):=fun m _=>by
  rw[zJc];unfold leadM idm
  by_cases h:m=s0
  ·subst h
   rw[if_pos rfl,if_pos rfl,(srE k hk).one_mul,(srE k hk).mul_comm]
  rw[if_neg h,if_neg (fun e=>h e.symm),(srE k hk).mul_zero,(srE k hk).zero_mul]
 rw[zat (srE k hk) e];exact zmu (srE k hk) (fun m=>(srE k hk).mul (vE hk ld) (stM (srE k hk) (arcM hk l) l.length m i)) hs
open Go.RowKit
def zKZ {w:World}{b o:Nat}{v:Value}(h:w.cell? ⟨b,o,none⟩=some v):b<w.heap.size:=by
 by_cases hb:b<w.heap.size
 exact hb;exfalso;unfold World.cell? at h;simp[Array.getElem?_eq_none (by omega:w.heap.size<=b)] at h
def zkG {w w':World}{b:Nat}(h:w.grownBy w' (some b))(hb:w.heap.size<=b):w.grownBy w' none:=⟨h.os,h.tape,h.output,h.size,fun i hi _=>h.block i hi (by simp;omega)⟩
open Go.RowKit
structure zeC (W:World)(g:Nat)(vs:List Value)(rows:Nat->List Value):Prop where
 row:W.heap[g]?=some (.cells vs.toArray 27 (0,0))
 own:∀ (i:Nat) (v:Value),vs[i]?=some v->W.ownsRow (g+1) 9 1 v (rows i).length (rows i)
 dis:∀ (i j:Nat) (v v':Value),i≠j->vs[i]?=some v->vs[j]?=some v'->v.ownBlock=none∨v.ownBlock≠v'.ownBlock
def zeC.lt {W:World}{g:Nat}{vs:List Value}{rows:Nat->List Value}(h:zeC W g vs rows):g<W.heap.size:=(zqad.1 h.row).1
def zeC.next {W W':World}{g:Nat}{vs:List Value}{rows:Nat->List Value}(h:zeC W g vs rows)(hg:W.grownBy W' none):zeC W' g vs rows :=
 ⟨(hg.block g h.lt (by simp)).trans h.row,fun i v hv=>(h.own i v hv).kept hg (by cases e:v.ownBlock <;> simp),h.dis⟩
def zeC.other {W W':World}{g b:Nat}{vs:List Value}{rows:Nat->List Value}(h:zeC W g vs rows)(hg:W.grownBy W' (some b))(hb:b<g):zeC W' g vs rows :=
 ⟨(hg.block g h.lt (by simp;omega)).trans h.row,fun i v hv=>(h.own i v hv).kept hg (by
   cases e:v.ownBlock with
   | none=>exact .inl rfl
   | some c=>exact .inr (by have:=((h.own i v hv).lt c e).1;intro e2;cases e2;omega)),h.dis⟩
def zeC.cell {W:World}{g i:Nat}{vs:List Value}{rows:Nat->List Value}(h:zeC W g vs rows){v:Value}(hv:vs[i]?=some v):W.cell? ⟨g,i,none⟩=some v:=by
 rw[zqbw W g i _ _ (0,0) h.row,zqap];exact hv
def zeC.put {W W':World}{g i:Nat}{vs:List Value}{rows:Nat->List Value}{v v':Value}{l:List Value}(h:zeC W g vs rows)(hv:vs[i]?=some v)(hg:W.grownBy W' v.ownBlock)
  (zO:W'.ownsRow (g+1) 9 1 v' l.length l) (hat:∀ c,v'.ownBlock=some c->v.ownBlock=some c∨W.heap.size<=c) :
  zeC (W'.setCell ⟨g,i,none⟩ v') g (vs.set i v') (fun x=>if x=i then l else rows x):=by
 have hlt:=h.lt;have hi:=(zqae.1 hv).1;have hne:some g≠v.ownBlock:=fun e=>by have:=((h.own i v hv).lt g e.symm).1;omega
 have zW:W'.heap[g]?=some (.cells vs.toArray 27 (0,0)):=(hg.block g hlt hne).trans h.row
 have hfar:∀ (u:Value) (l':List Value),W'.ownsRow (g+1) 9 1 u l'.length l'->(W'.setCell ⟨g,i,none⟩ v').ownsRow (g+1) 9 1 u l'.length l':=fun u l' ho=>ho.kept (zac W' ⟨g,i,none⟩ v') (by
  cases e:u.ownBlock with
  | none=>exact .inl rfl
  | some c=>exact .inr (by have:=(ho.lt c e).1;show some c≠some g;intro e2;cases e2;omega))
 refine⟨?_,fun x u hx=>?_,fun x y u u' hxy hx hy=>?_⟩
 ·rw[heap_setCell_same W' g i _ _ _ zW]
  simp
 ·by_cases e:x=i
  ·subst e
   rw[zqbi hi] at hx;cases hx;rw[if_pos rfl];exact hfar _ _ zO
  rw[zqbl (Ne.symm e)] at hx;rw[if_neg e];refine hfar _ _ ((h.own x u hx).kept hg ?_);exact h.dis x i u v e hx hv
 by_cases ex:x=i
 ·subst ex
  rw[zqbi hi] at hx;rw[zqbl hxy] at hy;cases hx;cases ev:v'.ownBlock with
  | none=>exact .inl rfl
  | some c =>
   refine .inr (fun e2=>?_);have h2:=(h.own y u' hy).lt c e2.symm;rcases hat c ev with h3|h3
   ·rcases h.dis x y v u' hxy hv hy with h4|h4
    ·rw[h4] at h3;cases h3
    exact h4 (h3.trans e2)
   omega
 rw[zqbl (Ne.symm ex)] at hx
 by_cases ey:y=i
 ·subst ey
  rw[zqbi hi] at hy;cases hy;cases eu:u.ownBlock with
  | none=>exact .inl rfl
  | some c =>
   refine .inr (fun e2=>?_);have h2:=(h.own x u hx).lt c eu;rcases hat c e2.symm with h3|h3
   ·rcases h.dis x y u v hxy hx hv with h4|h4
    ·rw[h4] at eu;cases eu
    exact h4 (eu.trans h3.symm)
   omega
 rw[zqbl (Ne.symm ey)] at hy;exact h.dis x y u u' hxy hx hy
def zeC.made {w w1:World}{n:Nat}(h:zaD 27 (.slice none 0 0) n [] w w1):zeC w1 w.heap.size (List.replicate n (.slice none 0 0)) (fun _=>[]):=by
 have hr:=h.row;simp only[List.nil_append,List.length_nil,Nat.sub_zero] at hr;refine⟨hr,fun i v hv=>?_,fun i j v v' _ hv _=>.inl ?_⟩
 ·obtain⟨h1,rfl⟩:=zqae.1 hv
  rw[List.getElem_replicate];exact World.ownsRow_nil _ _ _ _
 obtain⟨h1,rfl⟩:=zqae.1 hv;rw[List.getElem_replicate];rfl
def zgD (n i j x:Nat):Nat:=if x<i then n else if x=i then j else 0
def zbz (n:Nat)(G:Nat->Nat->ByteArray)(i j x:Nat):List Value:=(List.range (zgD n i j x)).map (fun y=>.string (G x y))
def zet (n:Nat)(G:Nat->Nat->ByteArray)(i j x:Nat):(zbz n G i j x).length=zgD n i j x:=by simp[zbz]
def zec (G:Nat->Nat->ByteArray)(i j:Nat)(s:ByteArray)(x y:Nat):ByteArray:=if x=i/\y=j then s else G x y
def zFT {n i j:Nat}{G:Nat->Nat->ByteArray}{s:ByteArray}(hj:j<n):(fun x=>if x=i then zbz n G i j i++[.string s] else zbz n G i j x)=zbz n (zec G i j s) i (j+1):=by
 funext x
 by_cases e:x=i
 ·subst e
  rw[if_pos rfl];unfold zbz zgD;rw[if_neg (Nat.lt_irrefl _),if_pos rfl,if_neg (Nat.lt_irrefl _),if_pos rfl,List.range_succ,List.map_append];congr 1
  ·refine List.map_congr_left (fun y hy=>?_)
   have:=List.mem_range.1 hy;unfold zec;rw[if_neg (by omega)]
  simp[zec]
 rw[if_neg e];unfold zbz;have hc:zgD n i j x=zgD n i (j+1) x:=by unfold zgD;rw[if_neg e,if_neg e]
 rw[hc];exact zQbR
def zJd (n i x:Nat):zgD n i n x=zgD n (i+1) 0 x:=by
 unfold zgD
 by_cases h:x<i
 rw[if_pos h,if_pos (by omega)];rw[if_neg h]
 by_cases e:x=i
 rw[if_pos e,if_pos (by omega)];rw[if_neg e,if_neg (by omega)];split <;> rfl
def zCk (n:Nat)(G:Nat->Nat->ByteArray)(i:Nat):zbz n G i n=zbz n G (i+1) 0:=by
 funext x;unfold zbz;rw[zJd]
def zkH (n:Nat)(G:Nat->Nat->ByteArray):zbz n G 0 0=fun _=>[]:=by
 funext x;unfold zbz zgD;rw[if_neg (by omega)];split <;> rfl
def zek {n x j:Nat}(hx:x<n):zgD n n j x=n:=by unfold zgD;rw[if_pos hx]
def RowN (w:World)(b:Nat)(v:Value)(n:Nat)(L:Nat->Value):Prop :=
 ∃ A cap,v=.slice A n cap/\n<=cap/\cap<=maxLen/\∀ j,j<n->∃ ad,A=some ad/\ad.block<w.heap.size/\ad.block≠b/\w.cell? (ad.add j)=some (L j)
def zpQ (w:World)(b:Nat)(v:Value)(n:Nat)(G:Nat->Nat->ByteArray):Prop :=
 ∃ rs:Nat->Value,RowN w b v n rs/\∀ i,i<n->RowN w b (rs i) n (fun j=>.string (G i j))
def zpQ.shape {w:World}{b:Nat}{v:Value}{n:Nat}{G:Nat->Nat->ByteArray}(h:zpQ w b v n G):∃ A c,v=.slice A n c:=by
 obtain⟨rs,⟨A,c,e,_⟩,_⟩:=h;exact⟨A,c,e⟩
def zeC.rows {W:World}{g n:Nat}{vs:List Value}{G:Nat->Nat->ByteArray}(h:zeC W g vs (zbz n G n 0))(hn:vs.length=n)(hn2:n<=10000) :
  (∀ j,j<n->W.cell? ⟨g,0+j,none⟩=some (vs.getD j (.slice none 0 0)))/\∀ i,i<n->∃ c cap,vs.getD i (.slice none 0 0)=.slice (some ⟨c,0,none⟩) n cap/\n<=cap/\cap<=maxLen/\g<c/\c<W.heap.size/\∀ j,j<n->W.cell? ((⟨c,0,none⟩:Addr).add j)=some (.string (G i j)):=by
 refine⟨fun j hj=>?_,fun i hi=>?_⟩
 ·rw[zqat]
  refine h.cell ?_;rw[zqaa,zqac (by omega)];rfl
 have hv:vs[i]?=some (vs.getD i (.slice none 0 0)):=by
  rw[zqaa,zqac (by omega)];rfl
 have ho:=h.own i _ hv;rw[zet,zek hi] at ho;rcases ho.2 with⟨he,h0⟩|⟨c,cap,cur,he,hbc,hgc,h1,h2,h3,h4⟩
 omega;refine⟨c,cap,he,h1,h2,by omega,(zqad.1 hgc).1,fun j hj=>?_⟩
 exact ho.cells (g:=c) (by rw[he];rfl) j (.string (G i j)) (by
  unfold zbz;rw[zqaj,zqbe (by rw[zek hi];exact hj)];rfl)
def zeC.mat {W:World}{g b n:Nat}{vs:List Value}{G:Nat->Nat->ByteArray}(h:zeC W g vs (zbz n G n 0))(hn:vs.length=n)(hn2:n<=10000)(hb:b<g):zpQ W b (.slice (some ⟨g,0,none⟩) n n) n G:=by
 obtain⟨h1,h2⟩:=h.rows hn hn2;refine⟨fun i=>vs.getD i (.slice none 0 0),⟨_,_,rfl,zqab _,by unfold maxLen;omega,fun j hj=>⟨_,rfl,h.lt,by show g≠b;omega,by rw[zcn];exact h1 j hj⟩⟩,fun i hi=>?_⟩;obtain⟨c,cap,he,e1,e2,e3,e4,e5⟩:=h2 i hi;exact⟨_,_,he,e1,e2,fun j hj=>⟨_,rfl,e4,by show c≠b;omega,e5 j hj⟩⟩
open Go.RowKit
structure zaR (r:Option Nat)(n:Nat)(w:World)(g i j:Nat)(vs:List Value)(G:Nat->Nat->ByteArray)(wr:World):Prop where
 len:vs.length=n
 grid:zeC wr g vs (zbz n G i j)
 gr:w.grownBy wr r
 far:w.heap.size<=g
 low:∀ b,r=some b->b<w.heap.size
def zaR.kept {r:Option Nat}{n:Nat}{w:World}{g i j:Nat}{vs:List Value}{G:Nat->Nat->ByteArray}{wr w2:World}(h:zaR r n w g i j vs G wr)(hg:wr.grownBy w2 r):zaR r n w g i j vs G w2:=by
 refine⟨h.len,?_,zaa h.gr hg,h.far,h.low⟩;cases r with
 | none=>exact h.grid.next hg
 | some b=>exact h.grid.other hg (by have:=h.low b rfl;have:=h.far;omega)
def zaR.row {r:Option Nat}{n:Nat}{w:World}{g i:Nat}{vs:List Value}{G:Nat->Nat->ByteArray}{wr:World}(h:zaR r n w g i n vs G wr):zaR r n w g (i+1) 0 vs G wr :=
 ⟨h.len,by rw[<- zCk];exact h.grid,h.gr,h.far,h.low⟩
def zaR.at_ {r:Option Nat}{n:Nat}{w:World}{g i j:Nat}{vs:List Value}{G:Nat->Nat->ByteArray}{wr:World}(h:zaR r n w g i j vs G wr)(hi:i<n) :
  ∃ v,vs[i]?=some v/\wr.cell? ⟨g,i,none⟩=some v/\wr.ownsRow (g+1) 9 1 v j (zbz n G i j i)/\v.ownBlock≠some g/\∃ A c,v=.slice A j c:=by
 have hv:vs[i]?=some (vs[i]'(by rw[h.len];exact hi)):=zqac (by rw[h.len];exact hi);have ho:=h.grid.own i _ hv;have hc:zgD n i j i=j:=by unfold zgD;rw[if_neg (Nat.lt_irrefl _),if_pos rfl]
 rw[zet,hc] at ho;refine⟨_,hv,h.grid.cell hv,ho,fun e=>by have:=(ho.lt g e).1;omega,?_⟩;rcases ho.2 with⟨e,h0⟩|⟨c,cap,cur,e,_⟩
 exact⟨none,0,by rw[e,h0]⟩;exact⟨_,_,e⟩
def zaR.ready {r:Option Nat}{n:Nat}{w:World}{g i j:Nat}{vs:List Value}{G:Nat->Nat->ByteArray}{wr W':World}{v:Value}{o:Obj}(h:zaR r n w g i j vs G wr)(hv:vs[i]?=some v)(hg:(wr.alloc o).grownBy W' v.ownBlock) :
  W'.cell? ⟨g,i,none⟩=some v/\W'.frozen? ⟨g,i,none⟩=false:=by
 have hne:some g≠v.ownBlock:=fun e=>by have:=((h.grid.own i v hv).lt g e.symm).1;omega
 have h1:=(zGA wr o none).block g h.grid.lt (by simp);have hb:W'.heap[g]?=wr.heap[g]?:=(hg.block g (zqba h.grid.lt (zGA wr o none).size) hne).trans h1;exact⟨(zaL (ad:=⟨g,i,none⟩) hb).trans (h.grid.cell hv),zqbx W' g i _ _ (hb.trans h.grid.row)⟩
def zaR.start {r:Option Nat}{n:Nat}{w w1:World}(h:zaD 27 (.slice none 0 0) n [] w w1)(hr:∀ b,r=some b->b<w.heap.size):zaR r n w w.heap.size 0 0 (List.replicate n (.slice none 0 0)) (fun _ _=>⟨#[]⟩) w1 :=
 ⟨zqax ..,by rw[zkH];exact zeC.made h,by cases r with
  | none=>exact h.gr
  | some b=>exact zaB h.gr,zqab _,hr⟩
def zaR.put {r:Option Nat}{n:Nat}{w:World}{g i j g2 cap:Nat}{vs:List Value}{G:Nat->Nat->ByteArray}{wr W':World}{v:Value}{o:Obj}{s:ByteArray}(h:zaR r n w g i j vs G wr)(hi:i<n)(hj:j<n)(hv:vs[i]?=some v)
  (hg:(wr.alloc o).grownBy W' v.ownBlock) (zO:W'.ownsRow (g+1) 9 1 (.slice (some ⟨g2,0,none⟩) (j+1) cap) (j+1) (zbz n G i j i++[.string s])) (hat:v.ownBlock=some g2∨g2=wr.heap.size+1) :
  zaR r n w g i (j+1) (vs.set i (.slice (some ⟨g2,0,none⟩) (j+1) cap)) (zec G i j s) (W'.setCell ⟨g,i,none⟩ (.slice (some ⟨g2,0,none⟩) (j+1) cap)) /\
   ∀ b,b<w.heap.size->(W'.setCell ⟨g,i,none⟩ (.slice (some ⟨g2,0,none⟩) (j+1) cap)).heap[b]?=wr.heap[b]?:=by
 have hgA:=zGA wr o none;have hfar:=h.far;have hlw:=h.gr.size;have hob:∀ c,v.ownBlock=some c->g+1<=c:=fun c e=>((h.grid.own i v hv).lt c e).1
 have hl:(zbz n G i j i++[Value.string s]).length=j+1:=by
  rw[zqag,zet];unfold zgD;rw[if_neg (Nat.lt_irrefl _),if_pos rfl];rfl
 have hsz:(wr.alloc o).heap.size=wr.heap.size+1:=by simp
 refine⟨⟨by rw[List.length_set];exact h.len,?_,?_,h.far,h.low⟩,fun b hb=>?_⟩
 ·have h1:=(h.grid.next hgA).put (l:=zbz n G i j i++[.string s]) (v':=.slice (some ⟨g2,0,none⟩) (j+1) cap) hv hg (by rw[hl];exact zO) (fun c e=>by
   have e2:g2=c:=by simpa [Value.ownBlock] using e
   subst e2;rcases hat with h2|h2
   exact .inl h2;exact .inr (by rw[hsz];omega))
  rw[zFT hj] at h1;exact h1
 ·have h1:w.grownBy W' r:=by
   have h0:w.grownBy (wr.alloc o) r:=zaa h.gr (zaB hgA);cases e:v.ownBlock with
   | none=>rw[e] at hg;exact zaa h0 (zaB hg)
   | some c=>rw[e] at hg;exact zak h0 hg (by have:=hob c e;omega)
  exact zak h1 (zac _ _ _) hfar
 have e1:(W'.setCell ⟨g,i,none⟩ (.slice (some ⟨g2,0,none⟩) (j+1) cap)).heap[b]?=W'.heap[b]?:=zqcd W' _ b _ (by show b≠g;omega);have e2:W'.heap[b]?=(wr.alloc o).heap[b]?:=hg.block b (by omega) (fun e=>by have:=hob b e.symm;omega);exact e1.trans (e2.trans (hgA.block b (by omega) (by simp)))
def zaR.mat {r:Option Nat}{n sb:Nat}{w:World}{g:Nat}{vs:List Value}{G:Nat->Nat->ByteArray}{wr:World}(h:zaR r n w g n 0 vs G wr)(hn:n<=10000)(hsb:sb<w.heap.size):zpQ wr sb (.slice (some ⟨g,0,none⟩) n n) n G :=
 h.grid.mat h.len hn (by have:=h.far;omega)
def zaR.any {r:Option Nat}{n:Nat}{w:World}{g:Nat}{vs:List Value}{G:Nat->Nat->ByteArray}{wr:World}(h:zaR r n w g 0 0 vs G wr)(G':Nat->Nat->ByteArray):zaR r n w g 0 0 vs G' wr :=
 ⟨h.len,by rw[zkH,<- zkH n G];exact h.grid,h.gr,h.far,h.low⟩
def zCl (s:ByteArray)(i j:Nat):zec (fun _ _=>s) i j s=fun _ _=>s:=by funext x y;unfold zec;split <;> rfl
open Go.RowKit
def zJe {W:World}{B c n cap j:Nat}{T:TypeId}{xs:List Value}(h:W.ownsRow B T 1 (.slice (some ⟨c,0,none⟩) n cap) n xs)(hj:j<n)(u:Value) :
  (W.setCell ⟨c,j,none⟩ u).ownsRow B T 1 (.slice (some ⟨c,0,none⟩) n cap) n (xs.set j u):=by
 refine⟨by rw[List.length_set];exact h.1,?_⟩;rcases h.2 with⟨e,h0⟩|⟨g',cap',cur,e,hb,hg,h1,h2,h3,h4⟩
 omega;simp only[Value.slice.injEq,Option.some.injEq,Addr.mk.injEq,and_true,true_and] at e;obtain⟨rfl,rfl⟩:=e;refine .inr ⟨c,cap,cur.setIfInBounds j u,rfl,hb,heap_setCell_same W c j _ _ u hg,h1,h2,by rw[Array.size_setIfInBounds];exact h3,?_⟩;rw[Array.toList_setIfInBounds,<- h4];apply List.ext_getElem?;intro i;simp only[List.getElem?_take,List.getElem?_set,zqan]
 by_cases hi:i<n*1
 ·rw[if_pos hi]
  by_cases e:j=i
  ·rw[if_pos e,if_pos e]
   subst e;have:j<cur.toList.length:=by rw[zqbs];omega
   rw[if_pos this,if_pos (by omega)]
  rw[if_neg e,if_neg e,if_pos hi]
 rw[if_neg hi,if_neg (by omega),if_neg hi]
def zFU {n i j:Nat}{G:Nat->Nat->ByteArray}{s:ByteArray}(hi:i<n)(hj:j<n)(x:Nat):zbz n (zec G i j s) n 0 x=if x=i then (zbz n G n 0 i).set j (.string s) else zbz n G n 0 x:=by
 by_cases e:x=i
 ·subst e
  rw[if_pos rfl];unfold zbz;rw[zek hi];apply List.ext_getElem?;intro y;rw[List.getElem?_set];simp only[zqaj,zqbn,List.length_range]
  by_cases hy:y<n
  ·rw[zqbe hy]
   by_cases e2:j=y
   subst e2;rw[if_pos rfl,if_pos hj];simp[zec];rw[if_neg e2];simp[zec,Ne.symm e2]
  rw[zqas (by simpa using hy),if_neg (by omega)];rfl
 rw[if_neg e];unfold zbz;exact zQbR
def zaR.get {r:Option Nat}{n:Nat}{w:World}{g i j:Nat}{vs:List Value}{G:Nat->Nat->ByteArray}{wr:World}(h:zaR r n w g n 0 vs G wr)(hi:i<n)(hj:j<n) :
  ∃ c cap,vs[i]?=some (.slice (some ⟨c,0,none⟩) n cap)/\wr.cell? ⟨g,i,none⟩=some (.slice (some ⟨c,0,none⟩) n cap)/\wr.cell? ⟨c,j,none⟩=some (.string (G i j))/\wr.frozen? ⟨c,j,none⟩=false/\g<c/\c<wr.heap.size:=by
 have hv:vs[i]?=some (vs[i]'(by rw[h.len];exact hi)):=zqac (by rw[h.len];exact hi);have ho:=h.grid.own i _ hv;rw[zet,zek hi] at ho;have hc0:=h.grid.cell hv;rcases ho.2 with⟨e,h0⟩|⟨c,cap,cur,e,hb,hg,h1,h2,h3,h4⟩
 omega
 have hc:=ho.cells (g:=c) (by rw[e];rfl) j (.string (G i j)) (by
  unfold zbz;rw[zqaj,zqbe (by rw[zek hi];exact hj)];rfl)
 rw[zcn,zqat] at hc;rw[e] at hv hc0;exact⟨c,cap,hv,hc0,hc,zqbx wr c j _ _ hg,by omega,(zqad.1 hg).1⟩
def zaR.set {r:Option Nat}{n:Nat}{w:World}{g i j c cap:Nat}{vs:List Value}{G:Nat->Nat->ByteArray}{wr:World}{s:ByteArray}(h:zaR r n w g n 0 vs G wr)(hi:i<n)(hj:j<n)(hv:vs[i]?=some (.slice (some ⟨c,0,none⟩) n cap)) :
  zaR r n w g n 0 vs (zec G i j s) (wr.setCell ⟨c,j,none⟩ (.string s)):=by
 have ho:=h.grid.own i _ hv;rw[zet,zek hi] at ho;have hc:=(ho.lt c rfl).1;have hfar:=h.far;have gs:=zac wr ⟨c,j,none⟩ (.string s);refine⟨h.len,⟨(gs.block g h.grid.lt (by show some g≠some c;intro e;cases e;omega)).trans h.grid.row,fun x u hx=>?_,h.grid.dis⟩,zak h.gr gs (by show w.heap.size<=c;omega),h.far,h.low⟩;rw[zFU hi hj x]
 by_cases e:x=i
 ·subst e
  rw[hv] at hx;cases hx;rw[if_pos rfl,List.length_set,zet,zek hi];exact zJe ho hj _
 rw[if_neg e];refine(h.grid.own x u hx).kept gs ?_;have:=h.grid.dis x i u _ e hx hv;rcases this with h1|h1
 exact .inl h1;exact .inr h1
open Go.RowKit
def zaH (k:Int)(sb:Nat)(bad:Bool)(w:World):Prop:=w.heap[sb]?=some (.cells #[.int .i64 k,.bool bad] 67 (0,0))
def zaH.lt {k:Int}{sb:Nat}{bad:Bool}{w:World}(h:zaH k sb bad w):sb<w.heap.size:=(zqad.1 h).1
def zaH.kept {k:Int}{sb:Nat}{bad:Bool}{w w':World}(h:zaH k sb bad w)(hg:w.grownBy w' none):zaH k sb bad w':=(hg.block sb h.lt (by simp)).trans h
def zbO {k:Int}{w:World}{b:Nat}{bad:Bool}{c:Bool}(h:zaH k b bad w):zaH k b c (w.setCell ⟨b,1,none⟩ (.bool c)):=zKY h
def zdQ (k:Int)(b:Nat)(bad:Bool)(c:ByteArray)(w:World)(hb:zaH k b bad w):Calls prog 63 #[.pointer (some ⟨b,0,none⟩),.string c] w (zab (.string (if bad=true then zag k else c)) w):=by
 have d0:=zqbw w b 0 _ _ (0,0) hb;have d1:=zqbw w b 1 _ _ (0,0) hb;clear hb;go_enter func63,ntmps63;cases bad
 ·go_wp2
  exact zQbP
 go_wp2_with fail;refine(zdt _ _).mono ?_;rintro e w1 ⟨rfl,hg⟩;have HG:=zHd hg;clear hg;go_wp2;exact zQbJ
def zpR {k:Int}(b:Nat)(bad:Bool)(r:El k)(w:World)(e:Ending)(w':World):Prop :=
 ∃ (S:ByteArray) (bad':Bool),e=.returned (.string S)/\w.grownBy w' (some b)/\zaH k b bad' w'/\(bad'=false↔bad=false/\zam r)/\(bad'=false->S=tx r)/\∃ t:El k,zam t/\S=tx t
def ztf {k:Int}(r:El k):∃ (S:ByteArray) (E:Int),zbI r.1=.tuple #[.string S,.int .i64 E]/\(E=0↔zam r)/\(E=0->S=tx r):=by
 by_cases hf:zam r
 exact⟨tx r,0,zgM (zuQ hf),⟨fun _=>hf,fun _=>rfl⟩,fun _=>rfl⟩;exact⟨⟨#[]⟩,2,zlF hf,⟨fun h=>absurd h (by decide),fun h=>absurd h hf⟩,fun h=>absurd h (by decide)⟩
def zkm {k:Int}(hk:zad k)(b:Nat)(bad:Bool)(u v:El k)(fu:zam u)(fv:zam v)(w:World)(hb:zaH k b bad w) :
  Calls prog 35 #[.pointer (some ⟨b,0,none⟩),.string (tx u),.string (tx v)] w (zpR b bad ((srE k hk).add u v) w):=by
 have hop:SOp 62 k (tx u) (tx v) (zbI ((srE k hk).add u v).1):=zEA (zfJ fu) (zfJ fv);obtain⟨S,E,hE,h0,hS⟩:=ztf ((srE k hk).add u v);rw[hE] at hop;have HOP:=zHd hop;have HE:=zHd (zAI h0 hS);have HB:=zHd hb;have HK:=zHd hk;have d0:=zqbw w b 0 _ _ (0,0) hb;have d1:=zqbw w b 1 _ _ (0,0) hb;have z1:=zqbx w b 1 _ _ hb;generalize hr:(srE k hk).add u v=r at *;have HR:=zHd hr;clear hop h0 hS hE hb hr;go_enter func35,ntmps35;go_wp2_with fail;refine(HOP.out w).mono ?_;rintro e w1 ⟨rfl,hg1⟩;have e0:=hg1.cell d0 (by simp);have e1:=hg1.cell d1 (by simp);have hb1:zaH k b bad w1:=zaH.kept HB.out hg1;have y1:=zqbx w1 b 1 _ _ hb1;have HB1:=zHd hb1;have HG:=zHd hg1;clear hb1 hg1 d0 d1 z1;cases bad
 ·by_cases hE0:E=0
  ·subst hE0
   exact zQan
  have t0:(E != 0)=true:=by simpa using hE0
  exact zQal
 exact zQap
def zhy {k:Int}(hk:zad k)(b:Nat)(bad:Bool)(u v:El k)(fu:zam u)(fv:zam v)(w:World)(hb:zaH k b bad w) :
  Calls prog 36 #[.pointer (some ⟨b,0,none⟩),.string (tx u),.string (tx v)] w (zpR b bad ((srE k hk).mul u v) w):=by
 have hop:SOp 64 k (tx u) (tx v) (zbI ((srE k hk).mul u v).1):=zBl (zfJ fu) (zfJ fv);obtain⟨S,E,hE,h0,hS⟩:=ztf ((srE k hk).mul u v);rw[hE] at hop;have HOP:=zHd hop;have HE:=zHd (zAI h0 hS);have HB:=zHd hb;have HK:=zHd hk;have d0:=zqbw w b 0 _ _ (0,0) hb;have d1:=zqbw w b 1 _ _ (0,0) hb;have z1:=zqbx w b 1 _ _ hb;generalize hr:(srE k hk).mul u v=r at *;have HR:=zHd hr;clear hop h0 hS hE hb hr;go_enter func36,ntmps36;go_wp2_with fail;refine(HOP.out w).mono ?_;rintro e w1 ⟨rfl,hg1⟩;have e0:=hg1.cell d0 (by simp);have e1:=hg1.cell d1 (by simp);have hb1:zaH k b bad w1:=zaH.kept HB.out hg1;have y1:=zqbx w1 b 1 _ _ hb1;have HB1:=zHd hb1;have HG:=zHd hg1;clear hb1 hg1 d0 d1 z1;cases bad
 ·by_cases hE0:E=0
  ·subst hE0
   exact zQan
  have t0:(E != 0)=true:=by simpa using hE0
  exact zQal
 exact zQap
def zFV {k:Int}(hk:zad k)(b:Nat)(bad:Bool)(u:El k)(fu:zam u)(w:World)(hb:zaH k b bad w) :
  Calls prog 60 #[.pointer (some ⟨b,0,none⟩),.string (tx u)] w (zpR b bad ((srE k hk).star u) w):=by
 have hop:zHO 95 k (tx u) (zbI ((srE k hk).star u).1):=zEF (zfJ fu);obtain⟨S,E,hE,h0,hS⟩:=ztf ((srE k hk).star u);rw[hE] at hop;have HOP:=zHd hop;have HE:=zHd (zAI h0 hS);have HB:=zHd hb;have HK:=zHd hk;have d0:=zqbw w b 0 _ _ (0,0) hb;have d1:=zqbw w b 1 _ _ (0,0) hb;have z1:=zqbx w b 1 _ _ hb;generalize hr:(srE k hk).star u=r at *;have HR:=zHd hr;clear hop h0 hS hE hb hr;go_enter func60,ntmps60;go_wp2_with fail;refine(HOP.out w).mono ?_;rintro e w1 ⟨rfl,hg1⟩;have e0:=hg1.cell d0 (by simp);have e1:=hg1.cell d1 (by simp);have hb1:zaH k b bad w1:=zaH.kept HB.out hg1;have y1:=zqbx w1 b 1 _ _ hb1;have HB1:=zHd hb1;have HG:=zHd hg1;clear hb1 hg1 d0 d1 z1;cases bad
 ·by_cases hE0:E=0
  ·subst hE0
   exact zQan
  have t0:(E != 0)=true:=by simpa using hE0
  exact zQal
 exact zQap
open Go.RowKit
def zFW (k:Int)(n:Nat)(w:World)(e:Ending)(w':World):Prop :=
 ∃ g vs,e=.returned (.slice (some ⟨g,0,none⟩) n n)/\zaR none n w g n 0 vs (fun _ _=>zag k) w'
def zme (k:Int)(n:Nat)(w:World)(hn:n<=60) :
  Calls prog 59 #[.int .i64 k,.int .i64 (n:Int)] w (zFW k n w):=by
 obtain⟨i0,hi,hz0,hz1,hz2⟩:=info_parts zfb;obtain⟨j0,ji,jz0,jz1,jz2⟩:=info_parts zfa;have n0:¬ (n:Int)<0:=by omega
 have HN:=zHd hn;clear hn;go_enter func59,ntmps59;go_wp2_with (at_make;refine wpList_make_full _ rfl _ _ 41 rfl w.heap.size 27 i0 (.slice none 0 0) 1 underlying41 hi hz0 hz1 _ _ _ _ n rfl rfl ?c0 ?c1 ?c2 (by have:=HN.out;unfold maxLen;omega) (zqab _) ?_)
 case c0=>omega
 case c1=>omega
 case c2=>have:=HN.out;first|omega|(rw[hz2];omega)
 intro w1 zO hgr;have zF:=zaD.start zO hgr;have HF:=zHd ((zaR.start (r:=none) zF (fun b e=>by cases e)).any (fun _ _=>zag k));clear zO hgr zF;go_wp2
 go_loopw [6] (fun iv wr=>∃ (i:Nat) (vs:List Value),i<=n/\iv=.int .i64 (i:Int)/\zaR none n w w.heap.size i 0 vs (fun _ _=>zag k) wr) (fun iv _=>n-(intOf iv).toNat)
 case atStart=>exact⟨0,_,zqaw _,rfl,HF.out⟩
 case round =>
  obtain⟨i,vs,hi',rfl,hf⟩:=hrel
  by_cases hin:i<n
  ·have u1:decide (i<n)=true:=by simpa using hin
   have u1':decide ((i:Int)<(n:Int))=true:=by simpa using hin
   have u2:(i:Int)<(n:Int):=by omega
   have u3:(0:Int)<=(i:Int):=by omega
   have u4:IntKind.i64.wrap ((i:Int)+1)=(i:Int)+1:=by have:=HN.out;rw[zqah];omega
   have HI:=zHd (zAI hin hf);clear hi' hin hf;go_wp2;generalize wr=wq at *
   go_loopw [7] (fun jv wr=>∃ (j:Nat) (vs:List Value),j<=n/\jv=.int .i64 (j:Int)/\zaR none n w w.heap.size i j vs (fun _ _=>zag k) wr) (fun jv _=>n-(intOf jv).toNat)
   case atStart=>exact⟨0,vs,zqaw _,rfl,HI.out.2⟩
   case round =>
    obtain⟨j,vs2,hj',rfl,hf⟩:=hrel
    by_cases hjn:j<n
    ·have x1:decide (j<n)=true:=by simpa using hjn
     have x1':decide ((j:Int)<(n:Int))=true:=(by simpa using hjn);have x2:(j:Int)<(n:Int):=(by omega);have x3:(0:Int)<=(j:Int):=(by omega);have x4:IntKind.i64.wrap ((j:Int)+1)=(j:Int)+1:=(by have:=HN.out;rw[zqah];omega);obtain⟨v,hv,hvc,hvo,hvn,A,c,rfl⟩:=hf.at_ HI.out.1;have k0:wr.drew.cell? ⟨w.heap.size,i,none⟩=some (.slice A j c):=hvc;have HX:=zHd (zAI hjn (zAI hf (zAI True.intro (zAI True.intro hv))));clear hj' hjn hf hv hvc hvo hvn;go_upto_region 8 with(fail);refine zdU (e:=11) (n:=11) (fun W':World=>W'.cell? ⟨w.heap.size,i,none⟩=some (.slice A j c)) (by kernel_rfl) (by kernel_rfl) rfl ?_;have hS0:(fun W':World=>W'.cell? ⟨w.heap.size,i,none⟩=some (.slice A j c)) wr.drew:=k0;refine zTk 0 (.slice (some ⟨w.heap.size,0,none⟩) n n) rfl hS0 ?_;(try simp only[zS,Act.put]);refine zTk 1 (.int .i64 (i:Int)) rfl hS0 ?_;(try simp only[zS,Act.put]);refine zTk 2 (.slice (some ⟨w.heap.size,0,none⟩) n n) rfl hS0 ?_;(try simp only[zS,Act.put]);refine zTk 3 (.int .i64 (i:Int)) rfl hS0 ?_;(try simp only[zS,Act.put]);refine zTk 4 (.pointer (some ⟨w.heap.size,i,none⟩)) rfl hS0 ?_;(try simp only[zS,Act.put]);refine zTk 5 (.slice A j c) rfl hS0 ?_;(try simp only[zS,Act.put]);refine zTk 6 (.int .i64 k) rfl hS0 ?_;(try simp only[zS,Act.put]);refine zqcc (rs:=[7]) (by kernel_rfl) (by simp) ?_;refine AllReadyH.cons rfl (fun K hK=>?_) AllReadyH.nil;go_simp;refine(zdt k _).mono ?_;rintro e w5 ⟨rfl,hg5⟩;have hf5:=HX.out.2.1.kept (zaa (zaf wr none) hg5);obtain⟨v5,hv5,hvc5,hvo5,_⟩:=hf5.at_ HI.out.1;obtain rfl:v5=.slice A j c:=by have h:=hv5.symm.trans HX.out.2.2.2.2;cases h;rfl
     refine hK.out _ _ hvc5 (fun zH=>?_);refine zqcc (rs:=[8]) (by kernel_rfl) (by simp) ?_;refine AllReadyH.cons rfl (fun K hK=>?_) AllReadyH.nil;go_simp;have hal:=zGA w5 (.cells #[.string (zag k)] 9) none;refine hK.out _ _ (hal.cell hvc5 (by simp)) (fun zH=>?_);refine zqcc (rs:=[9]) (by kernel_rfl) (by simp) ?_;refine AllReadyH.cons rfl (fun K hK=>?_) AllReadyH.nil;refine step_append_lies _ (by rfl) _ _ _ (by rfl) (w.heap.size+1) 9 j0 (.string ⟨#[]⟩) 1 16 underlying27 ji jz0 jz1 jz2 rfl (by omega) (.slice A j c) j (zbz n (fun _ _=>zag k) i j i) (by rfl) (hvo5.alloc _) ⟨w5.heap.size,0,none⟩ 1 1 [.string (zag k)] (by rfl) (by rfl) (World.news_of_block (cs:=#[.string (zag k)]) (t:=9) (fr:=(0,0)) (zqce w5 _)) (by simp[Value.oneCell']) (by omega) (by have:=HN.out;have:=HX.out.1;unfold maxLen;omega) (by have:=HN.out;have:=HX.out.1;omega) (by have:=hf5.grid.lt;first|(simp;omega)|(simp at this ⊢;omega)) (w5.heap.size+1) (by simp) ?_;intro g2 cap W6 zj zG hat hlt6;have hrd:=hf5.ready hv5 zG;have z0:=hrd.2;have q0:=hrd.1;refine hK.out _ _ hrd.1 (fun zH=>?_);refine zTk 10 (.pointer (some ⟨w.heap.size,i,none⟩)) rfl zH ?_;(try simp only[zS,Act.put]);clear zH;refine wpAnyH_done (by kernel_rfl) ?_ _;refine zeZ (by rfl) (fun K hK=>?_);go_simp;refine hK _ _ ?_;have zp:=hf5.put HI.out.1 HX.out.1 hv5 zG zj hat;have HP:=zHd zp;clear zp zG zj hat hrd;go_wp2;have hfin:=HP.out.1;rw[zCl] at hfin;exact⟨⟨j+1,_,HX.out.1,by simp,hfin⟩,by have:=HX.out.1;simp[intOf];omega⟩
    obtain rfl:j=n:=by omega
    have v1:decide (j<j)=false:=(by simp);have v1':decide ((j:Int)<(j:Int))=false:=(by simp);have HJ:=zHd hf;clear hj' hjn hf;go_wp2;exact⟨⟨i+1,vs2,HI.out.1,by simp,HJ.out.row⟩,by have:=HI.out.1;simp[intOf];omega⟩
  obtain rfl:i=n:=by omega
  have u1:decide (i<i)=false:=by simp
  have u1':decide ((i:Int)<(i:Int))=false:=by simp
  have HJ:=zHd hf;clear hi' hin hf;go_wp2;go_ret;exact⟨_,vs,rfl,HJ.out⟩
open Go.RowKit
def zaR.lift {n sb:Nat}{w w2:World}{g i j:Nat}{vs:List Value}{G:Nat->Nat->ByteArray}{wr:World}(h:zaR none n w2 g i j vs G wr)(hg:w.grownBy w2 (some sb))(hsb:sb<w.heap.size):zaR (some sb) n w g i j vs G wr :=
 ⟨h.len,h.grid,zaa hg (zaB h.gr),zqam hg.size h.far,fun b e=>by cases e;exact hsb⟩
def zaR.since {n sb:Nat}{w w2:World}{g i j:Nat}{vs:List Value}{G:Nat->Nat->ByteArray}{wr:World}(h:zaR (some sb) n w2 g i j vs G wr)(hg:w.grownBy w2 (some sb))(hsb:sb<w.heap.size):zaR (some sb) n w g i j vs G wr :=
 ⟨h.len,h.grid,zaa hg h.gr,zqam hg.size h.far,fun b e=>by cases e;exact hsb⟩
def zaR.blocks {r:Option Nat}{n:Nat}{w:World}{g:Nat}{vs:List Value}{G:Nat->Nat->ByteArray}{wr:World}(h:zaR r n w g n 0 vs G wr) :
  ∃ rb cb:Nat->Nat,∀ i,i<n->vs[i]?=some (.slice (some ⟨rb i,0,none⟩) n (cb i))/\wr.cell? ⟨g,i,none⟩=some (.slice (some ⟨rb i,0,none⟩) n (cb i))/\g<rb i/\rb i<wr.heap.size/\n<=cb i /\
   (∃ cur:List Value,wr.heap[rb i]?=some (.cells cur.toArray 9 (0,0))/\n<=cur.length)/\∀ j,j<n->wr.cell? ⟨rb i,j,none⟩=some (.string (G i j))/\wr.frozen? ⟨rb i,j,none⟩=false:=by
 have hex:∀ i,∃ p:Nat×Nat,i<n->vs[i]?=some (.slice (some ⟨p.1,0,none⟩) n p.2)/\wr.cell? ⟨g,i,none⟩=some (.slice (some ⟨p.1,0,none⟩) n p.2)/\g<p.1/\p.1<wr.heap.size/\n<=p.2 /\
   (∃ cur:List Value,wr.heap[p.1]?=some (.cells cur.toArray 9 (0,0))/\n<=cur.length)/\∀ j,j<n->wr.cell? ⟨p.1,j,none⟩=some (.string (G i j))/\wr.frozen? ⟨p.1,j,none⟩=false:=by
  intro i
  by_cases hi:i<n
  ·have hv:vs[i]?=some (vs[i]'(by rw[h.len];exact hi)):=zqac (by rw[h.len];exact hi)
   have ho:=h.grid.own i _ hv;rw[zet,zek hi] at ho;have hc0:=h.grid.cell hv;rcases ho.2 with⟨e,h0⟩|⟨c,cap,cur,e,hb,hg,h1,h2,h3,h4⟩
   omega;rw[e] at hv hc0;refine⟨(c,cap),fun _=>⟨hv,hc0,by show g<c;omega,(zqad.1 hg).1,h1,⟨cur.toList,hg,by rw[zqbs];show n<=_;omega⟩,fun j hj=>⟨?_,zqbx wr c j _ _ hg⟩⟩⟩
   have hc:=ho.cells (g:=c) (by rw[e];rfl) j (.string (G i j)) (by
    unfold zbz;rw[zqaj,zqbe (by rw[zek hi];exact hj)];rfl)
   rw[zcn,zqat] at hc;exact hc
  exact⟨(0,0),fun h=>absurd h hi⟩
 exact⟨fun i=>(hex i).choose.1,fun i=>(hex i).choose.2,fun i hi=>(hex i).choose_spec hi⟩
def zaR.copy {r:Option Nat}{n:Nat}{w:World}{g i c cap:Nat}{vs:List Value}{G:Nat->Nat->ByteArray}{wr W':World}{GA:Nat->ByteArray}{cur:List Value}(h:zaR r n w g n 0 vs G wr)(hi:i<n)(hv:vs[i]?=some (.slice (some ⟨c,0,none⟩) n cap))
  (hc:wr.heap[c]?=some (.cells cur.toArray 9 (0,0))) (hl:n<=cur.length) (hb:W'.heap[c]?=some (.cells (splice cur 0 ((List.range n).map (fun y=>Value.string (GA y)))).toArray 9 (0,0))) (hg:wr.grownBy W' (some c)) :
  zaR r n w g n 0 vs (fun x y=>if x=i then GA y else G x y) W':=by
 have ho:=h.grid.own i _ hv;rw[zet,zek hi] at ho;have hcg:=(ho.lt c rfl).1;have hfar:=h.far;refine⟨h.len,⟨(hg.block g h.grid.lt (by simp;omega)).trans h.grid.row,fun x u hx=>?_,h.grid.dis⟩,zak h.gr hg (by omega),h.far,h.low⟩
 by_cases e:x=i
 ·subst e
  rw[hv] at hx;cases hx;rw[zet,zek hi]
  have er:zbz n (fun a y=>if a=x then GA y else G a y) n 0 x=(List.range n).map (fun y=>Value.string (GA y)):=by
   unfold zbz;rw[zek hi];simp
  rw[er];refine⟨by simp,?_⟩;rcases ho.2 with⟨e,h0⟩|⟨g',cap',cur',e,hb',hg',h1,h2,h3,h4⟩
  omega;simp only[Value.slice.injEq,Option.some.injEq,Addr.mk.injEq,and_true,true_and] at e;obtain⟨rfl,rfl⟩:=e;rw[hc] at hg';have hcc:cur'=cur.toArray:=by simpa using hg'.symm
  refine .inr ⟨c,cap,_,rfl,hb',hb,h1,h2,?_,?_⟩
  ·rw[hcc] at h3
   have h3:cur.length=cap*1:=(by simpa using h3);simp[splice];omega
  simp[splice]
 have e2:zbz n (fun a y=>if a=i then GA y else G a y) n 0 x=zbz n G n 0 x:=by
  unfold zbz;refine List.map_congr_left (fun y _=>?_);show Value.string (if x=i then GA y else G x y)=_;rw[if_neg e]
 rw[e2];refine(h.grid.own x u hx).kept hg ?_;have:=h.grid.dis x i u _ e hx hv;rcases this with h1|h1
 exact .inl h1;exact .inr h1
structure zmf {k:Int}(hk:zad k)(A:Nat->Nat->El k)(n:Nat):Prop where
 star:∀ t,t<n->zam ((srE k hk).star (el (srE k hk) A t t t))
 once:∀ t i,t<n->i<n->zam ((srE k hk).mul (el (srE k hk) A t i t) ((srE k hk).star (el (srE k hk) A t t t)))
 twice:∀ t i j,t<n->i<n->j<n->zam ((srE k hk).mul ((srE k hk).mul (el (srE k hk) A t i t) ((srE k hk).star (el (srE k hk) A t t t))) (el (srE k hk) A t t j))
 sum:∀ t i j,t<n->i<n->j<n->zam (el (srE k hk) A (t+1) i j)
 last:∀ i,i<n->zam (stM (srE k hk) A n i i)
structure AtR {k:Int}(hk:zad k)(A:Nat->Nat->El k)(n:Nat)(bad:Bool)(M:Nat->Nat->El k)(G:Nat->Nat->ByteArray)(U:Nat->Nat->El k)(b1:Bool):Prop where
 tx:∀ i j,i<n->j<n->G i j=tx (U i j)/\zam (U i j)
 good:b1=false->bad=false/\∀ i j,i<n->j<n->U i j=M i j
 keeps:bad=false->zmf hk A n->b1=false
def ziL {α:Type}(U:Nat->Nat->α)(i j:Nat)(u:α)(x y:Nat):α:=if x=i/\y=j then u else U x y
def zzV {k:Int}(U:Nat->Nat->El k)(i j:Nat)(u:El k){G:Nat->Nat->ByteArray}{x y:Nat}(h:G x y=tx (U x y)):zec G i j (tx u) x y=tx (ziL U i j u x y):=by
 unfold zec ziL;split;rfl;exact h
def zzW {k:Int}(hk:zad k)(A:Nat->Nat->El k){t i j:Nat}(h:el (srE k hk) A t i t=(srE k hk).zero∨el (srE k hk) A t t j=(srE k hk).zero):el (srE k hk) A (t+1) i j=el (srE k hk) A t i j:=by
 show(srE k hk).add (el (srE k hk) A t i j) ((srE k hk).mul ((srE k hk).mul (el (srE k hk) A t i t) ((srE k hk).star (el (srE k hk) A t t t))) (el (srE k hk) A t t j))=_;rcases h with h|h
 rw[h,(srE k hk).zero_mul,(srE k hk).zero_mul,(srE k hk).add_zero];rw[h,(srE k hk).mul_zero,(srE k hk).add_zero]
def zLa {k:Int}(hk:zad k)(A:Nat->Nat->El k){n i j:Nat}(h:i≠j):stM (srE k hk) A n i j=el (srE k hk) A n i j:=by
 unfold stM idm;rw[if_neg h,(srE k hk).zero_add]
def zFX {k:Int}(hk:zad k)(A:Nat->Nat->El k)(n i:Nat):stM (srE k hk) A n i i=(srE k hk).add (srE k hk).one (el (srE k hk) A n i i):=by
 unfold stM idm;rw[if_pos rfl]
def zLb {k:Int}(hk:zad k)(w:World):Calls prog 61 #[.int .i64 k] w (zab (.string (tx (srE k hk).one)) w):=by
 rw[zwh hk];exact zpw k w
def zoV {k:Int}{hk:zad k}{A:Nat->Nat->El k}{n:Nat}{M:Nat->List (Nat×El k)}(h:zdI k hk A n M)(h5:n<=5):zmf hk A n where
 star t ht:=((h.loop (by omega) ht).mono (show(if k=2 then 131 else 1)<=131 by split <;> omega)).fits (by omega)
 once t i ht hi:=((h.once (by omega) ht hi).mono (show(if k=2 then 260 else 111)<=260 by split <;> omega)).fits (by omega)
 twice t i j ht hi hj:=(h.twice (by omega) ht hi hj).fits (by omega)
 sum t i j ht hi hj:=(h.wide (by omega) (by omega) hi hj).fits (by omega)
 last i hi:=(h.star h5 hi hi).fits (by omega)
open Go.RowKit
def zMc (l:List UInt8):zdF l<=l.length:=by unfold zdF;exact List.length_filter_le _ _
def zJf {a:ByteArray}{k:Nat}(hk:k<a.size):zdF (a.data.toList.take (k+1))=zdF (a.data.toList.take k)+(if zck a[k]=true then 1 else 0):=by
 have hk2:k<a.data.toList.length:=by rw[zqbs];exact hk
 rw[List.take_add_one,zqac hk2,zou];have e:a.data.toList[k]=a[k]:=by rw[Array.getElem_toList];rfl
 rw[e];congr 1;show zdF [a[k]]=_;unfold zdF
 by_cases h:zck a[k]=true
 rw[if_pos h];simp[h];rw[if_neg h];simp[h]
open Go.RowKit
def znO {w:World}{v:Value}{m:zaj}(hv:zbJ w v m)(hl:m.states.length<=maxLen)(hn:zap m.states<=maxLen) :
  Calls prog 4 #[v] w (zab (.int .i64 (zap m.states:Int)) w):=by
 obtain⟨u,rfl,A,cap,us,rfl,hul,hr,ha⟩:=hv;unfold maxLen at hl hn;have hbx:=(zas.new w m (.slice A m.states.length cap)).cells;go_enter func4,ntmps4;go_wp2;generalize hW:w.alloc (.cells #[.int .i64 m.kind,.int .i64 m.start,.string m.lead,.slice A m.states.length cap] 24)=W at *;have hb0:w.grownBy W none:=by rw[<- hW];exact zGA _ _ _
 clear hW;obtain⟨x0,x1,x2,x3⟩:=hbx
 go_loop [3,4] (fun n i=>∃ k:Nat,i=.int .i64 k/\n=.int .i64 (zap (m.states.take k):Int)/\k<=m.states.length) (fun _ i=>m.states.length-(intOf i).toNat)
 case atStart=>exact⟨0,rfl,rfl,by omega⟩
 case round =>
  obtain⟨k,rfl,rfl,hk⟩:=hrel
  by_cases hlt:k<m.states.length
  ·obtain⟨ad,s,u,rfl,hadb,hs,hu,hc⟩:=zkd hr hul hlt
   obtain⟨B,cb,rfl,hra⟩:=ha k s u hs hu;obtain⟨y0,y1⟩:=hc.grown hb0 (by rw[zcN];exact hadb);have hts:=zcA hs;have hnt:=ziS m.states hk;have hnx:zap (m.states.take (k+1))=zap (m.states.take k)+s.arcs.length:=by rw[hts,zhs]
   have hle:=ziS m.states (show k+1<=m.states.length by omega);have n1:(k:Int)<(m.states.length:Int):=by omega
   have n2:IntKind.i64.wrap ((k:Int)+1)=(k:Int)+1:=by rw[zqah];omega
   have n3:IntKind.i64.wrap ((zap (m.states.take k):Int)+(s.arcs.length:Int))=(zap (m.states.take (k+1)):Int):=by rw[zqah];omega
   clear hs hu hc hts hnx;go_wp2;go_round
   case rel=>exact⟨k+1,by go_num,rfl,by omega⟩
   case measure=>simp[intOf];omega
  have n1:¬ (k:Int)<(m.states.length:Int):=by omega
  rw[zqaf (by omega)];go_wp2;go_ret;exact⟨rfl,hb0⟩
open Go.RowKit
def zxx {c:Nat}:∀ {l:List zah},(∀ s∈l,s.arcs.length<=c)->zap l<=l.length*c
 | [],_=>by simp[zap]
 | s::l,h=>by
  have h1:=zxx (l:=l) (fun t ht=>h t (zqao _ ht));have h2:=h s (zqbm ..);have h3:zap (s::l)=s.arcs.length+zap l:=by simp[zap]
  rw[h3,zqbu,Nat.succ_mul];omega
open Go.RowKit
def zkI (a:ByteArray)(w:World)(hs:a.size<=maxLen):Calls prog 58 #[.string a] w (zab (.bool (decide (zdF a.data.toList<=4))) w):=by
 have HS:=zHd hs;unfold maxLen at hs;go_enter func58,ntmps58;go_wp2
 go_loopw [3,4] (fun nv iv wr=>∃ (k c:Nat),k<=a.size/\nv=.int .i64 (c:Int)/\iv=.int .i64 (k:Int)/\c=zdF (a.data.toList.take k)/\wr=w) (fun _ iv _=>a.size-(intOf iv).toNat)
 case atStart=>exact⟨0,0,zqaw _,rfl,rfl,rfl,rfl⟩
 case round =>
  obtain⟨k,c,hk,rfl,rfl,hc,rfl⟩:=hrel;have hck:c<=k:=by rw[hc];exact zqam (zMc _) (by rw[zqan];omega)
  have HC:=zHd hc
  by_cases hlt:k<a.size
  ·have n1:IntKind.i64.wrap ((k:Int)+1)=(k:Int)+1:=by rw[zqah];omega
   have n2:IntKind.i64.wrap ((c:Int)+1)=(c:Int)+1:=by rw[zqah];omega
   have HST:=zHd (zJf hlt);clear hc
   by_cases h48:(48:Int)<=(a[k].toNat:Int)
   ·by_cases h57:(a[k].toNat:Int)<=57
    ·have hd:=znW a[k] (by omega) (by omega)
     have HD:=zHd hd;clear hd;go_wp2;refine⟨⟨k+1,c+1,hlt,by simp,by simp,?_,by first|rfl|trivial⟩,by simp[intOf];omega⟩;rw[HST.out,if_pos HD.out,HC.out]
    have hd:=zgI a[k] (.inr (by omega));exact zQaW
   have hd:=zgI a[k] (.inl (by omega));exact zQaW
  have hke:k=a.size:=by omega
  have hce:c=zdF a.data.toList:=by
   rw[hc,hke];congr 1;exact zqaf (by rw[zqbs];exact zqab _)
  have HE:=zHd hce;clear hc hce hke
  by_cases h4:c<=4
  ·have t1:decide (c<=4)=true:=by simpa using h4
   have t2:decide ((c:Int)<=4)=true:=(by simp;omega);have t3:(c:Int)<=4:=(by omega);exact zQbH
  have t1:decide (c<=4)=false:=by simpa using h4
  have t2:decide ((c:Int)<=4)=false:=(by simp;omega);have t3:¬ (c:Int)<=4:=(by omega);exact zQbH
def zrD (m:zaj):Prop:=zbY m.lead/\(∀ i,i<m.states.length->zbY (stF m.states i))/\∀ i,i<m.states.length->∀ a∈stA m.states i,zbY a.w
def zoA (P:Prop)(w:World)(e:Ending)(w':World):Prop:=∃ b:Bool,e=.returned (.bool b)/\(b=true->P)/\w.grownBy w' none
def zoA.no {P:Prop}{w w':World}(h:w.grownBy w' none):zoA P w (.returned (.bool false)) w':=⟨false,rfl,fun h=>(by cases h),h⟩
def zyF {w:World}{v:Value}{m:zaj}(hv:zbJ w v m)(hf:zdD m):Calls prog 31 #[v] w (zoA (zrD m) w):=by
 obtain⟨u,rfl,hst⟩:=hv;obtain⟨A,cs,us,rfl,hsr⟩:=zeO hst;have hal:=zGA w (.cells #[.int .i64 m.kind,.int .i64 m.start,.string m.lead,.slice A m.states.length cs] 24) none;have hbx:=zdv.new w m.kind m.start m.lead A m.states.length cs;have HBX:=zHd hbx;obtain⟨x0,x1,x2,x3⟩:=hbx;have HW:=zHd hal;have HS:=zHd (hsr.grown hal);have HF:=zHd hf;have HB0:=zHd (zKZ x0);clear hal hsr hst hf;go_enter func31,ntmps31;go_wp2_with fail;refine(zkI m.lead _ HF.out.lead).mono ?_;rintro e w1 ⟨rfl,hg1⟩;generalize w.alloc (.cells #[.int .i64 m.kind,.int .i64 m.start,.string m.lead,.slice A m.states.length cs] 24)=W0 at *;have HG1:=zHd hg1;have HW1:=zHd (zaa HW.out hg1);obtain⟨y0,y1,y2,y3⟩:=HBX.out.grown hg1;clear hg1 x0 x1 x2 x3;cases hd:decide (zdF m.lead.data.toList<=4)
 ·clear hd
  go_wp2;go_ret;exact .no HW1.out
 have HD:=zHd (of_decide_eq_true hd);clear hd;go_wp2
 go_loopw [3] (fun iv wr=>∃ i:Nat,i<=m.states.length/\iv=.int .i64 (i:Int)/\w1.grownBy wr none/\∀ x,x<i->zbY (stF m.states x)/\∀ a∈stA m.states x,zbY a.w) (fun iv _=>m.states.length-(intOf iv).toNat)
 case atStart=>exact⟨0,zqaw _,rfl,World.grownBy.refl _ _,fun x hx=>absurd hx (by omega)⟩
 case round =>
  obtain⟨i,hi',rfl,hg,hsh⟩:=hrel;have z3:=hg.cell y3 (by simp)
  by_cases hin:i<m.states.length
  ·have u1:decide (i<m.states.length)=true:=by simpa using hin
   have u1':decide ((i:Int)<(m.states.length:Int))=true:=(by simpa using hin);have u2:(i:Int)<(m.states.length:Int):=(by omega);have u3:(0:Int)<=(i:Int):=(by omega);have u4:IntKind.i64.wrap ((i:Int)+1)=(i:Int)+1:=(by have:=HF.out.n;rw[zqah];omega);obtain⟨ad,s,uu,rfl,hbl,hls,hus,hsa,hsl⟩:=((HS.out.grown HG1.out).grown hg).at_ i hin;have hsm:=zqak hls;have q0:=hsa.c0;have q1:=hsa.c1;obtain⟨Au,cu,rfl,hra⟩:=hsl;have HI:=zHd (zAI hin (zAI hg (zAI hsh hls)));have HRA:=zHd (zAI hra hbl);have HFS:=zHd (zAI (HF.out.fin s hsm) (zAI (HF.out.arcs s hsm) (HF.out.w s hsm)));have HQ1:=zHd q1;clear hi' hin hg hsh hls hus hbl hsa hra hsm;go_wp2_with fail;refine(zkI s.fin _ HFS.out.1).mono ?_;rintro e w2 ⟨rfl,hg2⟩;have HG2:=zHd (zaa HI.out.2.1 hg2)
   replace z3:=hg2.cell z3 (by simp)
   replace q1:=hg2.cell HQ1.out (by simp)
   have HG2':=zHd hg2;clear hg2 q0;cases hd:decide (zdF s.fin.data.toList<=4)
   ·clear hd
    go_wp2;go_ret;exact .no (zaa HW1.out HG2.out)
   have HD2:=zHd (of_decide_eq_true hd);clear hd;go_wp2;generalize wr=wq at *
   go_loopw [4] (fun jv wr=>∃ j:Nat,j<=s.arcs.length/\jv=.int .i64 (j:Int)/\w2.grownBy wr none/\∀ y a,y<j->s.arcs[y]?=some a->zbY a.w) (fun jv _=>s.arcs.length-(intOf jv).toNat)
   case atStart=>exact⟨0,zqaw _,rfl,World.grownBy.refl _ _,fun y a hy=>absurd hy (by omega)⟩
   case round =>
    obtain⟨j,hj',rfl,hg,hsh⟩:=hrel;have p3:=hg.cell z3 (by simp);have r1:=hg.cell q1 (by simp)
    by_cases hjn:j<s.arcs.length
    ·have x1:decide (j<s.arcs.length)=true:=by simpa using hjn
     have x1':decide ((j:Int)<(s.arcs.length:Int))=true:=(by simpa using hjn);have x2:(j:Int)<(s.arcs.length:Int):=(by omega);have x3:(0:Int)<=(j:Int):=(by omega);have x4:IntKind.i64.wrap ((j:Int)+1)=(j:Int)+1:=(by have:=HFS.out.2.1;rw[zqah];omega);have hgq:=zaa HG2'.out hg;obtain⟨bd,a,rfl,hbb,hla,⟨a0,a1,a2,a3⟩⟩:=zgV ((HRA.out.1.below (zbM hgq)).more (zbM hgq).size) hjn;have HJ:=zHd (zAI hjn (zAI hg (zAI hsh hla)));have hwa:=HFS.out.2.2 a (zqak hla);clear hj' hjn hg hsh hla hbb hgq a0 a1 a3;go_wp2_with fail;refine(zkI a.w _ hwa).mono ?_;rintro e w3 ⟨rfl,hg3⟩;have HG3:=zHd (zaa HJ.out.2.1 hg3);clear hg3 hwa;cases hd:decide (zdF a.w.data.toList<=4)
     ·clear hd
      go_wp2;go_ret;exact .no (zaa (zaa HW1.out HG2.out) HG3.out)
     have HD3:=zHd (of_decide_eq_true hd);clear hd;go_wp2;refine⟨⟨j+1,HJ.out.1,by simp,HG3.out,fun y b hy hb=>?_⟩,by have:=HJ.out.1;simp[intOf];omega⟩
     by_cases e:y<j
     exact HJ.out.2.2.1 y b e hb;rw[show y=j by omega,HJ.out.2.2.2] at hb;cases hb;exact HD3.out
    have hjs:j=s.arcs.length:=(by omega);have x1:decide (j<s.arcs.length)=false:=(by simpa using hjn);have x1':decide ((j:Int)<(s.arcs.length:Int))=false:=(by simpa using hjn);have x2:¬ (j:Int)<(s.arcs.length:Int):=(by omega);have HJ:=zHd (zAI hg (zAI hsh hjs));clear hj' hjn hg hsh hjs;go_wp2;refine⟨⟨i+1,HI.out.1,by simp,zaa HG2.out HJ.out.1,fun x hx=>?_⟩,by have:=HI.out.1;simp[intOf];omega⟩
    by_cases e:x<i
    exact HI.out.2.2.1 x e;rw[show x=i by omega,zgo HI.out.2.2.2,ziy HI.out.2.2.2];refine⟨HD2.out,fun b hb=>?_⟩;obtain⟨y,hy⟩:=List.mem_iff_getElem?.1 hb;exact HJ.out.2.1 y b (by have:=(zqae.1 hy).1;have:=HJ.out.2.2;omega) hy
  have hie:i=m.states.length:=by omega
  have u1:decide (i<m.states.length)=false:=(by simpa using hin);have u1':decide ((i:Int)<(m.states.length:Int))=false:=(by simpa using hin);have u2:¬ (i:Int)<(m.states.length:Int):=(by omega);have HI:=zHd (zAI hg (zAI hsh hie));clear hi' hin hg hsh hie;go_wp2;go_ret;exact⟨true,rfl,fun _=>⟨HD.out,fun x hx=>(HI.out.2.1 x (by have:=HI.out.2.2;omega)).1,fun x hx=>(HI.out.2.1 x (by have:=HI.out.2.2;omega)).2⟩,zaa HW1.out HI.out.1⟩
def zCm {w:World}{v:Value}{m:zaj}(hk:zad m.kind)(hv:zbJ w v m){i:Nat}(hi:i<m.states.length)(hok:stF m.states i=⟨#[]⟩∨∃ x,Val m.kind (stF m.states i) x) :
  Calls prog 37 #[v,.int .i64 (i:Int)] w (zab (.string (tx (finM hk m.states i))) w):=by
 obtain⟨u,rfl,hst⟩:=hv;obtain⟨A,cs,us,rfl,hsr⟩:=zeO hst;have hal:=zGA w (.cells #[.int .i64 m.kind,.int .i64 m.start,.string m.lead,.slice A m.states.length cs] 24) none;obtain⟨x0,x1,x2,x3⟩:=zdv.new w m.kind m.start m.lead A m.states.length cs;obtain⟨ad,s,uu,rfl,hbl,hls,hus,hsa,hsl⟩:=(hsr.grown hal).at_ i hi;have q0:=hsa.c0;rw[zgo hls] at hok;have HW:=zHd hal;have HI:=zHd (zAI hi hls);have HOK:=zHd hok;have u2:(i:Int)<(m.states.length:Int):=by omega
 have u3:(0:Int)<=(i:Int):=by omega
 clear hal hsr hst hbl hus hsa hsl hi;go_enter func37,ntmps37
 by_cases hfe:s.fin=⟨#[]⟩
 ·have HFE:=zHd hfe
  rw[hfe] at q0;clear hfe hok hls;go_wp2_with fail;refine(zdt _ _).mono ?_;rintro e w1 ⟨rfl,hg⟩;have HG:=zHd (zaa HW.out hg);clear hg;go_wp2;go_ret;refine⟨?_,HG.out⟩;unfold finM finE;rw[zgo HI.out.2,if_pos HFE.out,zdj];rfl
 have f1:(s.fin.toList==[])=false:=by
  rw[Bool.eq_false_iff];intro h;have h2:=eq_of_beq h;rw[Lib.toList_data] at h2;exact hfe (ByteArray.ext (Array.toList_inj.1 (by rw[h2])))
 have HFE:=zHd hfe;clear hfe hok hls;go_wp2;go_ret;refine⟨?_,HW.out⟩;unfold finM finE;rw[zgo HI.out.2,if_neg HFE.out,<- (zgt hk (HOK.out.resolve_left HFE.out)).1];rfl
def znP (e f:Int)(long same:Bool)(w:World)(h:(e=2∨f=2)->long=true)(h2:e≠2->f≠2->e=f/\same=true) :
  Calls prog 14 #[.int .i64 e,.int .i64 f,.bool long,.bool same] w (fun x w'=>x=.returned (.bool true)/\w'=w):=by
 by_cases he:e=2
 ·have t1:(e==2)=true:=by simp[he]
  have hl:=h (.inl he);subst hl;clear h h2 he;go_enter func14,ntmps14;exact zQaB
 have t1:(e==2)=false:=by simpa using he
 by_cases hf:f=2
 ·have t2:(f==2)=true:=by simp[hf]
  have hl:=h (.inr hf);subst hl;clear h h2 he hf;go_enter func14,ntmps14;exact zQaB
 have t2:(f==2)=false:=by simpa using hf
 obtain⟨rfl,rfl⟩:=h2 he hf;have t3:(e==e)=true:=by simp
 clear h h2 he hf;go_enter func14,ntmps14;exact zQaB
open Go.RowKit
def zxy (l:List zah):∀ k,k<=l.length->zap (l.take k)=ns k (fun i=>(stA l i).length)
 | 0,_=>by simp[zap,ns]
 | k+1,h=>by
  have hs:l[k]?=some l[k]:=zqac (by omega);rw[zcA hs,zhs,zxy l k (by omega)];show _=ns k (fun i=>(stA l i).length)+(stA l k).length;rw[ziy hs]
def zFY (l:List zah):ns l.length (fun i=>(stA l i).length)=zap l:=by
 rw[<- zxy l l.length (zqab _),List.take_length]
def ztg (m:zaj):Prop:=zgC m.kind m.states/\zbY m.lead
def zrD.lit {m:zaj}(h:zrD m)(h5:m.states.length<=5)(h10:zap m.states<=10):ztg m:=⟨⟨h5,by rw[zFY];exact h10,h.2.2,h.2.1⟩,h.1⟩
def zxz {w:World}{m:zaj}{u:Value}{B:Nat}(hs:zfL w u m.states)(hb:zas w B m u)(hf:zdD m)(hl:m.states.length<=60)(hn:zap m.states<=1000) :
  Calls prog 10 #[.slice (some ⟨B,0,none⟩) 1 1,.slice none 0 0] w (zoA (ztg m) w):=by
 obtain⟨A,cs,us,rfl,hul,hr,ha⟩:=hs;have hs:zfL w (.slice A m.states.length cs) m.states:=⟨A,cs,us,rfl,hul,hr,ha⟩;have HS:=zHd (zAI hs (zAI hb hf));have HN:=zHd (zAI hl hn);clear hul hr ha hs hb hf;go_enter func10,ntmps10;go_wp2
 go_loopw [5,6,8] (fun sv av iv wr=>w.grownBy wr none/\((sv=.int .i64 0/\av=.int .i64 0/\iv=.int .i64 0)∨(sv=.int .i64 (m.states.length:Int)/\av=.int .i64 (zap m.states:Int)/\iv=.int .i64 1/\zrD m))) (fun _ _ iv _=>1-(intOf iv).toNat)
 case atStart=>exact⟨World.grownBy.refl _ _,.inl ⟨rfl,rfl,rfl⟩⟩
 case round =>
  obtain⟨hg,⟨rfl,rfl,rfl⟩|⟨rfl,rfl,rfl,hsh⟩⟩:=hrel
  ·obtain⟨x0,x1,x2,x3⟩:=(HS.out.2.1.grown hg).cells
   have HX:=zHd (HS.out.2.1.grown hg);have n1:IntKind.i64.wrap ((0:Int)+(m.states.length:Int))=(m.states.length:Int):=by rw[zqah];omega
   have n2:IntKind.i64.wrap ((0:Int)+(zap m.states:Int))=(zap m.states:Int):=by rw[zqah];omega
   have n3:IntKind.i64.wrap (m.states.length:Int)=(m.states.length:Int):=by rw[zqah];omega
   have n4:IntKind.i64.wrap (zap m.states:Int)=(zap m.states:Int):=by rw[zqah];omega
   have HG:=zHd hg;clear hg hl hn;go_wp2_with fail;refine(znO ⟨_,rfl,HS.out.1.grown HG.out⟩ (by have:=HN.out.1;unfold maxLen;omega) (by have:=HN.out.2;unfold maxLen;omega)).mono ?_;rintro e w2 ⟨rfl,hg2⟩;obtain⟨x0,x1,x2,x3⟩:=(HX.out.grown hg2).cells;have HG2:=zHd (zaa HG.out hg2);clear hg2;go_wp2_with fail;refine(zyF ⟨_,rfl,HS.out.1.grown HG2.out⟩ HS.out.2.2).mono ?_;rintro e w3 ⟨b,rfl,hb,hg3⟩;have HG3:=zHd (zaa HG2.out hg3);have HB:=zHd hb;clear hg3 hb;cases b
   ·go_wp2
    go_ret;exact .no HG3.out
   go_wp2;refine⟨⟨HG3.out,.inr ⟨by simp[n3],by simp[n4],by simp,HB.out (by first|rfl|trivial)⟩⟩,by simp[intOf]⟩
  have HG:=zHd hg;have HSH:=zHd hsh;clear hg hsh hl hn;go_wp2;generalize wr=wq at *
  go_loopw [7,9] (fun sv iv wr=>sv=.int .i64 0/\iv=.int .i64 0/\wr=wq) (fun _ _ _=>0)
  case atStart=>exact⟨rfl,rfl,rfl⟩
  case round =>
   obtain⟨rfl,rfl,rfl⟩:=hrel
   by_cases h5:m.states.length<=5
   ·have t1:decide ((m.states.length:Int)<=5)=true:=by simp;omega
    have t2:(m.states.length:Int)<=5:=by omega
    by_cases h10:zap m.states<=10
    ·have t3:decide ((zap m.states:Int)<=10)=true:=by simp;omega
     have t4:(zap m.states:Int)<=10:=(by omega);have H:=zHd (zAI h5 h10);go_wp2;go_ret;exact⟨true,by simp,fun _=>HSH.out.lit H.out.1 H.out.2,HG.out⟩
    have t3:decide ((zap m.states:Int)<=10)=false:=(by simp;omega);have t4:¬ (zap m.states:Int)<=10:=(by omega);go_wp2;go_ret;exact .no HG.out
   have t1:decide ((m.states.length:Int)<=5)=false:=by simp;omega
   have t2:¬ (m.states.length:Int)<=5:=(by omega);go_wp2;go_ret;exact .no HG.out
end Go.Proofs.YtiblmbpfcmcccaaGreatDoor
