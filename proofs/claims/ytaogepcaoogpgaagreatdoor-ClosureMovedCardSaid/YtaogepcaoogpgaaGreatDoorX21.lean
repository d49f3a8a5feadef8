/- W23 W24 W22 W72 W74 W75 WA2 -/
import Derived.Test.YtaogepcaoogpgaaGreatDoorX20
set_option linter.unusedVariables false
set_option linter.unusedSimpArgs false
set_option maxRecDepth 100000
set_option maxHeartbeats 16000000
namespace Go.Proofs.YtaogepcaoogpgaaGreatDoor
def zaJ (o:List Nat)(y:Nat):List Nat:=if y∈o then o else o++[y]
def srch (succ:Nat→List Nat):Nat→Nat→List Nat→List Nat
 | 0,_,o=>o
 | f+1,i,o=>match o[i]? with
  | none=>o
  | some x=>srch succ f (i+1) ((succ x).foldl zaJ o)
theorem zBx {o:List Nat}{y x:Nat}:x∈zaJ o y↔(x∈o∨x=y):=by
 unfold zaJ
 split
 ·exact⟨.inl,fun h=>by rcases h with h|rfl <;> assumption⟩
 ·simp
theorem zvf {o:List Nat}{y:Nat}(h:o.Nodup):(zaJ o y).Nodup:=by
 unfold zaJ
 split
 ·exact h
 ·rw[List.nodup_append]
  exact⟨h,by simp,fun a ha b hb e=>by simp at hb;subst hb;subst e;contradiction⟩
theorem ztH (o:List Nat)(y:Nat):o <+: zaJ o y:=by
 unfold zaJ
 split
 ·exact List.prefix_refl _
 ·exact List.prefix_append _ _
theorem zea {l o:List Nat}{x:Nat}:x∈l.foldl zaJ o↔(x∈o∨x∈l):=by
 induction l generalizing o with
 | nil=>simp
 | cons y l ih=>rw[List.foldl_cons,ih,zBx,List.mem_cons,or_assoc]
theorem zbM {l o:List Nat}(h:o.Nodup):(l.foldl zaJ o).Nodup:=by
 induction l generalizing o with
 | nil=>exact h
 | cons y l ih=>exact ih (zvf h)
theorem zkM (l o:List Nat):o <+: l.foldl zaJ o:=by
 induction l generalizing o with
 | nil=>exact List.prefix_refl _
 | cons y l ih=>exact(ztH o y).trans (ih _)
theorem zjw (l o:List Nat)(y:Nat):(l++[y]).foldl zaJ o=zaJ (l.foldl zaJ o) y:=by
 rw[List.foldl_append];rfl
theorem zcC {n:Nat}{l o:List Nat}(ho:∀ x∈o,x<n)(hl:∀ x∈l,x<n):∀ x∈l.foldl zaJ o,x<n:=fun x hx=>by
 rcases zea.1 hx with h|h
 ·exact ho x h
 ·exact hl x h
theorem zil {n:Nat}{o:List Nat}(h:o.Nodup)(hb:∀ x∈o,x<n):o.length≤n:=by
 have:=List.Nodup.length_le_of_subset (l₁:=o) (l₂:=List.range n) h (fun x hx=>List.mem_range.2 (hb x hx))
 rwa [List.length_range] at this
theorem zBy {succ:Nat→List Nat}{f i:Nat}{o:List Nat}(h:o.length≤i):srch succ f i o=o:=by
 cases f with
 | zero=>rfl
 | succ f=>unfold srch;rw[List.getElem?_eq_none h]
theorem zqJ {succ:Nat→List Nat}{f i x:Nat}{o:List Nat}(h:o[i]? = some x):srch succ (f+1) i o=srch succ f (i+1) ((succ x).foldl zaJ o):=by
 rw[srch,h]
theorem zoj {succ:Nat→List Nat}{f i:Nat}{o:List Nat}(h:o.Nodup):(srch succ f i o).Nodup:=by
 induction f generalizing i o with
 | zero=>exact h
 | succ f ih =>
  unfold srch
  split
  ·exact h
  ·exact ih (zbM h)
theorem zim (succ:Nat→List Nat)(f i:Nat)(o:List Nat):o <+: srch succ f i o:=by
 induction f generalizing i o with
 | zero=>exact List.prefix_refl _
 | succ f ih =>
  unfold srch
  split
  ·exact List.prefix_refl _
  ·exact(zkM _ _).trans (ih _ _)
theorem zyk {succ:Nat→List Nat}{P:Nat→Prop}(hs:∀ x y,P x→y∈succ x→P y){f i:Nat}{o:List Nat}(h:∀ x∈o,P x):∀ x∈srch succ f i o,P x:=by
 induction f generalizing i o with
 | zero=>exact h
 | succ f ih =>
  unfold srch
  split
  ·exact h
  ·rename_i z hz
   refine ih (fun x hx => ?_);rcases zea.1 hx with hx|hx
   ·exact h x hx
   ·exact hs _ _ (h z (List.mem_of_getElem? hz)) hx
theorem zBz {succ:Nat→List Nat}{n:Nat}(hs:∀ x,∀ y∈succ x,y<n){f i:Nat}{o:List Nat}(hn:o.Nodup)(h:∀ x∈o,x<n)(hf:n≤f+i) :
  ∀ j x,i≤j→(srch succ f i o)[j]? = some x→∀ y∈succ x,y∈srch succ f i o:=by
 induction f generalizing i o with
 | zero =>
  intro j x hj hx;have h1:=zil hn h;have h2:=(List.getElem?_eq_some_iff.1 hx).1;unfold srch at h2
  omega
 | succ f ih =>
  intro j x hj hx y hy;cases ho:o[i]? with
  | none =>
   have h1:srch succ (f+1) i o=o:=by unfold srch;rw[ho]
   rw[h1] at hx;have h2:=(List.getElem?_eq_some_iff.1 hx).1;have h3:=List.getElem?_eq_none_iff.1 ho
   omega
  | some z =>
   rw[zqJ ho] at hx ⊢
   by_cases e:j=i
   ·subst e
    have hp:=(zkM (succ z) o).trans (zim succ f (j+1) ((succ z).foldl zaJ o))
    have hz:(srch succ f (j+1) ((succ z).foldl zaJ o))[j]? = some z:=by
     obtain⟨r,hr⟩:=hp;rw[← hr,List.getElem?_append_left (List.getElem?_eq_some_iff.1 ho).1];exact ho
    rw[hz] at hx;cases hx;exact(zim succ f (j+1) _).subset (zea.2 (.inr hy))
   ·exact ih (zbM hn) (zcC h (hs _)) (by omega) j x (by omega) hx y hy
theorem ztI {succ:Nat→List Nat}{n:Nat}(hs:∀ x,∀ y∈succ x,y<n){o:List Nat}(hn:o.Nodup)(h:∀ x∈o,x<n)(x:Nat):x∈srch succ n 0 o↔RFrom succ (fun y=>y∈o) x:=by
 refine⟨fun hx=>zyk (fun _ _ => .step) (fun _ => .start) x hx,fun hx => ?_⟩
 induction hx with
 | start hx=>exact(zim succ n 0 o).subset hx
 | step _ hy ih =>
  obtain⟨j,hj⟩:=List.mem_iff_getElem?.1 ih;exact zBz hs hn h (by omega) j _ (by omega) hj _ hy
def zaQ (m:Mach)(x:Nat):List Nat:=(List.range m.states.length).flatMap (fun i=>(zaF m i).filterMap (fun t=>if t=x then some i else none))
def isFin (m:Mach)(x:Nat):Prop:=∃ s,m.states[x]? = some s∧s.fin.size≠0
def zhz (m:Mach)(x:Nat):Prop:=RFrom (zaF m) (fun y=>y=m.start.toNat) x∧RFrom (zaQ m) (isFin m) x
open Classical in
noncomputable def usefulL (m:Mach):List Nat:=(List.range m.states.length).filter (fun x=>decide (zhz m x))
def zcx (l:List Nat)(a:MArc):Option MArc:=if a.t.toNat∈l then some { a with t:=(l.idxOf a.t.toNat:Int) } else none
def stOf (m:Mach)(x:Nat):zag:=(m.states[x]?).getD ⟨ByteArray.empty,[]⟩
def zhA (l:List Nat)(s:zag):zag:=⟨s.fin,s.arcs.filterMap (zcx l)⟩
def zaH (m:Mach)(l:List Nat):Mach:=⟨m.kind,(l.idxOf m.start.toNat:Int),m.lead,l.map (fun x=>zhA l (stOf m x))⟩
structure Wf (m:Mach):Prop where
 start:0≤m.start∧m.start<(m.states.length:Int)
 arcs:∀ s∈m.states,∀ a∈s.arcs,0≤a.t∧a.t<(m.states.length:Int)
theorem zfL {m:Mach}{x:Nat}{s:zag}(h:m.states[x]? = some s):stOf m x=s:=by unfold stOf;rw[h];rfl
theorem zfZ {m:Mach}(h:Wf m)(x:Nat):∀ y∈zaF m x,y<m.states.length:=by
 intro y hy;unfold zaF at hy
 split at hy
 ·rename_i s hs
  obtain⟨a,ha,rfl⟩:=List.mem_map.1 hy;have:=h.arcs s (List.mem_of_getElem? hs) a ha
  omega
 ·simp at hy
theorem ztJ {m:Mach}{x y:Nat}(hy:y∈zaF m x):x<m.states.length:=by
 unfold zaF at hy
 split at hy
 ·rename_i s hs
  exact(List.getElem?_eq_some_iff.1 hs).1
 ·simp at hy
theorem zmO {m:Mach}{x y:Nat}:y∈zaQ m x↔x∈zaF m y:=by
 unfold zaQ;rw[List.mem_flatMap]
 constructor
 ·rintro ⟨i,_,hi⟩
  obtain⟨t,ht,he⟩:=List.mem_filterMap.1 hi
  split at he
  ·cases he;subst_vars;exact ht
  ·cases he
 ·intro h
  exact⟨y,List.mem_range.2 (ztJ h),List.mem_filterMap.2 ⟨x,h,by simp⟩⟩
theorem zft {m:Mach}(x:Nat):∀ y∈zaQ m x,y<m.states.length:=fun _ hy=>ztJ (zmO.1 hy)
theorem zHB {m:Mach}{x:Nat}(h:isFin m x):x<m.states.length:=by
 obtain⟨s,hs,_⟩:=h;exact(List.getElem?_eq_some_iff.1 hs).1
theorem zjx {m:Mach}(h:Wf m){x:Nat}(hx:RFrom (zaF m) (fun y=>y=m.start.toNat) x):x<m.states.length:=by
 cases hx with
 | start e=>subst e;have:=h.start;omega
 | step _ hy=>exact zfZ h _ _ hy
open Classical in
theorem zcy {m:Mach}(h:Wf m){x:Nat}:x∈usefulL m↔zhz m x:=by
 unfold usefulL;rw[List.mem_filter,List.mem_range,decide_eq_true_iff];exact⟨fun h=>h.2,fun hu=>⟨zjx h hu.1,hu⟩⟩
theorem zkN (m:Mach):(usefulL m).Nodup:=List.Pairwise.filter _ List.nodup_range
theorem zry (m:Mach):(usefulL m).Pairwise (· < ·):=List.Pairwise.filter _ List.pairwise_lt_range
theorem zBA {l k:List Nat}(hl:l.Pairwise (· < ·))(hk:k.Pairwise (· < ·))(h:∀ x,x∈l↔x∈k):l=k:=by
 induction l generalizing k with
 | nil =>
  cases k with
  | nil=>rfl
  | cons y k=>have:=(h y).2 (by simp);simp at this
 | cons x l ih =>
  cases k with
  | nil=>have:=(h x).1 (by simp);simp at this
  | cons y k =>
   rw[List.pairwise_cons] at hl hk
   have e:x=y:=by
    have h1:=(h x).1 (by simp);have h2:=(h y).2 (by simp);simp only[List.mem_cons] at h1 h2;rcases h1 with h1|h1
    ·exact h1
    ·rcases h2 with h2|h2
     ·exact h2.symm
     ·have:=hl.1 y h2;have:=hk.1 x h1;omega
   subst e;rw[ih hl.2 hk.2 (fun z => ?_)];have:=h z;simp only[List.mem_cons] at this
   constructor
   ·intro hz
    have h1:=hl.1 z hz;rcases this.1 (.inr hz) with e|e
    ·omega
    ·exact e
   ·intro hz
    have h1:=hk.1 z hz;rcases this.2 (.inr hz) with e|e
    ·omega
    ·exact e
theorem zEm {m:Mach}{x y:Nat}(hy:RFrom (zaQ m) (isFin m) y)(h:y∈zaF m x):RFrom (zaQ m) (isFin m) x := .step hy (zmO.2 h)
theorem zEn {m:Mach}{x:Nat}(hx:RFrom (zaF m) (fun y=>y=m.start.toNat) x)(he:RFrom (zaQ m) (isFin m) x):RFrom (zaQ m) (isFin m) m.start.toNat:=by
 induction hx with
 | start e=>subst e;exact he
 | step _ hy ih=>exact ih (zEm he hy)
theorem zkO {m:Mach}{x:Nat}(h:zhz m x):zhz m m.start.toNat:=⟨.start rfl,zEn h.1 h.2⟩
theorem zok {m:Mach}(h:Wf m):usefulL m=[]↔¬ zhz m m.start.toNat:=by
 constructor
 ·intro e hu
  have:=(zcy h).2 hu;rw[e] at this;simp at this
 ·intro hn
  rw[List.eq_nil_iff_forall_not_mem];intro x hx;exact hn (zkO ((zcy h).1 hx))
theorem zGq {l:List Nat}(hn:l.Nodup){i x:Nat}(h:l[i]? = some x):l.idxOf x=i:=by
 obtain⟨hi,rfl⟩:=List.getElem?_eq_some_iff.1 h;exact List.Nodup.idxOf_getElem hn i hi
end Go.Proofs.YtaogepcaoogpgaaGreatDoor
namespace Go.Proofs.YtaogepcaoogpgaaGreatDoor
theorem zqK {l:List Nat}{x:Nat}(h:x∈l):l.idxOf x<l.length:=List.idxOf_lt_length_of_mem h
theorem zeb (m:Mach)(l:List Nat):(zaH m l).states.length=l.length:=by unfold zaH;simp
noncomputable def trimW (none:Mach)(m:Mach):Mach:=if usefulL m=[] then none else zaH m (usefulL m)
end Go.Proofs.YtaogepcaoogpgaaGreatDoor
namespace Go.Proofs.YtaogepcaoogpgaaGreatDoor
theorem zBB {l:List Nat}{a:MArc}(h:a.t.toNat∈l):zcx l a=some { a with t:=(l.idxOf a.t.toNat:Int) }:=by
 unfold zcx;rw[if_pos h]
theorem zEo {l:List Nat}{a:MArc}(h:a.t.toNat ∉ l):zcx l a=none:=by
 unfold zcx;rw[if_neg h]
open Go.RowKit
theorem zkP {w:World}{B n k:Nat}{e:TypeId}{v:Value}{xs:List Value}(h:w.ownsRow B e k v n xs):∃ A cap,v = .slice A n cap∧Reads w w.heap.size k A n xs:=by
 have hlt:=h.lt;rcases h.2 with⟨rfl,rfl⟩|⟨g,cap,cur,rfl,hb,hg,hnc,hcm,hcs,ht⟩
 ·exact⟨none,0,rfl,h.1,fun h0=>absurd h0 (by omega)⟩
 ·exact⟨_,cap,rfl,h.1,fun h0=>⟨_,rfl,(hlt g rfl).2,fun j u hu=>h.cells (g:=g) rfl j u hu⟩⟩
theorem zvg {w:World}{B:Nat}{v:Value}{l:List MArc}(h:w.ownsRow B 59 4 v l.length (l.flatMap arcC)):zbW w v l:=by
 obtain⟨A,cap,hv,hr⟩:=zkP h;exact⟨A,cap,hv,hr⟩
theorem zmP {α β:Type}(f:α→List β)(n:Nat)(hn:∀ a,(f a).length=n):∀ (l:List α) (k j:Nat) (a a':α) (b:β),l[k]? = some a→j<n→f a'=(f a).set j b→(l.set k a').flatMap f=(l.flatMap f).set (k * n+j) b
 | [],k,j,a,a',b,h,_,_=>by simp at h
 | x::l,0,j,a,a',b,h,hj,hf=>by
  simp only[List.getElem?_cons_zero,Option.some.injEq] at h;subst h;rw[List.set_cons_zero,List.flatMap_cons,List.flatMap_cons,Nat.zero_mul,Nat.zero_add,hf,List.set_append_left _ _ (by rw[hn];exact hj)]
 | x::l,k+1,j,a,a',b,h,hj,hf=>by
  rw[List.getElem?_cons_succ] at h;rw[List.set_cons_succ,List.flatMap_cons,List.flatMap_cons,List.set_append_right _ _ (by rw[hn,Nat.succ_mul];omega),hn,show(k+1) * n+j - n=k * n+j by rw[Nat.succ_mul];omega];rw[zmP f n hn l k j a a' b h hj hf]
theorem zpM {α β:Type}:∀ (l:List α) (us:List β) (k:Nat) (a:α) (b:β),(l.set k a).zip (us.set k b)=(l.zip us).set k (a,b)
 | [],us,k,a,b=>by simp
 | x::l,[],k,a,b=>by cases k <;> simp
 | x::l,u::us,0,a,b=>by simp
 | x::l,u::us,k+1,a,b=>by simp[zpM l us k a b]
theorem zEp:(Tryz.prog.info? 59).map (fun i=>(i.zero,i.size,i.bytes))=some (some (.agg #[.int .i64 0,.int .i64 0,.string ByteArray.empty,.int .i64 0]),4,40):=by kernel_rfl
open Go.RowKit
open Go.RowKit
def bv (zs:List Bool):List Value:=zs.map Value.bool
def zbS (w:World)(g:Nat)(l:List Value):Prop:=w.heap[g]? = some (.cells l.toArray 4 (0,0))
theorem zbS.cell {w:World}{g:Nat}{l:List Value}(h:zbS w g l)(k:Nat):w.cell? ⟨g,k,none⟩=l[k]? := by
 rw[zfC h];simp
theorem zbS.free {w:World}{g:Nat}{l:List Value}(h:zbS w g l)(k:Nat):w.frozen? ⟨g,k,none⟩=false:=frozen_of_row w g k _ _ h
theorem zbS.set {w:World}{g:Nat}{l:List Value}(h:zbS w g l)(k:Nat)(u:Value):zbS (w.setCell ⟨g,k,none⟩ u) g (l.set k u):=by
 unfold zbS;rw[heap_setCell_same w g k _ _ u h];simp
theorem zbS.lt {w:World}{g:Nat}{l:List Value}(h:zbS w g l):g<w.heap.size:=lt_of_block h
theorem zbS.of_full {w:World}{B g n:Nat}{l:List Value}(h:w.ownsRow B 4 1 (.slice (some ⟨g,0,none⟩) n n) n l):zbS w g l:=by
 rcases h.2 with⟨h',_⟩|⟨g',cap',cur,h',hb,hg,_,_,hs,ht⟩
 ·simp at h'
 ·simp only[Value.slice.injEq,Option.some.injEq,Addr.mk.injEq,and_true,true_and] at h'
  obtain⟨rfl,rfl⟩:=h';rw[List.take_of_length_le (by rw[Array.length_toList,hs];exact Nat.le_refl _)] at ht;subst ht;unfold zbS;rw[hg]
theorem zkQ (n:Nat):(madeCells #[Value.bool false] n).toList=bv (List.replicate n false):=by
 rw[toList_madeCells_one];simp[bv]
theorem ztK (zs:List Bool)(k:Nat)(b:Bool)(h:zs[k]? = some b):(bv zs)[k]? = some (.bool b):=by
 unfold bv;rw[List.getElem?_map,h];rfl
theorem zHC (zs:List Bool)(i:Nat)(b:Bool):(bv zs).set i (.bool b)=bv (zs.set i b):=by simp[bv,List.map_set]
open Go.RowKit
def QAt (w:World)(B:Nat)(v:Value)(q:List Nat):Prop :=
 ∃ a cap,v = .slice a q.length cap∧((q=[]∧cap=0)∨∃ g off cur,a=some ⟨g,off,none⟩∧B≤g∧w.heap[g]? = some (.cells cur 3 (0,0))∧q.length≤cap∧off+cap≤cur.size ∧
  ∀ (i:Nat) (x:Nat),q[i]? = some x→cur[off+i]? = some (.int .i64 (x:Int)))
theorem QAt.nil (w:World)(B:Nat):QAt w B (.slice none 0 0) []:=⟨none,0,rfl,.inl ⟨rfl,rfl⟩⟩
theorem QAt.lt {w:World}{g:Nat}{c:Array Value}{t:TypeId}{f:Nat × Nat}(h:w.heap[g]? = some (.cells c t f)):g<w.heap.size:=(Array.getElem?_eq_some_iff.1 h).1
theorem QAt.grown {w w':World}{B:Nat}{v:Value}{q:List Nat}{r:Option Nat}(h:QAt w B v q)(hg:w.grownBy w' r)(hr:∀ k,r=some k→k<B):QAt w' B v q:=by
 obtain⟨a,cap,hv,h|⟨g,off,cur,ha,hB,hh,hc,ho,hx⟩⟩:=h
 ·exact⟨a,cap,hv,.inl h⟩
 ·exact⟨a,cap,hv,.inr ⟨g,off,cur,ha,hB,(hg.block g (QAt.lt hh) (fun e=>by have:=hr g e.symm;omega)).trans hh,hc,ho,hx⟩⟩
theorem zol (z:Value)(k:Nat):(Builtin.zeroCells #[z] k).size=k:=by
 unfold Builtin.zeroCells;simp
theorem QAt.push {w:World}{B:Nat}{v:Value}{q:List Nat}(h:QAt w B v q)(hB:B≤w.heap.size)(ty:TypeId)(ad:Addr)(c x:Nat)(hx:w.cell? ad=some (.int .i64 (x:Int)))(hl:q.length≤1000000) :
  ∃ v' w',(Builtin.append_ #[51,51] ty #[v,.slice (some ad) 1 c]).run Tryz.prog w = .ok v' w'∧QAt w' B v' (q++[x])∧Below B w w':=by
 obtain⟨i0,hi,hz0,hz1,hz2⟩:=zcl (t:=3) (z := .int .i64 0) (n:=1) (b:=8) (by kernel_rfl)
 have hsrc:Src Tryz.prog i0.size 51 (.slice (some ad) 1 c) 1 [.int .i64 (x:Int)] w :=
  Src.ofSlice w Tryz.underlying51 ad 1 c [.int .i64 (x:Int)] (by rw[hz1];rfl) (fun j u hu=>by
   match j,hu with
   | 0,hu=>simp at hu;subst hu;exact hx
   | j+1,hu=>simp at hu) (by simp[Value.oneCell'])
 have grow:∀ (base:Option Addr) (cap:Nat) (olds:List Value),v = .slice base q.length cap→cap<q.length+1→olds=q.map (fun y:Nat=>Value.int .i64 (y:Int)) →
   (Builtin.firstCells i0.size q.length (.slice base q.length cap)).run Tryz.prog w.drew = .ok olds.toArray w.drew →
   ∃ v' w',(Builtin.append_ #[51,51] ty #[v,.slice (some ad) 1 c]).run Tryz.prog w = .ok v' w'∧QAt w' B v' (q++[x])∧Below B w w':=by
  intro base cap olds hv hcap hol hold;have hcap2:=growslice_fits (need:=q.length+1) (old:=cap) (bytes:=8) (by omega) (by omega);have hrun:=run_append_grow_src w 51 51 ty 3 i0 _ Tryz.underlying51 hi hz0 base q.length cap olds hold _ 1 _ hsrc (by omega) (by omega) (by rw[hz2];exact hcap2);rw[hv];refine⟨_,_,hrun,⟨_,_,by rw[List.length_append,List.length_singleton],.inr ⟨w.heap.size,0,_,rfl,hB,(by show(w.drew.heap.push _)[w.heap.size]? = _;exact Array.getElem?_push_size),?_,?_,?_⟩⟩,((Below.refl B w).grown (zae w none) hB (by simp)).alloc hB _⟩
  ·rw[List.length_append,List.length_singleton];exact grownCap_ge _ _ _ _
  ·have h1:=grownCap_ge w (q.length+1) cap 3
   rw[Array.size_append,List.size_toArray,List.length_append,hol,List.length_map,show(Value.int IntKind.i64 0).cells=#[.int .i64 0] from rfl,zol];simp;omega
  ·intro i y hy
   rw[Nat.zero_add];have hlt:=(List.getElem?_eq_some_iff.1 hy).1;rw[List.length_append,List.length_singleton] at hlt;rw[Array.getElem?_append_left (by rw[List.size_toArray,List.length_append,hol,List.length_map,List.length_singleton];exact hlt)];rw[List.getElem?_toArray,hol,show[Value.int IntKind.i64 (x:Int)]=[x].map (fun y:Nat=>Value.int .i64 (y:Int)) from rfl,← List.map_append,List.getElem?_map,hy]
   rfl
 obtain⟨a,cap,hv,⟨rfl,rfl⟩|⟨g,off,cur,rfl,hgB,hh,hc,ho,hq⟩⟩:=h
 ·refine grow a 0 [] hv (by simp) rfl ?_
  cases a with
  | none=>exact run_firstCells_none w.drew _ _ _ _
  | some b=>exact run_firstCells_some w.drew i0.size 0 b _ _ [] (by simp) (fun j u hu=>by simp at hu)
 ·by_cases hroom:q.length+1≤cap
  ·have hk:off+q.length<cur.size:=by omega
   have hrun:=run_append_room_src w 51 51 ty 3 i0 Tryz.underlying51 hi g off q.length cap _ 1 _ hsrc hroom
    (fun j hj=>by simp at hj;subst hj;rw[hz1,Nat.mul_one,Nat.add_zero,cell_of_row w g _ _ _ (0,0) hh,Array.getElem?_eq_getElem hk];rfl)
    (fun j hj=>frozen_of_row w g _ _ _ hh)
   rw[hv];rw[hz1,Nat.mul_one] at hrun;refine⟨_,_,hrun,⟨_,cap,by rw[List.length_append,List.length_singleton],.inr ⟨g,off,cur.setIfInBounds (off+q.length) (.int .i64 (x:Int)),rfl,hgB,?_,by rw[List.length_append,List.length_singleton];exact hroom,by simpa using ho,fun i y hy => ?_⟩⟩,?_⟩
   ·have:=heap_setCell_same w g (off+q.length) _ _ (.int .i64 (x:Int)) hh
    rw[World.setCells,World.setCells,this]
   ·by_cases e:i=q.length
    ·subst e
     rw[List.getElem?_append_right (Nat.le_refl _),Nat.sub_self] at hy;simp at hy;subst hy;rw[Array.getElem?_setIfInBounds_self_of_lt hk]
    ·have hlt:=(List.getElem?_eq_some_iff.1 hy).1
     rw[List.length_append,List.length_singleton] at hlt;rw[List.getElem?_append_left (by omega)] at hy;rw[Array.getElem?_setIfInBounds_ne (by omega)];exact hq i y hy
   ·exact(Below.refl B w).grown (zac w ⟨g,off+q.length,none⟩ _) hB (fun k e=>by cases e;exact hgB)
  ·refine grow _ cap _ hv (by omega) rfl (run_firstCells_some w.drew i0.size q.length _ _ _ _ (by rw[hz1];simp) (fun j u hu => ?_))
   rw[List.getElem?_map] at hu;obtain⟨y,hy,rfl⟩:=Option.map_eq_some_iff.1 hu;have hlt:=(List.getElem?_eq_some_iff.1 hy).1;have h1:Addr.add ⟨g,off,none⟩ j=⟨g,off+j,none⟩:=by unfold Addr.add;split <;> simp_all
   rw[h1];show w.cell? _=_;rw[cell_of_row w g _ _ _ (0,0) hh];exact hq j y hy
open Go.RowKit
theorem zmi {w:World}{B:Nat}{v:Value}{q:List Nat}(h:QAt w B v q)(hB:B≤w.heap.size){ops:Array Oper}{rest:List Oper}{o:Oper}{a:Act}{Q:Exit→Act→World→Prop}(hgd:o.guard=none)(s x:Operand)
  (ho:o.op = .call { callee := .builtin .append,args:=#[s,x],argTypes:=#[51,51] }) (hs:a.eval s=v) (ad:Addr) (c y:Nat) (hx:a.eval x = .slice (some ad) 1 c) (hc:w.cell? ad=some (.int .i64 (y:Int))) (hl:q.length≤1000000)
  (k:∀ v' w',QAt w' B v' (q++[y])→Below B w w'→wpList Tryz.prog ops Q rest (a.put o.dst v') w'):wpList Tryz.prog ops Q (o::rest) a w:=by
 refine wpList_plain hgd fun K hK => ?_;obtain⟨v',w',hrun,h1,h2⟩:=h.push hB o.type ad c y hc hl;unfold Oper.wp;simp[execOp,ho,resolve,invoke,builtin,hs,hx,hrun,Result.andThen];exact hK _ _ (k v' w' h1 h2)
theorem zqL (w:World)(y:Nat):(w.alloc (.cells #[.int .i64 (y:Int)] 3)).cell? ⟨w.heap.size,0,none⟩=some (.int .i64 (y:Int)):=by
 have h:(w.alloc (.cells #[.int .i64 (y:Int)] 3)).heap[w.heap.size]? = some (.cells #[.int .i64 (y:Int)] 3 (0,0)):=by
  show(w.heap.push _)[w.heap.size]? = _;rw[Array.getElem?_push_size]
 rw[cell_of_row _ w.heap.size 0 _ _ (0,0) h];rfl
open Go.RowKit
section
variable {k:Int}
theorem zom {w:World}{ad:Addr}{v:Value}(h:w.cell? ad=some v):ad=⟨ad.block,ad.off,none⟩:=by
 obtain⟨b,o,s⟩:=ad;unfold World.cell? at h
 split at h
 ·cases s with
  | none=>rfl
  | some p=>simp at h
 ·cases h
theorem RowR.toG {w:World}{v:Value}{m:Nat}{f:Nat→El k}(h:RowR w v m (txs f))(hm:1≤m):RowG w v m f:=by
 obtain⟨A,c,rfl,h1,h2,h3⟩:=h;obtain⟨ad,rfl,hb,hc⟩:=h3 0 (by omega);rw[zkG] at hc;have e:=zom hc;refine⟨ad.block,ad.off,c,by rw[← e],h1,h2,hb,fun j hj => ?_⟩;obtain⟨_,e2,_,hcj⟩:=h3 j hj;cases e2;rw[← zbF,← e];exact hcj
theorem zon {w:World}{b:Nat}{z:Int}{T:TypeId}(hb:w.heap[b]? = some (.cells #[.int .i64 z] T (0,0))){ad:Addr}{v:Value}(h:w.cell? ad=some v)(hv:∀ y,v ≠ .int .i64 y):ad.block≠b:=by
 intro e;have e2:=zom h;rw[e2,e] at h;rw[cell_of_row w b ad.off _ _ (0,0) hb] at h;obtain⟨h1,h2⟩:=Array.getElem?_eq_some_iff.1 h;have:ad.off=0:=by simpa using h1
 simp[this] at h2;exact hv z h2.symm
def MatX (w:World)(v:Value)(n m:Nat)(F:Nat→Nat→El k)(b:Nat):Prop :=
 ∃ rs:Nat→Value,(∃ A cap,v = .slice A n cap∧n≤cap∧cap≤maxLen∧∀ j,j<n→∃ ad,A=some ad∧ad.block<w.heap.size∧ad.block≠b∧w.cell? (ad.add j)=some (rs j)) ∧
  ∀ i,i<n→∃ g o c,rs i = .slice (some ⟨g,o,none⟩) m c∧m≤c∧c≤maxLen∧g≠b∧zam w g o m (txs (F i))
theorem MatX.mat {w:World}{v:Value}{n m:Nat}{F:Nat→Nat→El k}{b:Nat}(h:MatX w v n m F b):MatV w v n m F:=by
 obtain⟨rs,⟨A,cap,h1,h2,h3,h4⟩,h5⟩:=h;refine⟨rs,⟨A,cap,h1,h2,h3,fun j hj => ?_⟩,fun i hi => ?_⟩
 ·obtain⟨ad,e1,e2,_,e3⟩:=h4 j hj
  exact⟨ad,e1,e2,e3⟩
 ·obtain⟨g,o,c,e1,e2,e3,_,e4⟩:=h5 i hi
  exact⟨g,o,c,e1,e2,e3,e4⟩
theorem MatX.kept {w w':World}{v:Value}{n m:Nat}{F:Nat→Nat→El k}{b:Nat}(h:MatX w v n m F b)(hg:w.grownBy w' (some b)):MatX w' v n m F b:=by
 obtain⟨rs,⟨A,cap,h1,h2,h3,h4⟩,h5⟩:=h;refine⟨rs,⟨A,cap,h1,h2,h3,fun j hj => ?_⟩,fun i hi => ?_⟩
 ·obtain⟨ad,e1,e2,e0,e3⟩:=h4 j hj
  exact⟨ad,e1,Nat.lt_of_lt_of_le e2 hg.size,e0,(zaq (ad:=ad.add j) (by rw[zaj];exact hg.block _ e2 (by simpa using e0))).trans e3⟩
 ·obtain⟨g,o,c,e1,e2,e3,e0,e4⟩:=h5 i hi
  exact⟨g,o,c,e1,e2,e3,e0,e4.grownB hg e0⟩
theorem MatV.other {w:World}{v:Value}{n m:Nat}{F:Nat→Nat→El k}{b:Nat}(h:MatV w v n m F)(hm:0<n→1≤m){z:Int}{T:TypeId}(hb:w.heap[b]? = some (.cells #[.int .i64 z] T (0,0))):MatX w v n m F b:=by
 obtain⟨rs,⟨A,cap,h1,h2,h3,h4⟩,h5⟩:=h;refine⟨rs,⟨A,cap,h1,h2,h3,fun j hj => ?_⟩,fun i hi => ?_⟩
 ·obtain⟨ad,e1,e2,e3⟩:=h4 j hj
  obtain⟨g,o,c,e4,_⟩:=h5 j hj;refine⟨ad,e1,e2,?_,e3⟩;rw[← zaj ad j];exact zon hb e3 (fun y=>by rw[e4];simp)
 ·obtain⟨g,o,c,e1,e2,e3,e4⟩:=h5 i hi
  exact⟨g,o,c,e1,e2,e3,zon (ad:=⟨g,o+0,none⟩) hb (e4.2 0 (hm (by omega))) (fun y=>by unfold txs;simp),e4⟩
theorem MatV.none {w:World}{v:Value}{m m':Nat}{F F':Nat→Nat→El k}(h:MatV w v 0 m F):MatV w v 0 m' F':=by
 obtain⟨rs,h1,_⟩:=h;exact⟨rs,h1,fun i hi=>absurd hi (by omega)⟩
theorem MatV.shape {w:World}{v:Value}{n m:Nat}{F:Nat→Nat→El k}(h:MatV w v n m F):∃ A c,v = .slice A n c:=by
 obtain⟨rs,⟨A,c,e,_⟩,_⟩:=h;exact⟨A,c,e⟩
theorem MatV.congr {w:World}{v:Value}{n m:Nat}{F F':Nat→Nat→El k}(h:MatV w v n m F)(e:∀ i,i<n→∀ j,j<m→F i j=F' i j):MatV w v n m F':=by
 obtain⟨rs,h1,h2⟩:=h;refine⟨rs,h1,fun i hi => ?_⟩;obtain⟨g,o,c,e1,e2,e3,e4⟩:=h2 i hi;refine⟨g,o,c,e1,e2,e3,e4.1,fun j hj=>(e4.2 j hj).trans ?_⟩;unfold txs;rw[e i hi j hj]
end
open Go.RowKit
section
variable {k:Int}
theorem ztL:Enters 41:=enters_of Tryz.func41 (by kernel_rfl) rfl
theorem zEq (hk:zad k){g n:Nat}{zs:List Value}{w:World}(hn:n≤10000)(hl:zs.length=n)(h1:zam w g 0 n (fun j=>zs.getD j (.slice none 0 0)))(h2:zjt hk g n zs w):MatV w (.slice (some ⟨g,0,none⟩) n n) n n (idm (srE k hk)) :=
 ⟨_,h1.row (Nat.le_refl _) (by unfold maxLen;omega),fun i hi=>by
  obtain⟨gi,e1,e2,e3⟩:=h2 i (by omega);exact⟨gi,0,n,e1,Nat.le_refl _,by unfold maxLen;omega,e3⟩⟩
theorem zGr (hk:zad k)(i j:Nat):FitE (idm (srE k hk) i j):=by
 unfold idm
 split
 ·exact zlF hk
 ·exact zcJ hk
theorem zyl (hk:zad k)(n:Nat)(A:Nat→Nat→El k)(av bv:Value)(w:World)(hn:n≤60)(ha:MatV w av n n A)(hb:MatV w bv n n (idm (srE k hk)))(hf:∀ i,i<n→∀ j,j<n→FitE (A i j)) :
  Calls Tryz.prog 43 #[calV k,av,bv] w (zbo (SolveFits (srE k hk) FitE n n n A (idm (srE k hk))) (fun v w'=>MatV w' v n n (stM (srE k hk) A n)) w):=by
 by_cases h0:n=0
 ·subst h0
  refine(zib hk 1 (Nat.le_refl _) 0 0 A (idm (srE k hk)) av bv w (Nat.le_refl _) (by omega) ⟨ha,hb.none,fun i hi=>absurd hi (by omega),fun i hi=>absurd hi (by omega)⟩).mono (fun e w' h => ?_);rcases h with⟨_,v,h1,h2,h4⟩|⟨hn,_⟩
  ·exact .inl ⟨trivial,v,h1,h2.none,h4⟩
  ·exact absurd trivial hn
 ·refine(zib hk n (by omega) n n A (idm (srE k hk)) av bv w (Nat.le_refl _) (by omega) ⟨ha,hb,hf,fun i _ j _=>zGr hk i j⟩).mono (fun e w' h => ?_)
  rcases h with⟨hp,v,h1,h2,h4⟩|h
  ·refine .inl ⟨hp,v,h1,h2.congr (fun i hi j hj => ?_),h4⟩
   rw[zdq _ n n A _ (Nat.le_refl _) i j hi,zrV _ A i hj]
  ·exact .inr h
theorem zBC (hk:zad k)(n gk ga ca:Nat)(Aa:Option Addr)(A:Nat→Nat→El k)(w:World)(hn:n≤60)(hkc:w.cell? ⟨gk,0,none⟩=some (.int .i64 k))(hac:w.cell? ⟨ga,0,none⟩=some (.slice Aa n ca))(ha:MatV w (.slice Aa n ca) n n A)(hf:∀ i,i<n→∀ j,j<n→FitE (A i j)) :
  Calls Tryz.prog 41 #[.pointer (some ⟨gk,0,none⟩),.pointer (some ⟨ga,0,none⟩)] w (zbo (SolveFits (srE k hk) FitE n n n A (idm (srE k hk))) (fun v w'=>MatV w' v n n (stM (srE k hk) A n)) w):=by
 have hof:=fun w'=>zlI k w';have hun:=fun w'=>zEe hk n w' (by omega);have hso:=fun(bv:Value) (w':World) (hg:w.grownBy w' none) (hb:MatV w' bv n n (idm (srE k hk)))=>zyl hk n A (.slice Aa n ca) bv w' hn (ha.grown hg) hb hf;have HO:=zHd hof;have HU:=zHd hun;have HS:=zHd hso;have HN:=zHd hn;clear hof hun hso hf ha hn;unfold calV at *;go_enter Tryz.func41,Tryz.ntmps41;go_wp2_with fail;refine(HO.out _).mono ?_;rintro e w1 ⟨rfl,hg1⟩;have k1:=hg1.cell hkc (by simp);have a1:=hg1.cell hac (by simp);have HG1:=zHd hg1;clear hg1 hkc hac;go_upto_region 2 with(fail)
 have hal:=zGA w1 (.cells #[.int .i64 k,.string (zaf k),.string (oneT k)] 64) none;have x0:=zak w1 #[.int .i64 k,.string (zaf k),.string (oneT k)] 64 (j:=0) rfl;have x1:=zak w1 #[.int .i64 k,.string (zaf k),.string (oneT k)] 64 (j:=1) rfl;have x2:=zak w1 #[.int .i64 k,.string (zaf k),.string (oneT k)] 64 (j:=2) rfl;have a2:=hal.cell a1 (by simp);have hg2:=zaa HG1.out hal;generalize w1.alloc (.cells #[.int .i64 k,.string (zaf k),.string (oneT k)] 64)=W at *;have d0:W.drew.cell? ⟨w1.heap.size,0,none⟩=some (.int .i64 k):=x0;have d1:W.drew.cell? ⟨w1.heap.size,1,none⟩=some (.string (zaf k)):=x1;have d2:W.drew.cell? ⟨w1.heap.size,2,none⟩=some (.string (oneT k)):=x2;have da:W.drew.cell? ⟨ga,0,none⟩=some (.slice Aa n ca):=a2;have HG:=zHd (zaa hg2 (zae W none));clear x0 x1 x2 a1 a2 k1 hal hg2
 go_region_held2 (fun W'=>W'.cell? ⟨w1.heap.size,0,none⟩=some (.int .i64 k)∧W'.cell? ⟨w1.heap.size,1,none⟩=some (.string (zaf k))∧W'.cell? ⟨w1.heap.size,2,none⟩=some (.string (oneT k))∧W'.cell? ⟨ga,0,none⟩=some (.slice Aa n ca)) (first|exact⟨d0,d1,d2,da⟩|exact S5|exact S6|go_keep)
  (first
  | (go_at_call 44;refine(HU.out W.drew).mono ?_;rintro e w5 ⟨g,zs,rfl,hgs,hzl,hra,hru,hg5⟩;have S5:=zAI (hg5.cell d0 (by simp)) (zAI (hg5.cell d1 (by simp)) (zAI (hg5.cell d2 (by simp)) (hg5.cell da (by simp))));have H5:=zHd (zAI (zEq hk (by have:=HN.out;omega) hzl hra hru) (zaa HG.out hg5));clear hgs hzl hra hru hg5)
  | (go_at_call 43;refine(HS.out _ w5 H5.out.2 H5.out.1).mono ?_;rintro e w6 (⟨hp6,v6,rfl,hres,hg6⟩|⟨hn,rfl,hg6⟩);rotate_left 1;(exact⟨rfl,.inr ⟨hn,rfl,zaa H5.out.2 hg6⟩⟩);have S6:=zAI (hg6.cell S5.1 (by simp)) (zAI (hg6.cell S5.2.1 (by simp)) (zAI (hg6.cell S5.2.2.1 (by simp)) (hg6.cell S5.2.2.2 (by simp))));have H6:=zHd (zAI hp6 (zAI hres (zaa H5.out.2 hg6)));clear hp6 hres hg6))
 all_goals
  go_wp2;go_ret;exact .inl ⟨H6.out.1,_,rfl,H6.out.2.1,H6.out.2.2⟩
theorem zEr (hk:zad k){n:Nat}{G:Nat→Nat→ByteArray}(h:∀ i j,i<n→j<n→∃ v,Val k (G i j) v):∃ A:Nat→Nat→El k,∀ i,i<n→∀ j,j<n→G i j=tx (A i j)∧FitE (A i j):=by
 have h1:∀ i j,∃ v:El k,i<n→j<n→G i j=tx v∧FitE v:=fun i j=>by
  by_cases h2:i<n∧j<n
  ·obtain⟨v,hv⟩:=h i j h2.1 h2.2
   refine⟨⟨v,hv.has⟩,fun _ _=>⟨hv.e.text,?_⟩⟩;have e:=hv.e;show Fits v;rcases v with(_|_)|x
   ·trivial
   ·trivial
   ·exact e.short
  ·exact⟨(srE k hk).zero,fun h3 h4=>absurd ⟨h3,h4⟩ h2⟩
 exact⟨fun i j=>Classical.choose (h1 i j),fun i hi j hj=>Classical.choose_spec (h1 i j) hi hj⟩
def zfM (k:Int)(n:Nat)(ln:Nat→Nat)(G:Nat→Nat→ByteArray)(w:World)(e:Ending)(w':World):Prop :=
 w.grownBy w' none∧((¬ zfr k n ln G∧e = .returned (.tuple #[.slice none 0 0,.int .i64 1]))∨(zfr k n ln G∧60<n∧e = .returned (.tuple #[.slice none 0 0,.int .i64 2])) ∨
  (n≤60∧(∀ i,i<n→ln i=n)∧∃ (hk:zad k) (A:Nat→Nat→El k),(∀ i,i<n→∀ j,j<n→G i j=tx (A i j)∧FitE (A i j)) ∧
   ((SolveFits (srE k hk) FitE n n n A (idm (srE k hk))∧∃ v,e = .returned (.tuple #[v,.int .i64 0])∧MatV w' v n n (stM (srE k hk) A n))∨(¬ SolveFits (srE k hk) FitE n n n A (idm (srE k hk))∧e = .returned (.tuple #[.slice none 0 0,.int .i64 2])))))
theorem MatA.mat (hk:zad k){w:World}{v:Value}{n:Nat}{ln:Nat→Nat}{G:Nat→Nat→ByteArray}{A:Nat→Nat→El k}(h:MatA w v n ln G)(hl:∀ i,i<n→ln i=n)(hA:∀ i,i<n→∀ j,j<n→G i j=tx (A i j)∧FitE (A i j)):MatV w v n n A:=by
 obtain⟨rs,h1,h2⟩:=h;refine⟨rs,h1,fun i hi => ?_⟩;have h3:=h2 i hi;rw[hl i hi] at h3;refine RowR.toG ?_ (by omega);obtain⟨Ai,c,e1,e2,e3,e4⟩:=h3;refine⟨Ai,c,e1,e2,e3,fun j hj => ?_⟩;obtain⟨ad,q1,q2,q3⟩:=e4 j hj;refine⟨ad,q1,q2,q3.trans ?_⟩;unfold txs;rw[← (hA i hi j hj).1]
theorem zfN (k:Int)(n:Nat)(ln:Nat→Nat)(G:Nat→Nat→ByteArray)(av:Value)(w:World)(hn:n≤10000)(ha:MatA w av n ln G)(hs:∀ i j,(G i j).size≤maxLen) :
  Calls Tryz.prog 12 #[.int .i64 k,av] w (zfM k n ln G w):=by
 have hW:w.grownBy ((w.alloc (.cells #[.int .i64 k] 3)).alloc (.cells #[av] 22)) none:=zaa (zGA _ _ none) (zGA _ _ none);have him:=ztn k n ln G av _ hn (ha.grown hW) hs
 have hav:∃ Aa ca,av = .slice Aa n ca:=by
  obtain⟨rs,⟨Aa,ca,e,_⟩,_⟩:=ha;exact⟨Aa,ca,e⟩
 obtain⟨Aa,ca,rfl⟩:=hav;have HI:=zHd him;have HA:=zHd ha;have HW:=zHd hW;clear him ha hW hs;have hk1:((w.alloc (.cells #[.int .i64 k] 3)).alloc (.cells #[.slice Aa n ca] 22)).cell? ⟨w.heap.size,0,none⟩=some (.int .i64 k):=(zGA _ _ none).cell (zak w #[.int .i64 k] _ rfl) (by simp)
 have ha1:((w.alloc (.cells #[.int .i64 k] 3)).alloc (.cells #[.slice Aa n ca] 22)).cell? ⟨w.heap.size+1,0,none⟩=some (.slice Aa n ca):=by
  have h:=zak (w.alloc (.cells #[.int .i64 k] 3)) #[.slice Aa n ca] 22 (j:=0) (u := .slice Aa n ca) rfl;rw[show(w.alloc (.cells #[.int .i64 k] 3)).heap.size=w.heap.size+1 by simp] at h;exact h
 have HX:=zHd (zAI hk1 ha1);have hmf:∀ (fn:Fn) (first cap:Array Value) (w:World),(Instr.makeFunc fn first cap).run Tryz.prog w = .ok (.func fn first cap) w:=fun _ _ _ _=>rfl;clear hk1 ha1;go_enter Tryz.func12,Tryz.ntmps12;go_wp2_with fail;refine HI.out.mono ?_;rintro e w1 ⟨b,rfl,hb,hg1⟩;have k1:=hg1.cell HX.out.1 (by simp);have a1:=hg1.cell HX.out.2 (by simp);have hgw:w.grownBy w1 none:=zaa HW.out hg1;have HB:=zHd hb;have HG:=zHd hgw;clear hb hg1 hgw HI HX HW;cases b
 ·go_wp2
  refine bodyPost_ret (v := .tuple #[.slice none 0 0,.int .i64 1]) (by simp[results,Tryz.results12,go_sem]) rfl ⟨HG.out,.inl ⟨fun h => ?_,rfl⟩⟩;have:=HB.out.2 h;cases this
 ·have hm:=HB.out.1 rfl
  by_cases h60:60<n
  ·have t1:decide (60<n)=true:=by simpa using h60
   have t2:decide ((60:Int)<(n:Int))=true:=by simp;omega
   have t3:(60:Int)<(n:Int):=by omega
   have HM:=zHd (zAI hm h60);clear hm h60;go_wp2;exact bodyPost_ret (v := .tuple #[.slice none 0 0,.int .i64 2]) (by simp[results,Tryz.results12,go_sem]) rfl ⟨HG.out,.inr (.inl ⟨HM.out.1,HM.out.2,rfl⟩)⟩
  ·have t1:decide (60<n)=false:=by simpa using h60
   have t2:decide ((60:Int)<(n:Int))=false:=by simp;omega
   have t3:¬ (60:Int)<(n:Int):=by omega
   obtain⟨hk,hl,hv⟩:=hm;obtain⟨A,hA⟩:=zEr hk hv;have hmat:=(HA.out.grown HG.out).mat hk hl hA;have hal:=zGA w1 (.cells #[.int .i64 0] 24) none;have hst:=zBC hk n w.heap.size (w.heap.size+1) ca Aa A (w1.alloc (.cells #[.int .i64 0] 24)) (by omega) (hal.cell k1 (by simp)) (hal.cell a1 (by simp)) (hmat.grown hal) (fun i hi j hj=>(hA i hi j hj).2)
   have hat:=ztw (WB:=w1.heap.size) 41 ztL #[] #[.pointer (some ⟨w.heap.size,0,none⟩),.pointer (some ⟨w.heap.size+1,0,none⟩)] (SolveFits (srE k hk) FitE n n n A (idm (srE k hk))) (fun v w'=>MatX w' v n n (stM (srE k hk) A n) w1.heap.size)
    (fun v wa wb b hb hg e hq=>by subst e;exact hq.kept hg) w1 rfl (hst.mono (fun e w' h=>by
     rcases h with⟨hp,v,h1,h2,h4⟩|h
     ·obtain⟨A1,c1,e1⟩:=h2.shape
      exact .inl ⟨hp,v,h1,⟨⟨A1,_,c1,e1⟩,h2.other (fun h=>h) ((h4.block w1.heap.size (by simp) (by simp)).trans (zau w1 _))⟩,h4⟩
     ·exact .inr h))
   have HT:=zHd hat;have HF:=zHd (zAI h60 (zAI hl hA));clear hat hst hal hmat hA hl hv h60;go_wp2_with fail;refine HT.out.mono ?_;rintro e w2 (⟨hp,v,rfl,hq,hg2⟩|⟨hn2,rfl,hg2⟩)
   ·have H2:=zHd (zAI hp (zAI hq.mat (zaa HG.out hg2)))
    clear hp hq hg2;go_wp2;exact bodyPost_ret (v := .tuple #[v,.int .i64 0]) (by simp[results,Tryz.results12,go_sem]) rfl ⟨H2.out.2.2,.inr (.inr ⟨by have:=HF.out.1;omega,HF.out.2.1,hk,A,HF.out.2.2,.inl ⟨H2.out.1,v,rfl,H2.out.2.1⟩⟩)⟩
   ·have H2:=zHd (zAI hn2 (zaa HG.out hg2))
    clear hn2 hg2;go_wp2;exact bodyPost_ret (v := .tuple #[.slice none 0 0,.int .i64 2]) (by simp[results,Tryz.results12,go_sem]) rfl ⟨H2.out.2,.inr (.inr ⟨by have:=HF.out.1;omega,HF.out.2.1,hk,A,HF.out.2.2,.inr ⟨H2.out.1,rfl⟩⟩)⟩
end
open Go.RowKit
structure StsR (w:World)(l:List zag)(us:List Value)(A:Option Addr)(c:Nat):Prop where
 len:us.length=l.length
 at_:∀ i,i<l.length→∃ ad s u,A=some ad∧ad.block<w.heap.size∧l[i]? = some s∧us[i]? = some u∧zgX w (ad.add (i * 2)) s.fin u∧zbW w u s.arcs
theorem zgY {w:World}{v:Value}{l:List zag}(h:StSl w v l):∃ A c us,v = .slice A l.length c∧StsR w l us A c:=by
 obtain⟨A,c,us,e,hl,hr,ha⟩:=h
 exact⟨A,c,us,e,hl,fun i hi=>by
  obtain⟨ad,s,u,h1,h2,h3,h4,h5⟩:=zqA hr hl hi;exact⟨ad,s,u,h1,h2,h3,h4,h5,ha i s u h3 h4⟩⟩
theorem zbm {w w':World}(h:w.grownBy w' none):Below w.heap.size w w':=⟨h.os,h.tape,h.output,h.size,fun i hi=>h.block i hi (by simp)⟩
theorem StsR.grown {w w':World}{l:List zag}{us:List Value}{A:Option Addr}{c:Nat}(h:StsR w l us A c)(hg:w.grownBy w' none):StsR w' l us A c :=
 ⟨h.len,fun i hi=>by
  obtain⟨ad,s,u,h1,h2,h3,h4,h5,h6⟩:=h.at_ i hi;exact⟨ad,s,u,h1,Nat.lt_of_lt_of_le h2 hg.size,h3,h4,h5.below (zbm hg) (by rw[zaj];exact h2),h6.below (zbm hg)⟩⟩
def zBD (P:Prop)(n m:Nat)(A:Nat→Nat→Value)(w:World)(e:Ending)(w':World):Prop :=
 zbo P (fun v w'=>∃ zs:List Value,v = .slice (some ⟨w.heap.size,0,none⟩) n n∧zdY w' w.heap.size w.heap.size n m zs A∧w'.heap[w.heap.size]? = some (.cells zs.toArray 33 (0,0))) w e w'
theorem zgw (F:Nat)(he:Enters F)(first cap:Array Value)(l:List zag)(us:List Value)(Ad:Option Addr)(c:Nat)(m:Nat)(P:Nat→Prop)(A:Nat→Nat→Value)(w:World)(hn:l.length≤10000)(hl:StsR w l us Ad c)
  (hF:∀ i s u,l[i]? = some s→us[i]? = some u→∀ w',w.grownBy w' none→zbW w' u s.arcs→Calls Tryz.prog F (first++#[.agg #[.string s.fin,u]]++cap) w' (zjm (P i) w.heap.size m (A i) w')) :
  Calls Tryz.prog 94 #[.slice Ad l.length c,.func (.func F) first cap] w (zBD (∀ i,i<l.length→P i) l.length m A w):=by
 obtain⟨i0,hi,hz0,hz1,hz2⟩:=info_parts zdx;obtain⟨n,hne⟩:∃ n,l.length=n:=⟨_,rfl⟩;have HNE:=zHd hne;rw[hne] at hn ⊢;have HE:=zHd he;have HF:=zHd hF;have HL:=zHd hl;have HN:=zHd hn;clear he hF hl hn hne;go_enter Tryz.func94,Tryz.ntmps94;go_wp2_with (at_make;refine wpList_make_full _ rfl _ _ 22 rfl w.heap.size 33 i0 (.slice none 0 0) 1 Tryz.underlying22 hi hz0 hz1 _ _ _ _ n rfl rfl ?c0 ?c1 ?c2 (by have:=HN.out;unfold maxLen;omega) (Nat.le_refl _) ?_)
 case c0=>omega
 case c1=>omega
 case c2=>have:=HN.out;first|omega|(rw[hz2];omega)
 intro w1 hown hgr;have hfill:=zas.start hown hgr;have HW:=zHd hfill;clear hown hgr hfill;go_wp2
 go_loopw [13] (fun iv wr=>∃ zs:List Value,iv = .int .i64 (zs.length:Int)∧zas 33 (.slice none 0 0) n zs w wr∧∀ i,i<zs.length→∃ gi off c,zs.getD i (.slice none 0 0) = .slice (some ⟨gi,off,none⟩) m c∧m≤c∧c≤maxLen∧gi≠w.heap.size∧zam wr gi off m (A i)∧P i) (fun iv _=>n - (intOf iv).toNat)
 case atStart=>exact⟨[],rfl,HW.out,fun i hi=>absurd hi (by simp)⟩
 case round =>
  obtain⟨zs,rfl,hfill,hrows⟩:=hrel;obtain⟨k,hzk⟩:∃ k,zs.length=k:=⟨_,rfl⟩;have hle:=hfill.le
  by_cases hk:k<n
  ·have hgw:=hfill.gr
   obtain⟨ad,s,u,rfl,hb,hs,hu,⟨hc0,hc1⟩,has⟩:=(HL.out.grown hgw).at_ k (by rw[HNE.out];exact hk);have t1:decide (k<n)=true:=by simpa using hk
   have t1':decide ((k:Int)<(n:Int))=true:=by simpa using hk
   have hik:(k:Int)<(n:Int):=by omega
   have n1:IntKind.i64.wrap ((k:Int)+1)=(k:Int)+1:=by have:=HN.out;rw[IntKind.wrap_i64];omega
   have hcall:=HF.out k s u hs hu (wr.alloc (.cells #[.string s.fin,u] 57)) (zaa hgw (zGA _ _ none)) (has.below (zbm (zGA _ _ none)));obtain⟨Au,cu,hue,_⟩:=has;rw[hue] at hc1 hcall;have HFL:=zHd hfill;have HK:=zHd (zAI hk (zAI hzk hle));have HCALL:=zHd hcall;have HR:=zHd hrows;rw[hzk];clear hrows hgw hs hu hcall;clear hfill hk hle hzk hb;go_wp2_with fail;rw[HE.out];rw[show first.push (Value.agg #[.string s.fin,.slice Au s.arcs.length cu])++cap=first++#[.agg #[.string s.fin,.slice Au s.arcs.length cu]]++cap by simp];refine HCALL.out.mono ?_;rintro e w' (⟨hpk,v,rfl,⟨g,off,c2,rfl,hm1,hm2,hgl,hrow⟩,hg0⟩|⟨hnp,rfl,hg0⟩)
   ·have hg:=zaa (zGA wr (.cells #[.string s.fin,.slice Au s.arcs.length cu] 57) none) hg0
    have hgl2:g<w.heap.size∨wr.heap.size≤g:=by
     rcases hgl with h|h
     ·exact .inl h
     ·right;simp at h;omega
    have HPK:=zHd hpk;clear hpk hg0 hgl;have hf2:=HFL.out.grown hg;have hcl:=hf2.cell (by rw[HK.out.2.1];exact HK.out.1);have hfr:=hf2.free k;rw[HK.out.2.1] at hcl;have HF2:=zHd hf2;have HG:=zHd hg;have HROW:=zHd (zAI hm1 (zAI hm2 (zAI hgl2 hrow)));clear hf2 hg hm1 hm2 hgl2 hrow;go_wp2;obtain⟨hk,hzk,hle⟩:=HK.out;have hput:=HF2.out.put (by rw[hzk];exact hk) (.slice (some ⟨g,off,none⟩) m c2);rw[hzk] at hput;obtain⟨hm1,hm2,hgl,hrow⟩:=HROW.out
    have hne:g≠w.heap.size:=by
     rcases hgl with h|h
     ·omega
     ·have:=(Array.getElem?_eq_some_iff.1 HFL.out.row).1;omega
    refine⟨⟨zs++[.slice (some ⟨g,off,none⟩) m c2],by simp[hzk],hput,fun i hi => ?_⟩,by simp[intOf];omega⟩
    by_cases hik2:i<zs.length
    ·obtain⟨gi,oi,ci,e1,e2,e3,e4,e5,e6⟩:=HR.out i hik2
     refine⟨gi,oi,ci,?_,e2,e3,e4,(e5.grown HG.out).grownB (zac _ _ _) e4,e6⟩;rw[List.getD_eq_getElem?_getD,List.getElem?_append_left hik2,← List.getD_eq_getElem?_getD];exact e1
    ·have hi2:i=k:=by simp at hi;omega
     subst hi2;refine⟨g,off,c2,?_,hm1,hm2,hne,hrow.grownB (zac _ _ _) hne,HPK.out⟩;rw[List.getD_eq_getElem?_getD,List.getElem?_append_right (by omega),hzk,Nat.sub_self]
     rfl
   ·go_wp2
    exact⟨rfl,.inr ⟨fun h=>hnp (h k HK.out.1),rfl,zaa (zaa HFL.out.gr (zGA _ _ none)) hg0⟩⟩
  ·have hkn:k=n:=by omega
   subst hkn;have t1:decide (k<k)=false:=by simp
   have t1':decide ((k:Int)<(k:Int))=false:=by simp
   have HFL:=zHd hfill;have HK:=zHd hzk;have HR:=zHd hrows;rw[hzk];clear hrows;clear hfill hk hle hzk;go_wp2;go_ret;have hzk:=HK.out;exact .inl ⟨fun i hi=>by obtain⟨_,_,_,_,_,_,_,_,h⟩:=HR.out i (by omega);exact h,_,rfl,⟨zs,rfl,⟨hzk,HFL.out.rowAt hzk,fun i hi=>(by obtain⟨gi,oi,ci,e1,e2,e3,e4,e5,e6⟩:=HR.out i (by omega);exact⟨gi,oi,ci,e1,e2,e3,e4,e5⟩)⟩,(by have h:=HFL.out.row;rw[hzk,Nat.sub_self,List.replicate_zero,List.append_nil] at h;exact h)⟩,HFL.out.gr⟩
open Go.RowKit
section
variable {k:Int}
theorem zBE (hk:zad k)(a:ByteArray):∃ x:El k,∀ v,Val k a v→x.1=v:=by
 by_cases h:∃ v,Val k a v
 ·obtain⟨v,hv⟩:=h
  exact⟨⟨v,hv.has⟩,fun u hu=>hv.e.uniq hu.e⟩
 ·exact⟨(srE k hk).zero,fun v hv=>absurd ⟨v,hv⟩ h⟩
noncomputable def vE (hk:zad k)(a:ByteArray):El k:=Classical.choose (zBE hk a)
theorem zym (hk:zad k){a:ByteArray}{v:Ext}(h:Val k a v):(vE hk a).1=v:=Classical.choose_spec (zBE hk a) v h
theorem zic (hk:zad k){a:ByteArray}(h:∃ v,Val k a v):a=tx (vE hk a)∧FitE (vE hk a):=by
 obtain⟨v,hv⟩:=h;have e:=zym hk hv;refine⟨by unfold tx;rw[e];exact hv.e.text,?_⟩;show Fits (vE hk a).1;rw[e];have e2:=hv.e;rcases v with(_|_)|x
 ·trivial
 ·trivial
 ·exact e2.short
def arcK (l:List MArc)(j:Nat):Nat:=(l[j]?.map (fun a=>a.t.toNat)).getD 0
noncomputable def arcF (hk:zad k)(l:List MArc)(j:Nat):El k:=(l[j]?.map (fun a=>vE hk a.w)).getD (srE k hk).zero
theorem zpN {l:List MArc}{j:Nat}{a:MArc}(h:l[j]? = some a):arcK l j=a.t.toNat:=by unfold arcK;rw[h];rfl
theorem zpO (hk:zad k){l:List MArc}{j:Nat}{a:MArc}(h:l[j]? = some a):arcF hk l j=vE hk a.w:=by unfold arcF;rw[h];rfl
def ztM (k:Int)(n:Nat)(l:List MArc):Prop:=∀ a∈l,0≤a.t∧a.t<(n:Int)∧∃ v,Val k a.w v
theorem zyn (hk:zad k)(n gc gm cs:Nat)(fin:ByteArray)(u:Value)(l:List MArc)(As:Option Addr)(w:World)(hn:n≤10000)(hl:l.length≤30000)(hok:ztM k n l)(hu:zbW w u l)(hcal:zcc w gc k)(hst:w.cell? ⟨gm,3,none⟩=some (.slice As n cs)) :
  Calls Tryz.prog 143 #[.agg #[.string fin,u],.pointer (some ⟨gc,0,none⟩),.pointer (some ⟨gm,0,none⟩)] w (zbo (∀ s,s<l.length→FitE (mrgP hk (arcF hk l) (arcK l) (s+1) (arcK l s))) (fun v w'=>∃ g,v = .slice (some ⟨g,0,none⟩) n n∧w.heap.size≤g∧zam w' g 0 n (txs (mrgP hk (arcF hk l) (arcK l) l.length))) w):=by
 have hz:=fun w'=>zeZ k n w' hn;obtain⟨Au,cu,rfl,hr⟩:=hu;obtain⟨c0,c1,c2⟩:=hcal;obtain⟨q,hq⟩:∃ q,l.length=q:=⟨_,rfl⟩;have HQ:=zHd hq;rw[hq];have hr2:=hr;rw[hq] at hr2 hl;have HZ:=zHd hz;have HU:=zHd hr2;have HO:=zHd hok;have HN:=zHd (zAI hn hl);have HC:=zHd (zAI c0 (zAI c1 c2));have hW:=zGA w (.cells #[.string fin,.slice Au q cu] 57) none;have d0:=hW.cell c0 (by simp);have d1:=hW.cell c1 (by simp);have d2:=hW.cell c2 (by simp);have ds:=hW.cell hst (by simp);have b1:=zak w #[.string fin,.slice Au q cu] 57 (j:=1) rfl;have HW:=zHd hW;clear hz hr hr2 hok hn hl c0 c1 c2 hst hq hW;unfold calV at *;go_enter Tryz.func143,Tryz.ntmps143;go_wp2_with fail;refine(HZ.out _).mono ?_;rintro e w1 ⟨g,rfl,hgW,hrow,hg1⟩;have x0:=hg1.cell d0 (by simp);have x1:=hg1.cell d1 (by simp);have x2:=hg1.cell d2 (by simp);have xb:=hg1.cell b1 (by simp);have hgb:w.heap.size+1≤g:=by simpa using hgW
 have hgc:gc<w.heap.size:=by
  have:=HC.out.1;unfold World.cell? at this
  dsimp only at this
  by_cases h:gc<w.heap.size
  ·exact h
  ·rw[Array.getElem?_eq_none (by omega)] at this;simp at this
 have hinv:zhx hk (arcF hk l) (arcK l) q n g w 0 w1:=⟨Nat.zero_le _,zaa HW.out hg1,by omega,by rw[zqw];exact hrow,fun s hs=>absurd hs (by omega),fun d=>zcJ hk⟩;have HI:=zHd hinv;have HX:=zHd (zAI x0 (zAI x1 (zAI x2 (zAI hgb hgc))));clear hgW hrow hg1 x0 x1 x2 hinv hgb hgc d0 d1 d2 ds b1 HC;go_wp2
 go_loopw [16] (fun iv wr=>∃ t:Nat,iv = .int .i64 (t:Int)∧zhx hk (arcF hk l) (arcK l) q n g w t wr∧wr.cell? ⟨gc,0,none⟩=some (.int .i64 k)∧wr.cell? ⟨gc,1,none⟩=some (.string (zaf k))∧wr.cell? ⟨gc,2,none⟩=some (.string (oneT k))) (fun iv _=>q - (intOf iv).toNat)
 case atStart=>exact⟨0,rfl,HI.out,HX.out.1,HX.out.2.1,HX.out.2.2.1⟩
 case round =>
  obtain⟨t,rfl,hinv,y0,y1,y2⟩:=hrel
  by_cases ht:t<q
  ·have hrd:=(HU.out.below (zbm hinv.gr)).more (zbm hinv.gr).size
   rw[← HQ.out] at hrd;obtain⟨ad,a,rfl,hbl,hla,⟨a0,a1,a2,a3⟩⟩:=ziJ hrd (by rw[HQ.out];exact ht);obtain⟨ht0,htn,hwv⟩:=HO.out a (List.mem_of_getElem? hla);obtain⟨hwt,hwf⟩:=zic hk hwv;obtain⟨κ,hκ⟩:∃ κ:Nat,a.t=(κ:Int):=⟨a.t.toNat,by omega⟩;have hκ2:arcK l t=κ:=by rw[zpN hla,hκ];rfl
   have hκn:κ<n:=by omega
   have hcall:=fun w'=>zhY hk (hinv.now (arcK l t)) (show FitE (arcF hk l t) by rw[zpO hk hla];exact hwf) w';rw[← zwr,hκ2] at hcall;have hft:tx (arcF hk l t)=a.w:=by rw[zpO hk hla];exact hwt.symm
   rw[hft] at hcall;rw[hκ] at a3
   have r1:wr.cell? ⟨g,κ,none⟩=some (.string (tx (mrgP hk (arcF hk l) (arcK l) t κ))):=by
    rw[cell_of_row wr g κ _ _ (0,0) hinv.row,List.getElem?_toArray,zdZ hk _ _ t hκn]
   have t1:decide (t<q)=true:=by simpa using ht
   have t1':decide ((t:Int)<(q:Int))=true:=by simpa using ht
   have hit:(t:Int)<(q:Int):=by omega
   have i1:(κ:Int)<(n:Int):=by omega
   have i2:(0:Int)≤(κ:Int):=by omega
   have n1:IntKind.i64.wrap ((t:Int)+1)=(t:Int)+1:=by have:=HN.out.2;rw[IntKind.wrap_i64];omega
   have hgl:g<wr.heap.size:=(Array.getElem?_eq_some_iff.1 hinv.row).1;have hne1:¬ gc=g:=by have:=HX.out.2.2.2;omega
   have hne2:¬ g=gc:=by have:=HX.out.2.2.2;omega
   have hne3:¬ wr.heap.size=g:=by omega
   have hne4:¬ g=wr.heap.size:=by omega
   have HI2:=zHd hinv;have HCALL:=zHd hcall;have HT:=zHd (zAI ht (zAI hκ2 hκn));clear hinv hcall ht hbl hla ht0 htn hwv hwt hwf hκ hκ2 hκn hft hrd hgl;unfold calV at HCALL;go_upto_region 5 with(fail)
   have hal:=zGA wr (.cells #[.int .i64 a.i,.int .i64 a.o,.string a.w,.int .i64 (κ:Int)] 59) none;have u2:=zak wr #[.int .i64 a.i,.int .i64 a.o,.string a.w,.int .i64 (κ:Int)] 59 (j:=2) rfl;have u3:=zak wr #[.int .i64 a.i,.int .i64 a.o,.string a.w,.int .i64 (κ:Int)] 59 (j:=3) rfl;have v0:=hal.cell y0 (by simp);have v1:=hal.cell y1 (by simp);have v2:=hal.cell y2 (by simp);have vr:=hal.cell r1 (by simp);have hrowU:=(hal.block g (Array.getElem?_eq_some_iff.1 HI2.out.row).1 (by simp)).trans HI2.out.row;generalize wr.alloc (.cells #[.int .i64 a.i,.int .i64 a.o,.string a.w,.int .i64 (κ:Int)] 59)=U at *;have e2:U.drew.cell? ⟨wr.heap.size,2,none⟩=some (.string a.w):=u2;have e3:U.drew.cell? ⟨wr.heap.size,3,none⟩=some (.int .i64 (κ:Int)):=u3;have d0:U.drew.cell? ⟨gc,0,none⟩=some (.int .i64 k):=v0;have d1:U.drew.cell? ⟨gc,1,none⟩=some (.string (zaf k)):=v1;have d2:U.drew.cell? ⟨gc,2,none⟩=some (.string (oneT k)):=v2;have dr:U.drew.cell? ⟨g,κ,none⟩=some (.string (tx (mrgP hk (arcF hk l) (arcK l) t κ))):=vr;have HUW:=zHd (zaa hal (zae U none));have HROW:=zHd (show U.drew.heap[g]? = _ from hrowU);clear hal u2 u3 v0 v1 v2 vr hrowU y0 y1 y2 r1 a0 a1 a2 a3;refine zfB (e:=14) (n:=14) (fun W':World=>W'.cell? ⟨wr.heap.size,2,none⟩=some (.string a.w)∧W'.cell? ⟨wr.heap.size,3,none⟩=some (.int .i64 (κ:Int))∧W'.cell? ⟨gc,0,none⟩=some (.int .i64 k)∧W'.cell? ⟨gc,1,none⟩=some (.string (zaf k))∧W'.cell? ⟨gc,2,none⟩=some (.string (oneT k))∧W'.cell? ⟨g,κ,none⟩=some (.string (tx (mrgP hk (arcF hk l) (arcK l) t κ)))) (by kernel_rfl) (by kernel_rfl) rfl ?_;have hS0:(fun W':World=>W'.cell? ⟨wr.heap.size,2,none⟩=some (.string a.w)∧W'.cell? ⟨wr.heap.size,3,none⟩=some (.int .i64 (κ:Int))∧W'.cell? ⟨gc,0,none⟩=some (.int .i64 k)∧W'.cell? ⟨gc,1,none⟩=some (.string (zaf k))∧W'.cell? ⟨gc,2,none⟩=some (.string (oneT k))∧W'.cell? ⟨g,κ,none⟩=some (.string (tx (mrgP hk (arcF hk l) (arcK l) t κ)))) U.drew:=⟨e2,e3,d0,d1,d2,dr⟩;refine zTk 0 (.slice (some ⟨g,0,none⟩) n n) rfl hS0 ?_
   (try simp only[zA1,zA2,zA3,Act.put,zA4,zA5,zA6])
   refine zTk 1 (.pointer (some ⟨wr.heap.size,3,none⟩)) rfl hS0 ?_
   (try simp only[zA1,zA2,zA3,Act.put,zA4,zA5,zA6])
   refine zTk 2 (.int .i64 (κ:Int)) rfl hS0 ?_
   (try simp only[zA1,zA2,zA3,Act.put,zA4,zA5,zA6])
   refine zTk 3 (.pointer (some ⟨gc,0,none⟩)) rfl hS0 ?_
   (try simp only[zA1,zA2,zA3,Act.put,zA4,zA5,zA6])
   refine zTk 4 (.agg #[.int .i64 k,.string (zaf k),.string (oneT k)]) rfl hS0 ?_
   (try simp only[zA1,zA2,zA3,Act.put,zA4,zA5,zA6])
   refine zTk 5 (.slice (some ⟨g,0,none⟩) n n) rfl hS0 ?_
   (try simp only[zA1,zA2,zA3,Act.put,zA4,zA5,zA6])
   refine zTk 6 (.pointer (some ⟨wr.heap.size,3,none⟩)) rfl hS0 ?_
   (try simp only[zA1,zA2,zA3,Act.put,zA4,zA5,zA6])
   refine zTk 7 (.int .i64 (κ:Int)) rfl hS0 ?_
   (try simp only[zA1,zA2,zA3,Act.put,zA4,zA5,zA6])
   refine zTk 8 (.pointer (some ⟨g,κ,none⟩)) rfl hS0 ?_
   (try simp only[zA1,zA2,zA3,Act.put,zA4,zA5,zA6])
   refine zTk 9 (.string (tx (mrgP hk (arcF hk l) (arcK l) t κ))) rfl hS0 ?_
   (try simp only[zA1,zA2,zA3,Act.put,zA4,zA5,zA6])
   refine zTk 10 (.pointer (some ⟨wr.heap.size,2,none⟩)) rfl hS0 ?_
   (try simp only[zA1,zA2,zA3,Act.put,zA4,zA5,zA6])
   refine zTk 11 (.string a.w) rfl hS0 ?_
   (try simp only[zA1,zA2,zA3,Act.put,zA4,zA5,zA6])
   refine wpAnyH_ready (rs:=[12]) (by kernel_rfl) (by simp) ?_;refine AllReadyH.cons rfl (fun K hK => ?_) AllReadyH.nil
   go_simp
   refine(HCALL.out _).mono ?_;rintro e w5 (⟨hp,rfl,hg5⟩|⟨hn,rfl,hg5⟩);rotate_left 1
   ·exact⟨rfl,.inr ⟨fun h=>hn (HT.out.2.1 ▸ h t HT.out.1),rfl,zaa (zaa HI2.out.gr HUW.out) hg5⟩⟩
   have s0:=hg5.cell d0 (by simp);have s1:=hg5.cell d1 (by simp);have s2:=hg5.cell d2 (by simp);have hr5:=(hg5.block g (Array.getElem?_eq_some_iff.1 HROW.out).1 (by simp)).trans HROW.out;have z0:=frozen_of_row w5 g κ _ _ hr5;have q0:=cell_of_row w5 g κ _ _ (0,0) hr5;rw[List.getElem?_toArray,zdZ hk _ _ t HT.out.2.2] at q0;refine hK.out _ _ (⟨hg5.cell e2 (by simp),hg5.cell e3 (by simp),s0,s1,s2,q0⟩) (fun hHeld => ?_);have H5:=zHd (zAI hp (zAI hg5 hr5));clear hp hg5 hr5 hS0 hK K;refine zTk 13 (.pointer (some ⟨g,κ,none⟩)) rfl hHeld ?_
   (try simp only[zA1,zA2,zA3,Act.put,zA4,zA5,zA6])
   clear hHeld;refine wpAnyH_done (by kernel_rfl) ?_ _;refine zgA (by rfl) (fun K hK => ?_)
   go_simp
   refine hK _ _ ?_;go_wp2;obtain⟨hp,hg5,hr5⟩:=H5.out;have hnx:=HI2.out.next HT.out.1 (by rw[HT.out.2.1];exact HT.out.2.2) (zaa HUW.out hg5) hr5 (by rw[HT.out.2.1];exact hp);rw[HT.out.2.1] at hnx;exact⟨⟨t+1,by simp,hnx,zbj hne1 s0,zbj hne1 s1,zbj hne1 s2⟩,by have:=HT.out.1;simp[intOf];omega⟩
  ·have hte:t=q:=by have:=hinv.le;omega
   subst hte;have t1:decide (t<t)=false:=by simp
   have t1':decide ((t:Int)<(t:Int))=false:=by simp
   have HI2:=zHd hinv;clear hinv ht;go_wp2;go_ret;refine .inl ⟨HI2.out.fit,_,rfl,⟨g,rfl,HI2.out.hg,(Array.getElem?_eq_some_iff.1 HI2.out.row).1,fun d hd => ?_⟩,HI2.out.gr⟩;rw[Nat.zero_add,cell_of_row wr g d _ _ (0,0) HI2.out.row,List.getElem?_toArray,zdZ hk _ _ t hd]
   rfl
end
open Go.RowKit
section
variable {k:Int}
def stA (l:List zag)(i:Nat):List MArc:=(l[i]?.map (·.arcs)).getD []
def stF (l:List zag)(i:Nat):ByteArray:=(l[i]?.map (·.fin)).getD ⟨#[]⟩
theorem zkR {l:List zag}{i:Nat}{s:zag}(h:l[i]? = some s):stA l i=s.arcs:=by unfold stA;rw[h];rfl
theorem zgs {l:List zag}{i:Nat}{s:zag}(h:l[i]? = some s):stF l i=s.fin:=by unfold stF;rw[h];rfl
noncomputable def arcM (hk:zad k)(l:List zag)(i d:Nat):El k:=mrgP hk (arcF hk (stA l i)) (arcK (stA l i)) (stA l i).length d
def zfO (hk:zad k)(l:List zag):Prop:=∀ i,i<l.length→∀ s,s<(stA l i).length→FitE (mrgP hk (arcF hk (stA l i)) (arcK (stA l i)) (s+1) (arcK (stA l i) s))
noncomputable def finE (hk:zad k)(a:ByteArray):El k := @ite _ (a=⟨#[]⟩) (Classical.propDecidable _) (srE k hk).zero (vE hk a)
noncomputable def finM (hk:zad k)(l:List zag)(i:Nat):El k:=finE hk (stF l i)
structure zcz (k:Int)(l:List zag):Prop where
 n60:l.length≤60
 arcs:∀ i,i<l.length→ztM k l.length (stA l i)∧(stA l i).length≤30000
 fins:∀ i,i<l.length→stF l i=⟨#[]⟩∨∃ v,Val k (stF l i) v
theorem ztN (hk:zad k){l:List zag}(h:zfO hk l){i:Nat}(hi:i<l.length)(d:Nat):FitE (arcM hk l i d):=zmN hk _ _ _ (h i hi) d
theorem zEs (hk:zad k){a:ByteArray}(h:a=⟨#[]⟩∨∃ v,Val k a v):FitE (finE hk a):=by
 unfold finE
 split
 ·exact zcJ hk
 ·next hn =>
  rcases h with h|h
  ·exact absurd h hn
  ·exact(zic hk h).2
theorem zrz:Enters 143:=enters_of Tryz.func143 (by kernel_rfl) rfl
theorem zrA:Enters 95:=enters_of Tryz.func95 (by kernel_rfl) rfl
theorem zlP:Enters 98:=enters_of Tryz.func98 (by kernel_rfl) rfl
theorem zqM (hk:zad k)(l:List zag)(us:List Value)(As:Option Addr)(cs:Nat)(kd st:Int)(ld:ByteArray)(w:World)(hok:zcz k l)(hst:StsR w l us As cs) :
  Calls Tryz.prog 97 #[calV k,.agg #[.int .i64 kd,.int .i64 st,.string ld,.slice As l.length cs]] w (zbo (zfO hk l) (fun v w'=>MatV w' v l.length l.length (arcM hk l)) w):=by
 have hmf:∀ (fn:Fn) (first cap:Array Value) (w:World),(Instr.makeFunc fn first cap).run Tryz.prog w = .ok (.func fn first cap) w:=fun _ _ _ _=>rfl;have hal1:=zGA w (.cells #[.int .i64 k,.string (zaf k),.string (oneT k)] 64) none;have hal2:=zGA (w.alloc (.cells #[.int .i64 k,.string (zaf k),.string (oneT k)] 64)) (.cells #[.int .i64 kd,.int .i64 st,.string ld,.slice As l.length cs] 31) none;have hW:=zaa hal1 hal2
 have xc:zcc ((w.alloc (.cells #[.int .i64 k,.string (zaf k),.string (oneT k)] 64)).alloc (.cells #[.int .i64 kd,.int .i64 st,.string ld,.slice As l.length cs] 31)) w.heap.size k:=by
  have h:zcc (w.alloc (.cells #[.int .i64 k,.string (zaf k),.string (oneT k)] 64)) w.heap.size k:=⟨zak w _ _ rfl,zak w _ _ rfl,zak w _ _ rfl⟩;exact h.grown hal2
 have xs:((w.alloc (.cells #[.int .i64 k,.string (zaf k),.string (oneT k)] 64)).alloc (.cells #[.int .i64 kd,.int .i64 st,.string ld,.slice As l.length cs] 31)).cell? ⟨w.heap.size+1,3,none⟩=some (.slice As l.length cs):=by
  have h:=zak (w.alloc (.cells #[.int .i64 k,.string (zaf k),.string (oneT k)] 64)) #[.int .i64 kd,.int .i64 st,.string ld,.slice As l.length cs] 31 (j:=3) (u := .slice As l.length cs) rfl;rw[show(w.alloc (.cells #[.int .i64 k,.string (zaf k),.string (oneT k)] 64)).heap.size=w.heap.size+1 by simp] at h;exact h
 have hmap:=zgw 143 zrz #[] #[.pointer (some ⟨w.heap.size,0,none⟩),.pointer (some ⟨w.heap.size+1,0,none⟩)] l us As cs l.length (fun i=>∀ s,s<(stA l i).length→FitE (mrgP hk (arcF hk (stA l i)) (arcK (stA l i)) (s+1) (arcK (stA l i) s))) (fun i=>txs (arcM hk l i)) _ (by have:=hok.n60;omega) (hst.grown hW) (fun i s u hs hu w' hw' ha=>by
  have hil:=(List.getElem?_eq_some_iff.1 hs).1;have he:=zkR hs;obtain⟨h1,h2⟩:=hok.arcs i hil;rw[he] at h1 h2;have h:=zyn hk l.length w.heap.size (w.heap.size+1) cs s.fin u s.arcs As w' (by have:=hok.n60;omega) h2 h1 ha (xc.grown hw') (hw'.cell xs (by simp));refine h.mono (fun e w3 h => ?_);rcases h with⟨hp,v,e1,⟨g,e2,q1,q2⟩,q3⟩|⟨hp,q⟩
  ·refine .inl ⟨by rw[he];exact hp,v,e1,⟨g,0,l.length,e2,Nat.le_refl _,by have:=hok.n60;unfold maxLen;omega,.inr q1,?_⟩,q3⟩
   show zam w3 g 0 l.length (txs (arcM hk l i));unfold arcM;rw[he];exact q2
  ·exact .inr ⟨by rw[he];exact hp,q⟩)
 have HM:=zHd hmap;have HW:=zHd hW;have HN:=zHd hok.n60;clear hmap hal1 hal2 hW xc xs hst hok;unfold calV at *;go_enter Tryz.func97,Tryz.ntmps97;go_wp2_with fail;refine HM.out.mono ?_;rintro e w1 (⟨hp,v,rfl,⟨zs,rfl,hzs,_⟩,hg1⟩|⟨hn,rfl,hg1⟩)
 ·have HP:=zHd (zAI hp (zAI hzs hg1))
  clear hp hzs hg1 HM;go_wp2;go_ret;obtain⟨hp,hzs,hg1⟩:=HP.out;refine .inl ⟨hp,_,rfl,?_,zaa HW.out hg1⟩;have h:=hzs.mat (by have:=HN.out;omega)
  simpa using h
 ·exact⟨rfl,.inr ⟨hn,rfl,zaa HW.out hg1⟩⟩
end
open Go.RowKit
def zyo (n m:Nat)(X Y:Nat→ByteArray):Prop:=n=m∧∀ i,i<n→X i=Y i
theorem zkS (n m:Nat)(X Y:Nat→ByteArray)(av bv:Value)(w:World)(hn:n≤10000)(hm:m≤10000)(ha:RowR w av n (fun i => .string (X i)))(hb:RowR w bv m (fun i => .string (Y i))) :
  Calls Tryz.prog 27 #[av,bv] w (zbb (zyo n m X Y) w):=by
 obtain⟨Aa,ca,rfl,_,_,ha3⟩:=ha;obtain⟨Ab,cb,rfl,_,_,hb3⟩:=hb;have HA:=zHd ha3;have HB:=zHd hb3;have HN:=zHd (zAI hn hm);clear ha3 hb3
 by_cases hnm:n=m
 ·subst hnm
  have t1:((n:Int) == (n:Int))=true:=by simp
  have t2:((n:Int) != (n:Int))=false:=by simp
  clear hn hm;go_enter Tryz.func27,Tryz.ntmps27;go_wp2
  go_loopw [5] (fun iv wr=>∃ i:Nat,i≤n∧iv = .int .i64 (i:Int)∧w.grownBy wr none∧∀ x,x<i→X x=Y x) (fun iv _=>n - (intOf iv).toNat)
  case atStart=>exact⟨0,Nat.zero_le _,rfl,World.grownBy.refl _ _,fun x hx=>absurd hx (by omega)⟩
  case round =>
   obtain⟨i,hi,rfl,hg,hx⟩:=hrel
   by_cases hin:i<n
   ·obtain⟨ad,rfl,hbl,hca⟩:=HA.out i hin
    obtain⟨bd,rfl,hbl2,hcb⟩:=HB.out i hin;have q1:wr.drew.cell? (ad.add i)=some (.string (X i)):=(zaq (w:=w) (w':=wr) (ad:=ad.add i) (by rw[zaj];exact hg.block _ hbl (by simp))).trans hca;have q2:wr.drew.cell? (bd.add i)=some (.string (Y i)):=(zaq (w:=w) (w':=wr) (ad:=bd.add i) (by rw[zaj];exact hg.block _ hbl2 (by simp))).trans hcb;have u1:decide (i<n)=true:=by simpa using hin
    have u1':decide ((i:Int)<(n:Int))=true:=by simpa using hin
    have hit:(i:Int)<(n:Int):=by omega
    have hi0:(0:Int)≤(i:Int):=by omega
    have n1:IntKind.i64.wrap ((i:Int)+1)=(i:Int)+1:=by have:=HN.out;rw[IntKind.wrap_i64];omega
    have HI:=zHd (zAI hin (zAI hg hx));clear hi hin hg hx hbl hbl2 hca hcb;rcases zcU (X i) (Y i) with⟨f1,e1⟩|⟨f1,e1⟩
    ·have f2:((X i).toList != (Y i).toList)=false:=by simp[bne,f1]
     have HE:=zHd e1;clear e1;go_upto_region 6 with(fail)
     go_region_held2 (fun W'=>W'.cell? (ad.add i)=some (.string (X i))∧W'.cell? (bd.add i)=some (.string (Y i))) (first|exact⟨q1,q2⟩|go_keep) (fail)
     all_goals
      go_wp2;refine⟨⟨i+1,HI.out.1,by simp,zaa HI.out.2.1 (zae wr none),fun x hx => ?_⟩,by have:=HI.out.1;simp[intOf];omega⟩
      by_cases e:x<i
      ·exact HI.out.2.2 x e
      ·rw[show x=i by omega];exact HE.out
    ·have f2:((X i).toList != (Y i).toList)=true:=by simp[bne,f1]
     have HE:=zHd e1;clear e1;go_upto_region 6 with(fail)
     go_region_held2 (fun W'=>W'.cell? (ad.add i)=some (.string (X i))∧W'.cell? (bd.add i)=some (.string (Y i))) (first|exact⟨q1,q2⟩|go_keep) (fail)
     all_goals
      go_wp2;go_ret;exact zbb.no (fun h=>HE.out (h.2 i HI.out.1)) (zaa HI.out.2.1 (zae wr none))
   ·obtain rfl:i=n:=by omega
    have u1:decide (i<i)=false:=by simp
    have u1':decide ((i:Int)<(i:Int))=false:=by simp
    have HI:=zHd (zAI hg hx);clear hi hin hg hx;go_wp2;go_ret;exact zbb.yes ⟨rfl,HI.out.2⟩ HI.out.1
 ·have t1:((n:Int) == (m:Int))=false:=by simp;omega
  have t2:((n:Int) != (m:Int))=true:=by simp[bne];omega
  have HE:=zHd hnm;clear hnm hn hm;go_enter Tryz.func27,Tryz.ntmps27;go_wp2;go_ret;exact zbb.no (fun h=>HE.out h.1) (World.grownBy.refl _ _)
def zBF (n m:Nat)(la lb:Nat→Nat)(X Y:Nat→Nat→ByteArray):Prop:=n=m∧∀ i,i<n→zyo (la i) (lb i) (X i) (Y i)
theorem zeu (n m:Nat)(la lb:Nat→Nat)(X Y:Nat→Nat→ByteArray)(av bv:Value)(w:World)(hn:n≤10000)(hm:m≤10000)(hla:∀ i,i<n→la i≤10000)(hlb:∀ i,i<m→lb i≤10000)(ha:MatA w av n la X)(hb:MatA w bv m lb Y) :
  Calls Tryz.prog 16 #[av,bv] w (zbb (zBF n m la lb X Y) w):=by
 obtain⟨ra,⟨Aa,ca,rfl,_,_,ha3⟩,ha4⟩:=ha;obtain⟨rb,⟨Ab,cb,rfl,_,_,hb3⟩,hb4⟩:=hb;have hsame:=fun(i:Nat) (hi:i<n) (hi2:i<m) (w':World) (hg:w.grownBy w' none)=>zkS (la i) (lb i) (X i) (Y i) (ra i) (rb i) w' (hla i hi) (hlb i hi2) ((ha4 i hi).grown hg) ((hb4 i hi2).grown hg);have hra:∀ i,i<n→∃ A c,ra i = .slice A (la i) c:=fun i hi=>by obtain⟨A,c,e,_⟩:=ha4 i hi;exact⟨A,c,e⟩
 have hrb:∀ i,i<m→∃ A c,rb i = .slice A (lb i) c:=fun i hi=>by obtain⟨A,c,e,_⟩:=hb4 i hi;exact⟨A,c,e⟩
 have HA:=zHd ha3;have HB:=zHd hb3;have HN:=zHd (zAI hn hm);have HS:=zHd hsame;have HRA:=zHd hra;have HRB:=zHd hrb;clear ha3 hb3 ha4 hb4 hsame hra hrb hla hlb
 by_cases hnm:n=m
 ·subst hnm
  have t1:((n:Int) == (n:Int))=true:=by simp
  have t2:((n:Int) != (n:Int))=false:=by simp
  clear hn hm;go_enter Tryz.func16,Tryz.ntmps16;go_wp2
  go_loopw [5] (fun iv wr=>∃ i:Nat,i≤n∧iv = .int .i64 (i:Int)∧w.grownBy wr none∧∀ x,x<i→zyo (la x) (lb x) (X x) (Y x)) (fun iv _=>n - (intOf iv).toNat)
  case atStart=>exact⟨0,Nat.zero_le _,rfl,World.grownBy.refl _ _,fun x hx=>absurd hx (by omega)⟩
  case round =>
   obtain⟨i,hi,rfl,hg,hx⟩:=hrel
   by_cases hin:i<n
   ·obtain⟨ad,rfl,hbl,hca⟩:=HA.out i hin
    obtain⟨bd,rfl,hbl2,hcb⟩:=HB.out i hin;obtain⟨A1,c1,e1⟩:=HRA.out i hin;obtain⟨A2,c2,e2⟩:=HRB.out i hin;have q1:wr.drew.cell? (ad.add i)=some (ra i):=(zaq (w:=w) (w':=wr) (ad:=ad.add i) (by rw[zaj];exact hg.block _ hbl (by simp))).trans hca;have q2:wr.drew.cell? (bd.add i)=some (rb i):=(zaq (w:=w) (w':=wr) (ad:=bd.add i) (by rw[zaj];exact hg.block _ hbl2 (by simp))).trans hcb;have hcall:=HS.out i hin hin wr.drew (zaa hg (zae wr none));rw[e1,e2] at hcall;rw[e1] at q1;rw[e2] at q2;have u1:decide (i<n)=true:=by simpa using hin
    have u1':decide ((i:Int)<(n:Int))=true:=by simpa using hin
    have hit:(i:Int)<(n:Int):=by omega
    have hi0:(0:Int)≤(i:Int):=by omega
    have n1:IntKind.i64.wrap ((i:Int)+1)=(i:Int)+1:=by have:=HN.out;rw[IntKind.wrap_i64];omega
    have HI:=zHd (zAI hin (zAI hg hx));have HC:=zHd hcall;clear hi hin hg hx hbl hbl2 hca hcb hcall e1 e2;go_upto_region 6 with(fail)
    go_region_held2 (fun W'=>W'.cell? (ad.add i)=some (.slice A1 (la i) c1)∧W'.cell? (bd.add i)=some (.slice A2 (lb i) c2)) (first|exact⟨q1,q2⟩|exact S5|go_keep)
     (first|(go_at_call 27;refine HC.out.mono ?_;rintro e w5 ⟨b,rfl,hb,hg5⟩;have S5:(fun W':World=>W'.cell? (ad.add i)=some (.slice A1 (la i) c1)∧W'.cell? (bd.add i)=some (.slice A2 (lb i) c2)) w5:=⟨hg5.cell q1 (by simp),hg5.cell q2 (by simp)⟩;have H5:=zHd (zAI hb (zaa HI.out.2.1 (zaa (zae wr none) hg5)));clear hb hg5))
    all_goals
     cases b
     ·go_wp2
      go_ret;refine zbb.no (fun h => ?_) H5.out.2;have:=H5.out.1.2 (h.2 i HI.out.1);cases this
     ·go_wp2
      refine⟨⟨i+1,HI.out.1,by simp,H5.out.2,fun x hx => ?_⟩,by have:=HI.out.1;simp[intOf];omega⟩
      by_cases e:x<i
      ·exact HI.out.2.2 x e
      ·rw[show x=i by omega];exact H5.out.1.1 rfl
   ·obtain rfl:i=n:=by omega
    have u1:decide (i<i)=false:=by simp
    have u1':decide ((i:Int)<(i:Int))=false:=by simp
    have HI:=zHd (zAI hg hx);clear hi hin hg hx;go_wp2;go_ret;exact zbb.yes ⟨rfl,HI.out.2⟩ HI.out.1
 ·have t1:((n:Int) == (m:Int))=false:=by simp;omega
  have t2:((n:Int) != (m:Int))=true:=by simp[bne];omega
  have HE:=zHd hnm;clear hnm hn hm;go_enter Tryz.func16,Tryz.ntmps16;go_wp2;go_ret;exact zbb.no (fun h=>HE.out h.1) (World.grownBy.refl _ _)
theorem MatV.texts {k:Int}{w:World}{v:Value}{n m:Nat}{F:Nat→Nat→El k}(h:MatV w v n m F):MatA w v n (fun _=>m) (fun i j=>tx (F i j)):=by
 obtain⟨rs,h1,h2⟩:=h;exact⟨rs,h1,fun i hi=>(h2 i hi).row⟩
end Go.Proofs.YtaogepcaoogpgaaGreatDoor
