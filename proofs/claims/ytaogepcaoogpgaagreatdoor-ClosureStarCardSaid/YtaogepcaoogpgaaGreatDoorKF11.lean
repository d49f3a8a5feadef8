/- Part. -/
import Derived.Test.YtaogepcaoogpgaaGreatDoorKF10
set_option linter.unusedVariables false
set_option linter.unusedSimpArgs false
set_option maxRecDepth 100000
set_option maxHeartbeats 16000000
namespace Go.Proofs.YtaogepcaoogpgaaGreatDoor
open Go.RowKit
open Go.RowKit
theorem zyz (w:World)(a:zaN):zIh (w.alloc (.cells #[.int .i64 a.i,.int .i64 a.o,.string a.w,.int .i64 a.t] 59)) ⟨w.heap.size,0,none⟩ a:=by
 have hrow:(w.alloc (.cells #[.int .i64 a.i,.int .i64 a.o,.string a.w,.int .i64 a.t] 59)).heap[w.heap.size]?=some (.cells #[.int .i64 a.i,.int .i64 a.o,.string a.w,.int .i64 a.t] 59 (0,0)):=by
  show(w.heap.push _)[w.heap.size]?=_;rw[zqaz]
 exact⟨by rw[zqbw _ w.heap.size 0 _ _ (0,0) hrow];rfl,by show World.cell? _ ⟨w.heap.size,0+1,none⟩=_;rw[zqbw _ w.heap.size 1 _ _ (0,0) hrow];rfl,by show World.cell? _ ⟨w.heap.size,0+2,none⟩=_;rw[zqbw _ w.heap.size 2 _ _ (0,0) hrow];rfl,by show World.cell? _ ⟨w.heap.size,0+3,none⟩=_;rw[zqbw _ w.heap.size 3 _ _ (0,0) hrow];rfl⟩
open Go.RowKit
structure zvO (P:zaN->Bool)(m:zak)(k:Nat):Prop where
 hk:k<=m.states.length
 hs:∀ (j:Nat) (s:zai),j<k->m.states[j]?=some s->s.arcs.all P=true
theorem zvO.next {P:zaN->Bool}{m:zak}{k:Nat}{s:zai}(h:zvO P m k)(hs:m.states[k]?=some s)(hP:s.arcs.all P=true):zvO P m (k+1) :=
 ⟨by have:=(zqae.1 hs).1;omega,fun j t hj ht=>by
  by_cases e:j=k
  ·subst e;rw[hs] at ht;cases ht;exact hP
  ·exact h.hs j t (by omega) ht⟩
structure EIn (P:zaN->Bool)(s:zai)(j:Nat):Prop where
 hj:j<=s.arcs.length
 ha:∀ (i:Nat) (a:zaN),i<j->s.arcs[i]?=some a->P a=true
theorem EIn.next {P:zaN->Bool}{s:zai}{j:Nat}{a:zaN}(h:EIn P s j)(ha:s.arcs[j]?=some a)(hP:P a=true):EIn P s (j+1) :=
 ⟨by have:=(zqae.1 ha).1;omega,fun i b hi hb=>by
  by_cases e:i=j
  ·subst e;rw[ha] at hb;cases hb;exact hP
  ·exact h.ha i b (by omega) hb⟩
theorem EIn.all {P:zaN->Bool}{s:zai}{j:Nat}(h:EIn P s j)(hj:¬ j<s.arcs.length):s.arcs.all P=true:=by
 rw[List.all_eq_true];intro a ha;obtain⟨i,hi⟩:=List.mem_iff_getElem?.1 ha;exact h.ha i a (by have:=(zqae.1 hi).1;omega) hi
theorem zDW {m:zak}(h:validB m=true):m.states.length<=3000:=(zeP (zeO h)).2.2.1
theorem zDX {m:zak}(h:validB m=true){s:zai}(hs:s∈m.states):s.arcs.length<=30000:=zqam (zsS hs) (zll h)
open Go.RowKit
open Go.RowKit
structure Kept (B:Nat)(W W':World):Prop where
 size:W.heap.size<=W'.heap.size
 block:∀ b,B<=b->b<W.heap.size->W'.heap[b]?=W.heap[b]?
theorem zib {W W':World}{b B:Nat}(h:W.grownBy W' (some b))(hb:b<B):Kept B W W':=⟨h.size,fun c hc hl=>h.block c hl (by simp;omega)⟩
theorem zqq {W W':World}{B k n:Nat}{A:Option Addr}{xs:List Value}(h:Reads W W.heap.size k A n xs)(hB:0<n->∀ ad,A=some ad->B<=ad.block)(hk:Kept B W W'):Reads W' W'.heap.size k A n xs :=
 ⟨h.1,fun h0=>by
  obtain⟨ad,hA,hb,hc⟩:=h.2 h0;exact⟨ad,hA,zqba hb hk.size,fun j u hu=>(World.cell?_of_block (by rw[zgS];exact hk.block _ (hB h0 ad hA) hb)).trans (hc j u hu)⟩⟩
theorem zdr.keptN {W W':World}{B:Nat}{v:Value}{l:List zaN}(h:zdr W v l)(hB:0<l.length->∀ b,v.ownBlock=some b->B<=b)(hk:Kept B W W'):zdr W' v l:=by
 obtain⟨A,cap,rfl,hr⟩:=h;exact⟨A,cap,rfl,zqq hr (fun h0 ad hA=>by subst hA;exact hB h0 _ rfl) hk⟩
def StN (W:World)(B:Nat)(u:Value)(l:List zai):Prop:=∃ A cap us,u=.slice A l.length cap/\us.length=l.length/\Reads W W.heap.size 2 A l.length ((l.zip us).flatMap stC)/\(0<l.length->∀ ad,A=some ad->B<=ad.block) /\
 ∀ (k:Nat) (s:zai) (x:Value),l[k]?=some s->us[k]?=some x->zdr W x s.arcs/\(0<s.arcs.length->∀ b,x.ownBlock=some b->B<=b)
theorem StN.sl {W:World}{B:Nat}{u:Value}{l:List zai}(h:StN W B u l):zoF W u l:=by
 obtain⟨A,cap,us,hu,hl,hr,_,ha⟩:=h;exact⟨A,cap,us,hu,hl,hr,fun k s x hs hx=>(ha k s x hs hx).1⟩
theorem StN.kept {W W':World}{B:Nat}{u:Value}{l:List zai}(h:StN W B u l)(hk:Kept B W W'):StN W' B u l:=by
 obtain⟨A,cap,us,hu,hl,hr,hb,ha⟩:=h;exact⟨A,cap,us,hu,hl,zqq hr hb hk,hb,fun k s x hs hx=>⟨(ha k s x hs hx).1.keptN (ha k s x hs hx).2 hk,(ha k s x hs hx).2⟩⟩
theorem StN.mono {W:World}{B C:Nat}{u:Value}{l:List zai}(h:StN W B u l)(hC:C<=B):StN W C u l:=by
 obtain⟨A,cap,us,hu,hl,hr,hb,ha⟩:=h;exact⟨A,cap,us,hu,hl,hr,fun h0 ad hA=>zqam hC (hb h0 ad hA),fun k s x hs hx=>⟨(ha k s x hs hx).1,fun h0 b hx2=>zqam hC ((ha k s x hs hx).2 h0 b hx2)⟩⟩
theorem StN.nil (W:World)(B:Nat):StN W B (.slice none 0 0) []:=⟨none,0,[],rfl,rfl,Reads.none_,fun h=>by simp at h,fun k s x hs=>by simp at hs⟩
def MN (W:World)(B:Nat)(v:Value)(m:zak):Prop:=∃ u,v=.agg #[.int .i64 m.kind,.int .i64 m.start,.string m.lead,u]/\StN W B u m.states
def zmH (m:zak)(w:World)(e:Ending)(w':World):Prop:=∃ v,e=.returned v/\MN w' w.heap.size v m/\w.grownBy w' none
def zAz (r:zak×Int)(w:World)(e:Ending)(w':World):Prop:=∃ v,e=.returned (.tuple #[v,.int .i64 r.2])/\MN w' w.heap.size v r.1/\w.grownBy w' none
theorem zmH.open6 {m:zak}{w:World}{e:Ending}{w':World}(h:zmH m w e w'):∃ A c,e=.returned (.agg #[.int .i64 m.kind,.int .i64 m.start,.string m.lead,.slice A m.states.length c])/\StN w' w.heap.size (.slice A m.states.length c) m.states/\w.grownBy w' none:=by
 obtain⟨v,rfl,⟨u,rfl,hst⟩,hg⟩:=h;obtain⟨A,c,us,hv,_⟩:=id hst;subst hv;exact⟨A,c,rfl,hst,hg⟩
theorem zAz.open6 {m:zak}{k:Int}{w:World}{e:Ending}{w':World}(h:zAz (m,k) w e w'):∃ A c,e=.returned (.tuple #[.agg #[.int .i64 m.kind,.int .i64 m.start,.string m.lead,.slice A m.states.length c],.int .i64 k])/\StN w' w.heap.size (.slice A m.states.length c) m.states/\w.grownBy w' none:=by
 obtain⟨v,rfl,⟨u,rfl,hst⟩,hg⟩:=h;obtain⟨A,c,us,hv,_⟩:=id hst;subst hv;exact⟨A,c,rfl,hst,hg⟩
open Go.RowKit
def zbk:zak:=⟨0,0,ByteArray.empty,[]⟩
def zcm (k:Int):zak:=⟨k,0,zal k,[⟨ByteArray.empty,[]⟩]⟩
theorem zyA:(Tryz.prog.info? 57).map (fun i=>(i.zero,i.size,i.bytes))=some (some (.agg #[.string ByteArray.empty,.slice none 0 0]),2,40):=by kernel_rfl
theorem zdb {t:TypeId}{z:Value}{n b:Nat}(h:(Tryz.prog.info? t).map (fun i=>(i.zero,i.size,i.bytes))=some (some z,n,b)) :
  ∃ i,Tryz.prog.info? t=some i/\i.zero=some z/\i.size=n/\i.bytes=b:=by
 obtain⟨i,hi,he⟩:=Option.map_eq_some_iff.1 h;simp only[Prod.mk.injEq] at he;exact⟨i,hi,he.1,he.2.1,he.2.2⟩
theorem zJu:madeCells (Value.agg #[.string ByteArray.empty,.slice none 0 0]).cells (Int.toNat 1*2)=#[.string ByteArray.empty,.slice none 0 0]:=by
 first
 | kernel_rfl
 | simp[madeCells,Value.cells]
 | decide
theorem zav.free {w:World}{g:Nat}{m:zak}{u:Value}(h:zav w g m u)(k:Nat):w.frozen? ⟨g,k,none⟩=false:=zqbx w g k _ _ h
theorem zav.set {w:World}{g:Nat}{m n:zak}{u v:Value}(h:zav w g m u) :
  zav ((((w.setCell ⟨g,0,none⟩ (.int .i64 n.kind)).setCell ⟨g,1,none⟩ (.int .i64 n.start)).setCell ⟨g,2,none⟩ (.string n.lead)).setCell ⟨g,3,none⟩ v) g n v:=by
 unfold zav at h ⊢;have h1:=heap_setCell_same w g 0 _ _ (.int .i64 n.kind) h;have h2:=heap_setCell_same _ g 1 _ _ (.int .i64 n.start) h1;have h3:=heap_setCell_same _ g 2 _ _ (.string n.lead) h2;have h4:=heap_setCell_same _ g 3 _ _ v h3;rw[h4];rfl
def Place (W0 W':World)(g:Nat):Prop:=(W'.cell? ⟨g,0,none⟩=some (.int .i64 0)/\W'.cell? ⟨g,1,none⟩=some (.int .i64 0)/\W'.cell? ⟨g,2,none⟩=some (.string ByteArray.empty)/\W'.cell? ⟨g,3,none⟩=some (.slice none 0 0) /\
  W'.frozen? ⟨g,0,none⟩=false/\W'.frozen? ⟨g,1,none⟩=false/\W'.frozen? ⟨g,2,none⟩=false/\W'.frozen? ⟨g,3,none⟩=false)/\Hid (zav W' g zbk (.slice none 0 0)/\W0.grownBy W' none)
theorem zoN {W0 W':World}{g:Nat}(hb:zav W' g zbk (.slice none 0 0))(hg:W0.grownBy W' none):Place W0 W' g :=
 ⟨⟨hb.cells.c0,hb.cells.c1,hb.cells.c2,hb.cells.c3,hb.free 0,hb.free 1,hb.free 2,hb.free 3⟩,zHd ⟨hb,hg⟩⟩
theorem Place.next_drew {W0 W:World}{g:Nat}(h:Place W0 W g):Place W0 W.drew g :=
 zoN (h.2.out.1.grown (zag _ _)) (zaa h.2.out.2 (zag _ _))
theorem zsZ {W:World}{b B:Nat}(h:W.heap[b]?=some (.cells #[.string ByteArray.empty,.slice none 0 0] 57 (0,0)))(hB:B<=b):StN W B (.slice (some ⟨b,0,none⟩) 1 1) [⟨ByteArray.empty,[]⟩]:=by
 have hb:b<W.heap.size:=(zqad.1 h).1;have h0:W.cell? ⟨b,0,none⟩=some (.string ByteArray.empty):=by rw[zqbw _ b 0 _ _ (0,0) h];rfl
 have h1:W.cell? ⟨b,0+1,none⟩=some (.slice none 0 0):=by show World.cell? _ ⟨b,1,none⟩=_;rw[zqbw _ b 1 _ _ (0,0) h];rfl
 refine⟨some ⟨b,0,none⟩,1,[.slice none 0 0],rfl,rfl,⟨rfl,fun _=>⟨_,rfl,hb,fun j u hu=>?_⟩⟩,fun _ ad hA=>by cases hA;exact hB,fun k s u hs hu=>?_⟩
 ·match j,hu with
  | 0,hu=>simp[stC] at hu;subst hu;exact h0
  | 1,hu=>simp[stC] at hu;subst hu;exact h1
  | j+2,hu=>simp[stC] at hu
 ·match k,hs,hu with
  | 0,hs,hu=>simp at hs hu;subst hs hu;exact⟨zdr.nil _,fun h=>by simp at h⟩
  | k+1,hs,hu=>simp at hs
theorem zln (w:World){W W':World}(hg:W.grownBy W' none)(h:(W.cell? ⟨w.heap.size,0,none⟩=some (.int .i64 0)/\W.cell? ⟨w.heap.size,1,none⟩=some (.int .i64 0)/\W.cell? ⟨w.heap.size,2,none⟩=some (.string ByteArray.empty)/\W.cell? ⟨w.heap.size,3,none⟩=some (.slice none 0 0)/\W.frozen? ⟨w.heap.size,0,none⟩=false/\W.frozen? ⟨w.heap.size,1,none⟩=false/\W.frozen? ⟨w.heap.size,2,none⟩=false/\W.frozen? ⟨w.heap.size,3,none⟩=false)/\Hid (zav W w.heap.size zbk (.slice none 0 0)/\w.grownBy W none)):(W'.cell? ⟨w.heap.size,0,none⟩=some (.int .i64 0)/\W'.cell? ⟨w.heap.size,1,none⟩=some (.int .i64 0)/\W'.cell? ⟨w.heap.size,2,none⟩=some (.string ByteArray.empty)/\W'.cell? ⟨w.heap.size,3,none⟩=some (.slice none 0 0)/\W'.frozen? ⟨w.heap.size,0,none⟩=false/\W'.frozen? ⟨w.heap.size,1,none⟩=false/\W'.frozen? ⟨w.heap.size,2,none⟩=false/\W'.frozen? ⟨w.heap.size,3,none⟩=false)/\Hid (zav W' w.heap.size zbk (.slice none 0 0)/\w.grownBy W' none) :=
 zoN (h.2.out.1.grown hg) (zaa h.2.out.2 hg)
theorem zqr {w W:World}{n:zak}{v:Value}(h:Place w W w.heap.size) :
  zav ((((W.setCell ⟨w.heap.size,0,none⟩ (.int .i64 n.kind)).setCell ⟨w.heap.size,1,none⟩ (.int .i64 n.start)).setCell ⟨w.heap.size,2,none⟩ (.string n.lead)).setCell ⟨w.heap.size,3,none⟩ v) w.heap.size n v /\
  w.grownBy ((((W.setCell ⟨w.heap.size,0,none⟩ (.int .i64 n.kind)).setCell ⟨w.heap.size,1,none⟩ (.int .i64 n.start)).setCell ⟨w.heap.size,2,none⟩ (.string n.lead)).setCell ⟨w.heap.size,3,none⟩ v) none /\
  ∀ b,b≠w.heap.size->b<W.heap.size->((((W.setCell ⟨w.heap.size,0,none⟩ (.int .i64 n.kind)).setCell ⟨w.heap.size,1,none⟩ (.int .i64 n.start)).setCell ⟨w.heap.size,2,none⟩ (.string n.lead)).setCell ⟨w.heap.size,3,none⟩ v).heap[b]?=W.heap[b]?:=by
 have g1:=zac W ⟨w.heap.size,0,none⟩ (.int .i64 n.kind);have g2:=zac (W.setCell ⟨w.heap.size,0,none⟩ (.int .i64 n.kind)) ⟨w.heap.size,1,none⟩ (.int .i64 n.start);have g3:=zac ((W.setCell ⟨w.heap.size,0,none⟩ (.int .i64 n.kind)).setCell ⟨w.heap.size,1,none⟩ (.int .i64 n.start)) ⟨w.heap.size,2,none⟩ (.string n.lead);have g4:=zac (((W.setCell ⟨w.heap.size,0,none⟩ (.int .i64 n.kind)).setCell ⟨w.heap.size,1,none⟩ (.int .i64 n.start)).setCell ⟨w.heap.size,2,none⟩ (.string n.lead)) ⟨w.heap.size,3,none⟩ v;have gg:=zaa g1 (zaa g2 (zaa g3 g4));exact⟨h.2.out.1.set,zaj (g:=w.heap.size) h.2.out.2 gg (zqab _),fun b hb hl=>gg.block b hl (by simpa using hb)⟩
def zbe (o:List Nat)(y:Nat):List Nat:=if y∈o then o else o++[y]
def zcZ (succ:Nat->List Nat):Nat->Nat->List Nat->List Nat
 | 0,_,o=>o
 | f+1,i,o=>match o[i]? with
  | none=>o
  | some x=>zcZ succ f (i+1) ((succ x).foldl zbe o)
theorem zDY {o:List Nat}{y x:Nat}:x∈zbe o y↔(x∈o∨x=y):=by
 unfold zbe;split
 ·exact⟨.inl,fun h=>by rcases h with h|rfl <;> assumption⟩
 ·simp
theorem zxv {o:List Nat}{y:Nat}(h:o.Nodup):(zbe o y).Nodup:=by
 unfold zbe;split
 ·exact h
 ·rw[List.nodup_append]
  exact⟨h,by simp,fun a ha b hb e=>by simp at hb;subst hb;subst e;contradiction⟩
theorem zvP (o:List Nat)(y:Nat):o <+: zbe o y:=by
 unfold zbe;split
 ·exact List.prefix_refl _
 ·exact List.prefix_append _ _
theorem zfw {l o:List Nat}{x:Nat}:x∈l.foldl zbe o↔(x∈o∨x∈l):=by
 induction l generalizing o with
 | nil=>simp
 | cons y l ih=>rw[List.foldl_cons,ih,zDY,List.mem_cons,or_assoc]
theorem zcs {l o:List Nat}(h:o.Nodup):(l.foldl zbe o).Nodup:=by
 induction l generalizing o with
 | nil=>exact h
 | cons y l ih=>exact ih (zxv h)
theorem zmI (l o:List Nat):o <+: l.foldl zbe o:=by
 induction l generalizing o with
 | nil=>exact List.prefix_refl _
 | cons y l ih=>exact(zvP o y).trans (ih _)
theorem zlo (l o:List Nat)(y:Nat):(l++[y]).foldl zbe o=zbe (l.foldl zbe o) y:=by
 rw[List.foldl_append];rfl
theorem zdE {n:Nat}{l o:List Nat}(ho:∀ x∈o,x<n)(hl:∀ x∈l,x<n):∀ x∈l.foldl zbe o,x<n:=fun x hx=>by
 rcases zfw.1 hx with h|h
 ·exact ho x h
 ·exact hl x h
theorem zka {n:Nat}{o:List Nat}(h:o.Nodup)(hb:∀ x∈o,x<n):o.length<=n:=by
 have:=List.Nodup.length_le_of_subset (l₁:=o) (l₂:=List.range n) h (fun x hx=>List.mem_range.2 (hb x hx))
 rwa [List.length_range] at this
theorem zDZ {succ:Nat->List Nat}{f i:Nat}{o:List Nat}(h:o.length<=i):zcZ succ f i o=o:=by
 cases f with
 | zero=>rfl
 | succ f=>unfold zcZ;rw[zqas h]
theorem zta {succ:Nat->List Nat}{f i x:Nat}{o:List Nat}(h:o[i]?=some x):zcZ succ (f+1) i o=zcZ succ f (i+1) ((succ x).foldl zbe o):=by
 rw[zcZ,h]
theorem zqs {succ:Nat->List Nat}{f i:Nat}{o:List Nat}(h:o.Nodup):(zcZ succ f i o).Nodup:=by
 induction f generalizing i o with
 | zero=>exact h
 | succ f ih =>
  unfold zcZ;split
  ·exact h
  ·exact ih (zcs h)
theorem zkb (succ:Nat->List Nat)(f i:Nat)(o:List Nat):o <+: zcZ succ f i o:=by
 induction f generalizing i o with
 | zero=>exact List.prefix_refl _
 | succ f ih =>
  unfold zcZ;split
  ·exact List.prefix_refl _
  ·exact(zmI _ _).trans (ih _ _)
theorem zAA {succ:Nat->List Nat}{P:Nat->Prop}(hs:∀ x y,P x->y∈succ x->P y){f i:Nat}{o:List Nat}(h:∀ x∈o,P x):∀ x∈zcZ succ f i o,P x:=by
 induction f generalizing i o with
 | zero=>exact h
 | succ f ih =>
  unfold zcZ;split
  ·exact h
  ·rename_i z hz
   refine ih (fun x hx=>?_);rcases zfw.1 hx with hx|hx
   ·exact h x hx
   ·exact hs _ _ (h z (zqak hz)) hx
theorem zEa {succ:Nat->List Nat}{n:Nat}(hs:∀ x,∀ y∈succ x,y<n){f i:Nat}{o:List Nat}(hn:o.Nodup)(h:∀ x∈o,x<n)(hf:n<=f+i) :
  ∀ j x,i<=j->(zcZ succ f i o)[j]?=some x->∀ y∈succ x,y∈zcZ succ f i o:=by
 induction f generalizing i o with
 | zero =>
  intro j x hj hx;have h1:=zka hn h;have h2:=(zqae.1 hx).1;unfold zcZ at h2;omega
 | succ f ih =>
  intro j x hj hx y hy;cases ho:o[i]? with
  | none =>
   have h1:zcZ succ (f+1) i o=o:=by unfold zcZ;rw[ho]
   rw[h1] at hx;have h2:=(zqae.1 hx).1;have h3:=List.getElem?_eq_none_iff.1 ho;omega
  | some z =>
   rw[zta ho] at hx ⊢
   by_cases e:j=i
   ·subst e
    have hp:=(zmI (succ z) o).trans (zkb succ f (j+1) ((succ z).foldl zbe o))
    have hz:(zcZ succ f (j+1) ((succ z).foldl zbe o))[j]?=some z:=by
     obtain⟨r,hr⟩:=hp;rw[<- hr,zqal (zqae.1 ho).1];exact ho
    rw[hz] at hx;cases hx;exact(zkb succ f (j+1) _).subset (zfw.2 (.inr hy))
   ·exact ih (zcs hn) (zdE h (hs _)) (by omega) j x (by omega) hx y hy
theorem zvQ {succ:Nat->List Nat}{n:Nat}(hs:∀ x,∀ y∈succ x,y<n){o:List Nat}(hn:o.Nodup)(h:∀ x∈o,x<n)(x:Nat):x∈zcZ succ n 0 o↔RFrom succ (fun y=>y∈o) x:=by
 refine⟨fun hx=>zAA (fun _ _=>.step) (fun _=>.start) x hx,fun hx=>?_⟩
 induction hx with
 | start hx=>exact(zkb succ n 0 o).subset hx
 | step _ hy ih =>
  obtain⟨j,hj⟩:=List.mem_iff_getElem?.1 ih;exact zEa hs hn h (by omega) j _ (by omega) hj _ hy
def zbl (m:zak)(x:Nat):List Nat:=(List.range m.states.length).flatMap (fun i=>(zaV m i).filterMap (fun t=>if t=x then some i else none))
def isFin (m:zak)(x:Nat):Prop:=∃ s,m.states[x]?=some s/\s.fin.size≠0
def zji (m:zak)(x:Nat):Prop:=RFrom (zaV m) (fun y=>y=m.start.toNat) x/\RFrom (zbl m) (isFin m) x
open Classical in
noncomputable def usefulL (m:zak):List Nat:=(List.range m.states.length).filter (fun x=>decide (zji m x))
def zdy (l:List Nat)(a:zaN):Option zaN:=if a.t.toNat∈l then some { a with t:=(l.idxOf a.t.toNat:Int) } else none
def zhy (m:zak)(x:Nat):zai:=(m.states[x]?).getD ⟨ByteArray.empty,[]⟩
def zjj (l:List Nat)(s:zai):zai:=⟨s.fin,s.arcs.filterMap (zdy l)⟩
def zba (m:zak)(l:List Nat):zak:=⟨m.kind,(l.idxOf m.start.toNat:Int),m.lead,l.map (fun x=>zjj l (zhy m x))⟩
structure Wf (m:zak):Prop where
 start:0<=m.start/\m.start<(m.states.length:Int)
 arcs:∀ s∈m.states,∀ a∈s.arcs,0<=a.t/\a.t<(m.states.length:Int)
theorem zhz {m:zak}{x:Nat}{s:zai}(h:m.states[x]?=some s):zhy m x=s:=by unfold zhy;rw[h];rfl
theorem zhN {m:zak}(h:Wf m)(x:Nat):∀ y∈zaV m x,y<m.states.length:=by
 intro y hy;unfold zaV at hy;split at hy
 ·rename_i s hs
  obtain⟨a,ha,rfl⟩:=zqbf.1 hy;have:=h.arcs s (zqak hs) a ha;omega
 ·simp at hy
theorem zvR {m:zak}{x y:Nat}(hy:y∈zaV m x):x<m.states.length:=by
 unfold zaV at hy;split at hy
 ·rename_i s hs
  exact(zqae.1 hs).1
 ·simp at hy
theorem zoO {m:zak}{x y:Nat}:y∈zbl m x↔x∈zaV m y:=by
 unfold zbl;rw[List.mem_flatMap];constructor
 ·rintro ⟨i,_,hi⟩
  obtain⟨t,ht,he⟩:=List.mem_filterMap.1 hi;split at he
  ·cases he;subst_vars;exact ht
  ·cases he
 ·intro h
  exact⟨y,List.mem_range.2 (zvR h),List.mem_filterMap.2 ⟨x,h,by simp⟩⟩
theorem zhg {m:zak}(x:Nat):∀ y∈zbl m x,y<m.states.length:=fun _ hy=>zvR (zoO.1 hy)
theorem zKD {m:zak}{x:Nat}(h:isFin m x):x<m.states.length:=by
 obtain⟨s,hs,_⟩:=h;exact(zqae.1 hs).1
theorem zlp {m:zak}(h:Wf m){x:Nat}(hx:RFrom (zaV m) (fun y=>y=m.start.toNat) x):x<m.states.length:=by
 cases hx with
 | start e=>subst e;have:=h.start;omega
 | step _ hy=>exact zhN h _ _ hy
open Classical in
theorem zdz {m:zak}(h:Wf m){x:Nat}:x∈usefulL m↔zji m x:=by
 unfold usefulL;rw[List.mem_filter,List.mem_range,decide_eq_true_iff];exact⟨fun h=>h.2,fun hu=>⟨zlp h hu.1,hu⟩⟩
theorem zmJ (m:zak):(usefulL m).Nodup:=List.Pairwise.filter _ List.nodup_range
theorem ztQ (m:zak):(usefulL m).Pairwise (· < ·):=List.Pairwise.filter _ List.pairwise_lt_range
theorem zEb {l k:List Nat}(hl:l.Pairwise (· < ·))(hk:k.Pairwise (· < ·))(h:∀ x,x∈l↔x∈k):l=k:=by
 induction l generalizing k with
 | nil =>
  cases k with
  | nil=>rfl
  | cons y k=>have:=(h y).2 (by simp);simp at this
 | cons x l ih =>
  cases k with
  | nil=>have:=(h x).1 (by simp);simp at this
  | cons y k =>
   rw[List.pairwise_cons] at hl hk
   have e:x=y:=by
    have h1:=(h x).1 (by simp);have h2:=(h y).2 (by simp);simp only[List.mem_cons] at h1 h2;rcases h1 with h1|h1
    ·exact h1
    ·rcases h2 with h2|h2
     ·exact h2.symm
     ·have:=hl.1 y h2;have:=hk.1 x h1;omega
   subst e;rw[ih hl.2 hk.2 (fun z=>?_)];have:=h z;simp only[List.mem_cons] at this;constructor
   ·intro hz
    have h1:=hl.1 z hz;rcases this.1 (.inr hz) with e|e
    ·omega
    ·exact e
   ·intro hz
    have h1:=hk.1 z hz;rcases this.2 (.inr hz) with e|e
    ·omega
    ·exact e
theorem zHo {m:zak}{x y:Nat}(hy:RFrom (zbl m) (isFin m) y)(h:y∈zaV m x):RFrom (zbl m) (isFin m) x:=.step hy (zoO.2 h)
theorem zHp {m:zak}{x:Nat}(hx:RFrom (zaV m) (fun y=>y=m.start.toNat) x)(he:RFrom (zbl m) (isFin m) x):RFrom (zbl m) (isFin m) m.start.toNat:=by
 induction hx with
 | start e=>subst e;exact he
 | step _ hy ih=>exact ih (zHo he hy)
theorem zmK {m:zak}{x:Nat}(h:zji m x):zji m m.start.toNat:=⟨.start rfl,zHp h.1 h.2⟩
theorem zqt {m:zak}(h:Wf m):usefulL m=[]↔¬ zji m m.start.toNat:=by
 constructor
 ·intro e hu
  have:=(zdz h).2 hu;rw[e] at this;simp at this
 ·intro hn
  rw[List.eq_nil_iff_forall_not_mem];intro x hx;exact hn (zmK ((zdz h).1 hx))
theorem zJv {l:List Nat}(hn:l.Nodup){i x:Nat}(h:l[i]?=some x):l.idxOf x=i:=by
 obtain⟨hi,rfl⟩:=zqae.1 h;exact List.Nodup.idxOf_getElem hn i hi
end Go.Proofs.YtaogepcaoogpgaaGreatDoor
namespace Go.Proofs.YtaogepcaoogpgaaGreatDoor
theorem ztb {l:List Nat}{x:Nat}(h:x∈l):l.idxOf x<l.length:=List.idxOf_lt_length_of_mem h
theorem zfx (m:zak)(l:List Nat):(zba m l).states.length=l.length:=by unfold zba;simp
noncomputable def trimW (none:zak)(m:zak):zak:=if usefulL m=[] then none else zba m (usefulL m)
end Go.Proofs.YtaogepcaoogpgaaGreatDoor
namespace Go.Proofs.YtaogepcaoogpgaaGreatDoor
theorem zEc {l:List Nat}{a:zaN}(h:a.t.toNat∈l):zdy l a=some { a with t:=(l.idxOf a.t.toNat:Int) }:=by
 unfold zdy;rw[if_pos h]
theorem zHq {l:List Nat}{a:zaN}(h:a.t.toNat ∉ l):zdy l a=none:=by
 unfold zdy;rw[if_neg h]
open Go.RowKit
def bv (zs:List Bool):List Value:=zs.map Value.bool
def zcD (w:World)(g:Nat)(l:List Value):Prop:=w.heap[g]?=some (.cells l.toArray 4 (0,0))
theorem zcD.cell {w:World}{g:Nat}{l:List Value}(h:zcD w g l)(k:Nat):w.cell? ⟨g,k,none⟩=l[k]?:=by
 rw[zho h];simp
theorem zcD.free {w:World}{g:Nat}{l:List Value}(h:zcD w g l)(k:Nat):w.frozen? ⟨g,k,none⟩=false:=zqbx w g k _ _ h
theorem zcD.set {w:World}{g:Nat}{l:List Value}(h:zcD w g l)(k:Nat)(u:Value):zcD (w.setCell ⟨g,k,none⟩ u) g (l.set k u):=by
 unfold zcD;rw[heap_setCell_same w g k _ _ u h];simp
theorem zcD.lt {w:World}{g:Nat}{l:List Value}(h:zcD w g l):g<w.heap.size:=lt_of_block h
theorem zcD.of_full {w:World}{B g n:Nat}{l:List Value}(h:w.ownsRow B 4 1 (.slice (some ⟨g,0,none⟩) n n) n l):zcD w g l:=by
 rcases h.2 with⟨h',_⟩|⟨g',cap',cur,h',hb,hg,_,_,hs,ht⟩
 ·simp at h'
 ·simp only[Value.slice.injEq,Option.some.injEq,Addr.mk.injEq,and_true,true_and] at h'
  obtain⟨rfl,rfl⟩:=h';rw[zqaf (by rw[zqbs,hs];exact zqab _)] at ht;subst ht;unfold zcD;rw[hg]
theorem zmL (n:Nat):(madeCells #[Value.bool false] n).toList=bv (List.replicate n false):=by
 rw[toList_madeCells_one];simp[bv]
theorem zvS (zs:List Bool)(k:Nat)(b:Bool)(h:zs[k]?=some b):(bv zs)[k]?=some (.bool b):=by
 unfold bv;rw[zqaj,h];rfl
theorem zKE (zs:List Bool)(i:Nat)(b:Bool):(bv zs).set i (.bool b)=bv (zs.set i b):=by simp[bv,List.map_set]
open Go.RowKit
def QAt (w:World)(B:Nat)(v:Value)(q:List Nat):Prop :=
 ∃ a cap,v=.slice a q.length cap/\((q=[]/\cap=0)∨∃ g off cur,a=some ⟨g,off,none⟩/\B<=g/\w.heap[g]?=some (.cells cur 3 (0,0))/\q.length<=cap/\off+cap<=cur.size /\
  ∀ (i:Nat) (x:Nat),q[i]?=some x->cur[off+i]?=some (.int .i64 (x:Int)))
theorem QAt.nil (w:World)(B:Nat):QAt w B (.slice none 0 0) []:=⟨none,0,rfl,.inl ⟨rfl,rfl⟩⟩
theorem QAt.lt {w:World}{g:Nat}{c:Array Value}{t:TypeId}{f:Nat×Nat}(h:w.heap[g]?=some (.cells c t f)):g<w.heap.size:=(zqad.1 h).1
theorem QAt.grown {w w':World}{B:Nat}{v:Value}{q:List Nat}{r:Option Nat}(h:QAt w B v q)(hg:w.grownBy w' r)(hr:∀ k,r=some k->k<B):QAt w' B v q:=by
 obtain⟨a,cap,hv,h|⟨g,off,cur,ha,hB,hh,hc,ho,hx⟩⟩:=h
 ·exact⟨a,cap,hv,.inl h⟩
 ·exact⟨a,cap,hv,.inr ⟨g,off,cur,ha,hB,(hg.block g (QAt.lt hh) (fun e=>by have:=hr g e.symm;omega)).trans hh,hc,ho,hx⟩⟩
theorem zqu (z:Value)(k:Nat):(Builtin.zeroCells #[z] k).size=k:=by
 unfold Builtin.zeroCells;simp
theorem QAt.push {w:World}{B:Nat}{v:Value}{q:List Nat}(h:QAt w B v q)(hB:B<=w.heap.size)(ty:TypeId)(ad:Addr)(c x:Nat)(hx:w.cell? ad=some (.int .i64 (x:Int)))(hl:q.length<=1000000) :
  ∃ v' w',(Builtin.append_ #[51,51] ty #[v,.slice (some ad) 1 c]).run Tryz.prog w=.ok v' w'/\QAt w' B v' (q++[x])/\Below B w w':=by
 obtain⟨i0,hi,hz0,hz1,hz2⟩:=zdb (t:=3) (z:=.int .i64 0) (n:=1) (b:=8) (by kernel_rfl)
 have hsrc:Src Tryz.prog i0.size 51 (.slice (some ad) 1 c) 1 [.int .i64 (x:Int)] w :=
  Src.ofSlice w Tryz.underlying51 ad 1 c [.int .i64 (x:Int)] (by rw[hz1];rfl) (fun j u hu=>by
   match j,hu with
   | 0,hu=>simp at hu;subst hu;exact hx
   | j+1,hu=>simp at hu) (by simp[Value.oneCell'])
 have grow:∀ (base:Option Addr) (cap:Nat) (olds:List Value),v=.slice base q.length cap->cap<q.length+1->olds=q.map (fun y:Nat=>Value.int .i64 (y:Int)) ->
   (Builtin.firstCells i0.size q.length (.slice base q.length cap)).run Tryz.prog w.drew=.ok olds.toArray w.drew ->
   ∃ v' w',(Builtin.append_ #[51,51] ty #[v,.slice (some ad) 1 c]).run Tryz.prog w=.ok v' w'/\QAt w' B v' (q++[x])/\Below B w w':=by
  intro base cap olds hv hcap hol hold;have hcap2:=growslice_fits (need:=q.length+1) (old:=cap) (bytes:=8) (by omega) (by omega);have hrun:=run_append_grow_src w 51 51 ty 3 i0 _ Tryz.underlying51 hi hz0 base q.length cap olds hold _ 1 _ hsrc (by omega) (by omega) (by rw[hz2];exact hcap2);rw[hv];refine⟨_,_,hrun,⟨_,_,by rw[zqag,zqbq],.inr ⟨w.heap.size,0,_,rfl,hB,(by show(w.drew.heap.push _)[w.heap.size]?=_;exact zqaz),?_,?_,?_⟩⟩,((Below.refl B w).grown (zag w none) hB (by simp)).alloc hB _⟩
  ·rw[zqag,zqbq];exact grownCap_ge _ _ _ _
  ·have h1:=grownCap_ge w (q.length+1) cap 3
   rw[Array.size_append,List.size_toArray,zqag,hol,zqbn,show(Value.int IntKind.i64 0).cells=#[.int .i64 0] from rfl,zqu];simp;omega
  ·intro i y hy
   rw[zqat];have hlt:=(zqae.1 hy).1;rw[zqag,zqbq] at hlt;rw[Array.getElem?_append_left (by rw[List.size_toArray,zqag,hol,zqbn,zqbq];exact hlt)];rw[zqap,hol,show[Value.int IntKind.i64 (x:Int)]=[x].map (fun y:Nat=>Value.int .i64 (y:Int)) from rfl,<- List.map_append,zqaj,hy];rfl
 obtain⟨a,cap,hv,⟨rfl,rfl⟩|⟨g,off,cur,rfl,hgB,hh,hc,ho,hq⟩⟩:=h
 ·refine grow a 0 [] hv (by simp) rfl ?_
  cases a with
  | none=>exact run_firstCells_none w.drew _ _ _ _
  | some b=>exact run_firstCells_some w.drew i0.size 0 b _ _ [] (by simp) (fun j u hu=>by simp at hu)
 ·by_cases hroom:q.length+1<=cap
  ·have hk:off+q.length<cur.size:=by omega
   have hrun:=run_append_room_src w 51 51 ty 3 i0 Tryz.underlying51 hi g off q.length cap _ 1 _ hsrc hroom
    (fun j hj=>by simp at hj;subst hj;rw[hz1,Nat.mul_one,Nat.add_zero,zqbw w g _ _ _ (0,0) hh,zqbv hk];rfl)
    (fun j hj=>zqbx w g _ _ _ hh)
   rw[hv];rw[hz1,Nat.mul_one] at hrun;refine⟨_,_,hrun,⟨_,cap,by rw[zqag,zqbq],.inr ⟨g,off,cur.setIfInBounds (off+q.length) (.int .i64 (x:Int)),rfl,hgB,?_,by rw[zqag,zqbq];exact hroom,by simpa using ho,fun i y hy=>?_⟩⟩,?_⟩
   ·have:=heap_setCell_same w g (off+q.length) _ _ (.int .i64 (x:Int)) hh
    rw[World.setCells,World.setCells,this]
   ·by_cases e:i=q.length
    ·subst e
     rw[zqaq (zqab _),zqbr] at hy;simp at hy;subst hy;rw[Array.getElem?_setIfInBounds_self_of_lt hk]
    ·have hlt:=(zqae.1 hy).1
     rw[zqag,zqbq] at hlt;rw[zqal (by omega)] at hy;rw[Array.getElem?_setIfInBounds_ne (by omega)];exact hq i y hy
   ·exact(Below.refl B w).grown (zac w ⟨g,off+q.length,none⟩ _) hB (fun k e=>by cases e;exact hgB)
  ·refine grow _ cap _ hv (by omega) rfl (run_firstCells_some w.drew i0.size q.length _ _ _ _ (by rw[hz1];simp) (fun j u hu=>?_))
   rw[zqaj] at hu;obtain⟨y,hy,rfl⟩:=Option.map_eq_some_iff.1 hu;have hlt:=(zqae.1 hy).1;have h1:Addr.add ⟨g,off,none⟩ j=⟨g,off+j,none⟩:=by unfold Addr.add;split <;> simp_all
   rw[h1];show w.cell? _=_;rw[zqbw w g _ _ _ (0,0) hh];exact hq j y hy
open Go.RowKit
theorem zoc {w:World}{B:Nat}{v:Value}{q:List Nat}(h:QAt w B v q)(hB:B<=w.heap.size){ops:Array Oper}{rest:List Oper}{o:Oper}{a:Act}{Q:Exit->Act->World->Prop}(hgd:o.guard=none)(s x:Operand)
  (ho:o.op=.call { callee:=.builtin .append,args:=#[s,x],argTypes:=#[51,51] }) (hs:a.eval s=v) (ad:Addr) (c y:Nat) (hx:a.eval x=.slice (some ad) 1 c) (hc:w.cell? ad=some (.int .i64 (y:Int))) (hl:q.length<=1000000)
  (k:∀ v' w',QAt w' B v' (q++[y])->Below B w w'->wpList Tryz.prog ops Q rest (a.put o.dst v') w'):wpList Tryz.prog ops Q (o::rest) a w:=by
 refine wpList_plain hgd fun K hK=>?_;obtain⟨v',w',hrun,h1,h2⟩:=h.push hB o.type ad c y hc hl;unfold Oper.wp;simp[execOp,ho,resolve,invoke,builtin,hs,hx,hrun,Result.andThen];exact hK _ _ (k v' w' h1 h2)
theorem ztc (w:World)(y:Nat):(w.alloc (.cells #[.int .i64 (y:Int)] 3)).cell? ⟨w.heap.size,0,none⟩=some (.int .i64 (y:Int)):=by
 have h:(w.alloc (.cells #[.int .i64 (y:Int)] 3)).heap[w.heap.size]?=some (.cells #[.int .i64 (y:Int)] 3 (0,0)):=by
  show(w.heap.push _)[w.heap.size]?=_;rw[zqaz]
 rw[zqbw _ w.heap.size 0 _ _ (0,0) h];rfl
open Go.RowKit
structure zdR (w:World)(A:Option Addr)(us:List Value)(l:List zai):Prop where
 len:us.length=l.length
 row:Reads w w.heap.size 2 A l.length ((l.zip us).flatMap stC)
 arcs:∀ (k:Nat) (s:zai) (x:Value),l[k]?=some s->us[k]?=some x->zdr w x s.arcs
theorem zdR.of {w:World}{u:Value}{l:List zai}(h:zoF w u l):∃ A cap us,u=.slice A l.length cap/\zdR w A us l:=by
 obtain⟨A,cap,us,hv,h1,h2,h3⟩:=h;exact⟨A,cap,us,hv,h1,h2,h3⟩
theorem zdR.below {w w':World}{A:Option Addr}{us:List Value}{l:List zai}(h:zdR w A us l)(hb:Below w.heap.size w w'):zdR w' A us l :=
 ⟨h.len,(h.row.below hb).more hb.size,fun k s x hs hx=>(h.arcs k s x hs hx).below hb⟩
theorem zdR.grown {w w':World}{A:Option Addr}{us:List Value}{l:List zai}(h:zdR w A us l)(hg:w.grownBy w' none):zdR w' A us l:=h.below (zbj hg)
theorem zdR.at_ {w:World}{A:Option Addr}{us:List Value}{l:List zai}(h:zdR w A us l){k:Nat}(hk:k<l.length) :
  ∃ ad s B cb,A=some ad/\l[k]?=some s/\us[k]?=some (.slice B s.arcs.length cb)/\ziN w (ad.add (k*2)) s.fin (.slice B s.arcs.length cb)/\Reads w w.heap.size 4 B s.arcs.length (s.arcs.flatMap zeB):=by
 obtain⟨ad,s,u,hA,_,hs,hu,hc⟩:=zsQ h.row h.len hk;obtain⟨B,cb,rfl,hr⟩:=h.arcs k s u hs hu;exact⟨ad,s,B,cb,hA,hs,hu,hc,hr⟩
theorem zdR.arcs_at {w:World}{A:Option Addr}{us:List Value}{l:List zai}(h:zdR w A us l){k:Nat}{s:zai}{B:Option Addr}{cb:Nat}(hs:l[k]?=some s)(hu:us[k]?=some (.slice B s.arcs.length cb)):Reads w w.heap.size 4 B s.arcs.length (s.arcs.flatMap zeB):=by
 obtain⟨B',cb',e,hr⟩:=h.arcs k s _ hs hu;cases e;exact hr
theorem zeC {w w1 w2:World}{r:Option Nat}(h1:w.grownBy w1 r)(h2:w1.grownBy w2 r):w.grownBy w2 r:=World.grownBy.trans h1 h2
theorem zfy {w w':World}{r:Option Nat}(h:w.grownBy w' none):w.grownBy w' r:=⟨h.os,h.tape,h.output,h.size,fun k hk _=>h.block k hk (by simp)⟩
def zua (Inv:World->Prop)(r:Option Nat)(b:Bool)(w:World)(e:Ending)(w':World):Prop:=e=.returned (.bool b)/\Inv w'/\w.grownBy w' r
def Says (Inv:World->Prop)(r:Option Nat)(F:Nat)(lb:Array Value)(m:zak)(P:zaN->Bool):Prop :=
 ∀ (W:World) (s:zai) (a:zaN),Inv W->s∈m.states->a∈s.arcs->Calls Tryz.prog F (#[.agg #[.int .i64 a.i,.int .i64 a.o,.string a.w,.int .i64 a.t]]++lb) W (zua Inv r (P a) W)
def zio (P:zaN->Bool)(m:zak):Bool:=m.states.all (fun s=>s.arcs.all P)
theorem zHr {P:zaN->Bool}{m:zak}{k j:Nat}{s:zai}{a:zaN}(hs:m.states[k]?=some s)(ha:s.arcs[j]?=some a)(h:P a=false):zio P m=false:=by
 unfold zio;cases hx:m.states.all (fun s=>s.arcs.all P)
 ·rfl
 ·have:=List.all_eq_true.1 (List.all_eq_true.1 hx s (zqak hs)) a (zqak ha)
  rw[this] at h;cases h
theorem zHs {P:zaN->Bool}{m:zak}{k:Nat}(h:zvO P m k)(hk:¬ k<m.states.length):zio P m=true:=by
 unfold zio;rw[List.all_eq_true];intro s hs;obtain⟨j,hj⟩:=List.mem_iff_getElem?.1 hs;exact h.hs j s (by have:=(zqae.1 hj).1;omega) hj
theorem zyB {w:World}{A:Option Addr}{cap:Nat}{us:List Value}{m:zak}{Inv:World->Prop}{r:Option Nat}{F:Nat}{lb:Array Value}{P:zaN->Bool}(hE:Enters F)(hI:∀ W W',Inv W->W.grownBy W' none->Inv W')
  (hS:∀ W,Inv W->zdR W A us m.states) (hr:∀ k,r=some k->k<w.heap.size) (h0:Inv w) (hf:Says Inv r F lb m P) (hn:m.states.length<=140737488355328) (hna:∀ s∈m.states,s.arcs.length<=140737488355328) :
  Calls Tryz.prog 125 #[.agg #[.int .i64 m.kind,.int .i64 m.start,.string m.lead,.slice A m.states.length cap],.func (.func F) #[] lb] w (zua Inv r (zio P m) w):=by
 have HE:=zHd hE;have HI:=zHd hI;have HS:=zHd hS;have HR:=zHd hr;have HF:=zHd hf;have HNA:=zHd hna;have hg:w.grownBy (w.alloc (.cells #[.int .i64 m.kind,.int .i64 m.start,.string m.lead,.slice A m.states.length cap] 31)) none:=zGA _ _ _;have HG:=zHd (zfy (r:=r) hg);have H0:=zHd (hI _ _ h0 hg);clear hE hI hS hr hf hna h0 hg;go_enter Tryz.func125,Tryz.ntmps125;go_wp2;generalize hW:w.alloc (.cells #[.int .i64 m.kind,.int .i64 m.start,.string m.lead,.slice A m.states.length cap] 31)=W at *;clear hW
 go_loopw [12] (fun i wr=>∃ k:Nat,i=.int .i64 k/\zvO P m k/\Inv wr/\W.grownBy wr r) (fun i _=>m.states.length-(intOf i).toNat)
 case atStart=>exact⟨0,rfl,⟨by omega,fun j s hj=>by omega⟩,H0.out,World.grownBy.refl _ _⟩
 case round =>
  obtain⟨k,rfl,ho,hinv,hgr⟩:=hrel;have HO:=zHd ho;have hk:=ho.hk;have HINV:=zHd hinv;have HGR:=zHd hgr;clear ho hgr
  by_cases hlt:k<m.states.length
  ·obtain⟨ad,s,B,cb,hA,hs,hu,hc,hra⟩:=(HS.out wr hinv).at_ hlt
   subst hA;obtain⟨x0,x1⟩:=hc;have hal:=HNA.out s (zqak hs);have n1:(k:Int)<(m.states.length:Int):=by omega
   have n2:IntKind.i64.wrap ((k:Int)+1)=(k:Int)+1:=by rw[zqah];omega
   have HSS:=zHd hs;have HU:=zHd hu;have hinv2:=HI.out _ _ hinv (zGA wr (.cells #[.string s.fin,.slice B s.arcs.length cb] 57) none);have HINV2:=zHd hinv2;have HG2:=zHd (zeC HGR.out (zfy (r:=r) (zGA wr (.cells #[.string s.fin,.slice B s.arcs.length cb] 57) none)));clear hs hu hra hinv hinv2;go_wp2;generalize hW2:wr.alloc (.cells #[.string s.fin,.slice B s.arcs.length cb] 57)=W2 at *;clear hW2 x0 x1;generalize wr=w4 at *
   go_loopw [19] (fun i wr=>∃ j:Nat,i=.int .i64 j/\EIn P s j/\Inv wr/\W.grownBy wr r) (fun i _=>s.arcs.length-(intOf i).toNat)
   case atStart=>exact⟨0,rfl,⟨by omega,fun j s hj=>by omega⟩,HINV2.out,HG2.out⟩
   case round =>
    obtain⟨j,rfl,hi,hinv,hgr⟩:=hrel;have HIN:=zHd hi;have hj:=hi.hj;have HINV3:=zHd hinv;have HGR3:=zHd hgr;clear hi hgr
    by_cases hjl:j<s.arcs.length
    ·obtain⟨ad2,a,hB,hab,haj,hat⟩:=zkw ((HS.out wr hinv).arcs_at HSS.out HU.out) hjl
     subst hB;obtain⟨z0,z1,z2,z3⟩:=hat;have n3:(j:Int)<(s.arcs.length:Int):=(by omega);have n4:IntKind.i64.wrap ((j:Int)+1)=(j:Int)+1:=(by rw[zqah];omega);have HAJ:=zHd haj;have hg4:wr.grownBy (wr.alloc (.cells #[.int .i64 a.i,.int .i64 a.o,.string a.w,.int .i64 a.t] 59)) none:=zGA _ _ _;have HG4:=zHd (zeC HGR3.out (zfy (r:=r) hg4));have HC:=zHd (HF.out _ s a (HI.out _ _ hinv hg4) (zqak HSS.out) (zqak haj));clear haj hinv hg4;go_wp2_with fail;rw[HE.out];refine HC.out.mono ?_;rintro e w5 ⟨rfl,hinv5,hg5⟩;have HINV5:=zHd hinv5;have HG5:=zHd (zeC HG4.out hg5);clear hinv5 hg5 z0 z1 z2 z3;cases hP:P a
     ·have HNO:=zHd (zHr HSS.out HAJ.out hP)
      clear hP;go_wp2;go_ret;exact⟨by rw[HNO.out];rfl,HINV5.out,zeC HG.out HG5.out⟩
     ·have HN:=zHd (HIN.out.next HAJ.out hP)
      clear hP;go_wp2
      go_roundw
      case rel=>exact⟨j+1,by go_num,HN.out,HINV5.out,HG5.out⟩
      case measure=>simp[intOf];omega
    ·have n3:¬ (j:Int)<(s.arcs.length:Int):=by omega
     have HN:=zHd (HO.out.next HSS.out (HIN.out.all hjl));clear hinv;go_wp2
     go_roundw
     case rel=>exact⟨k+1,by go_num,HN.out,HINV3.out,HGR3.out⟩
     case measure=>simp[intOf];omega
  ·have n1:¬ (k:Int)<(m.states.length:Int):=by omega
   have HY:=zHd (zHs HO.out hlt);clear hinv;go_wp2;go_ret;exact⟨by rw[HY.out];rfl,HINV.out,zeC HG.out HGR.out⟩
open Go.RowKit
def zdM (n:Nat)(o:List Nat):List Bool:=(List.range n).map (fun x=>decide (x∈o))
theorem zmM (n:Nat)(o:List Nat):(zdM n o).length=n:=by simp[zdM]
theorem zgJ {n y:Nat}{o:List Nat}(h:y<n):(zdM n o)[y]?=some (decide (y∈o)):=by
 unfold zdM;rw[zqaj,zqbe h];rfl
theorem ztd {n y:Nat}{o:List Nat}(h:y<n):(zdM n o).set y true=zdM n (o++[y]):=by
 apply List.ext_getElem?;intro i
 by_cases e:i=y
 ·subst e
  rw[zqbi (by rw[zmM];exact h),zgJ h];simp
 ·rw[zqbl (Ne.symm e)]
  by_cases hi:i<n
  ·rw[zgJ hi,zgJ hi]
   simp[e]
  ·rw[zqas (by rw[zmM];omega),zqas (by rw[zmM];omega)]
theorem zte (n:Nat):zdM n []=List.replicate n false:=by
 unfold zdM;apply List.ext_getElem?;intro i;rw[zqaj,zqbg]
 by_cases hi:i<n
 ·rw[zqbe hi,if_pos hi];simp
 ·rw[zqas (by rw[List.length_range];omega),if_neg hi];rfl
structure zeQ (W:World)(B C s r t n:Nat)(o:List Nat)(v:Value):Prop where
 sv:W.heap[s]?=some (.cells #[.slice (some ⟨r,0,none⟩) n n] 166 (0,0))
 row:zcD W r (bv (zdM n o))
 tv:W.heap[t]?=some (.cells #[v] 51 (0,0))
 que:QAt W C v o
 hs:B<=s/\s<C
 hr:B<=r/\r<C
 ht:B<=t/\t<C
 ne:s≠r/\s≠t/\r≠t
 hC:C<=W.heap.size
theorem zeQ.next {W W':World}{B C s r t n:Nat}{o:List Nat}{v:Value}(h:zeQ W B C s r t n o v)(hg:W.grownBy W' none):zeQ W' B C s r t n o v :=
 ⟨(hg.block _ (by have:=h.hs;have:=h.hC;omega) (by simp)).trans h.sv,(hg.block _ (by have:=h.hr;have:=h.hC;omega) (by simp)).trans h.row,(hg.block _ (by have:=h.ht;have:=h.hC;omega) (by simp)).trans h.tv,h.que.grown hg (by simp),h.hs,h.hr,h.ht,h.ne,by have:=hg.size;have:=h.hC;omega⟩
theorem one_cell {W:World}{t:Nat}{v:Value}{ty:TypeId}(h:W.heap[t]?=some (.cells #[v] ty (0,0))):W.cell? ⟨t,0,none⟩=some v/\W.frozen? ⟨t,0,none⟩=false :=
 ⟨by rw[zqbw W t 0 _ _ (0,0) h];rfl,zqbx W t 0 _ _ h⟩
theorem QAt.one {W:World}{B:Nat}{v:Value}{q:List Nat}(h:QAt W B v q):v.oneCell'=true:=by
 obtain⟨a,cap,rfl,_⟩:=h;rfl
theorem QAt.off_set {W:World}{B:Nat}{v:Value}{q:List Nat}(h:QAt W B v q){a:Addr}(ha:a.block<B)(u:Value):QAt (W.setCell a u) B v q:=by
 have hg:=zac W a u;exact h.grown hg (fun k e=>by cases e;exact ha)
theorem zeQ.put {W w5:World}{B C s r t n y:Nat}{o:List Nat}{v v':Value}(h:zeQ W B C s r t n o v)(hy:y<n)(w4:World)
  (hb4:(W.setCell ⟨r,y,none⟩ (.bool true)).grownBy w4 none) (hq:QAt w5 C v' (o++[y])) (hb:Below C w4 w5):zeQ (w5.setCell ⟨t,0,none⟩ v') B C s r t n (o++[y]) v'/\Below B W (w5.setCell ⟨t,0,none⟩ v'):=by
 have g1:=zac W ⟨r,y,none⟩ (.bool true);have hset:=h.row.set y (.bool true);rw[zKE,ztd hy] at hset;have e1:(W.setCell ⟨r,y,none⟩ (.bool true)).heap.size=W.heap.size:=by simp[World.setCell]
 obtain⟨hs1,hs2⟩:=h.hs;obtain⟨hr1,hr2⟩:=h.hr;obtain⟨ht1,ht2⟩:=h.ht;obtain⟨n1,n2,n3⟩:=h.ne;have hC:=h.hC;have b1:Below B W (W.setCell ⟨r,y,none⟩ (.bool true)):=(Below.refl B W).grown g1 (by omega) (fun k e=>by cases e;exact hr1);have b2:Below B W w5:=(b1.trans ((zbj hb4).mono (by rw[e1];omega))).trans (hb.mono (by omega));have old:∀ k,k<C->k≠r->w5.heap[k]?=W.heap[k]?:=fun k hk hne=>(hb.block k hk).trans ((hb4.block k (by rw[e1];omega) (by simp)).trans (g1.block k (by omega) (by simpa using hne)));have g5:=zac w5 ⟨t,0,none⟩ v';have hsz5:C<=w5.heap.size:=by have:=hb.size;have:=hb4.size;rw[e1] at this;omega
 have hsz:(w5.setCell ⟨t,0,none⟩ v').heap.size=w5.heap.size:=by simp[World.setCell]
 refine⟨⟨?_,?_,?_,hq.off_set ht2 _,h.hs,h.hr,h.ht,h.ne,by rw[hsz];exact hsz5⟩,b2.grown g5 (by omega) (fun k e=>by cases e;exact ht1)⟩
 ·exact(g5.block s (by omega) (by simpa using n2)).trans ((old s hs2 n1).trans h.sv)
 ·refine(g5.block r (by omega) (by simpa using n3)).trans (((hb.block r hr2).trans (hb4.block r (by rw[e1];omega) (by simp))).trans hset)
 ·have h2:w5.heap[t]?=some (.cells #[v] 51 (0,0)):=(old t ht2 (Ne.symm n3)).trans h.tv
  rw[heap_setCell_same w5 t 0 _ _ v' h2];rfl
def REnd (W:World)(B C s r t n:Nat)(o:List Nat)(e:Ending)(W':World):Prop:=e=.returned (.tuple #[])/\(∃ v,zeQ W' B C s r t n o v)/\Below B W W'
theorem zmN {W:World}{B C s r t n y:Nat}{o:List Nat}{v:Value}(h:zeQ W B C s r t n o v)(hy:y<n)(hol:o.length<=1000000) :
  Calls Tryz.prog 217 #[.int .i64 (y:Int),.pointer (some ⟨s,0,none⟩),.pointer (some ⟨t,0,none⟩)] W (REnd W B C s r t n (zbe o y)):=by
 have H:=zHd h;obtain⟨x0,_⟩:=one_cell h.sv;have c0:W.cell? ⟨r,y,none⟩=some (.bool (decide (y∈o))):=by rw[h.row.cell];exact zvS _ _ _ (zgJ hy)
 have c1:=h.row.free y;obtain⟨x1,x2⟩:=one_cell h.tv;have n1:(0:Int)<=(y:Int):=by omega
 have n2:(y:Int)<(n:Int):=by omega
 have e1:(W.setCell ⟨r,y,none⟩ (.bool true)).cell? ⟨s,0,none⟩=some (.slice (some ⟨r,0,none⟩) n n):=(World.cell?_of_block ((zac W ⟨r,y,none⟩ (.bool true)).block s (by have:=h.hs;have:=h.hC;omega) (by have:=h.ne;simpa using this.1))).trans x0;have e2:(W.setCell ⟨r,y,none⟩ (.bool true)).cell? ⟨t,0,none⟩=some v:=(World.cell?_of_block ((zac W ⟨r,y,none⟩ (.bool true)).block t (by have:=h.ht;have:=h.hC;omega) (by have:=h.ne;simpa using Ne.symm this.2.2))).trans x1;have hone:=h.que.one;clear h
 by_cases hm:y∈o
 ·have hp:zbe o y=o:=by unfold zbe;rw[if_pos hm]
  rw[hp];rw[decide_eq_true hm] at c0;clear hm hp;go_enter Tryz.func217,Tryz.ntmps217;go_wp2
  go_end0
  exact⟨rfl,⟨v,H.out⟩,Below.refl _ _⟩
 ·have hp:zbe o y=o++[y]:=by unfold zbe;rw[if_neg hm]
  rw[hp];rw[zqcb hm] at c0;clear hm hp;have HY:=zHd hy;have hq1:QAt ((W.setCell ⟨r,y,none⟩ (.bool true)).alloc (.cells #[.int .i64 (y:Int)] 3)) C v o:=(H.out.que.off_set H.out.hr.2 _).grown (zGA _ _ none) (by simp);have HQ:=zHd hq1;have e3:(W.setCell ⟨r,y,none⟩ (.bool true)).heap.size=W.heap.size:=by simp[World.setCell]
  have hC:=H.out.hC;clear hq1;go_enter Tryz.func217,Tryz.ntmps217;go_wp2_with (at_builtin;refine zoc HQ.out (by simp;omega) rfl _ _ rfl rfl _ _ y rfl ?ca hol ?_)
  case ca =>
   have:=ztc (W.setCell ⟨r,y,none⟩ (.bool true)) y;rw[e3] at this;exact this
  intro v' w5 hq5 hb5;have P:=H.out.put HY.out _ (zGA _ _ none) hq5 hb5
  have y0:w5.cell? ⟨t,0,none⟩=some v:=by
   have h1:=hb5.block t H.out.ht.2;refine(World.cell?_of_block h1).trans ?_;exact World.grownBy.cell (zGA _ _ none) e2 (by simp)
  have y1:w5.frozen? ⟨t,0,none⟩=false:=by
   have h1:=hb5.block t H.out.ht.2;have h2:=(zGA (W.setCell ⟨r,y,none⟩ (.bool true)) (.cells #[.int .i64 (y:Int)] 3) none).block t (by have:=H.out.ht.2;omega) (by simp);have h3:=(zac W ⟨r,y,none⟩ (.bool true)).block t (by have:=H.out.ht;omega) (by have:=H.out.ne;simpa using Ne.symm this.2.2);exact(World.frozen?_of_block (h1.trans (h2.trans h3))).trans x2
  obtain⟨a5,c5,rfl,_⟩:=hq5;rw[show(o++[y]).length=o.length+1 by simp] at P;have HP:=zHd P;clear P hb5 HQ;go_wp2
  go_end0
  exact⟨rfl,⟨_,HP.out.1⟩,HP.out.2⟩
open Go.RowKit
def nvL (q:List Nat):List Value:=q.map (fun x:Nat=>Value.int .i64 (x:Int))
def NSl (w:World)(v:Value)(q:List Nat):Prop:=∃ A cap,v=.slice A q.length cap/\Reads w w.heap.size 1 A q.length (nvL q)
theorem zJw {q:List Nat}{k x:Nat}(h:q[k]?=some x):(nvL q)[k]?=some (.int .i64 (x:Int)):=by unfold nvL;rw[zqaj,h];rfl
theorem NSl.grown {w w':World}{v:Value}{q:List Nat}(h:NSl w v q)(hg:w.grownBy w' none):NSl w' v q:=by
 obtain⟨A,cap,hv,hr⟩:=h;exact⟨A,cap,hv,(hr.below (zbj hg)).more hg.size⟩
theorem zic {w:World}{A:Option Addr}{q:List Nat}{k:Nat}(h:Reads w w.heap.size 1 A q.length (nvL q))(hk:k<q.length):∃ ad x,A=some ad/\q[k]?=some x/\w.cell? (ad.add k)=some (.int .i64 (x:Int)):=by
 obtain⟨ad,hA,hb,hc⟩:=h.2 (by omega);have hx:q[k]?=some q[k]:=zqac hk;exact⟨ad,_,hA,hx,hc _ _ (zJw hx)⟩
theorem QAt.at_ {w:World}{B:Nat}{v:Value}{q:List Nat}(h:QAt w B v q):∃ a cap,v=.slice a q.length cap/\∀ (k x:Nat),q[k]?=some x->∃ g off,a=some ⟨g,off,none⟩/\w.cell? ⟨g,off+k,none⟩=some (.int .i64 (x:Int)):=by
 obtain⟨a,cap,hv,⟨h0,_⟩|⟨g,off,cur,ha,hB,hh,hc,ho,hq⟩⟩:=h
 ·exact⟨a,cap,hv,fun k x hx=>by rw[h0] at hx;simp at hx⟩
 ·exact⟨a,cap,hv,fun k x hx=>⟨g,off,ha,by rw[zqbw w g _ _ _ (0,0) hh];exact hq k x hx⟩⟩
def Steps (w0:World)(F p n:Nat)(succ:Nat->List Nat):Prop :=
 ∀ (W:World) (B C s r t x:Nat) (o:List Nat) (v:Value),Below w0.heap.size w0 W->w0.heap.size<=B->zeQ W B C s r t n o v->x<n->o.Nodup->(∀ y∈o,y<n) ->
  Calls Tryz.prog F #[.int .i64 (x:Int),.func (.func 217) #[] #[.pointer (some ⟨s,0,none⟩),.pointer (some ⟨t,0,none⟩)],.pointer (some ⟨p,0,none⟩)] W (REnd W B C s r t n ((succ x).foldl zbe o))
theorem zeQ.deep {W:World}{B C s r t n:Nat}{o:List Nat}{v:Value}(h:zeQ W B C s r t n o v)(ob:Obj):zeQ (W.alloc ob) B C s r t n o v:=h.next (zGA _ _ _)
theorem short_list {n:Nat}{o:List Nat}(h1:o.Nodup)(h2:∀ y∈o,y<n):o.length<=n:=zka h1 h2
structure Small (m:zak):Prop where
 wf:Wf m
 n:m.states.length<=3000
 a:∀ s∈m.states,s.arcs.length<=30000
theorem zxw:Enters 218:=enters_of Tryz.func218 (by kernel_rfl) rfl
theorem zAB {w0:World}{p:Nat}{A:Option Addr}{cap:Nat}{us:List Value}{m:zak}(hbx:zav w0 p m (.slice A m.states.length cap))(hst:zdR w0 A us m.states)(hm:Small m) :
  Steps w0 218 p m.states.length (zaV m):=by
 intro W B C s r t x o v hB0 hBB hmem hx hnd hlt;have hbx2:=hbx.below hB0 hbx.lt;have hst2:=hst.below hB0;obtain⟨ad,st,Br,cb,hA,hs,hu,hc,hra⟩:=hst2.at_ hx;subst hA;obtain⟨x0,x1,x2,x3⟩:=hbx2.cells;obtain⟨y0,y1⟩:=hc;have hal:=hm.a st (zqak hs);have hstep:=zjI hs;have n1:(0:Int)<=(x:Int):=by omega
 have n2:(x:Int)<(m.states.length:Int):=by omega
 have HM:=zHd hm;have HMEM:=zHd hmem;have HST:=zHd hst;have HSS:=zHd hs;have HU:=zHd hu;have HB0:=zHd hB0;have HSTEP:=zHd hstep;have HND:=zHd hnd;have HLT:=zHd hlt;have hn3:=hm.n;clear hbx hst hbx2 hst2 hmem hs hu hra hm hstep hnd hlt hB0;go_enter Tryz.func218,Tryz.ntmps218;go_wp2;clear x0 x1 x2 x3 y0 y1
 go_loopw [14] (fun i wr=>∃ (j:Nat) (v:Value),i=.int .i64 j/\j<=st.arcs.length/\zeQ wr B C s r t m.states.length (((zaV m x).take j).foldl zbe o) v/\Below B W wr) (fun i _=>st.arcs.length-(intOf i).toNat)
 case atStart=>exact⟨0,v,rfl,by omega,HMEM.out,Below.refl _ _⟩
 case round =>
  obtain⟨j,v',rfl,hj,hmem,hb⟩:=hrel;have HMEM2:=zHd hmem;have HB:=zHd hb;have hB1:Below w0.heap.size w0 wr:=HB0.out.trans (hb.mono hBB);clear hmem hb
  by_cases hjl:j<st.arcs.length
  ·obtain⟨ad2,a,hBr,hab,haj,hat⟩:=zkw ((HST.out.below hB1).arcs_at HSS.out HU.out) hjl
   subst hBr;obtain⟨z0,z1,z2,z3⟩:=hat;have harc:=HM.out.wf.arcs st (zqak HSS.out) a (zqak haj);obtain⟨y,hy⟩:∃ y:Nat,a.t=(y:Int):=⟨a.t.toNat,by omega⟩;have hyn:y<m.states.length:=by omega
   have hst:(zaV m x)[j]?=some y:=by rw[HSTEP.out,zqaj,haj];simp[hy]
   have htk:((zaV m x).take (j+1)).foldl zbe o=zbe (((zaV m x).take j).foldl zbe o) y:=by
    rw[zdL hst,zlo]
   have hlen:(((zaV m x).take j).foldl zbe o).length<=1000000:=by
    have:=short_list (zcs (l:=(zaV m x).take j) HND.out) (zdE (l:=(zaV m x).take j) HLT.out (fun z hz=>zhN HM.out.wf x z (zqau hz)));omega
   rw[hy] at z3;have n3:(j:Int)<(st.arcs.length:Int):=by omega
   have n4:IntKind.i64.wrap ((j:Int)+1)=(j:Int)+1:=by rw[zqah];omega
   have HTK:=zHd htk;have hba:Below B W (wr.alloc (.cells #[.int .i64 a.i,.int .i64 a.o,.string a.w,.int .i64 (y:Int)] 59)):=HB.out.alloc (by have:=HMEM2.out.hs;have:=HMEM2.out.hC;omega) _;have HBA:=zHd hba;have HR:=zHd (zmN (HMEM2.out.deep (.cells #[.int .i64 a.i,.int .i64 a.o,.string a.w,.int .i64 (y:Int)] 59)) hyn hlen);clear haj harc hy hst htk hba hB1;go_wp2_with fail;refine HR.out.mono ?_;rintro e w5 ⟨rfl,⟨v5,hm5⟩,hb5⟩;have HM5:=zHd hm5;have HB5:=zHd (HBA.out.trans hb5);clear hm5 hb5 z0 z1 z2 z3;go_wp2
   go_roundw
   case rel=>exact⟨j+1,v5,by go_num,by omega,by rw[HTK.out];exact HM5.out,HB5.out⟩
   case measure=>simp[intOf];omega
  ·have n3:¬ (j:Int)<(st.arcs.length:Int):=by omega
   have e:(zaV m x).take j=zaV m x:=zqaf (by rw[HSTEP.out,zqbn];omega);rw[e] at HMEM2;clear hB1;go_wp2
   go_end0
   exact⟨rfl,⟨v',HMEM2.out⟩,HB.out⟩
def zKF (F:Nat)(m:zak)(u:Value)(w:World)(e:Ending)(w':World):Prop:=e=.returned (.func (.func F) #[] #[.pointer (some ⟨w.heap.size,0,none⟩)])/\zav w' w.heap.size m u/\w.grownBy w' none
theorem zrV {w:World}{u:Value}{m:zak} :
  Calls Tryz.prog 183 #[.agg #[.int .i64 m.kind,.int .i64 m.start,.string m.lead,u]] w (zKF 218 m u w):=by
 have hg:w.grownBy (w.alloc (.cells #[.int .i64 m.kind,.int .i64 m.start,.string m.lead,u] 31)) none:=zGA _ _ _;have hbx:=zav.new w m u;have HG:=zHd hg;have HB:=zHd hbx;clear hg hbx;go_enter Tryz.func183,Tryz.ntmps183;go_wp2;go_ret;exact⟨rfl,HB.out,HG.out⟩
def zAC (o:List Nat)(w:World)(e:Ending)(w':World):Prop:=∃ v,e=.returned v/\QAt w' w.heap.size v o/\w.grownBy w' none
theorem zqv:(Tryz.prog.info? 4).map (fun i=>(i.zero,i.size,i.bytes))=some (some (.bool false),1,1):=by kernel_rfl
theorem zeQ.start {w w1:World}{n:Nat}(hc:zcD w1 w.heap.size (bv (List.replicate n false)))(hg:w.grownBy w1 none) :
  zeQ ((w1.alloc (.cells #[.slice (some ⟨w.heap.size,0,none⟩) n n] 166)).alloc (.cells #[.slice none 0 0] 51)) w.heap.size (w1.heap.size+2) w1.heap.size w.heap.size (w1.heap.size+1) n [] (.slice none 0 0) /\
  w.grownBy ((w1.alloc (.cells #[.slice (some ⟨w.heap.size,0,none⟩) n n] 166)).alloc (.cells #[.slice none 0 0] 51)) none:=by
 have g1:=zGA w1 (.cells #[.slice (some ⟨w.heap.size,0,none⟩) n n] 166) none;have g2:=zGA (w1.alloc (.cells #[.slice (some ⟨w.heap.size,0,none⟩) n n] 166)) (.cells #[.slice none 0 0] 51) none;have e1:(w1.alloc (.cells #[.slice (some ⟨w.heap.size,0,none⟩) n n] 166)).heap.size=w1.heap.size+1:=by simp
 have hlt:=hc.lt
 have c1:(w1.alloc (.cells #[.slice (some ⟨w.heap.size,0,none⟩) n n] 166)).heap[w1.heap.size]?=some (.cells #[.slice (some ⟨w.heap.size,0,none⟩) n n] 166 (0,0)):=by
  show(w1.heap.push _)[w1.heap.size]?=_;rw[zqaz]
 have c2:((w1.alloc (.cells #[.slice (some ⟨w.heap.size,0,none⟩) n n] 166)).alloc (.cells #[.slice none 0 0] 51)).heap[w1.heap.size+1]?=some (.cells #[.slice none 0 0] 51 (0,0)):=by
  rw[<- e1];show(Array.push _ _)[_]?=_;exact zqaz
 refine⟨⟨(g2.block _ (by omega) (by simp)).trans c1,?_,c2,QAt.nil _ _,⟨by omega,by omega⟩,⟨by omega,by omega⟩,⟨by omega,by omega⟩,⟨by omega,by omega,by omega⟩,by simp⟩,zaa hg (zaa g1 g2)⟩;rw[zte];exact(g2.block _ (by omega) (by simp)).trans ((g1.block _ hlt (by simp)).trans hc)
theorem zqw {w0 w:World}{F p n:Nat}{succ:Nat->List Nat}{v:Value}{fs:List Nat}(hE:Enters F)(hs:Steps w0 F p n succ)(hw:Below w0.heap.size w0 w)(hv:NSl w v fs)(hn:n<=3000)(hfs:∀ x∈fs,x<n)(hsb:∀ x,∀ y∈succ x,y<n)(hfl:fs.length<=3000) :
  Calls Tryz.prog 182 #[.int .i64 (n:Int),v,.func (.func F) #[] #[.pointer (some ⟨p,0,none⟩)]] w (zAC (zcZ succ n 0 (fs.foldl zbe [])) w):=by
 obtain⟨i0,hi,hz0,hz1,hz2⟩:=zdb zqv;obtain⟨A,cap,rfl,hr⟩:=hv;have HR:=zHd hr;have HE:=zHd hE;have HST:=zHd hs;have HW:=zHd hw;have HFS:=zHd hfs;have HSB:=zHd hsb;clear hr hE hs hw hfs hsb;go_enter Tryz.func182,Tryz.ntmps182;go_wp2_with (at_make;refine wpList_make_full _ rfl _ _ 166 rfl w.heap.size 4 i0 (.bool false) 1 Tryz.underlying166 hi hz0 hz1 _ _ _ _ n rfl rfl rfl rfl (by rw[hz2];omega) (by unfold maxLen;omega) (zqab _) ?_);intro w1 hown hgr;rw[zmL] at hown;obtain⟨hm0,hg0⟩:=zeQ.start (zcD.of_full hown) hgr;have HM0:=zHd hm0;have HG0:=zHd hg0;have e0:w.heap.size<=w1.heap.size:=hgr.size;clear hown hgr hm0 hg0;go_wp2;generalize hW:(w1.alloc (.cells #[.slice (some ⟨w.heap.size,0,none⟩) n n] 166)).alloc (.cells #[.slice none 0 0] 51)=W at *;clear hW
 go_loopw [18] (fun i wr=>∃ (j:Nat) (v:Value),i=.int .i64 j/\j<=fs.length/\zeQ wr w.heap.size (w1.heap.size+2) w1.heap.size w.heap.size (w1.heap.size+1) n ((fs.take j).foldl zbe []) v/\w.grownBy wr none) (fun i _=>fs.length-(intOf i).toNat)
 case atStart=>exact⟨0,_,rfl,by omega,HM0.out,HG0.out⟩
 case round =>
  obtain⟨j,v',rfl,hj,hmem,hg⟩:=hrel;have HMEM:=zHd hmem;have HG:=zHd hg;clear hmem hg
  by_cases hjl:j<fs.length
  ·obtain⟨ad,x,hA,hx,hc⟩:=zic ((HR.out.below (zbj HG.out)).more HG.out.size) hjl
   subst hA;have hxn:=HFS.out x (zqak hx);have htk:(fs.take (j+1)).foldl zbe []=zbe ((fs.take j).foldl zbe []) x:=by rw[zdL hx,zlo]
   have hlen:((fs.take j).foldl zbe []).length<=1000000:=by
    have:=short_list (zcs (l:=fs.take j) (o:=[]) List.nodup_nil) (zdE (n:=n) (l:=fs.take j) (o:=[]) (fun z hz=>by simp at hz) (fun z hz=>HFS.out z (zqau hz)));omega
   have n1:(j:Int)<(fs.length:Int):=by omega
   have n2:IntKind.i64.wrap ((j:Int)+1)=(j:Int)+1:=by rw[zqah];omega
   have HTK:=zHd htk;have HRC:=zHd (zmN HMEM.out hxn hlen);clear hx htk;go_wp2_with fail;refine HRC.out.mono ?_;rintro e w5 ⟨rfl,⟨v5,hm5⟩,hb5⟩;have HM5:=zHd hm5;have HG5:=zHd (zbc ((zbj HG.out).trans (hb5)));clear hm5 hb5 hc;go_wp2
   go_roundw
   case rel=>exact⟨j+1,v5,by go_num,by omega,by rw[HTK.out];exact HM5.out,HG5.out⟩
   case measure=>simp[intOf];omega
  ·have n1:¬ (j:Int)<(fs.length:Int):=by omega
   rw[zqaf (l:=fs) (by omega)] at HMEM;have hd0:=zcs (l:=fs) (o:=[]) List.nodup_nil;have hb0:=zdE (n:=n) (l:=fs) (o:=[]) (fun z hz=>by simp at hz) HFS.out;generalize fs.foldl zbe []=o0 at *;have HD0:=zHd hd0;have HB0:=zHd hb0;clear hd0 hb0;generalize wr=w4 at *;go_wp2
   go_loopw [12] (fun i wr=>∃ (j:Nat) (o:List Nat) (v:Value),i=.int .i64 j/\j<=n/\zeQ wr w.heap.size (w1.heap.size+2) w1.heap.size w.heap.size (w1.heap.size+1) n o v/\w.grownBy wr none/\o.Nodup/\(∀ x∈o,x<n)/\zcZ succ (n-j) j o=zcZ succ n 0 o0) (fun i _=>n+1-(intOf i).toNat)
   case atStart=>exact⟨0,o0,v',rfl,by omega,HMEM.out,HG.out,HD0.out,HB0.out,rfl⟩
   case round =>
    obtain⟨j,o,v2,rfl,hjn,hmem,hg,hnd,hbn,hsr⟩:=hrel;have hol:=short_list hnd hbn;have HMEM2:=zHd hmem;have HG2:=zHd hg;have HND:=zHd hnd;have HBN:=zHd hbn;have HSR:=zHd hsr;obtain⟨a,cap2,rfl,hat⟩:=hmem.que.at_;obtain⟨t0,_⟩:=one_cell hmem.tv;clear hmem hg hnd hbn hsr
    by_cases hjl:j<o.length
    ·have hx:o[j]?=some o[j]:=zqac hjl
     generalize o[j]=x at hx;obtain⟨g,off,ha,hcell⟩:=hat j x hx;subst ha;have hxn:=HBN.out x (zqak hx)
     have hs1:zcZ succ (n-j) j o=zcZ succ (n-(j+1)) (j+1) ((succ x).foldl zbe o):=by
      rw[show n-j=(n-(j+1))+1 by omega,zta hx]
     have n1:(j:Int)<(o.length:Int):=(by omega);have n2:IntKind.i64.wrap ((j:Int)+1)=(j:Int)+1:=(by rw[zqah];omega);have n3:(0:Int)<=(j:Int):=(by omega);have HS1:=zHd hs1;have HC:=zHd (HST.out wr _ _ _ _ _ x o _ (HW.out.trans ((zbj HG2.out).mono HW.out.size)) HW.out.size HMEM2.out hxn HND.out HBN.out);clear hs1 hx hat;go_wp2_with fail;rw[HE.out];refine HC.out.mono ?_;rintro e w5 ⟨rfl,⟨v5,hm5⟩,hb5⟩;have HM5:=zHd hm5;have HG5:=zHd (zbc ((zbj HG2.out).trans hb5));clear hm5 hb5 t0 hcell;go_wp2
     go_roundw
     case rel=>exact⟨j+1,_,v5,by go_num,by omega,HM5.out,HG5.out,zcs HND.out,zdE HBN.out (HSB.out x),HS1.out.symm.trans HSR.out⟩
     case measure=>simp[intOf];omega
    ·have n1:¬ (j:Int)<(o.length:Int):=by omega
     have he:o=zcZ succ n 0 o0:=(by rw[<- HSR.out,zDZ (by omega)]);have HEQ:=zHd he;clear he hat;go_wp2;go_ret;refine⟨_,rfl,?_,HG2.out⟩;rw[<- HEQ.out];have:=HMEM2.out.que;obtain⟨a3,c3,e3,h3⟩:=this;refine⟨a3,c3,e3,?_⟩;rcases h3 with h3|⟨g3,off3,cur3,k1,k2,k3⟩
     ·exact .inl h3
     ·exact .inr ⟨g3,off3,cur3,k1,by omega,k3⟩
open Go.RowKit
structure zhA (w:World)(l:List zai)(us:List Value)(A:Option Addr)(c:Nat):Prop where
 len:us.length=l.length
 at_:∀ i,i<l.length->∃ ad s u,A=some ad/\ad.block<w.heap.size/\l[i]?=some s/\us[i]?=some u/\ziN w (ad.add (i*2)) s.fin u/\zdr w u s.arcs
theorem zkx {w:World}{v:Value}{l:List zai}(h:zoF w v l):∃ A c us,v=.slice A l.length c/\zhA w l us A c:=by
 obtain⟨A,c,us,e,hl,hr,ha⟩:=h
 exact⟨A,c,us,e,hl,fun i hi=>by
  obtain⟨ad,s,u,h1,h2,h3,h4,h5⟩:=zsQ hr hl hi;exact⟨ad,s,u,h1,h2,h3,h4,h5,ha i s u h3 h4⟩⟩
theorem zcM {w w':World}(h:w.grownBy w' none):Below w.heap.size w w':=⟨h.os,h.tape,h.output,h.size,fun i hi=>h.block i hi (by simp)⟩
theorem zhA.grown {w w':World}{l:List zai}{us:List Value}{A:Option Addr}{c:Nat}(h:zhA w l us A c)(hg:w.grownBy w' none):zhA w' l us A c :=
 ⟨h.len,fun i hi=>by
  obtain⟨ad,s,u,h1,h2,h3,h4,h5,h6⟩:=h.at_ i hi;exact⟨ad,s,u,h1,zqba h2 hg.size,h3,h4,h5.below (zcM hg) (by rw[zau];exact h2),h6.below (zcM hg)⟩⟩
def zEd (P:Prop)(n m:Nat)(A:Nat->Nat->Value)(w:World)(e:Ending)(w':World):Prop :=
 zbO P (fun v w'=>∃ zs:List Value,v=.slice (some ⟨w.heap.size,0,none⟩) n n/\zfs w' w.heap.size w.heap.size n m zs A/\w'.heap[w.heap.size]?=some (.cells zs.toArray 33 (0,0))) w e w'
theorem ziq (F:Nat)(he:Enters F)(first cap:Array Value)(l:List zai)(us:List Value)(Ad:Option Addr)(c:Nat)(m:Nat)(P:Nat->Prop)(A:Nat->Nat->Value)(w:World)(hn:l.length<=10000)(hl:zhA w l us Ad c)
  (hF:∀ i s u,l[i]?=some s->us[i]?=some u->∀ w',w.grownBy w' none->zdr w' u s.arcs->Calls Tryz.prog F (first++#[.agg #[.string s.fin,u]]++cap) w' (zkY (P i) w.heap.size m (A i) w')) :
  Calls Tryz.prog 94 #[.slice Ad l.length c,.func (.func F) first cap] w (zEd (∀ i,i<l.length->P i) l.length m A w):=by
 obtain⟨i0,hi,hz0,hz1,hz2⟩:=info_parts zeN;obtain⟨n,hne⟩:∃ n,l.length=n:=⟨_,rfl⟩;have HNE:=zHd hne;rw[hne] at hn ⊢;have HE:=zHd he;have HF:=zHd hF;have HL:=zHd hl;have HN:=zHd hn;clear he hF hl hn hne;go_enter Tryz.func94,Tryz.ntmps94;go_wp2_with (at_make;refine wpList_make_full _ rfl _ _ 22 rfl w.heap.size 33 i0 (.slice none 0 0) 1 Tryz.underlying22 hi hz0 hz1 _ _ _ _ n rfl rfl ?c0 ?c1 ?c2 (by have:=HN.out;unfold maxLen;omega) (zqab _) ?_)
 case c0=>omega
 case c1=>omega
 case c2=>have:=HN.out;first|omega|(rw[hz2];omega)
 intro w1 hown hgr;have hfill:=zaB.start hown hgr;have HW:=zHd hfill;clear hown hgr hfill;go_wp2
 go_loopw [13] (fun iv wr=>∃ zs:List Value,iv=.int .i64 (zs.length:Int)/\zaB 33 (.slice none 0 0) n zs w wr/\∀ i,i<zs.length->∃ gi off c,zs.getD i (.slice none 0 0)=.slice (some ⟨gi,off,none⟩) m c/\m<=c/\c<=maxLen/\gi≠w.heap.size/\zaq wr gi off m (A i)/\P i) (fun iv _=>n-(intOf iv).toNat)
 case atStart=>exact⟨[],rfl,HW.out,fun i hi=>absurd hi (by simp)⟩
 case round =>
  obtain⟨zs,rfl,hfill,hrows⟩:=hrel;obtain⟨k,hzk⟩:∃ k,zs.length=k:=⟨_,rfl⟩;have hle:=hfill.le
  by_cases hk:k<n
  ·have hgw:=hfill.gr
   obtain⟨ad,s,u,rfl,hb,hs,hu,⟨hc0,hc1⟩,has⟩:=(HL.out.grown hgw).at_ k (by rw[HNE.out];exact hk);have t1:decide (k<n)=true:=by simpa using hk
   have t1':decide ((k:Int)<(n:Int))=true:=by simpa using hk
   have hik:(k:Int)<(n:Int):=by omega
   have n1:IntKind.i64.wrap ((k:Int)+1)=(k:Int)+1:=by have:=HN.out;rw[zqah];omega
   have hcall:=HF.out k s u hs hu (wr.alloc (.cells #[.string s.fin,u] 57)) (zaa hgw (zGA _ _ none)) (has.below (zcM (zGA _ _ none)));obtain⟨Au,cu,hue,_⟩:=has;rw[hue] at hc1 hcall;have HFL:=zHd hfill;have HK:=zHd (zAI hk (zAI hzk hle));have HCALL:=zHd hcall;have HR:=zHd hrows;rw[hzk];clear hrows hgw hs hu hcall;clear hfill hk hle hzk hb;go_wp2_with fail;rw[HE.out];rw[show first.push (Value.agg #[.string s.fin,.slice Au s.arcs.length cu])++cap=first++#[.agg #[.string s.fin,.slice Au s.arcs.length cu]]++cap by simp];refine HCALL.out.mono ?_;rintro e w' (⟨hpk,v,rfl,⟨g,off,c2,rfl,hm1,hm2,hgl,hrow⟩,hg0⟩|⟨hnp,rfl,hg0⟩)
   ·have hg:=zaa (zGA wr (.cells #[.string s.fin,.slice Au s.arcs.length cu] 57) none) hg0
    have hgl2:g<w.heap.size∨wr.heap.size<=g:=by
     rcases hgl with h|h
     ·exact .inl h
     ·right;simp at h;omega
    have HPK:=zHd hpk;clear hpk hg0 hgl;have hf2:=HFL.out.grown hg;have hcl:=hf2.cell (by rw[HK.out.2.1];exact HK.out.1);have hfr:=hf2.free k;rw[HK.out.2.1] at hcl;have HF2:=zHd hf2;have HG:=zHd hg;have HROW:=zHd (zAI hm1 (zAI hm2 (zAI hgl2 hrow)));clear hf2 hg hm1 hm2 hgl2 hrow;go_wp2;obtain⟨hk,hzk,hle⟩:=HK.out;have hput:=HF2.out.put (by rw[hzk];exact hk) (.slice (some ⟨g,off,none⟩) m c2);rw[hzk] at hput;obtain⟨hm1,hm2,hgl,hrow⟩:=HROW.out
    have hne:g≠w.heap.size:=by
     rcases hgl with h|h
     ·omega
     ·have:=(zqad.1 HFL.out.row).1;omega
    refine⟨⟨zs++[.slice (some ⟨g,off,none⟩) m c2],by simp[hzk],hput,fun i hi=>?_⟩,by simp[intOf];omega⟩
    by_cases hik2:i<zs.length
    ·obtain⟨gi,oi,ci,e1,e2,e3,e4,e5,e6⟩:=HR.out i hik2
     refine⟨gi,oi,ci,?_,e2,e3,e4,(e5.grown HG.out).grownB (zac _ _ _) e4,e6⟩;rw[zqaa,zqal hik2,<- zqaa];exact e1
    ·have hi2:i=k:=by simp at hi;omega
     subst hi2;refine⟨g,off,c2,?_,hm1,hm2,hne,hrow.grownB (zac _ _ _) hne,HPK.out⟩;rw[zqaa,zqaq (by omega),hzk,zqbr];rfl
   ·go_wp2
    exact⟨rfl,.inr ⟨fun h=>hnp (h k HK.out.1),rfl,zaa (zaa HFL.out.gr (zGA _ _ none)) hg0⟩⟩
  ·have hkn:k=n:=by omega
   subst hkn;have t1:decide (k<k)=false:=by simp
   have t1':decide ((k:Int)<(k:Int))=false:=by simp
   have HFL:=zHd hfill;have HK:=zHd hzk;have HR:=zHd hrows;rw[hzk];clear hrows;clear hfill hk hle hzk;go_wp2;go_ret;have hzk:=HK.out;exact .inl ⟨fun i hi=>by obtain⟨_,_,_,_,_,_,_,_,h⟩:=HR.out i (by omega);exact h,_,rfl,⟨zs,rfl,⟨hzk,HFL.out.rowAt hzk,fun i hi=>(by obtain⟨gi,oi,ci,e1,e2,e3,e4,e5,e6⟩:=HR.out i (by omega);exact⟨gi,oi,ci,e1,e2,e3,e4,e5⟩)⟩,(by have h:=HFL.out.row;rw[hzk,zqbr,List.replicate_zero,List.append_nil] at h;exact h)⟩,HFL.out.gr⟩
open Go.RowKit
section
variable {k:Int}
theorem zEe (hk:zad k)(a:ByteArray):∃ x:El k,∀ v,Val k a v->x.1=v:=by
 by_cases h:∃ v,Val k a v
 ·obtain⟨v,hv⟩:=h
  exact⟨⟨v,hv.has⟩,fun u hu=>hv.e.uniq hu.e⟩
 ·exact⟨(srE k hk).zero,fun v hv=>absurd ⟨v,hv⟩ h⟩
noncomputable def vE (hk:zad k)(a:ByteArray):El k:=Classical.choose (zEe hk a)
theorem zAD (hk:zad k){a:ByteArray}{v:Ext}(h:Val k a v):(vE hk a).1=v:=Classical.choose_spec (zEe hk a) v h
theorem znF (hk:zad k){a:ByteArray}(h:∃ v,Val k a v):a=tx (vE hk a)/\zam (vE hk a):=by
 obtain⟨v,hv⟩:=h;have e:=zAD hk hv;refine⟨by unfold tx;rw[e];exact hv.e.text,?_⟩;show Fits (vE hk a).1;rw[e];have e2:=hv.e;rcases v with(_|_)|x
 ·trivial
 ·trivial
 ·exact e2.short
def zdN (l:List zaN)(j:Nat):Nat:=(l[j]?.map (fun a=>a.t.toNat)).getD 0
noncomputable def arcF (hk:zad k)(l:List zaN)(j:Nat):El k:=(l[j]?.map (fun a=>vE hk a.w)).getD (srE k hk).zero
theorem zrW {l:List zaN}{j:Nat}{a:zaN}(h:l[j]?=some a):zdN l j=a.t.toNat:=by unfold zdN;rw[h];rfl
theorem zrX (hk:zad k){l:List zaN}{j:Nat}{a:zaN}(h:l[j]?=some a):arcF hk l j=vE hk a.w:=by unfold arcF;rw[h];rfl
def zvT (k:Int)(n:Nat)(l:List zaN):Prop:=∀ a∈l,0<=a.t/\a.t<(n:Int)/\∃ v,Val k a.w v
theorem zAE (hk:zad k)(n gc gm cs:Nat)(fin:ByteArray)(u:Value)(l:List zaN)(As:Option Addr)(w:World)(hn:n<=10000)(hl:l.length<=30000)(hok:zvT k n l)(hu:zdr w u l)(hcal:zcR w gc k)(hst:w.cell? ⟨gm,3,none⟩=some (.slice As n cs)) :
  Calls Tryz.prog 143 #[.agg #[.string fin,u],.pointer (some ⟨gc,0,none⟩),.pointer (some ⟨gm,0,none⟩)] w (zbO (∀ s,s<l.length->zam (zcr hk (arcF hk l) (zdN l) (s+1) (zdN l s))) (fun v w'=>∃ g,v=.slice (some ⟨g,0,none⟩) n n/\w.heap.size<=g/\zaq w' g 0 n (txs (zcr hk (arcF hk l) (zdN l) l.length))) w):=by
 have hz:=fun w'=>zgI k n w' hn;obtain⟨Au,cu,rfl,hr⟩:=hu;obtain⟨c0,c1,c2⟩:=hcal;obtain⟨q,hq⟩:∃ q,l.length=q:=⟨_,rfl⟩;have HQ:=zHd hq;rw[hq];have hr2:=hr;rw[hq] at hr2 hl;have HZ:=zHd hz;have HU:=zHd hr2;have HO:=zHd hok;have HN:=zHd (zAI hn hl);have HC:=zHd (zAI c0 (zAI c1 c2));have hW:=zGA w (.cells #[.string fin,.slice Au q cu] 57) none;have d0:=hW.cell c0 (by simp);have d1:=hW.cell c1 (by simp);have d2:=hW.cell c2 (by simp);have ds:=hW.cell hst (by simp);have b1:=zao w #[.string fin,.slice Au q cu] 57 (j:=1) rfl;have HW:=zHd hW;clear hz hr hr2 hok hn hl c0 c1 c2 hst hq hW;unfold zbi at *;go_enter Tryz.func143,Tryz.ntmps143;go_wp2_with fail;refine(HZ.out _).mono ?_;rintro e w1 ⟨g,rfl,hgW,hrow,hg1⟩;have x0:=hg1.cell d0 (by simp);have x1:=hg1.cell d1 (by simp);have x2:=hg1.cell d2 (by simp);have xb:=hg1.cell b1 (by simp);have hgb:w.heap.size+1<=g:=by simpa using hgW
 have hgc:gc<w.heap.size:=by
  have:=HC.out.1;unfold World.cell? at this;dsimp only at this
  by_cases h:gc<w.heap.size
  ·exact h
  ·rw[Array.getElem?_eq_none (by omega)] at this;simp at this
 have hinv:zje hk (arcF hk l) (zdN l) q n g w 0 w1:=⟨zqaw _,zaa HW.out hg1,by omega,by rw[zsL];exact hrow,fun s hs=>absurd hs (by omega),fun d=>zcw hk⟩;have HI:=zHd hinv;have HX:=zHd (zAI x0 (zAI x1 (zAI x2 (zAI hgb hgc))));clear hgW hrow hg1 x0 x1 x2 hinv hgb hgc d0 d1 d2 ds b1 HC;go_wp2
 go_loopw [16] (fun iv wr=>∃ t:Nat,iv=.int .i64 (t:Int)/\zje hk (arcF hk l) (zdN l) q n g w t wr/\wr.cell? ⟨gc,0,none⟩=some (.int .i64 k)/\wr.cell? ⟨gc,1,none⟩=some (.string (zae k))/\wr.cell? ⟨gc,2,none⟩=some (.string (zal k))) (fun iv _=>q-(intOf iv).toNat)
 case atStart=>exact⟨0,rfl,HI.out,HX.out.1,HX.out.2.1,HX.out.2.2.1⟩
 case round =>
  obtain⟨t,rfl,hinv,y0,y1,y2⟩:=hrel
  by_cases ht:t<q
  ·have hrd:=(HU.out.below (zcM hinv.gr)).more (zcM hinv.gr).size
   rw[<- HQ.out] at hrd;obtain⟨ad,a,rfl,hbl,hla,⟨a0,a1,a2,a3⟩⟩:=zkw hrd (by rw[HQ.out];exact ht);obtain⟨ht0,htn,hwv⟩:=HO.out a (zqak hla);obtain⟨hwt,hwf⟩:=znF hk hwv;obtain⟨κ,hκ⟩:∃ κ:Nat,a.t=(κ:Int):=⟨a.t.toNat,by omega⟩;have hκ2:zdN l t=κ:=by rw[zrW hla,hκ];rfl
   have hκn:κ<n:=by omega
   have hcall:=fun w'=>zjH hk (hinv.now (zdN l t)) (show zam (arcF hk l t) by rw[zrX hk hla];exact hwf) w';rw[<- zyx,hκ2] at hcall;have hft:tx (arcF hk l t)=a.w:=by rw[zrX hk hla];exact hwt.symm
   rw[hft] at hcall;rw[hκ] at a3
   have r1:wr.cell? ⟨g,κ,none⟩=some (.string (tx (zcr hk (arcF hk l) (zdN l) t κ))):=by
    rw[zqbw wr g κ _ _ (0,0) hinv.row,zqap,zfv hk _ _ t hκn]
   have t1:decide (t<q)=true:=by simpa using ht
   have t1':decide ((t:Int)<(q:Int))=true:=by simpa using ht
   have hit:(t:Int)<(q:Int):=by omega
   have i1:(κ:Int)<(n:Int):=by omega
   have i2:(0:Int)<=(κ:Int):=by omega
   have n1:IntKind.i64.wrap ((t:Int)+1)=(t:Int)+1:=by have:=HN.out.2;rw[zqah];omega
   have hgl:g<wr.heap.size:=(zqad.1 hinv.row).1;have hne1:¬ gc=g:=by have:=HX.out.2.2.2;omega
   have hne2:¬ g=gc:=by have:=HX.out.2.2.2;omega
   have hne3:¬ wr.heap.size=g:=by omega
   have hne4:¬ g=wr.heap.size:=by omega
   have HI2:=zHd hinv;have HCALL:=zHd hcall;have HT:=zHd (zAI ht (zAI hκ2 hκn));clear hinv hcall ht hbl hla ht0 htn hwv hwt hwf hκ hκ2 hκn hft hrd hgl;unfold zbi at HCALL;go_upto_region 5 with(fail);have hal:=zGA wr (.cells #[.int .i64 a.i,.int .i64 a.o,.string a.w,.int .i64 (κ:Int)] 59) none;have u2:=zao wr #[.int .i64 a.i,.int .i64 a.o,.string a.w,.int .i64 (κ:Int)] 59 (j:=2) rfl;have u3:=zao wr #[.int .i64 a.i,.int .i64 a.o,.string a.w,.int .i64 (κ:Int)] 59 (j:=3) rfl;have v0:=hal.cell y0 (by simp);have v1:=hal.cell y1 (by simp);have v2:=hal.cell y2 (by simp);have vr:=hal.cell r1 (by simp);have hrowU:=(hal.block g (zqad.1 HI2.out.row).1 (by simp)).trans HI2.out.row;generalize wr.alloc (.cells #[.int .i64 a.i,.int .i64 a.o,.string a.w,.int .i64 (κ:Int)] 59)=U at *;have e2:U.drew.cell? ⟨wr.heap.size,2,none⟩=some (.string a.w):=u2;have e3:U.drew.cell? ⟨wr.heap.size,3,none⟩=some (.int .i64 (κ:Int)):=u3;have d0:U.drew.cell? ⟨gc,0,none⟩=some (.int .i64 k):=v0;have d1:U.drew.cell? ⟨gc,1,none⟩=some (.string (zae k)):=v1;have d2:U.drew.cell? ⟨gc,2,none⟩=some (.string (zal k)):=v2;have dr:U.drew.cell? ⟨g,κ,none⟩=some (.string (tx (zcr hk (arcF hk l) (zdN l) t κ))):=vr;have HUW:=zHd (zaa hal (zag U none));have HROW:=zHd (show U.drew.heap[g]?=_ from hrowU);clear hal u2 u3 v0 v1 v2 vr hrowU y0 y1 y2 r1 a0 a1 a2 a3;refine zex (e:=14) (n:=14) (fun W':World=>W'.cell? ⟨wr.heap.size,2,none⟩=some (.string a.w)/\W'.cell? ⟨wr.heap.size,3,none⟩=some (.int .i64 (κ:Int))/\W'.cell? ⟨gc,0,none⟩=some (.int .i64 k)/\W'.cell? ⟨gc,1,none⟩=some (.string (zae k))/\W'.cell? ⟨gc,2,none⟩=some (.string (zal k))/\W'.cell? ⟨g,κ,none⟩=some (.string (tx (zcr hk (arcF hk l) (zdN l) t κ)))) (by kernel_rfl) (by kernel_rfl) rfl ?_;have hS0:(fun W':World=>W'.cell? ⟨wr.heap.size,2,none⟩=some (.string a.w)/\W'.cell? ⟨wr.heap.size,3,none⟩=some (.int .i64 (κ:Int))/\W'.cell? ⟨gc,0,none⟩=some (.int .i64 k)/\W'.cell? ⟨gc,1,none⟩=some (.string (zae k))/\W'.cell? ⟨gc,2,none⟩=some (.string (zal k))/\W'.cell? ⟨g,κ,none⟩=some (.string (tx (zcr hk (arcF hk l) (zdN l) t κ)))) U.drew:=⟨e2,e3,d0,d1,d2,dr⟩;refine zTk 0 (.slice (some ⟨g,0,none⟩) n n) rfl hS0 ?_;(try simp only[zS,Act.put]);refine zTk 1 (.pointer (some ⟨wr.heap.size,3,none⟩)) rfl hS0 ?_;(try simp only[zS,Act.put]);refine zTk 2 (.int .i64 (κ:Int)) rfl hS0 ?_;(try simp only[zS,Act.put]);refine zTk 3 (.pointer (some ⟨gc,0,none⟩)) rfl hS0 ?_;(try simp only[zS,Act.put]);refine zTk 4 (.agg #[.int .i64 k,.string (zae k),.string (zal k)]) rfl hS0 ?_;(try simp only[zS,Act.put]);refine zTk 5 (.slice (some ⟨g,0,none⟩) n n) rfl hS0 ?_;(try simp only[zS,Act.put]);refine zTk 6 (.pointer (some ⟨wr.heap.size,3,none⟩)) rfl hS0 ?_;(try simp only[zS,Act.put]);refine zTk 7 (.int .i64 (κ:Int)) rfl hS0 ?_;(try simp only[zS,Act.put]);refine zTk 8 (.pointer (some ⟨g,κ,none⟩)) rfl hS0 ?_;(try simp only[zS,Act.put]);refine zTk 9 (.string (tx (zcr hk (arcF hk l) (zdN l) t κ))) rfl hS0 ?_;(try simp only[zS,Act.put]);refine zTk 10 (.pointer (some ⟨wr.heap.size,2,none⟩)) rfl hS0 ?_;(try simp only[zS,Act.put]);refine zTk 11 (.string a.w) rfl hS0 ?_;(try simp only[zS,Act.put]);refine zqcc (rs:=[12]) (by kernel_rfl) (by simp) ?_;refine AllReadyH.cons rfl (fun K hK=>?_) AllReadyH.nil;go_simp;refine(HCALL.out _).mono ?_;rintro e w5 (⟨hp,rfl,hg5⟩|⟨hn,rfl,hg5⟩);rotate_left 1
   ·exact⟨rfl,.inr ⟨fun h=>hn (HT.out.2.1▸h t HT.out.1),rfl,zaa (zaa HI2.out.gr HUW.out) hg5⟩⟩
   have s0:=hg5.cell d0 (by simp);have s1:=hg5.cell d1 (by simp);have s2:=hg5.cell d2 (by simp);have hr5:=(hg5.block g (zqad.1 HROW.out).1 (by simp)).trans HROW.out;have z0:=zqbx w5 g κ _ _ hr5;have q0:=zqbw w5 g κ _ _ (0,0) hr5;rw[zqap,zfv hk _ _ t HT.out.2.2] at q0;refine hK.out _ _ (⟨hg5.cell e2 (by simp),hg5.cell e3 (by simp),s0,s1,s2,q0⟩) (fun hHeld=>?_);have H5:=zHd (zAI hp (zAI hg5 hr5));clear hp hg5 hr5 hS0 hK K;refine zTk 13 (.pointer (some ⟨g,κ,none⟩)) rfl hHeld ?_;(try simp only[zS,Act.put]);clear hHeld;refine wpAnyH_done (by kernel_rfl) ?_ _;refine zfL (by rfl) (fun K hK=>?_);go_simp;refine hK _ _ ?_;go_wp2;obtain⟨hp,hg5,hr5⟩:=H5.out;have hnx:=HI2.out.next HT.out.1 (by rw[HT.out.2.1];exact HT.out.2.2) (zaa HUW.out hg5) hr5 (by rw[HT.out.2.1];exact hp);rw[HT.out.2.1] at hnx;exact⟨⟨t+1,by simp,hnx,zaZ hne1 s0,zaZ hne1 s1,zaZ hne1 s2⟩,by have:=HT.out.1;simp[intOf];omega⟩
  ·have hte:t=q:=by have:=hinv.le;omega
   subst hte;have t1:decide (t<t)=false:=by simp
   have t1':decide ((t:Int)<(t:Int))=false:=by simp
   have HI2:=zHd hinv;clear hinv ht;go_wp2;go_ret;refine .inl ⟨HI2.out.fit,_,rfl,⟨g,rfl,HI2.out.hg,(zqad.1 HI2.out.row).1,fun d hd=>?_⟩,HI2.out.gr⟩;rw[zqat,zqbw wr g d _ _ (0,0) HI2.out.row,zqap,zfv hk _ _ t hd];rfl
end
open Go.RowKit
theorem zAF (n:Nat)(L:Nat->Value)(a:ByteArray)(fv:Value)(w:World)(hn:0<n)(hf:zaG w fv n L)(h0:L 0=.string a) :
  Calls Tryz.prog 142 #[fv] w (zab (.string a) w):=by
 obtain⟨A,c,rfl,h1,h2,h3⟩:=hf;obtain⟨ad,rfl,hb,hc⟩:=h3 0 hn;rw[h0] at hc;have hz:ad.add 0=ad:=by cases ad;unfold Addr.add;split <;> simp_all
 have hc':=hc;rw[hz] at hc';have i1:(0:Int)<(n:Int):=by omega
 have i2:¬ (n:Int)<=0:=by omega
 have i3:¬ n=0:=by omega
 clear h3 hb;go_enter Tryz.func142,Tryz.ntmps142;go_wp2;go_ret;exact⟨rfl,World.grownBy.refl _ _⟩
theorem ztR:Enters 142:=enters_of Tryz.func142 (by kernel_rfl) rfl
theorem zqx (n m:Nat)(V:Nat->Value)(L:Nat->Nat->Value)(G:Nat->ByteArray)(lv:Value)(w:World)(hn:n<=10000)(hm:0<m)(hl:zaG w lv n V)(hrow:∀ i,i<n->zaG w (V i) m (L i))(h0:∀ i,i<n->L i 0=.string (G i)) :
  Calls Tryz.prog 96 #[lv] w (fun e w'=>∃ v,e=.returned v/\v=.slice (some ⟨w.heap.size,0,none⟩) n n/\zaq w' w.heap.size 0 n (fun i=>.string (G i))/\w.grownBy w' none):=by
 have h:=zlH 142 ztR #[] #[] n V (fun _=>True) G lv w hn hl (fun i hi w' hg=>by
  have h1:=zAF m (L i) (G i) (V i) w' hm ((hrow i hi).grown hg) (h0 i hi);exact h1.mono (fun e w2 h2=>.inl ⟨trivial,h2⟩))
 obtain⟨A,c,rfl,-⟩:=hl;have H:=zHd h;clear h hrow h0;go_enter Tryz.func96,Tryz.ntmps96;go_wp2_with fail;refine H.out.mono ?_;rintro e w1 (⟨hp,v,rfl,⟨rfl,hr⟩,hg1⟩|⟨hnp,-⟩)
 ·have HP:=zHd (zAI hr hg1)
  clear hp hr hg1 H;go_wp2;go_ret;exact⟨_,rfl,rfl,HP.out.1,HP.out.2⟩
 ·exact absurd (fun _ _=>trivial) hnp
open Go.RowKit
section
variable {k:Int}
def stA (l:List zai)(i:Nat):List zaN:=(l[i]?.map (·.arcs)).getD []
def stF (l:List zai)(i:Nat):ByteArray:=(l[i]?.map (·.fin)).getD ⟨#[]⟩
theorem zmO {l:List zai}{i:Nat}{s:zai}(h:l[i]?=some s):stA l i=s.arcs:=by unfold stA;rw[h];rfl
theorem zky {l:List zai}{i:Nat}{s:zai}(h:l[i]?=some s):stF l i=s.fin:=by unfold stF;rw[h];rfl
noncomputable def arcM (hk:zad k)(l:List zai)(i d:Nat):El k:=zcr hk (arcF hk (stA l i)) (zdN (stA l i)) (stA l i).length d
def zhB (hk:zad k)(l:List zai):Prop:=∀ i,i<l.length->∀ s,s<(stA l i).length->zam (zcr hk (arcF hk (stA l i)) (zdN (stA l i)) (s+1) (zdN (stA l i) s))
noncomputable def finE (hk:zad k)(a:ByteArray):El k := @ite _ (a=⟨#[]⟩) (Classical.propDecidable _) (srE k hk).zero (vE hk a)
noncomputable def finM (hk:zad k)(l:List zai)(i:Nat):El k:=finE hk (stF l i)
structure zdA (k:Int)(l:List zai):Prop where
 n60:l.length<=60
 arcs:∀ i,i<l.length->zvT k l.length (stA l i)/\(stA l i).length<=30000
 fins:∀ i,i<l.length->stF l i=⟨#[]⟩∨∃ v,Val k (stF l i) v
theorem zvU (hk:zad k){l:List zai}(h:zhB hk l){i:Nat}(hi:i<l.length)(d:Nat):zam (arcM hk l i d):=zoL hk _ _ _ (h i hi) d
theorem zHt (hk:zad k){a:ByteArray}(h:a=⟨#[]⟩∨∃ v,Val k a v):zam (finE hk a):=by
 unfold finE;split
 ·exact zcw hk
 ·next hn =>
  rcases h with h|h
  ·exact absurd h hn
  ·exact(znF hk h).2
theorem ztS:Enters 143:=enters_of Tryz.func143 (by kernel_rfl) rfl
theorem ztT:Enters 95:=enters_of Tryz.func95 (by kernel_rfl) rfl
theorem znM:Enters 98:=enters_of Tryz.func98 (by kernel_rfl) rfl
theorem ztf (hk:zad k)(l:List zai)(us:List Value)(As:Option Addr)(cs:Nat)(kd st:Int)(ld:ByteArray)(w:World)(hok:zdA k l)(hst:zhA w l us As cs) :
  Calls Tryz.prog 97 #[zbi k,.agg #[.int .i64 kd,.int .i64 st,.string ld,.slice As l.length cs]] w (zbO (zhB hk l) (fun v w'=>zbv w' v l.length l.length (arcM hk l)) w):=by
 have hmf := @zMF Tryz.prog;have hal1:=zGA w (.cells #[.int .i64 k,.string (zae k),.string (zal k)] 64) none;have hal2:=zGA (w.alloc (.cells #[.int .i64 k,.string (zae k),.string (zal k)] 64)) (.cells #[.int .i64 kd,.int .i64 st,.string ld,.slice As l.length cs] 31) none;have hW:=zaa hal1 hal2
 have xc:zcR ((w.alloc (.cells #[.int .i64 k,.string (zae k),.string (zal k)] 64)).alloc (.cells #[.int .i64 kd,.int .i64 st,.string ld,.slice As l.length cs] 31)) w.heap.size k:=by
  have h:zcR (w.alloc (.cells #[.int .i64 k,.string (zae k),.string (zal k)] 64)) w.heap.size k:=⟨zao w _ _ rfl,zao w _ _ rfl,zao w _ _ rfl⟩;exact h.grown hal2
 have xs:((w.alloc (.cells #[.int .i64 k,.string (zae k),.string (zal k)] 64)).alloc (.cells #[.int .i64 kd,.int .i64 st,.string ld,.slice As l.length cs] 31)).cell? ⟨w.heap.size+1,3,none⟩=some (.slice As l.length cs):=by
  have h:=zao (w.alloc (.cells #[.int .i64 k,.string (zae k),.string (zal k)] 64)) #[.int .i64 kd,.int .i64 st,.string ld,.slice As l.length cs] 31 (j:=3) (u:=.slice As l.length cs) rfl;rw[show(w.alloc (.cells #[.int .i64 k,.string (zae k),.string (zal k)] 64)).heap.size=w.heap.size+1 by simp] at h;exact h
 have hmap:=ziq 143 ztS #[] #[.pointer (some ⟨w.heap.size,0,none⟩),.pointer (some ⟨w.heap.size+1,0,none⟩)] l us As cs l.length (fun i=>∀ s,s<(stA l i).length->zam (zcr hk (arcF hk (stA l i)) (zdN (stA l i)) (s+1) (zdN (stA l i) s))) (fun i=>txs (arcM hk l i)) _ (by have:=hok.n60;omega) (hst.grown hW) (fun i s u hs hu w' hw' ha=>by
  have hil:=(zqae.1 hs).1;have he:=zmO hs;obtain⟨h1,h2⟩:=hok.arcs i hil;rw[he] at h1 h2;have h:=zAE hk l.length w.heap.size (w.heap.size+1) cs s.fin u s.arcs As w' (by have:=hok.n60;omega) h2 h1 ha (xc.grown hw') (hw'.cell xs (by simp));refine h.mono (fun e w3 h=>?_);rcases h with⟨hp,v,e1,⟨g,e2,q1,q2⟩,q3⟩|⟨hp,q⟩
  ·refine .inl ⟨by rw[he];exact hp,v,e1,⟨g,0,l.length,e2,zqab _,by have:=hok.n60;unfold maxLen;omega,.inr q1,?_⟩,q3⟩
   show zaq w3 g 0 l.length (txs (arcM hk l i));unfold arcM;rw[he];exact q2
  ·exact .inr ⟨by rw[he];exact hp,q⟩)
 have HM:=zHd hmap;have HW:=zHd hW;have HN:=zHd hok.n60;clear hmap hal1 hal2 hW xc xs hst hok;unfold zbi at *;go_enter Tryz.func97,Tryz.ntmps97;go_wp2_with fail;refine HM.out.mono ?_;rintro e w1 (⟨hp,v,rfl,⟨zs,rfl,hzs,_⟩,hg1⟩|⟨hn,rfl,hg1⟩)
 ·have HP:=zHd (zAI hp (zAI hzs hg1))
  clear hp hzs hg1 HM;go_wp2;go_ret;obtain⟨hp,hzs,hg1⟩:=HP.out;refine .inl ⟨hp,_,rfl,?_,zaa HW.out hg1⟩;have h:=hzs.mat (by have:=HN.out;omega);simpa using h
 ·exact⟨rfl,.inr ⟨hn,rfl,zaa HW.out hg1⟩⟩
end
open Go.RowKit Go.Maps
instance lawful6:LawfulBEq ByteArray where
 eq_of_beq {a b} h:=by
  have h2:a.data==b.data:=h;cases a;cases b;simp only[beq_iff_eq] at h2;subst h2;rfl
 rfl {a}:=by
  show(a.data==a.data)=true;simp
theorem zyC:Keyed Tryz.prog 9:=string_keyed Tryz.underlying9
theorem zEf (w:World):(zeroValue 4).run Tryz.prog w=.ok (.bool false) w:=by kernel_rfl
def zoP (s:ByteArray):Lit:=.string s.data.toList
theorem zvV {s t:ByteArray}(h:zoP s=zoP t):s=t:=by
 unfold zoP at h;injection h with h
 exact ByteArray.ext (Array.toList_inj.1 h)
theorem zvW (s:ByteArray):WideAt.IsKeyLit (zoP s):=trivial
theorem zyD {s:ByteArray}(h:s.size<=maxLen):keyOf Tryz.prog 9 (.string s)=some (zoP s):=WideMaps.keyOf_string_mk Tryz.underlying9 h
theorem zmP {H:Type}{P:Program}{e:TypeId}(he:P.underlying e=some .bool){v:Value}{z:DataW H×List MemPlace}(h:plainElem P e v=some z):∃ a,v=.bool a/\z=(.lit (.bool a),[]):=by
 unfold plainElem at h;rw[he] at h;cases v <;> simp at h;exact⟨_,rfl,h.symm⟩
structure zKG (w:World)(b:Nat)(k:Int)(K:List ByteArray)(D:DataW Unit):Prop where
 owns:w.ownsMap Tryz.prog 9 (plainElem Tryz.prog 4) b K.length D
 at_:∀ s,D.atKey (zoP s) (.lit (.bool false))=.lit (.bool (decide (s∈K)&&wgtB k s))
 has_:∀ s,Maps.has D (zoP s)=decide (s∈K)
def zhC (w:World)(b:Nat)(k:Int)(K:List ByteArray):Prop:=∃ D,zKG w b k K D
theorem zhC.made (w:World)(k:Int):zhC (w.alloc (.map #[] 0)) w.heap.size k []:=⟨.map [],⟨World.ownsMap_made w _ _ _,fun s=>by simp;rfl,fun s=>by simp;rfl⟩⟩
theorem zhC.kept {w w':World}{b:Nat}{k:Int}{K:List ByteArray}{row:Option Nat}(h:zhC w b k K)(hg:w.grownBy w' row)(hne:some b≠row):zhC w' b k K:=by
 obtain⟨D,h1,h2,h3⟩:=h;exact⟨D,h1.kept hg hne,h2,h3⟩
theorem zhC.look_ok {w:World}{b:Nat}{k:Int}{K:List ByteArray}(h:zhC w b k K){s:ByteArray}(hs:s.size<=maxLen) :
  (Instr.lookup 92 (.map (some b)) (.string s) true).run Tryz.prog w=.ok (.tuple #[.bool (decide (s∈K)&&wgtB k s),.bool (decide (s∈K))]) w:=by
 obtain⟨D,h1,h2,h3⟩:=h;obtain⟨v,ps,hrun,hv⟩:=h1.look_ok zyC Tryz.underlying92 (zEf _) (plainElem_bool Tryz.underlying4 false) (zyD hs);obtain⟨c,rfl,hc⟩:=zmP Tryz.underlying4 hv;rw[h2 s] at hc;simp only[Prod.mk.injEq,DataW.lit.injEq,Lit.bool.injEq] at hc;obtain⟨hc,_⟩:=hc;subst hc;rw[h3 s] at hrun;exact hrun
theorem zhC.store {w:World}{b:Nat}{k:Int}{K:List ByteArray}(h:zhC w b k K){s:ByteArray}(hs:s.size<=maxLen)(hn:s ∉ K)(hl:K.length<maxLen) :
  ∃ w',(Instr.mapUpdate 92 (.map (some b)) (.string s) (.bool (wgtB k s))).run Tryz.prog w=.ok () w'/\zhC w' b k (K++[s])/\w.grownBy w' (some b):=by
 obtain⟨D,h1,h2,h3⟩:=h;obtain⟨w',hrun,hown,hg⟩:=h1.update zyC Tryz.underlying92 hl (zyD hs) (plainElem_bool Tryz.underlying4 (wgtB k s));have hD:IsMap D:=h1.isMap;refine⟨w',hrun,⟨_,⟨by rw[zqag];exact hown,fun t=>?_,fun t=>?_⟩⟩,hg⟩
 ·by_cases ht:t=s
  ·subst ht
   rw[atKey_put_same hD (zvW t)];simp
  ·rw[atKey_put_other (fun e=>ht (zvV e)),h2 t];simp[ht]
 ·by_cases ht:t=s
  ·subst ht
   rw[has_put_same hD (zvW t)];simp
  ·rw[has_put_other (fun e=>ht (zvV e)),h3 t];simp[ht]
def zhD (m:zak):List ByteArray:=m.lead::m.states.flatMap (fun s=>s.fin::s.arcs.map zaN.w)
theorem zvX (m:zak):(zhD m).length=1+m.states.length+zbu m.states:=by
 unfold zhD zbu;rw[zqbu]
 induction m.states with
 | nil=>simp
 | cons s l ih=>simp only[List.flatMap_cons,zqag,zqbu,zqbn,List.map_cons,List.sum_cons];omega
theorem zHu {m:zak}{s:zai}(hs:s∈m.states):s.fin∈zhD m:=by
 unfold zhD;exact zqao _ (List.mem_flatMap.2 ⟨s,hs,by simp⟩)
theorem zHv {m:zak}{s:zai}{a:zaN}(hs:s∈m.states)(ha:a∈s.arcs):a.w∈zhD m:=by
 unfold zhD;exact zqao _ (List.mem_flatMap.2 ⟨s,hs,zqao _ (List.mem_map_of_mem ha)⟩)
def zhh (w0:World)(b:Nat)(m:zak)(W:World):Prop:=w0.grownBy W (some b)/\∃ K,zhC W b m.kind K/\K.Nodup/\∀ s∈K,s∈zhD m
theorem zhh.next {w0 W W':World}{b:Nat}{m:zak}(h:zhh w0 b m W)(hg:W.grownBy W' none):zhh w0 b m W':=by
 obtain⟨h1,K,h2,h3,h4⟩:=h;exact⟨World.grownBy.trans h1 (zfy hg),K,h2.kept hg (by simp),h3,h4⟩
structure znG (w0:World)(b kv bx wv:Nat)(m:zak)(u:Value):Prop where
 hkv:w0.heap[kv]?=some (.cells #[.map (some b)] 92 (0,0))
 hbx:zav w0 bx m u
 hwv:w0.heap[wv]?=some (.cells #[.func (.func 127) #[] #[.pointer (some ⟨kv,0,none⟩),.pointer (some ⟨bx,0,none⟩)]] 69 (0,0))
 ne:kv≠b/\bx≠b/\wv≠b
theorem znG.at_ {w0 W:World}{b kv bx wv:Nat}{m:zak}{u:Value}(h:znG w0 b kv bx wv m u)(hg:w0.grownBy W (some b)):znG W b kv bx wv m u :=
 ⟨(hg.block _ (lt_of_block h.hkv) (by simpa using h.ne.1)).trans h.hkv,(hg.block _ h.hbx.lt (by simpa using h.ne.2.1)).trans h.hbx,(hg.block _ (lt_of_block h.hwv) (by simpa using h.ne.2.2)).trans h.hwv,h.ne⟩
theorem zxx {k:Int}{a:ByteArray}(ha:a.size<=maxLen):VB 128 k a (wgtB k a):=by
 rcases zKi k a with⟨v,h⟩|h
 ·rw[zoG h];exact zxm h
 ·have hB:wgtB k a=false:=by
   cases hb:wgtB k a
   ·rfl
   ·obtain⟨v,hv⟩:=zoH hb
    have:=h v hv.1;rw[hv.2] at this;cases this
  rw[hB];exact zAa h ha
theorem zrY:Enters 129:=enters_of Tryz.func129 (by kernel_rfl) rfl
theorem zvY:Enters 126:=enters_of Tryz.func126 (by kernel_rfl) rfl
theorem zlq {w0 W:World}{b kv bx wv:Nat}{m:zak}{u:Value}{s:ByteArray}(hw:znG w0 b kv bx wv m u)(hinv:zhh w0 b m W)(hs:s∈zhD m)(hz:s.size<=maxLen)(hl:(zhD m).length<=100000) :
  Calls Tryz.prog 127 #[.string s,.pointer (some ⟨kv,0,none⟩),.pointer (some ⟨bx,0,none⟩)] W (zua (zhh w0 b m) (some b) (wgtB m.kind s) W):=by
 obtain⟨hg,K,hK,hnd,hsub⟩:=hinv;have HB:=zHd (hw.at_ hg);have HW:=zHd hw;have hlk:=hK.look_ok hz;have HSW:=zHd (zxx (k:=m.kind) hz);obtain⟨x0,_⟩:=one_cell HB.out.hkv;obtain⟨y0,_,_,_⟩:=HB.out.hbx.cells;have HG:=zHd hg;have HK:=zHd hK;have HND:=zHd hnd;have HSUB:=zHd hsub;have HS:=zHd hs;clear hw hg hK hnd hsub hs
 by_cases hm:s∈K
 ·rw[decide_eq_true hm] at hlk
  simp only[Bool.true_and] at hlk;clear hm;go_enter Tryz.func127,Tryz.ntmps127;go_wp2;go_ret;exact⟨rfl,⟨HG.out,K,HK.out,HND.out,HSUB.out⟩,World.grownBy.refl _ _⟩
 ·have HM:=zHd hm
  rw[zqcb hm] at hlk;simp only[Bool.false_and] at hlk;clear hm;go_enter Tryz.func127,Tryz.ntmps127;go_wp2_with fail;refine(HSW.out _).mono ?_;rintro e w1 ⟨rfl,hg1⟩;have HG1:=zHd hg1;have hK1:=HK.out.kept hg1 (by simp);obtain⟨w2,hst,hK2,hg2⟩:=hK1.store hz HM.out (by have:=List.Nodup.length_le_of_subset (l₁:=K) (l₂:=zhD m) HND.out HSUB.out;unfold maxLen;omega);have HK2:=zHd hK2;have HG2:=zHd hg2;have z0:=(one_cell (HB.out.at_ (zfy hg1)).hkv).1;clear hK1 hK2 hg1 hg2 x0 y0 hlk;go_wp2;go_ret;have hgg:=World.grownBy.trans (zfy (r:=some b) HG1.out) HG2.out;refine⟨rfl,⟨World.grownBy.trans HG.out hgg,K++[s],HK2.out,?_,?_⟩,hgg⟩
  ·rw[List.nodup_append]
   exact⟨HND.out,by simp,fun a ha c hc e=>by simp at hc;subst hc;subst e;exact HM.out ha⟩
  ·intro t ht
   rcases zqbo.1 ht with h|h
   ·exact HSUB.out t h
   ·simp at h;subst h;exact HS.out
theorem zhO (x a b:Int)(w:World):Calls Tryz.prog 124 #[.int .i64 x,.int .i64 a,.int .i64 b] w fun e w'=>e=.returned (.bool (decide (a<=x)&&decide (x<=b)))/\w'=w:=by
 by_cases h1:a<=x
 ·by_cases h2:x<=b
  ·rw[decide_eq_true h1,decide_eq_true h2]
   go_enter Tryz.func124,Tryz.ntmps124;go_wp2;go_ret;exact⟨rfl,rfl⟩
  ·rw[decide_eq_true h1,zqcb h2]
   go_enter Tryz.func124,Tryz.ntmps124;go_wp2;go_ret;exact⟨rfl,rfl⟩
 ·rw[zqcb h1]
  go_enter Tryz.func124,Tryz.ntmps124;go_wp2;go_ret;exact⟨rfl,rfl⟩
def zmQ (n:Nat)(a:zaN):Bool:=(decide (0<=a.i)&&decide (a.i<=500))&&((decide (0<=a.o)&&decide (a.o<=500))&&(decide (0<=a.t)&&decide (a.t<=(n:Int)-1)))
theorem zEg {W:World}{b n:Nat}{a:zaN}(hc:W.heap[b]?=some (.cells #[.int .i64 (n:Int)] 3 (0,0)))(hn:n<=3000) :
  Calls Tryz.prog 126 #[.agg #[.int .i64 a.i,.int .i64 a.o,.string a.w,.int .i64 a.t],.pointer (some ⟨b,0,none⟩)] W (zab (.bool (zmQ n a)) W):=by
 have h1:=zhO a.i 0 500;have h2:=zhO a.o 0 500;have h3:=zhO a.t 0 ((n:Int)-1);unfold zmQ;have hb:b<W.heap.size:=lt_of_block hc;have hg:=zGA W (.cells #[.int .i64 a.i,.int .i64 a.o,.string a.w,.int .i64 a.t] 59) none;obtain⟨x0,_⟩:=one_cell ((hg.block b hb (by simp)).trans hc);have n1:IntKind.i64.wrap ((n:Int)-1)=(n:Int)-1:=by rw[zqah];omega
 have HG:=zHd hg;clear hg hc;generalize (decide (0<=a.i)&&decide (a.i<=500))=p1 at h1 ⊢;generalize (decide (0<=a.o)&&decide (a.o<=500))=p2 at h2 ⊢;generalize (decide (0<=a.t)&&decide (a.t<=(n:Int)-1))=p3 at h3 ⊢;have H1:=zHd h1;have H2:=zHd h2;have H3:=zHd h3;clear h1 h2 h3;go_enter Tryz.func126,Tryz.ntmps126;go_wp2_with fail;refine(H1.out _).mono ?_;rintro e w1 ⟨rfl,rfl⟩;cases p1
 ·go_wp2
  go_ret;exact⟨rfl,HG.out⟩
 ·go_wp2_with fail
  refine(H2.out _).mono ?_;rintro e w1 ⟨rfl,rfl⟩;cases p2
  ·go_wp2
   go_ret;exact⟨rfl,HG.out⟩
  ·go_wp2_with fail
   refine(H3.out _).mono ?_;rintro e w1 ⟨rfl,rfl⟩;cases p3
   all_goals
    go_wp2;go_ret;exact⟨rfl,HG.out⟩
open Go.RowKit Go.Maps
noncomputable def fitsB (m:zak):Bool:=decide (m.states.length<=3000)&&((decide (0<=m.start)&&decide (m.start<=(m.states.length:Int)-1))&&(decide (zbu m.states<=30000)&&zio (zmQ m.states.length) m))
theorem zlr (w:World)(o:Array Value)(t:TypeId):(w.alloc (.cells o t)).heap[w.heap.size]?=some (.cells o t (0,0)):=by
 show(w.heap.push _)[w.heap.size]?=_;rw[zqaz]
theorem zod {M:Nat}:∀ {l:List zai},(∀ s∈l,s.arcs.length<=M)->zbu l<=l.length*M
 | [],_=>by simp[zbu]
 | s::l,h=>by
  have h1:=h s (by simp);have h2:=zod (l:=l) (fun t ht=>h t (by simp[ht]));have e:zbu (s::l)=s.arcs.length+zbu l:=by unfold zbu;simp
  rw[e,zqbu,Nat.succ_mul];omega
theorem zAG {w0:World}{F:Nat}{lb:Array Value}{m:zak}{P:zaN->Bool}(h:∀ (W:World) (s:zai) (a:zaN),w0.grownBy W none->s∈m.states->a∈s.arcs->Calls Tryz.prog F (#[.agg #[.int .i64 a.i,.int .i64 a.o,.string a.w,.int .i64 a.t]]++lb) W (zab (.bool (P a)) W)) :
  Says (fun W=>w0.grownBy W none) none F lb m P:=fun W s a hI hs ha=>(h W s a hI hs ha).mono fun e w' ⟨h1,h2⟩=>⟨h1,zaa hI h2,h2⟩
theorem zHw {w:World}{v:Value}{m:zak}(hv:zdo w v m)(hf:zhd m):Calls Tryz.prog 68 #[v] w (zab (.bool (fitsB m)) w):=by
 obtain⟨u,rfl,hst0⟩:=hv;obtain⟨A,cap,us,rfl,hS0⟩:=zdR.of hst0;have hg1:w.grownBy (w.alloc (.cells #[.int .i64 m.kind,.int .i64 m.start,.string m.lead,.slice A m.states.length cap] 31)) none:=zGA _ _ _;have hg2:=zGA (w.alloc (.cells #[.int .i64 m.kind,.int .i64 m.start,.string m.lead,.slice A m.states.length cap] 31)) (.cells #[.int .i64 (m.states.length:Int)] 3) none;have hbx:=(zav.new w m (.slice A m.states.length cap)).grown hg2;have hvr:=zlr (w.alloc (.cells #[.int .i64 m.kind,.int .i64 m.start,.string m.lead,.slice A m.states.length cap] 31)) #[.int .i64 (m.states.length:Int)] 3;rw[show(w.alloc (.cells #[.int .i64 m.kind,.int .i64 m.start,.string m.lead,.slice A m.states.length cap] 31)).heap.size=w.heap.size+1 by simp] at hvr;have HG:=zHd (zaa hg1 hg2);have HS:=zHd hS0;have HBX:=zHd hbx;have HVR:=zHd hvr;have HF:=zHd hf;have hn0:=hf.n;have hwi:=zhO m.start 0 ((m.states.length:Int)-1);have HWI:=zHd hwi;obtain⟨x0,x1,x2,x3⟩:=hbx.cells;obtain⟨y0,_⟩:=one_cell hvr;clear hst0 hS0 hg1 hg2 hbx hvr hf hwi;have n1:IntKind.i64.wrap ((m.states.length:Int)-1)=(m.states.length:Int)-1:=by rw[zqah];omega
 by_cases c1:m.states.length<=3000
 ·have n2:¬ (3000:Int)<(m.states.length:Int):=by omega
  go_enter Tryz.func68,Tryz.ntmps68;go_wp2_with fail;refine(HWI.out _).mono ?_;rintro e w1 ⟨rfl,hw1⟩;cases hp:(decide (0<=m.start)&&decide (m.start<=(m.states.length:Int)-1))
  ·have HN:Hid (fitsB m=false):=zHd (by unfold fitsB;rw[hp];simp)
   clear hp;subst hw1;go_wp2;go_ret;exact⟨by rw[HN.out];rfl,HG.out⟩
  ·have HP:=zHd hp
   clear hp;subst hw1;generalize hW:(w.alloc (.cells #[.int .i64 m.kind,.int .i64 m.start,.string m.lead,.slice A m.states.length cap] 31)).alloc (.cells #[.int .i64 (m.states.length:Int)] 3)=W at *;clear hW;go_wp2;have HC1:=zHd c1;clear x0 x1 x2 x3 y0 n2
   go_loopw [4,23] (fun n i wr=>∃ k:Nat,i=.int .i64 k/\n=.int .i64 (zbu (m.states.take k):Int)/\k<=m.states.length/\W.grownBy wr none) (fun _ i _=>m.states.length-(intOf i).toNat)
   case atStart=>exact⟨0,rfl,rfl,by omega,zaf _ _⟩
   case round =>
    obtain⟨k,rfl,rfl,hk,hgr⟩:=hrel;have HGR:=zHd hgr;have HGR0:=zHd (zaa HG.out hgr);clear hgr
    by_cases hlt:k<m.states.length
    ·obtain⟨ad,s,B,cb,hA,hs,hu,hc,hra⟩:=(HS.out.grown HGR0.out).at_ hlt
     subst hA;obtain⟨z0,z1⟩:=hc;have hal:=HF.out.arcs s (zqak hs);have htk:=zdL hs;have hsn:zbu (m.states.take (k+1))=zbu (m.states.take k)+s.arcs.length:=(by rw[htk,zqj]);have hb:=zod (l:=m.states.take k) (M:=140737488355328) (fun t ht=>HF.out.arcs t (zqau ht));have hb2:zbu (m.states.take k)<=3000*140737488355328:=zqam hb (Nat.mul_le_mul_right _ (by rw[zqan];omega));have n2:(k:Int)<(m.states.length:Int):=(by omega);have n3:IntKind.i64.wrap ((k:Int)+1)=(k:Int)+1:=(by rw[zqah];omega);have n4:IntKind.i64.wrap ((zbu (m.states.take k):Int)+(s.arcs.length:Int))=(zbu (m.states.take (k+1)):Int):=(by rw[zqah];omega);clear hs hu hra hal htk hb hb2;generalize hq:zbu (m.states.take (k+1))=q at *;have HQ:=zHd hq;clear hq hsn;go_wp2
     go_roundw
     case rel=>exact⟨k+1,by go_num,by rw[HQ.out],by omega,zaa HGR.out (zGA _ _ _)⟩
     case measure=>simp[intOf];omega
    ·have hk2:m.states.take k=m.states:=zqaf (by omega)
     rw[hk2];have n2:¬ (k:Int)<(m.states.length:Int):=by omega
     by_cases c2:zbu m.states<=30000
     ·have n3:(zbu m.states:Int)<=30000:=by omega
      have HC2:=zHd c2;obtain⟨x0,x1,x2,x3⟩:=(HBX.out.grown HGR.out).cells
      have hall:=zyB (w:=wr) (A:=A) (cap:=cap) (us:=us) (m:=m) (Inv:=fun W'=>wr.grownBy W' none) (r:=none) (F:=126) (lb:=#[.pointer (some ⟨w.heap.size+1,0,none⟩)]) (P:=zmQ m.states.length) zvY
       (fun W1 W2 h1 h2=>zaa h1 h2) (fun W1 h1=>HS.out.grown (zaa HGR0.out h1)) (fun k e=>by cases e) (zaf _ _)
       (zAG (fun W1 s a hI hs ha=>zEg (((zaa HGR.out hI).block _ (lt_of_block HVR.out) (by simp)).trans HVR.out) HC1.out)) HF.out.n HF.out.arcs
      have HALL:=zHd hall;clear c2 hall;go_wp2_with fail;refine HALL.out.mono ?_;rintro e w2 ⟨rfl,_,hg2⟩;have HE:Hid (fitsB m=zio (zmQ m.states.length) m):=zHd (by unfold fitsB;rw[decide_eq_true HC1.out,HP.out,decide_eq_true HC2.out];rfl);have HG2:=zHd (zaa HGR0.out hg2);clear hg2;cases hb:zio (zmQ m.states.length) m
      all_goals
       rw[hb] at HE;clear hb;go_wp2;go_ret;exact⟨by rw[HE.out];rfl,HG2.out⟩
     ·have n3:¬ (zbu m.states:Int)<=30000:=by omega
      have HN:Hid (fitsB m=false):=zHd (by unfold fitsB;rw[zqcb c2];simp);clear c2;go_wp2;go_ret;exact⟨by rw[HN.out];rfl,HGR0.out⟩
 ·have n2:(3000:Int)<(m.states.length:Int):=by omega
  have HN:Hid (fitsB m=false):=zHd (by unfold fitsB;rw[zqcb c1];rfl);clear c1;go_enter Tryz.func68,Tryz.ntmps68;go_wp2;go_ret;exact⟨by rw[HN.out];rfl,HG.out⟩
open Go.RowKit Go.Maps
noncomputable def weighedB (m:zak):Bool:=m.states.all (fun s=>finB m.kind s.fin)&&(wgtB m.kind m.lead&&zio (fun a=>wgtB m.kind a.w) m)
theorem zHx {k:Int}{a:ByteArray}(h:wgtB k a=true):zgd k=true:=by
 obtain⟨v,hv⟩:=zoH h;have:=hv.2;cases hk:zgd k
 ·exfalso
  unfold zgd at hk;simp at hk;obtain⟨h1,h2,h3⟩:=hk;cases v with
  | inl b=>cases b <;> simp[zgm] at this
  | inr x=>simp[zgm,h1,h2,h3] at this
 ·rfl
theorem zxy (m:zak):validB m=(fitsB m&&weighedB m):=by
 rw[Bool.eq_iff_iff];unfold validB headB fitsB weighedB zio;simp only[zqbb,zqca,List.all_eq_true];constructor
 ·rintro ⟨⟨⟨⟨h1,h2,h3,h4,h5⟩,h6⟩,h7⟩,h8⟩
  have hp:=fun s hs=>zga (h8 s hs);refine⟨⟨h3,⟨h4,by omega⟩,h7,fun s hs a ha=>?_⟩,fun s hs=>(hp s hs).1,h6,fun s hs a ha=>?_⟩
  ·have:=zia ((hp s hs).2 a ha)
   unfold zmQ;simp only[zqbb,zqca];omega
  ·exact(zia ((hp s hs).2 a ha)).2.2.2.2.2.2
 ·rintro ⟨⟨h3,⟨h4,h5⟩,h7,h8⟩,h9,h6,h10⟩
  refine⟨⟨⟨⟨zHx h6,by omega,h3,h4,by omega⟩,h6⟩,h7⟩,fun s hs=>?_⟩;unfold stB6;simp only[zqbb,List.all_eq_true];refine⟨h9 s hs,fun a ha=>?_⟩;have h1:=h8 s hs a ha;have h2:=h10 s hs a ha;unfold zmQ at h1;unfold arcB;simp only[zqbb,zqca] at h1 ⊢;exact⟨by omega,h2⟩
def zid (w:World)(m:zak)(u:Value):World :=
 (((w.alloc (.cells #[.int .i64 m.kind,.int .i64 m.start,.string m.lead,u] 31)).alloc (.map #[] 0)).alloc (.cells #[.map (some (w.heap.size+1))] 92)).alloc (.cells #[.func (.func 127) #[] #[.pointer (some ⟨w.heap.size+2,0,none⟩),.pointer (some ⟨w.heap.size,0,none⟩)]] 69)
theorem zAH (w:World)(m:zak)(u:Value):znG (zid w m u) (w.heap.size+1) (w.heap.size+2) w.heap.size (w.heap.size+3) m u/\zhC (zid w m u) (w.heap.size+1) m.kind []/\w.grownBy (zid w m u) none:=by
 unfold zid;have b1:=zav.new w m u;have g1:w.grownBy (w.alloc (.cells #[.int .i64 m.kind,.int .i64 m.start,.string m.lead,u] 31)) none:=zGA _ _ _;have e1:(w.alloc (.cells #[.int .i64 m.kind,.int .i64 m.start,.string m.lead,u] 31)).heap.size=w.heap.size+1:=by simp
 generalize w.alloc (.cells #[.int .i64 m.kind,.int .i64 m.start,.string m.lead,u] 31)=W1 at *;have k2:=zhC.made W1 m.kind;rw[e1] at k2;have g2:W1.grownBy (W1.alloc (.map #[] 0)) none:=zGA _ _ _;have e2:(W1.alloc (.map #[] 0)).heap.size=w.heap.size+2:=by simp[e1]
 generalize W1.alloc (.map #[] 0)=W2 at *;have c3:=zlr W2 #[.map (some (w.heap.size+1))] 92;rw[e2] at c3;have g3:W2.grownBy (W2.alloc (.cells #[.map (some (w.heap.size+1))] 92)) none:=zGA _ _ _;have e3:(W2.alloc (.cells #[.map (some (w.heap.size+1))] 92)).heap.size=w.heap.size+3:=by simp[e2]
 generalize W2.alloc (.cells #[.map (some (w.heap.size+1))] 92)=W3 at *;have c4:=zlr W3 #[.func (.func 127) #[] #[.pointer (some ⟨w.heap.size+2,0,none⟩),.pointer (some ⟨w.heap.size,0,none⟩)]] 69;rw[e3] at c4;have g4:=zGA W3 (.cells #[.func (.func 127) #[] #[.pointer (some ⟨w.heap.size+2,0,none⟩),.pointer (some ⟨w.heap.size,0,none⟩)]] 69) none;exact⟨⟨(g4.block _ (by omega) (by simp)).trans c3,((b1.grown g2).grown g3).grown g4,c4,by omega,by omega,by omega⟩,(k2.kept (zaa g3 g4) (by simp)),zaa g1 (zaa g2 (zaa g3 g4))⟩
theorem zHy (w:World):(Instr.makeMap 92 none).run Tryz.prog w=.ok (.map (some w.heap.size)) (w.alloc (.map #[] 0)):=by
 simp only[Instr.makeMap,Sem.run_bind,run_underlying Tryz.underlying92,Result.andThen];rfl
theorem zxz {w0 W:World}{b kv bx wv:Nat}{m:zak}{u:Value}{s:zai}{a:zaN}(hw:znG w0 b kv bx wv m u)(hinv:zhh w0 b m W)(hs:s∈m.states)(ha:a∈s.arcs)(hf:zhd m)(hl:(zhD m).length<=100000) :
  Calls Tryz.prog 129 #[.agg #[.int .i64 a.i,.int .i64 a.o,.string a.w,.int .i64 a.t],.pointer (some ⟨wv,0,none⟩)] W (zua (zhh w0 b m) (some b) (wgtB m.kind a.w) W):=by
 have hg:=zGA W (.cells #[.int .i64 a.i,.int .i64 a.o,.string a.w,.int .i64 a.t] 59) none;have hinv2:=hinv.next hg;have HC:=zHd (zlq hw hinv2 (zHv hs ha) (hf.w s hs a ha) hl);have HG:=zHd hg;obtain⟨x0,_⟩:=one_cell (hw.at_ hinv2.1).hwv;clear hinv2 hg hw hinv;go_enter Tryz.func129,Tryz.ntmps129;go_wp2_with fail;refine HC.out.mono ?_;rintro e w2 ⟨rfl,hi,hg2⟩;have HI:=zHd hi;have HG2:=zHd hg2;clear hi hg2;go_wp2;go_ret;exact⟨rfl,HI.out,World.grownBy.trans (zfy HG.out) HG2.out⟩
theorem zAJ {m:zak}{k:Nat}(hk:¬ k<m.states.length)(h:∀ (j:Nat) (s:zai),j<k->m.states[j]?=some s->finB m.kind s.fin=true):m.states.all (fun s=>finB m.kind s.fin)=true:=by
 rw[List.all_eq_true];intro s hs;obtain⟨j,hj⟩:=List.mem_iff_getElem?.1 hs;exact h j s (by have:=(zqae.1 hj).1;omega) hj
theorem zrZ {m:zak}{k:Nat}{s:zai}(hs:m.states[k]?=some s)(h:finB m.kind s.fin=false):weighedB m=false:=by
 unfold weighedB;rw[show m.states.all (fun s=>finB m.kind s.fin)=false from ?_,Bool.false_and];cases hx:m.states.all (fun s=>finB m.kind s.fin)
 ·rfl
 ·have:=List.all_eq_true.1 hx s (zqak hs)
  rw[this] at h;cases h
theorem zxA {w:World}{v:Value}{m:zak}(hv:zdo w v m)(hf:zhd m)(hl:(zhD m).length<=100000):Calls Tryz.prog 69 #[v] w (zab (.bool (weighedB m)) w):=by
 obtain⟨u,rfl,hst0⟩:=hv;obtain⟨A,cap,us,rfl,hS0⟩:=zdR.of hst0;obtain⟨hb,hk,hg⟩:=zAH w m (.slice A m.states.length cap);have HS:=zHd hS0;have HB:=zHd hb;have HG:=zHd hg;have HF:=zHd hf;have HL:=zHd hl;have H0:Hid (zhh (zid w m (.slice A m.states.length cap)) (w.heap.size+1) m (zid w m (.slice A m.states.length cap))):=zHd ⟨World.grownBy.refl _ _,[],hk,List.nodup_nil,fun s hs=>by simp at hs⟩;have hmk:=zHy;have hn0:=hf.n;have hn1:m.states.length<=100000:=by have:=zvX m;omega
 obtain⟨x0,x1,x2,x3⟩:=hb.hbx.cells;obtain⟨y0,_⟩:=one_cell hb.hwv;clear hst0 hS0 hb hk hg hf hl;go_enter Tryz.func69,Tryz.ntmps69;go_wp2_with fail;have hW:zid w m (.slice A m.states.length cap)=(((w.alloc (.cells #[.int .i64 m.kind,.int .i64 m.start,.string m.lead,.slice A m.states.length cap] 31)).alloc (.map #[] 0)).alloc (.cells #[.map (some (w.heap.size+1))] 92)).alloc (.cells #[.func (.func 127) #[] #[.pointer (some ⟨w.heap.size+2,0,none⟩),.pointer (some ⟨w.heap.size,0,none⟩)]] 69):=rfl;rw[<- hW];clear hW;generalize zid w m (.slice A m.states.length cap)=W at *;have BEL:∀ W',zhh W (w.heap.size+1) m W'->Below w.heap.size w W':=fun W' h=>(zbj HG.out).grown h.1 HG.out.size (fun k e=>by cases e;omega);have HBEL:=zHd BEL;clear BEL
 go_loopw [12] (fun i wr=>∃ k:Nat,i=.int .i64 k/\k<=m.states.length/\(∀ (j:Nat) (s:zai),j<k->m.states[j]?=some s->finB m.kind s.fin=true)/\zhh W (w.heap.size+1) m wr) (fun i _=>m.states.length-(intOf i).toNat)
 case atStart=>exact⟨0,rfl,by omega,fun j s hj=>by omega,H0.out⟩
 case round =>
  obtain⟨k,rfl,hk,hall,hinv⟩:=hrel;have HALL:=zHd hall;have HINV:=zHd hinv;have HB2:=zHd (HB.out.at_ hinv.1);clear hall x0 x1 x2 x3 y0;obtain⟨x0,x1,x2,x3⟩:=HB2.out.hbx.cells;obtain⟨y0,_⟩:=one_cell HB2.out.hwv
  by_cases hlt:k<m.states.length
  ·obtain⟨ad,s,B,cb,hA,hs,hu,hc,hra⟩:=(HS.out.below (HBEL.out _ hinv)).at_ hlt
   subst hA;obtain⟨z0,z1⟩:=hc;have n1:(k:Int)<(m.states.length:Int):=by omega
   have n2:IntKind.i64.wrap ((k:Int)+1)=(k:Int)+1:=by rw[zqah];omega
   have HSS:=zHd hs;have hinv2:=hinv.next (zGA wr (.cells #[.string s.fin,.slice B s.arcs.length cb] 57) none);have HINV2:=zHd hinv2;have y1:=(one_cell (HB.out.at_ hinv2.1).hwv).1;clear hu hra hinv hinv2
   by_cases hf0:s.fin.size=0
   ·have hfb:finB m.kind s.fin=true:=by unfold finB;simp[hf0]
    have b1:(s.fin.toList==[])=true:=(by rw[Lib.toList_data,beq_iff_eq,<- List.length_eq_zero_iff,zqbs];exact hf0);have b2:(s.fin.toList != [])=false:=zDx b1;have HFB:=zHd hfb;clear hfb hs;go_wp2
    go_roundw
    case rel=>exact⟨k+1,by go_num,by omega,fun j t hj ht=>by
     by_cases e:j=k
     ·subst e;rw[HSS.out] at ht;cases ht;exact HFB.out
     ·exact HALL.out j t (by omega) ht,HINV2.out⟩
    case measure=>simp[intOf];omega
   ·have b1:(s.fin.toList==[])=false:=by
     cases h:(s.fin.toList==[])
     ·rfl
     ·rw[Lib.toList_data,beq_iff_eq,<- List.length_eq_zero_iff,zqbs] at h;exact absurd h hf0
    have b2:(s.fin.toList != [])=true:=zDy b1;have hfb:finB m.kind s.fin=wgtB m.kind s.fin:=(by unfold finB;simp[hf0]);have HFB:=zHd hfb;have HC:=zHd (zlq HB.out HINV2.out (zHu (zqak hs)) (HF.out.fin s (zqak hs)) HL.out);clear hfb hs;go_wp2_with fail;refine HC.out.mono ?_;rintro e w5 ⟨rfl,hinv5,hg5⟩;have HINV5:=zHd hinv5;have HG5:=zHd ((HBEL.out _ hinv5));clear hinv5 hg5;cases hwb:wgtB m.kind s.fin
    ·have HN:=zHd (zrZ HSS.out (HFB.out.trans hwb))
     clear hwb;go_wp2;go_ret;exact⟨by rw[HN.out];rfl,zbc HG5.out⟩
    ·have HF1:=zHd (HFB.out.trans hwb)
     clear hwb;go_wp2
     go_roundw
     case rel=>exact⟨k+1,by go_num,by omega,fun j t hj ht=>by
      by_cases e:j=k
      ·subst e;rw[HSS.out] at ht;cases ht;exact HF1.out
      ·exact HALL.out j t (by omega) ht,HINV5.out⟩
     case measure=>simp[intOf];omega
  ·have n1:¬ (k:Int)<(m.states.length:Int):=by omega
   have HFI:=zHd (zAJ hlt HALL.out);have HC:=zHd (zlq HB.out hinv (show m.lead∈zhD m from zqbm ..) HF.out.lead HL.out);clear hinv;go_wp2_with fail;refine HC.out.mono ?_;rintro e w5 ⟨rfl,hinv5,hg5⟩;have HINV5:=zHd hinv5;have HG5:=zHd ((HBEL.out _ hinv5));clear x0 x1 x2 x3 y0;obtain⟨x0,x1,x2,x3⟩:=(HB.out.at_ hinv5.1).hbx.cells;clear hinv5 hg5;cases hwb:wgtB m.kind m.lead
   ·have HN:Hid (weighedB m=false):=zHd (by unfold weighedB;rw[hwb];simp)
    clear hwb;go_wp2;go_ret;exact⟨by rw[HN.out];rfl,zbc HG5.out⟩
   ·have HE:Hid (weighedB m=zio (fun a=>wgtB m.kind a.w) m):=zHd (by unfold weighedB;rw[hwb,HFI.out];rfl)
    have hall:=zyB (w:=w5) (A:=A) (cap:=cap) (us:=us) (m:=m) (Inv:=zhh W (w.heap.size+1) m) (r:=some (w.heap.size+1)) (F:=129) (lb:=#[.pointer (some ⟨w.heap.size+3,0,none⟩)]) (P:=fun a=>wgtB m.kind a.w) zrY
     (fun W1 W2 h1 h2=>h1.next h2) (fun W1 h1=>HS.out.below (HBEL.out _ h1)) (fun k e=>by cases e;have:=HB.out.hwv;have:=lt_of_block this;have:=HINV5.out.1.size;omega) HINV5.out
     (fun W1 s a hI hs ha=>zxz HB.out hI hs ha HF.out HL.out) HF.out.n HF.out.arcs
    have HA:=zHd hall;clear hall hwb;go_wp2_with fail;refine HA.out.mono ?_;rintro e w6 ⟨rfl,hinv6,hg6⟩;have HG6:=zHd (HBEL.out _ hinv6);clear hinv6 hg6;cases hb:zio (fun a=>wgtB m.kind a.w) m
    all_goals
     rw[hb] at HE;clear hb;go_wp2;go_ret;exact⟨by rw[HE.out];rfl,zbc HG6.out⟩
theorem zvZ {w:World}{v:Value}{m:zak}(hv:zdo w v m)(hf:zhd m)(h:fitsB m=true):Calls Tryz.prog 69 #[v] w (zab (.bool (weighedB m)) w):=by
 refine zxA hv hf ?_;unfold fitsB at h;simp only[zqbb,zqca] at h;rw[zvX];omega
theorem zqy {w:World}{v:Value}{m:zak}(hv:zdo w v m)(hf:zhd m):Calls Tryz.prog 37 #[v] w (zab (.bool (validB m)) w):=by
 have hfit:=fun w' (h:w.grownBy w' none)=>zHw (hv.grown h) hf;have hwei:=fun w' (h:w.grownBy w' none)=>zvZ (hv.grown h) hf;have HSP:=zHd (zxy m);obtain⟨u,rfl,hst0⟩:=hv;have hg:w.grownBy (w.alloc (.cells #[.int .i64 m.kind,.int .i64 m.start,.string m.lead,u] 31)) none:=zGA _ _ _;have hbx:=zav.new w m u;have HFI:=zHd hfit;have HWE:=zHd hwei;have HBX:=zHd hbx;have HG:=zHd hg;obtain⟨x0,x1,x2,x3⟩:=hbx.cells;clear hfit hwei hbx hg hst0;go_enter Tryz.func37,Tryz.ntmps37;go_wp2_with fail;refine(HFI.out _ HG.out).mono ?_;rintro e w1 ⟨rfl,hg1⟩;generalize hW:w.alloc (.cells #[.int .i64 m.kind,.int .i64 m.start,.string m.lead,u] 31)=W at *;clear hW x0 x1 x2 x3;have HG1:=zHd (zaa HG.out hg1);obtain⟨x0,x1,x2,x3⟩:=(HBX.out.grown hg1).cells;clear hg1;cases hB:fitsB m
 ·have HN:Hid (validB m=false):=zHd (by rw[HSP.out,hB];rfl)
  clear hB;go_wp2;go_ret;exact⟨by rw[HN.out];rfl,HG1.out⟩
 ·have HB:=zHd hB
  clear hB;go_wp2_with fail;refine(HWE.out _ HG1.out HB.out).mono ?_;rintro e w2 ⟨rfl,hg2⟩;have HG2:=zHd (zaa HG1.out hg2);clear hg2;cases hB:weighedB m
  all_goals
   have HE:Hid (validB m=_):=zHd ((HSP.out.trans (by rw[HB.out,hB])));clear hB;go_wp2;go_ret;exact⟨by rw[HE.out];rfl,HG2.out⟩
open Go.RowKit
def zAK (n m:Nat)(X Y:Nat->ByteArray):Prop:=n=m/\∀ i,i<n->X i=Y i
theorem zmR (n m:Nat)(X Y:Nat->ByteArray)(av bv:Value)(w:World)(hn:n<=10000)(hm:m<=10000)(ha:zaG w av n (fun i=>.string (X i)))(hb:zaG w bv m (fun i=>.string (Y i))) :
  Calls Tryz.prog 27 #[av,bv] w (zbV (zAK n m X Y) w):=by
 obtain⟨Aa,ca,rfl,_,_,ha3⟩:=ha;obtain⟨Ab,cb,rfl,_,_,hb3⟩:=hb;have HA:=zHd ha3;have HB:=zHd hb3;have HN:=zHd (zAI hn hm);clear ha3 hb3
 by_cases hnm:n=m
 ·subst hnm
  have t1:((n:Int)==(n:Int))=true:=by simp
  have t2:((n:Int) != (n:Int))=false:=by simp
  clear hn hm;go_enter Tryz.func27,Tryz.ntmps27;go_wp2
  go_loopw [5] (fun iv wr=>∃ i:Nat,i<=n/\iv=.int .i64 (i:Int)/\w.grownBy wr none/\∀ x,x<i->X x=Y x) (fun iv _=>n-(intOf iv).toNat)
  case atStart=>exact⟨0,zqaw _,rfl,World.grownBy.refl _ _,fun x hx=>absurd hx (by omega)⟩
  case round =>
   obtain⟨i,hi,rfl,hg,hx⟩:=hrel
   by_cases hin:i<n
   ·obtain⟨ad,rfl,hbl,hca⟩:=HA.out i hin
    obtain⟨bd,rfl,hbl2,hcb⟩:=HB.out i hin;have q1:wr.drew.cell? (ad.add i)=some (.string (X i)):=(zaD (w:=w) (w':=wr) (ad:=ad.add i) (by rw[zau];exact hg.block _ hbl (by simp))).trans hca;have q2:wr.drew.cell? (bd.add i)=some (.string (Y i)):=(zaD (w:=w) (w':=wr) (ad:=bd.add i) (by rw[zau];exact hg.block _ hbl2 (by simp))).trans hcb;have u1:decide (i<n)=true:=(by simpa using hin);have u1':decide ((i:Int)<(n:Int))=true:=(by simpa using hin);have hit:(i:Int)<(n:Int):=(by omega);have hi0:(0:Int)<=(i:Int):=(by omega);have n1:IntKind.i64.wrap ((i:Int)+1)=(i:Int)+1:=(by have:=HN.out;rw[zqah];omega);have HI:=zHd (zAI hin (zAI hg hx));clear hi hin hg hx hbl hbl2 hca hcb;rcases zcI (X i) (Y i) with⟨f1,e1⟩|⟨f1,e1⟩
    ·have f2:((X i).toList != (Y i).toList)=false:=by simp[bne,f1]
     have HE:=zHd e1;clear e1;go_upto_region 6 with(fail)
     go_region_held2 (fun W'=>W'.cell? (ad.add i)=some (.string (X i))/\W'.cell? (bd.add i)=some (.string (Y i))) (first|exact⟨q1,q2⟩|go_keep) (fail)
     all_goals
      go_wp2;refine⟨⟨i+1,HI.out.1,by simp,zaa HI.out.2.1 (zag wr none),fun x hx=>?_⟩,by have:=HI.out.1;simp[intOf];omega⟩
      by_cases e:x<i
      ·exact HI.out.2.2 x e
      ·rw[show x=i by omega];exact HE.out
    ·have f2:((X i).toList != (Y i).toList)=true:=by simp[bne,f1]
     have HE:=zHd e1;clear e1;go_upto_region 6 with(fail)
     go_region_held2 (fun W'=>W'.cell? (ad.add i)=some (.string (X i))/\W'.cell? (bd.add i)=some (.string (Y i))) (first|exact⟨q1,q2⟩|go_keep) (fail)
     all_goals
      go_wp2;go_ret;exact zbV.no (fun h=>HE.out (h.2 i HI.out.1)) (zaa HI.out.2.1 (zag wr none))
   ·obtain rfl:i=n:=by omega
    have u1:decide (i<i)=false:=(by simp);have u1':decide ((i:Int)<(i:Int))=false:=(by simp);have HI:=zHd (zAI hg hx);clear hi hin hg hx;go_wp2;go_ret;exact zbV.yes ⟨rfl,HI.out.2⟩ HI.out.1
 ·have t1:((n:Int)==(m:Int))=false:=by simp;omega
  have t2:((n:Int) != (m:Int))=true:=by simp[bne];omega
  have HE:=zHd hnm;clear hnm hn hm;go_enter Tryz.func27,Tryz.ntmps27;go_wp2;go_ret;exact zbV.no (fun h=>HE.out h.1) (World.grownBy.refl _ _)
def zEh (n m:Nat)(la lb:Nat->Nat)(X Y:Nat->Nat->ByteArray):Prop:=n=m/\∀ i,i<n->zAK (la i) (lb i) (X i) (Y i)
theorem zfU (n m:Nat)(la lb:Nat->Nat)(X Y:Nat->Nat->ByteArray)(av bv:Value)(w:World)(hn:n<=10000)(hm:m<=10000)(hla:∀ i,i<n->la i<=10000)(hlb:∀ i,i<m->lb i<=10000)(ha:zcx w av n la X)(hb:zcx w bv m lb Y) :
  Calls Tryz.prog 16 #[av,bv] w (zbV (zEh n m la lb X Y) w):=by
 obtain⟨ra,⟨Aa,ca,rfl,_,_,ha3⟩,ha4⟩:=ha;obtain⟨rb,⟨Ab,cb,rfl,_,_,hb3⟩,hb4⟩:=hb;have hsame:=fun(i:Nat) (hi:i<n) (hi2:i<m) (w':World) (hg:w.grownBy w' none)=>zmR (la i) (lb i) (X i) (Y i) (ra i) (rb i) w' (hla i hi) (hlb i hi2) ((ha4 i hi).grown hg) ((hb4 i hi2).grown hg);have hra:∀ i,i<n->∃ A c,ra i=.slice A (la i) c:=fun i hi=>by obtain⟨A,c,e,_⟩:=ha4 i hi;exact⟨A,c,e⟩
 have hrb:∀ i,i<m->∃ A c,rb i=.slice A (lb i) c:=fun i hi=>by obtain⟨A,c,e,_⟩:=hb4 i hi;exact⟨A,c,e⟩
 have HA:=zHd ha3;have HB:=zHd hb3;have HN:=zHd (zAI hn hm);have HS:=zHd hsame;have HRA:=zHd hra;have HRB:=zHd hrb;clear ha3 hb3 ha4 hb4 hsame hra hrb hla hlb
 by_cases hnm:n=m
 ·subst hnm
  have t1:((n:Int)==(n:Int))=true:=by simp
  have t2:((n:Int) != (n:Int))=false:=by simp
  clear hn hm;go_enter Tryz.func16,Tryz.ntmps16;go_wp2
  go_loopw [5] (fun iv wr=>∃ i:Nat,i<=n/\iv=.int .i64 (i:Int)/\w.grownBy wr none/\∀ x,x<i->zAK (la x) (lb x) (X x) (Y x)) (fun iv _=>n-(intOf iv).toNat)
  case atStart=>exact⟨0,zqaw _,rfl,World.grownBy.refl _ _,fun x hx=>absurd hx (by omega)⟩
  case round =>
   obtain⟨i,hi,rfl,hg,hx⟩:=hrel
   by_cases hin:i<n
   ·obtain⟨ad,rfl,hbl,hca⟩:=HA.out i hin
    obtain⟨bd,rfl,hbl2,hcb⟩:=HB.out i hin;obtain⟨A1,c1,e1⟩:=HRA.out i hin;obtain⟨A2,c2,e2⟩:=HRB.out i hin;have q1:wr.drew.cell? (ad.add i)=some (ra i):=(zaD (w:=w) (w':=wr) (ad:=ad.add i) (by rw[zau];exact hg.block _ hbl (by simp))).trans hca;have q2:wr.drew.cell? (bd.add i)=some (rb i):=(zaD (w:=w) (w':=wr) (ad:=bd.add i) (by rw[zau];exact hg.block _ hbl2 (by simp))).trans hcb;have hcall:=HS.out i hin hin wr.drew (zaa hg (zag wr none));rw[e1,e2] at hcall;rw[e1] at q1;rw[e2] at q2;have u1:decide (i<n)=true:=(by simpa using hin);have u1':decide ((i:Int)<(n:Int))=true:=(by simpa using hin);have hit:(i:Int)<(n:Int):=(by omega);have hi0:(0:Int)<=(i:Int):=(by omega);have n1:IntKind.i64.wrap ((i:Int)+1)=(i:Int)+1:=(by have:=HN.out;rw[zqah];omega);have HI:=zHd (zAI hin (zAI hg hx));have HC:=zHd hcall;clear hi hin hg hx hbl hbl2 hca hcb hcall e1 e2;go_upto_region 6 with(fail)
    go_region_held2 (fun W'=>W'.cell? (ad.add i)=some (.slice A1 (la i) c1)/\W'.cell? (bd.add i)=some (.slice A2 (lb i) c2)) (first|exact⟨q1,q2⟩|exact S5|go_keep)
     (first|(go_at_call 27;refine HC.out.mono ?_;rintro e w5 ⟨b,rfl,hb,hg5⟩;have S5:(fun W':World=>W'.cell? (ad.add i)=some (.slice A1 (la i) c1)/\W'.cell? (bd.add i)=some (.slice A2 (lb i) c2)) w5:=⟨hg5.cell q1 (by simp),hg5.cell q2 (by simp)⟩;have H5:=zHd (zAI hb (zaa HI.out.2.1 (zaa (zag wr none) hg5)));clear hb hg5))
    all_goals
     cases b
     ·go_wp2
      go_ret;refine zbV.no (fun h=>?_) H5.out.2;have:=H5.out.1.2 (h.2 i HI.out.1);cases this
     ·go_wp2
      refine⟨⟨i+1,HI.out.1,by simp,H5.out.2,fun x hx=>?_⟩,by have:=HI.out.1;simp[intOf];omega⟩
      by_cases e:x<i
      ·exact HI.out.2.2 x e
      ·rw[show x=i by omega];exact H5.out.1.1 rfl
   ·obtain rfl:i=n:=by omega
    have u1:decide (i<i)=false:=(by simp);have u1':decide ((i:Int)<(i:Int))=false:=(by simp);have HI:=zHd (zAI hg hx);clear hi hin hg hx;go_wp2;go_ret;exact zbV.yes ⟨rfl,HI.out.2⟩ HI.out.1
 ·have t1:((n:Int)==(m:Int))=false:=by simp;omega
  have t2:((n:Int) != (m:Int))=true:=by simp[bne];omega
  have HE:=zHd hnm;clear hnm hn hm;go_enter Tryz.func16,Tryz.ntmps16;go_wp2;go_ret;exact zbV.no (fun h=>HE.out h.1) (World.grownBy.refl _ _)
theorem zbv.texts {k:Int}{w:World}{v:Value}{n m:Nat}{F:Nat->Nat->El k}(h:zbv w v n m F):zcx w v n (fun _=>m) (fun i j=>tx (F i j)):=by
 obtain⟨rs,h1,h2⟩:=h;exact⟨rs,h1,fun i hi=>(h2 i hi).row⟩
open Go.RowKit
theorem zyE {f:Nat->Rat}{n:Nat}:∀ d,(∀ m,m<n+d->0<=f m)->rs n f<=rs (n+d) f
 | 0,_=>Rat.le_refl
 | d+1,h=>by
  have h1:=zyE (f:=f) (n:=n) d (fun m hm=>h m (by omega));have h2:=h (n+d) (by omega);show rs n f<=rs (n+d) f+f (n+d);grind
theorem zub {f:Nat->Rat}:∀ {n j:Nat},(∀ m,m<n->0<=f m)->j<n->f j<=rs n f
 | n+1,j,h,hj=>by
  show f j<=rs n f+f n;have h0:=zdD (f:=f) (n:=n) (fun m hm=>h m (by omega))
  by_cases e:j=n
  ·subst e;grind
  ·have h1:=zub (f:=f) (n:=n) (j:=j) (fun m hm=>h m (by omega)) (by omega)
   have h2:=h n (by omega);grind
theorem zyF {x:Rat}(h:isI x):isI (-x):=by
 have:=zcL (⟨-1,rfl⟩:isI (-1)) h;have e:(-1:Rat)*x = -x:=by grind
 rwa [e] at this
section
variable {A:Nat->Nat->El 2} {k i j n:Nat}
theorem zls (hk:k<=n)(hi:i<n){c:Nat}(hc:c<(onL A k i j).length+1):nd A k i j c<n:=by
 cases c with
 | zero=>exact hi
 | succ c=>have:=(zpO (A:=A) (i:=i) (j:=j) (show c<(onL A k i j).length by omega)).1;omega
theorem zyG {c:Nat}:val (onA A k i j c 0)=0:=by unfold onA;rw[if_pos rfl];exact zeo
theorem zyH {c y:Nat}:onA A k i j c (y+1)=A (nd A k i j c) (nd A k i j (y+1)):=by unfold onA;rw[if_neg (by omega)]
theorem zKH (hk:k<=n)(c:Nat):rs ((onL A k i j).length+1) (fun y=>val (onA A k i j c y))<=rs n (fun m=>val (A (nd A k i j c) m)):=by
 rw[zkS,zyG]
 have e1:rs (onL A k i j).length (fun y=>val (onA A k i j c (y+1)))=rs k (fun m=>if onB A k i j m=true then val (A (nd A k i j c) m) else 0):=by
  rw[<- zyp (fun m=>val (A (nd A k i j c) m)) (onB A k i j) k];refine zbg (fun y _=>?_);rw[zyH,zkp];rfl
 rw[e1]
 have h1:rs k (fun m=>if onB A k i j m=true then val (A (nd A k i j c) m) else 0)<=rs k (fun m=>val (A (nd A k i j c) m)):=zjA (fun m _=>by
  by_cases hp:onB A k i j m=true
  ·rw[if_pos hp];exact Rat.le_refl
  ·rw[if_neg hp];exact zcj _)
 have h2:=zyE (f:=fun m=>val (A (nd A k i j c) m)) (n:=k) (n-k) (fun m _=>zcj _);rw[show k+(n-k)=n by omega] at h2;grind
theorem zyI {Q:Nat->Rat}(hk:k<=n)(hi:i<n)(hQ:∀ x,x<n->1<=Q x):rp ((onL A k i j).length+1) (fun c=>Q (nd A k i j c))<=Q i*rp n Q:=by
 rw[zuS];have e0:nd A k i j 0=i:=rfl;rw[e0]
 have e1:rp (onL A k i j).length (fun c=>Q (nd A k i j (c+1)))=rp k (fun m=>if onB A k i j m=true then Q m else 1):=by
  rw[<- zyq Q (onB A k i j) k];refine ziZ (fun y _=>?_);rw[zkp];rfl
 rw[e1]
 have h1:rp k (fun m=>if onB A k i j m=true then Q m else 1)<=rp k Q:=zjB (fun m hm=>by
  have:=hQ m (by omega)
  by_cases hp:onB A k i j m=true
  ·rw[if_pos hp];grind
  ·rw[if_neg hp];grind) (fun m hm=>by
  have:=hQ m (by omega)
  by_cases hp:onB A k i j m=true
  ·rw[if_pos hp];exact Rat.le_refl
  ·rw[if_neg hp];exact this)
 have h2:=zyr (f:=Q) (n:=k) (n-k) (fun m hm=>hQ m (by omega));rw[show k+(n-k)=n by omega] at h2;have h3:=hQ i hi;exact zqai (zqar h1 h2) (by grind)
theorem quotient (h:zat (el S2 A k i j))(hk:k<=n)(hi:i<n)(hj:j<n){d Q:Nat->Rat}(hd:∀ x,x<n->1<=d x)(hdI:∀ x,x<n->isI (d x))(hAI:∀ x y,x<n->y<n->zat (A x y)->isI (d x*val (A x y)))
  (hQ:∀ x,x<n->2*(d x*(1+rs n (fun m=>val (A x m))))<=Q x) :
  ∃ N M:Rat,isI N/\isI M/\M≠0/\val (el S2 A k i j)*M=N/\ab N<=Q i*rp n Q/\ab M<=Q i*rp n Q:=by
 have hsum:∀ x,0<=rs n (fun m=>val (A x m)):=fun x=>zdD (fun m _=>zcj _)
 have hdR:∀ x,x<n->d x<=d x*(1+rs n (fun m=>val (A x m))):=fun x hx=>by
  have h1:=hd x hx;have h2:=Rat.mul_nonneg (show 0<=d x by grind) (hsum x);grind
 have hQ1:∀ x,x<n->1<=Q x:=fun x hx=>by
  have:=hQ x hx;have:=hdR x hx;have:=hd x hx;grind
 have hV:∀ y c,y<(onL A k i j).length+1->c<(onL A k i j).length+1->isI (d (nd A k i j c)*idV (fun x y=>val (onA A k i j x y)) y c):=fun y c hy hc=>by
  have hc2:=zls (A:=A) (j:=j) hk hi hc;have e:d (nd A k i j c)*idV (fun x y=>val (onA A k i j x y)) y c=d (nd A k i j c)*(if c=y then 1 else 0) + -(d (nd A k i j c)*val (onA A k i j c y)):=by unfold idV;grind
  rw[e];refine zkl (zcL (hdI _ hc2) (by split;exact⟨1,rfl⟩;exact⟨0,rfl⟩)) (zyF ?_);cases y with
  | zero=>rw[zyG];exact zcL (hdI _ hc2) ⟨0,rfl⟩
  | succ y =>
   rw[zyH];exact hAI _ _ hc2 (zls hk hi hy) (zuT h hc (by omega))
 have hE:∀ c,c<(onL A k i j).length+1->isI (d (nd A k i j c)*val (A (nd A k i j c) j)):=fun c hc=>hAI _ _ (zls hk hi hc) hj (zhs (zkq h hc)).1
 have hcr:=zCE (k:=(onL A k i j).length) (fun y c=>d (nd A k i j c)*idV (fun x y=>val (onA A k i j x y)) y c) (fun y=>val (el S2 A k (nd A k i j y) j)) (fun c=>d (nd A k i j c)*val (A (nd A k i j c) j)) (fun c hc=>by
  rw[zKX h hc,<- zdJ];exact zbg (fun y _=>by grind))
 have hsc:=zoo ((onL A k i j).length+1) (fun c=>d (nd A k i j c)) (idV (fun x y=>val (onA A k i j x y)));have hne:=zzH ((onL A k i j).length+1) (onA A k i j) (fun t x y ht hx hy=>zKm h ht hx hy);have hD:=zjC (f:=fun c=>d (nd A k i j c)) (n:=(onL A k i j).length+1) (fun c hc=>hd _ (zls hk hi hc))
 have hrow:∀ c,c<(onL A k i j).length+1->rs ((onL A k i j).length+1) (fun y=>ab (d (nd A k i j c)*idV (fun x y=>val (onA A k i j x y)) y c))<=d (nd A k i j c)*(1+rs n (fun m=>val (A (nd A k i j c) m))):=fun c hc=>by
  have h1:=hd _ (zls (A:=A) (j:=j) hk hi hc)
  have hle:rs ((onL A k i j).length+1) (fun y=>ab (d (nd A k i j c)*idV (fun x y=>val (onA A k i j x y)) y c))<=rs ((onL A k i j).length+1) (fun y=>d (nd A k i j c)*(1*(if c=y then 1 else 0)+val (onA A k i j c y))):=zjA (fun y _=>by
   rw[zkm,zgf (show 0<=d (nd A k i j c) by grind)];refine zqai ?_ (by grind);have h2:=zcj (onA A k i j c y);unfold idV;refine zzF ?_ ?_ <;> split <;> grind)
  rw[zdJ,zgZ,znz (fun _=>1) hc] at hle;exact zqar hle (zqai (by have:=zKH (A:=A) (i:=i) (j:=j) hk c;grind) (by grind))
 have hb1:rp ((onL A k i j).length+1) (fun c=>rs ((onL A k i j).length+1) (fun y=>ab (d (nd A k i j c)*idV (fun x y=>val (onA A k i j x y)) y c)))<=Q i*rp n Q:=by
  refine zqar (zjB (fun c _=>zdD (fun y _=>zcC _)) (fun c hc=>?_)) (zyI (A:=A) (j:=j) (Q:=Q) hk hi hQ1);have hx:=zls (A:=A) (j:=j) hk hi hc;have h1:=hrow c hc;have h2:=hQ _ hx;have h3:=hdR _ hx;have h4:=hd _ hx;grind
 have hb2:rp ((onL A k i j).length+1) (fun c=>rs ((onL A k i j).length+1) (fun y=>ab (up (fun y c=>d (nd A k i j c)*idV (fun x y=>val (onA A k i j x y)) y c) 0 (fun c=>d (nd A k i j c)*val (A (nd A k i j c) j)) y c)))<=Q i*rp n Q:=by
  refine zqar (zjB (fun c _=>zdD (fun y _=>zcC _)) (fun c hc=>?_)) (zyI (A:=A) (j:=j) (Q:=Q) hk hi hQ1);have hx:=zls (A:=A) (j:=j) hk hi hc;have h1:=hrow c hc;have h2:=hQ _ hx;have h4:=hd _ hx;rw[zkS] at h1 ⊢;have e1:rs (onL A k i j).length (fun m=>ab (up (fun y c=>d (nd A k i j c)*idV (fun x y=>val (onA A k i j x y)) y c) 0 (fun c=>d (nd A k i j c)*val (A (nd A k i j c) j)) (m+1) c))=rs (onL A k i j).length (fun m=>ab (d (nd A k i j c)*idV (fun x y=>val (onA A k i j x y)) (m+1) c)):=zbg (fun m _=>by unfold up;rw[if_neg (by omega)]);have e2:up (fun y c=>d (nd A k i j c)*idV (fun x y=>val (onA A k i j x y)) y c) 0 (fun c=>d (nd A k i j c)*val (A (nd A k i j c) j)) 0 c=d (nd A k i j c)*val (A (nd A k i j c) j):=by unfold up;rw[if_pos rfl]
  rw[e1,e2,zkm,zgf (show 0<=d (nd A k i j c) by grind),zgf (zcj _)];have h5:=zub (f:=fun m=>val (A (nd A k i j c) m)) (n:=n) (j:=j) (fun m _=>zcj _) hj;have h6:=zqai h5 (show 0<=d (nd A k i j c) by grind);have h7:=zcC (d (nd A k i j c)*idV (fun x y=>val (onA A k i j x y)) 0 c);grind
 refine⟨_,_,zmm (fun y c hy hc=>?_),zmm hV,?_,hcr.symm,zqar (zja _ _) hb2,zqar (zja _ _) hb1⟩
 ·unfold up
  by_cases e:y=0
  ·rw[if_pos e];exact hE c hc
  ·rw[if_neg e];exact hV y c hy hc
 ·rw[hsc]
  intro e;rcases Rat.mul_eq_zero.1 e with e|e
  ·grind
  ·exact hne e
end
theorem ziB (y:Rat):(y.num:Rat)=y*(y.den:Rat):=by
 have h:=Rat.num_divInt_den y;rw[Rat.divInt_eq_div] at h;have hd:((y.den:Int):Rat)≠0:=fun e=>y.den_nz (by have:=Rat.intCast_inj.1 (e.trans (by rfl:(0:Rat)=((0:Int):Rat)));omega);have h2:=Rat.div_mul_cancel (a:=(y.num:Rat)) hd;rw[h] at h2;exact h2.symm
theorem zoe {y:Rat}{N M:Rat}(hN:isI N)(hM:isI M)(h0:M≠0)(h:y*M=N){P:Nat}(h1:ab N<=(P:Rat))(h2:ab M<=(P:Rat)):y.num.natAbs<=P/\y.den<=P:=by
 obtain⟨a,rfl⟩:=hN;obtain⟨b,rfl⟩:=hM;have hb:b≠0:=fun e=>h0 (by rw[e];rfl)
 have hab:∀ z:Int,ab (z:Rat)<=(P:Rat)->z.natAbs<=P:=fun z hz=>by
  have h3:=zqar (zzG (z:Rat)) hz;have h4:=zqar (zmn (z:Rat)) hz
  have h5:z<=(P:Int):=by
   have:(z:Rat)<=((P:Int):Rat):=h3;exact Rat.intCast_le_intCast.1 this
  have h6 : -z<=(P:Int):=by
   have:((-z:Int):Rat)<=((P:Int):Rat):=by rw[Rat.intCast_neg];exact h4
   exact Rat.intCast_le_intCast.1 this
  omega
 have hA:=hab a h1;have hB:=hab b h2
 have hy:(y.num*b:Int)=a*(y.den:Int):=by
  have e1:(y.num:Rat)=y*(y.den:Rat):=ziB y
  have e2:((y.num*b:Int):Rat)=((a*(y.den:Int):Int):Rat):=by
   rw[Rat.intCast_mul,Rat.intCast_mul,e1,<- h];show y*(y.den:Rat)*(b:Rat)=y*(b:Rat)*(y.den:Rat);grind
  exact Rat.intCast_inj.1 e2
 have hcop:=y.reduced
 have hden:y.den ∣ b.natAbs:=by
  have h3:(y.den:Int) ∣ y.num*b:=⟨a,by rw[hy];exact Int.mul_comm _ _⟩;have h4:y.den ∣ (y.num*b).natAbs:=Int.ofNat_dvd_left.1 h3;rw[Int.natAbs_mul] at h4;exact(Nat.Coprime.dvd_of_dvd_mul_left hcop.symm h4)
 have hdb:y.den<=b.natAbs:=Nat.le_of_dvd (by omega) hden;refine⟨?_,by omega⟩
 by_cases ha:a=0
 ·have:y.num*b=0:=by rw[hy,ha,Int.zero_mul]
  rcases Int.mul_eq_zero.1 this with h|h
  ·rw[h];exact zqaw _
  ·exact absurd h hb
 ·have hnum:y.num.natAbs ∣ a.natAbs:=by
   have h3:y.num ∣ a*(y.den:Int):=⟨b,hy.symm⟩;have h4:y.num.natAbs ∣ (a*(y.den:Int)).natAbs:=Int.natAbs_dvd_natAbs.2 h3;rw[Int.natAbs_mul] at h4;exact Nat.Coprime.dvd_of_dvd_mul_right hcop (by simpa using h4)
  exact zqam (Nat.le_of_dvd (by omega) hnum) hA
open Go.RowKit
def dl:List Rat->Rat
 | []=>1
 | x::l=>(x.den:Rat)*dl l
def bl:List Rat->Rat
 | []=>1
 | x::l=>((x.num:Rat)+(x.den:Rat))*bl l
def sl:List Rat->Rat
 | []=>0
 | x::l=>x+sl l
theorem zyJ (x:Rat):(1:Rat)<=(x.den:Rat):=by
 have h:((1:Int):Rat)<=((x.den:Int):Rat):=Rat.intCast_le_intCast.2 (by have:=x.den_pos;omega);exact h
theorem znH (x:Rat):isI (x.den:Rat):=⟨(x.den:Int),rfl⟩
theorem zgb:∀ l,1<=dl l
 | []=>Rat.le_refl
 | x::l=>by
  have h1:=zgb l;have h2:=zyJ x;have h3:=Rat.mul_le_mul_of_nonneg_right h2 (show 0<=dl l by grind);show 1<=(x.den:Rat)*dl l;grind
theorem zjk:∀ l,isI (dl l)
 | []=>⟨1,rfl⟩
 | x::l=>zcL (znH x) (zjk l)
theorem zee:∀ {l:List Rat},(∀ x∈l,0<=x)->0<=sl l
 | [],_=>Rat.le_refl
 | x::l,h=>by
  have h1:=zee (l:=l) (fun y hy=>h y (zqao _ hy));have h2:=h x (zqbm ..);show 0<=x+sl l;grind
theorem zlu:∀ {l:List Rat},(∀ x∈l,0<=x)->dl l*(1+sl l)<=bl l
 | [],_=>by show(1:Rat)*(1+0)<=1;grind
 | x::l,h=>by
  have ih:=zlu (l:=l) (fun y hy=>h y (zqao _ hy));have hs:=zee (l:=l) (fun y hy=>h y (zqao _ hy));have h0:=h x (zqbm ..);have h1:=zgb l;have h2:=zyJ x;have hn:=ziB x;have hn0:0<=(x.num:Rat):=by rw[hn];exact Rat.mul_nonneg h0 (by grind)
  have h3:=zqai ih (show 0<=(x.den:Rat) by grind)
  have h4:dl l<=dl l*(1+sl l):=by
   have:=Rat.mul_nonneg (show 0<=dl l by grind) hs;grind
  have h5:=zqai (zqar h4 ih) hn0;show(x.den:Rat)*dl l*(1+(x+sl l))<=((x.num:Rat)+(x.den:Rat))*bl l;have e:(x.den:Rat)*dl l*(1+(x+sl l))=(x.den:Rat)*(dl l*(1+sl l))+(x.num:Rat)*dl l:=by rw[hn];grind
  rw[e];grind
theorem zlv (p:Nat->Bool):∀ (l:List (Nat×Rat)),isI (dl (l.map (·.2))*sl ((l.filter (fun x=>p x.1)).map (·.2)))
 | []=>⟨0,by show(1:Rat)*0=_;grind⟩
 | x::l=>by
  have ih:=zlv p l;have hd:=zjk (l.map (·.2));have hn:=ziB x.2;have hx:isI ((x.2.den:Rat)*x.2):=⟨x.2.num,by rw[hn];grind⟩;show isI ((x.2.den:Rat)*dl (l.map (·.2))*sl (((x::l).filter (fun x=>p x.1)).map (·.2)))
  by_cases hp:p x.1=true
  ·rw[List.filter_cons_of_pos (p:=fun x:Nat×Rat=>p x.1) hp]
   show isI ((x.2.den:Rat)*dl (l.map (·.2))*(x.2+sl ((l.filter (fun x=>p x.1)).map (·.2))));have e:(x.2.den:Rat)*dl (l.map (·.2))*(x.2+sl ((l.filter (fun x=>p x.1)).map (·.2)))=(x.2.den:Rat)*x.2*dl (l.map (·.2))+(x.2.den:Rat)*(dl (l.map (·.2))*sl ((l.filter (fun x=>p x.1)).map (·.2))):=by grind
   rw[e];exact zkl (zcL hx hd) (zcL (znH _) ih)
  ·rw[List.filter_cons_of_neg (p:=fun x:Nat×Rat=>p x.1) hp]
   have e:(x.2.den:Rat)*dl (l.map (·.2))*sl ((l.filter (fun x=>p x.1)).map (·.2))=(x.2.den:Rat)*(dl (l.map (·.2))*sl ((l.filter (fun x=>p x.1)).map (·.2))):=by grind
   rw[e];exact zcL (znH _) ih
theorem zKI:∀ {l:List Rat},(∀ x∈l,0<=x)->1<=bl l
 | l,h=>by
  have h1:=zlu h;have h2:=zgb l;have h3:=Rat.mul_nonneg (show 0<=dl l by grind) (zee h);grind
def zaJ (n:Nat):Rat:=((10 ^ n:Nat):Rat)
theorem zcK (m n:Nat):zaJ (m+n)=zaJ m*zaJ n:=by
 unfold zaJ;rw[Nat.pow_add];show(((10 ^ m*10 ^ n:Nat):Int):Rat)=(((10 ^ m:Nat):Int):Rat)*(((10 ^ n:Nat):Int):Rat);rw[Int.natCast_mul,Rat.intCast_mul]
theorem zcb (n:Nat):0<=zaJ n:=by
 have h:((0:Int):Rat)<=(((10 ^ n:Nat):Int):Rat):=Rat.intCast_le_intCast.2 (Int.natCast_nonneg _);exact h
theorem zuc {w:Nat}:∀ {l:List Rat},(∀ x∈l,0<=x/\(x.num:Rat)+(x.den:Rat)<=zaJ w)->bl l<=zaJ (w*l.length)
 | [],_=>by show(1:Rat)<=zaJ (w*0);rw[Nat.mul_zero];exact Rat.le_refl
 | x::l,h=>by
  have ih:=zuc (l:=l) (fun y hy=>h y (zqao _ hy));have h1:=h x (zqbm ..);have h2:=zKI (l:=l) (fun y hy=>(h y (zqao _ hy)).1);show((x.num:Rat)+(x.den:Rat))*bl l<=zaJ (w*(l.length+1));rw[Nat.mul_succ,zcK];have h3:=Rat.mul_le_mul_of_nonneg_right h1.2 (show 0<=bl l by grind);have h4:=zqai ih (zcb w);have:=zqar h3 h4;grind
open Go.RowKit
def ns:Nat->(Nat->Nat)->Nat
 | 0,_=>0
 | n+1,f=>ns n f+f n
theorem zIi {f:Nat->Nat}:∀ {n i:Nat},i<n->f i<=ns n f
 | n+1,i,h=>by
  show f i<=ns n f+f n
  by_cases e:i=n
  ·subst e;omega
  ·have:=zIi (f:=f) (n:=n) (i:=i) (by omega);omega
theorem zwa {f:Nat->Rat}{g:Nat->Nat}:∀ {n:Nat},(∀ m,m<n->0<=f m/\f m<=zaJ (g m))->rp n f<=zaJ (ns n g)
 | 0,_=>by show(1:Rat)<=zaJ 0;exact Rat.le_refl
 | n+1,h=>by
  have ih:=zwa (f:=f) (g:=g) (n:=n) (fun m hm=>h m (by omega));have h1:=h n (by omega);show rp n f*f n<=zaJ (ns n g+g n);rw[zcK];have h2:=Rat.mul_le_mul_of_nonneg_right ih h1.1;have h3:=zqai h1.2 (zcb (ns n g));exact zqar h2 h3
theorem zwb (f:Nat->Nat):∀ n,ns n (fun x=>4*f x+1)=4*ns n f+n
 | 0=>rfl
 | n+1=>by
  show ns n (fun x=>4*f x+1)+(4*f n+1)=4*(ns n f+f n)+(n+1);rw[zwb f n];omega
theorem zEi (e:Nat)(v:Rat)(hv:0<=v):∀ n,rs n (fun m=>if e=m then v else 0)<=v
 | 0=>hv
 | n+1=>by
  show rs n (fun m=>if e=m then v else 0)+(if e=n then v else 0)<=v
  by_cases h:e=n
  ·rw[if_pos h,ziI (fun m hm=>by rw[if_neg (by omega)])];grind
  ·rw[if_neg h];have:=zEi e v hv n;grind
theorem zlw (n:Nat):∀ {l:List (Nat×Rat)},(∀ e∈l,0<=e.2)->rs n (fun m=>sl ((l.filter (fun e=>e.1==m)).map (·.2)))<=sl (l.map (·.2))
 | [],_=>by
  have h:rs n (fun m=>sl ((([]:List (Nat×Rat)).filter (fun e=>e.1==m)).map (·.2)))=0:=ziI (fun _ _=>rfl);rw[h];exact Rat.le_refl
 | e::l,h=>by
  have ih:=zlw n (l:=l) (fun y hy=>h y (zqao _ hy));have h0:=h e (zqbm ..)
  have e1:rs n (fun m=>sl (((e::l).filter (fun e=>e.1==m)).map (·.2)))=rs n (fun m=>(if e.1=m then e.2 else 0)+sl ((l.filter (fun e=>e.1==m)).map (·.2))):=zbg (fun m _=>by
   by_cases hp:e.1=m
   ·rw[if_pos hp,List.filter_cons_of_pos (p:=fun e:Nat×Rat=>e.1==m) (by simp[hp])];rfl
   ·rw[if_neg hp,List.filter_cons_of_neg (p:=fun e:Nat×Rat=>e.1==m) (by simp[hp])];grind)
  rw[e1,zgZ];have h1:=zEi e.1 e.2 h0 n;show _<=e.2+sl (l.map (·.2));grind
theorem zEj {A:Nat->Nat->El 2}{k i j n c:Nat}(L:Nat->List (Nat×Rat))(hk:k<=n)(hi:i<n)(hj:j<n)
  (hL:∀ x,x<n->∀ e∈L x,0<=e.2/\(e.2.num:Rat)+(e.2.den:Rat)<=zaJ 4)
  (hA:∀ x y,x<n->y<n->zat (A x y)->val (A x y)=sl (((L x).filter (fun e=>e.1==y)).map (·.2)))
  (hc:ns n (fun x=>(L x).length)<=c) (h:zat (el S2 A k i j)):zaL (8*c+n+2) (el S2 A k i j).1:=by
 have hpos:∀ x,x<n->∀ y∈(L x).map (·.2),0<=y:=fun x hx y hy=>by
  obtain⟨e,he,rfl⟩:=zqbf.1 hy;exact(hL x hx e he).1
 have hten:∀ x,x<n->bl ((L x).map (·.2))<=zaJ (4*(L x).length):=fun x hx=>by
  have:=zuc (w:=4) (l:=(L x).map (·.2)) (fun y hy=>by
   obtain⟨e,he,rfl⟩:=zqbf.1 hy;exact hL x hx e he)
  rwa [zqbn] at this
 have hsum:∀ x,x<n->rs n (fun m=>val (A x m))<=sl ((L x).map (·.2)):=fun x hx=>by
  refine zqar (zjA (fun m hm=>?_)) (zlw n (fun e he=>(hL x hx e he).1))
  by_cases hf:zat (A x m)
  ·rw[hA x m hx hm hf];exact Rat.le_refl
  ·have:val (A x m)=0:=by unfold val;rw[zcY.1 hf]
   rw[this];refine zee (fun y hy=>?_);obtain⟨e,he,rfl⟩:=zqbf.1 hy;exact(hL x hx e (List.mem_filter.1 he).1).1
 have hQ:∀ x,x<n->2*(dl ((L x).map (·.2))*(1+rs n (fun m=>val (A x m))))<=zaJ (4*(L x).length+1):=fun x hx=>by
  have h1:=zlu (hpos x hx);have h2:=hten x hx;have h3:=hsum x hx;have h4:=zgb ((L x).map (·.2));have h5:=zqai h3 (show 0<=dl ((L x).map (·.2)) by grind);have h6:=zcb (4*(L x).length);rw[zcK];have h7:zaJ 1=10:=by unfold zaJ;decide +kernel
  rw[h7];grind
 obtain⟨N,M,hN,hM,hM0,hy,hbN,hbM⟩:=quotient (A:=A) (k:=k) (i:=i) (j:=j) (n:=n) (d:=fun x=>dl ((L x).map (·.2))) (Q:=fun x=>zaJ (4*(L x).length+1)) h hk hi hj (fun x _=>zgb _) (fun x _=>zjk _) (fun x y hx hy hf=>by
  rw[hA x y hx hy hf];exact zlv (fun z=>z==y) (L x)) hQ
 have hP:zaJ (4*(L i).length+1)*rp n (fun x=>zaJ (4*(L x).length+1))<=((10 ^ (8*c+n+1):Nat):Rat):=by
  have h1:=zwa (f:=fun x=>zaJ (4*(L x).length+1)) (g:=fun x=>4*(L x).length+1) (n:=n) (fun m _=>⟨zcb _,Rat.le_refl⟩);rw[zwb (fun x=>(L x).length) n] at h1;have h2:=zqai h1 (zcb (4*(L i).length+1));rw[<- zcK] at h2
  have h3:4*(L i).length+1+(4*ns n (fun x=>(L x).length)+n)<=8*c+n+1:=by
   have:=zIi (f:=fun x=>(L x).length) hi;omega
  refine zqar h2 ?_
  have h4:((10 ^ (4*(L i).length+1+(4*ns n (fun x=>(L x).length)+n)):Nat):Int)<=((10 ^ (8*c+n+1):Nat):Int):=by
   have:=zqay (show 0<10 by omega) h3;exact Int.ofNat_le.2 this
  exact Rat.intCast_le_intCast.2 h4
 have hw:=zoe (y:=val (el S2 A k i j)) hN hM hM0 hy (P:=10 ^ (8*c+n+1)) (zqar hbN hP) (zqar hbM hP);rw[zdF h];have hlt:10 ^ (8*c+n+1)<10 ^ (8*c+n+2):=Nat.pow_lt_pow_right (by omega) (by omega);exact⟨zfI _ _ (by omega) (Nat.lt_of_le_of_lt hw.1 hlt),zfI _ _ (by omega) (Nat.lt_of_le_of_lt hw.2 hlt)⟩
open Go.RowKit
open Go.Lib (nDigits)
variable {α:Type}
def cs (S:Sr α):List (Nat×α)->Nat->α
 | [],_=>S.zero
 | e::l,y=>if e.1=y then S.add e.2 (cs S l y) else cs S l y
theorem znI (S:Sr α)(e:Nat×α)(y:Nat):∀ l,cs S (l++[e]) y=if e.1=y then S.add (cs S l y) e.2 else cs S l y
 | []=>by
  show(if e.1=y then S.add e.2 S.zero else S.zero)=if e.1=y then S.add S.zero e.2 else S.zero
  rw[S.add_comm]
 | x::l=>by
  show(if x.1=y then S.add x.2 (cs S (l++[e]) y) else cs S (l++[e]) y)=if e.1=y then S.add (if x.1=y then S.add x.2 (cs S l y) else cs S l y) e.2 else (if x.1=y then S.add x.2 (cs S l y) else cs S l y)
  rw[znI S e y l]
  by_cases h1:x.1=y
  ·simp only[h1,if_true]
   by_cases h2:e.1=y
   ·simp only[h2,if_true];rw[S.add_assoc]
   ·simp only[h2,if_false]
  ·simp only[h1,if_false]
def Sh4:Ext->Prop
 | .inr x=>nDigits x.num.natAbs+(if x.den=1 then 0 else nDigits x.den)<=4
 | _=>True
theorem Sh4.wide {v:Ext}(h:Sh4 v):zaL 4 v:=by
 rcases v with(_|_)|x
 ·trivial
 ·trivial
 ·have h1:nDigits x.num.natAbs+(if x.den=1 then 0 else nDigits x.den)<=4:=h
  refine⟨by omega,?_⟩
  by_cases hd:x.den=1
  ·rw[hd,show nDigits 1=1 from Lib.nDigits_small (by decide)];omega
  ·rw[if_neg hd] at h1;omega
theorem Sh4.ten {x:Rat}(h:Sh4 (.inr x))(h0:0<=x):(x.num:Rat)+(x.den:Rat)<=zaJ 4:=by
 have h1:nDigits x.num.natAbs+(if x.den=1 then 0 else nDigits x.den)<=4:=h;have hn:=Rat.num_nonneg.2 h0;have u1:=zfH x.num.natAbs;have u2:=zfH x.den;have p1:=Lib.nDigits_pos x.num.natAbs
 have key:x.num+(x.den:Int)<=((10 ^ 4:Nat):Int):=by
  by_cases hd:x.den=1
  ·rw[if_pos hd] at h1
   have h2:x.num.natAbs<10 ^ 4:=zqba u1 (zqay (by omega) (by omega));rw[hd];omega
  ·rw[if_neg hd] at h1
   have p2:=Lib.nDigits_pos x.den;have h2:x.num.natAbs<10 ^ 3:=zqba u1 (zqay (by omega) (by omega));have h3:x.den<10 ^ 3:=zqba u2 (zqay (by omega) (by omega));omega
 have h3:=Rat.intCast_le_intCast.2 key;rw[Rat.intCast_add] at h3;exact h3
def fins:List (Nat×El 2)->List (Nat×Rat)
 | []=>[]
 | e::l=>match e.2.1 with
  | .inr x=>(e.1,x)::fins l
  | _=>fins l
theorem zjL (e:Nat×El 2)(l:List (Nat×El 2)):(¬ zat e.2/\fins (e::l)=fins l)∨(zat e.2/\fins (e::l)=(e.1,val e.2)::fins l):=by
 rcases El2.cases e.2 with h|⟨x,h,hx⟩
 ·refine .inl ⟨zcY.2 h,?_⟩
  conv=>lhs;unfold fins
  rw[h]
 ·refine .inr ⟨⟨x,h⟩,?_⟩
  rw[zjb h]
  conv=>lhs;unfold fins
  rw[h]
theorem zjM:∀ l,(fins l).length<=l.length
 | []=>zqab _
 | e::l=>by
  have ih:=zjM l;rcases zjL e l with⟨_,h⟩|⟨_,h⟩ <;> rw[h]
  ·rw[zqbu];omega
  ·rw[zqbu,zqbu];omega
theorem zdg:∀ {l:List (Nat×El 2)},(∀ e∈l,Sh4 e.2.1)->∀ e∈fins l,0<=e.2/\(e.2.num:Rat)+(e.2.den:Rat)<=zaJ 4
 | [],_,e,he=>by cases he
 | a::l,h,e,he=>by
  have ih:=zdg (l:=l) (fun x hx=>h x (zqao _ hx));rcases zjL a l with⟨_,h2⟩|⟨hf,h2⟩ <;> rw[h2] at he
  ·exact ih e he
  ·rcases List.mem_cons.1 he with rfl|he
   ·have h3:=h a (zqbm ..)
    rw[zdF hf] at h3;exact⟨zcj _,h3.ten (zcj _)⟩
   ·exact ih e he
theorem zmS (y:Nat):∀ {l:List (Nat×El 2)},zat (cs S2 l y)->val (cs S2 l y)=sl (((fins l).filter (fun e=>e.1==y)).map (·.2))
 | [],_=>rfl
 | e::l,h=>by
  by_cases hy:e.1=y
  ·have e1:cs S2 (e::l) y=S2.add e.2 (cs S2 l y):=if_pos hy
   rw[e1] at h ⊢;obtain⟨h1,h2⟩:=ziJ.1 h;have ih:=zmS y (l:=l) h2;rcases zjL e l with⟨h3,_⟩|⟨_,h3⟩
   ·exact absurd h1 h3
   ·rw[h3,List.filter_cons_of_pos (by simp[hy]),List.map_cons,ziK h1 h2,ih];rfl
  ·have e1:cs S2 (e::l) y=cs S2 l y:=if_neg hy
   rw[e1] at h ⊢;have ih:=zmS y (l:=l) h;rcases zjL e l with⟨_,h3⟩|⟨_,h3⟩ <;> rw[h3]
   ·exact ih
   ·rw[List.filter_cons_of_neg (by simp[hy])];exact ih
theorem zsa {f g:Nat->Nat}:∀ {n:Nat},(∀ m,m<n->f m<=g m)->ns n f<=ns n g
 | 0,_=>zqab _
 | n+1,h=>by
  have h1:=zsa (f:=f) (g:=g) (n:=n) (fun m hm=>h m (by omega));have h2:=h n (by omega);show ns n f+f n<=ns n g+g n;omega
theorem zHz {A:Nat->Nat->El 2}{M:Nat->List (Nat×El 2)}{n c t i j:Nat}(ht:t<=n)(hi:i<n)(hj:j<n)
  (hA:∀ x y,x<n->y<n->A x y=cs S2 (M x) y) (hM:∀ x,x<n->∀ e∈M x,Sh4 e.2.1) (hc:ns n (fun x=>(M x).length)<=c) :
  zaL (8*c+n+2) (el S2 A t i j).1:=by
 by_cases hf:zat (el S2 A t i j)
 ·refine zEj (fun x=>fins (M x)) ht hi hj (fun x hx=>zdg (hM x hx)) (fun x y hx hy h=>?_) (zqam (zsa (fun m _=>zjM (M m))) hc) hf
  rw[hA x y hx hy] at h ⊢;exact zmS y h
 ·rw[zcY.1 hf];trivial
theorem zie {k:Int}(h:k=1∨k=3){n:Nat}{u v:Ext}(hu:zaL n u)(hv:zaL n v):zaL n (zcP k u v):=by
 rcases h with rfl|rfl
 ·show zaL n (zco u v)
  rcases zyk u v with h|h <;> rw[h]
  ·exact hu
  ·exact hv
 ·show zaL n (zbN u v)
  rcases zrg u v with h|h <;> rw[h]
  ·exact hu
  ·exact hv
theorem zxB {k:Int}(h:k=1∨k=3)(u:Ext):zaL 1 (zdv k u):=by
 rcases h with rfl|rfl
 ·show zaL 1 (if zbs u (.inr 0)<0 then .inl false else .inr 0)
  split
  ·trivial
  ·exact ziv
 ·show zaL 1 (if 0<zbs u (.inr 1) then .inl true else .inr 1)
  split
  ·trivial
  ·exact zsA
def wn:Nat->Nat
 | 0=>4
 | t+1=>2*wn t+3
theorem zKJ:∀ t,1<=wn t
 | 0=>by decide
 | t+1=>by show 1<=2*wn t+3;omega
theorem zyK:∀ {s t:Nat},s<=t->wn s<=wn t
 | s,0,h=>by rw[Nat.le_zero.1 h];exact zqab _
 | s,t+1,h=>by
  by_cases e:s=t+1
  ·rw[e];exact zqab _
  ·have:=zyK (s:=s) (t:=t) (by omega)
   show wn s<=2*wn t+3;omega
theorem zsb {k:Int}(hk:zad k)(h:k=1∨k=3)(y:Nat):∀ {l:List (Nat×El k)},(∀ e∈l,Sh4 e.2.1)->zaL 4 (cs (srE k hk) l y).1
 | [],_=>(zel k).mono (by omega)
 | e::l,hl=>by
  have ih:=zsb hk h y (l:=l) (fun x hx=>hl x (zqao _ hx))
  by_cases hy:e.1=y
  ·have e1:cs (srE k hk) (e::l) y=(srE k hk).add e.2 (cs (srE k hk) l y):=if_pos hy
   rw[e1];exact zie h (hl e (zqbm ..)).wide ih
  ·have e1:cs (srE k hk) (e::l) y=cs (srE k hk) l y:=if_neg hy
   rw[e1];exact ih
theorem ztg {k:Int}(hk:zad k)(h:k=1∨k=3){A:Nat->Nat->El k}{n:Nat}(hA:∀ x y,x<n->y<n->zaL 4 (A x y).1):∀ t,t<=n->∀ i j,i<n->j<n->zaL (wn t) (el (srE k hk) A t i j).1
 | 0,_,i,j,hi,hj=>hA i j hi hj
 | t+1,ht,i,j,hi,hj=>by
  have ih:=ztg hk h hA t (by omega);have w1:=ih i j hi hj;have w2:=ih i t hi (by omega);have w4:=ih t j (by omega) hj;have w3:=zxB h (el (srE k hk) A t t t).1;have p:=zKJ t;have t1:zaL (wn t+1+1) (zbt k (el (srE k hk) A t i t).1 (zdv k (el (srE k hk) A t t t).1)):=zfa k p w2 w3;have t2:=zfa k (by omega) t1 w4;exact zie h (w1.mono (by show wn t<=2*wn t+3;omega)) (t2.mono (by show wn t+1+1+wn t+1<=2*wn t+3;omega))
structure zkz (k:Int)(hk:zad k)(A:Nat->Nat->El k)(n:Nat)(M:Nat->List (Nat×El k)):Prop where
 row:n<=6
 is:∀ x y,x<n->y<n->A x y=cs (srE k hk) (M x) y
 short:∀ x,x<n->∀ e∈M x,Sh4 e.2.1
 few:ns n (fun x=>(M x).length)<=15
variable {k:Int} {hk:zad k} {A:Nat->Nat->El k} {n:Nat} {M:Nat->List (Nat×El k)}
theorem zkz.el (h:zkz k hk A n M){t i j:Nat}(h5:t<=5)(ht:t<=n)(hi:i<n)(hj:j<n):zaL (if k=2 then 128 else wn t) (el (srE k hk) A t i j).1:=by
 by_cases e:k=2
 ·subst e
  rw[if_pos rfl];have h1:=h.row;exact(zHz (c:=15) ht hi hj h.is h.short h.few).mono (by omega)
 ·rw[if_neg e]
  have e13:k=1∨k=3:=by rcases hk with h|h|h <;> omega
  refine ztg hk e13 (fun x y hx hy=>?_) t ht i j hi hj;rw[h.is x y hx hy];exact zsb hk e13 y (h.short x hx)
theorem wn5:wn 5=221:=rfl
theorem zkz.wide (h:zkz k hk A n M){t i j:Nat}(h5:t<=5)(ht:t<=n)(hi:i<n)(hj:j<n):zaL 221 (Proofs.YtaogepcaoogpgaaGreatDoor.el (srE k hk) A t i j).1:=by
 refine(h.el h5 ht hi hj).mono ?_;have:=zyK h5;rw[wn5] at this;split <;> omega
end Go.Proofs.YtaogepcaoogpgaaGreatDoor
