/- Part. -/
import Derived.Test.YtiblmbpfcmcccaaGreatDoorKX10
set_option linter.unusedVariables false
set_option linter.defProp false
set_option linter.unusedSimpArgs false
set_option maxRecDepth 100000
set_option maxHeartbeats 16000000
namespace Go.Proofs.YtiblmbpfcmcccaaGreatDoor
open Go.Proofs.Tryz
def zbg (o:List Nat)(y:Nat):List Nat:=if y∈o then o else o++[y]
def zdl (succ:Nat->List Nat):Nat->Nat->List Nat->List Nat
 | 0,_,o=>o
 | f+1,i,o=>match o[i]? with
  | none=>o
  | some x=>zdl succ f (i+1) ((succ x).foldl zbg o)
def zFk {o:List Nat}{y x:Nat}:x∈zbg o y↔(x∈o∨x=y):=by
 unfold zbg;split
 ·exact⟨.inl,fun h=>by rcases h with h|rfl <;> assumption⟩
 simp
def zyq {o:List Nat}{y:Nat}(h:o.Nodup):(zbg o y).Nodup:=by
 unfold zbg;split;exact h;rw[List.nodup_append];exact⟨h,by simp,fun a ha b hb e=>by simp at hb;subst hb;subst e;contradiction⟩
def zwS (o:List Nat)(y:Nat):o <+: zbg o y:=by
 unfold zbg;split;exact List.prefix_refl _;exact List.prefix_append _ _
def zfO {l o:List Nat}{x:Nat}:x∈l.foldl zbg o↔(x∈o∨x∈l):=by
 induction l generalizing o with
 | nil=>simp
 | cons y l ih=>rw[List.foldl_cons,ih,zFk,List.mem_cons,or_assoc]
def zcw {l o:List Nat}(h:o.Nodup):(l.foldl zbg o).Nodup:=by
 induction l generalizing o with
 | nil=>exact h
 | cons y l ih=>exact ih (zyq h)
def znt (l o:List Nat):o <+: l.foldl zbg o:=by
 induction l generalizing o with
 | nil=>exact List.prefix_refl _
 | cons y l ih=>exact(zwS o y).trans (ih _)
def zlU (l o:List Nat)(y:Nat):(l++[y]).foldl zbg o=zbg (l.foldl zbg o) y:=by
 rw[List.foldl_append];rfl
def zdT {n:Nat}{l o:List Nat}(ho:∀ x∈o,x<n)(hl:∀ x∈l,x<n):∀ x∈l.foldl zbg o,x<n:=fun x hx=>by
 rcases zfO.1 hx with h|h;exact ho x h;exact hl x h
def zkA {n:Nat}{o:List Nat}(h:o.Nodup)(hb:∀ x∈o,x<n):o.length<=n:=by
 have:=List.Nodup.length_le_of_subset (l₁:=o) (l₂:=List.range n) h (fun x hx=>List.mem_range.2 (hb x hx))
 rwa [List.length_range] at this
def zFl {succ:Nat->List Nat}{f i:Nat}{o:List Nat}(h:o.length<=i):zdl succ f i o=o:=by
 cases f with
 | zero=>rfl
 | succ f=>unfold zdl;rw[zqas h]
def ztT {succ:Nat->List Nat}{f i x:Nat}{o:List Nat}(h:o[i]?=some x):zdl succ (f+1) i o=zdl succ f (i+1) ((succ x).foldl zbg o):=by
 rw[zdl,h]
def zrr {succ:Nat->List Nat}{f i:Nat}{o:List Nat}(h:o.Nodup):(zdl succ f i o).Nodup:=by
 induction f generalizing i o with
 | zero=>exact h
 | succ f ih =>
  unfold zdl;split;exact h;exact ih (zcw h)
def zkB (succ:Nat->List Nat)(f i:Nat)(o:List Nat):o <+: zdl succ f i o:=by
 induction f generalizing i o with
 | zero=>exact List.prefix_refl _
 | succ f ih =>
  unfold zdl;split;exact List.prefix_refl _;exact(znt _ _).trans (ih _ _)
def zBC {succ:Nat->List Nat}{P:Nat->Prop}(hs:∀ x y,P x->y∈succ x->P y){f i:Nat}{o:List Nat}(h:∀ x∈o,P x):∀ x∈zdl succ f i o,P x:=by
 induction f generalizing i o with
 | zero=>exact h
 | succ f ih =>
  unfold zdl;split;exact h
  rename_i z hz
  refine ih (fun x hx=>?_);rcases zfO.1 hx with hx|hx
  exact h x hx;exact hs _ _ (h z (zqak hz)) hx
def zFm {succ:Nat->List Nat}{n:Nat}(hs:∀ x,∀ y∈succ x,y<n){f i:Nat}{o:List Nat}(hn:o.Nodup)(h:∀ x∈o,x<n)(hf:n<=f+i) :
  ∀ j x,i<=j->(zdl succ f i o)[j]?=some x->∀ y∈succ x,y∈zdl succ f i o:=by
 induction f generalizing i o with
 | zero =>
  intro j x hj hx;have h1:=zkA hn h;have h2:=(zqae.1 hx).1;unfold zdl at h2;omega
 | succ f ih =>
  intro j x hj hx y hy;cases ho:o[i]? with
  | none =>
   have h1:zdl succ (f+1) i o=o:=by unfold zdl;rw[ho]
   rw[h1] at hx;have h2:=(zqae.1 hx).1;have h3:=List.getElem?_eq_none_iff.1 ho;omega
  | some z =>
   rw[ztT ho] at hx ⊢
   by_cases e:j=i
   ·subst e
    have hp:=(znt (succ z) o).trans (zkB succ f (j+1) ((succ z).foldl zbg o))
    have hz:(zdl succ f (j+1) ((succ z).foldl zbg o))[j]?=some z:=by
     obtain⟨r,hr⟩:=hp;rw[<- hr,zqal (zqae.1 ho).1];exact ho
    rw[hz] at hx;cases hx;exact(zkB succ f (j+1) _).subset (zfO.2 (.inr hy))
   exact ih (zcw hn) (zdT h (hs _)) (by omega) j x (by omega) hx y hy
def zwT {succ:Nat->List Nat}{n:Nat}(hs:∀ x,∀ y∈succ x,y<n){o:List Nat}(hn:o.Nodup)(h:∀ x∈o,x<n)(x:Nat):x∈zdl succ n 0 o↔RFrom succ (fun y=>y∈o) x:=by
 refine⟨fun hx=>zBC (fun _ _=>.step) (fun _=>.start) x hx,fun hx=>?_⟩
 induction hx with
 | start hx=>exact(zkB succ n 0 o).subset hx
 | step _ hy ih =>
  obtain⟨j,hj⟩:=List.mem_iff_getElem?.1 ih;exact zFm hs hn h (by omega) j _ (by omega) hj _ hy
def zbn (m:zaj)(x:Nat):List Nat:=(List.range m.states.length).flatMap (fun i=>(zaX m i).filterMap (fun t=>if t=x then some i else none))
def isFin (m:zaj)(x:Nat):Prop:=∃ s,m.states[x]?=some s/\s.fin.size≠0
def zjE (m:zaj)(x:Nat):Prop:=RFrom (zaX m) (fun y=>y=m.start.toNat) x/\RFrom (zbn m) (isFin m) x
open Classical in
noncomputable def usefulL (m:zaj):List Nat:=(List.range m.states.length).filter (fun x=>decide (zjE m x))
def zdO (l:List Nat)(a:zaI):Option zaI:=if a.t.toNat∈l then some { a with t:=(l.idxOf a.t.toNat:Int) } else none
def zhQ (m:zaj)(x:Nat):zah:=(m.states[x]?).getD ⟨ByteArray.empty,[]⟩
def zjF (l:List Nat)(s:zah):zah:=⟨s.fin,s.arcs.filterMap (zdO l)⟩
def zbd (m:zaj)(l:List Nat):zaj:=⟨m.kind,(l.idxOf m.start.toNat:Int),m.lead,l.map (fun x=>zjF l (zhQ m x))⟩
structure Wf (m:zaj):Prop where
 start:0<=m.start/\m.start<(m.states.length:Int)
 arcs:∀ s∈m.states,∀ a∈s.arcs,0<=a.t/\a.t<(m.states.length:Int)
def zhR {m:zaj}{x:Nat}{s:zah}(h:m.states[x]?=some s):zhQ m x=s:=by unfold zhQ;rw[h];rfl
def zig {m:zaj}(h:Wf m)(x:Nat):∀ y∈zaX m x,y<m.states.length:=by
 intro y hy;unfold zaX at hy;split at hy
 ·rename_i s hs
  obtain⟨a,ha,rfl⟩:=zqbf.1 hy;have:=h.arcs s (zqak hs) a ha;omega
 simp at hy
def zwU {m:zaj}{x y:Nat}(hy:y∈zaX m x):x<m.states.length:=by
 unfold zaX at hy;split at hy
 ·rename_i s hs
  exact(zqae.1 hs).1
 simp at hy
def zpI {m:zaj}{x y:Nat}:y∈zbn m x↔x∈zaX m y:=by
 unfold zbn;rw[List.mem_flatMap];constructor
 ·rintro ⟨i,_,hi⟩
  obtain⟨t,ht,he⟩:=List.mem_filterMap.1 hi;split at he;cases he;subst_vars;exact ht;cases he
 intro h;exact⟨y,List.mem_range.2 (zwU h),List.mem_filterMap.2 ⟨x,h,by simp⟩⟩
def zhu {m:zaj}(x:Nat):∀ y∈zbn m x,y<m.states.length:=fun _ hy=>zwU (zpI.1 hy)
def zLY {m:zaj}{x:Nat}(h:isFin m x):x<m.states.length:=by
 obtain⟨s,hs,_⟩:=h;exact(zqae.1 hs).1
def zlV {m:zaj}(h:Wf m){x:Nat}(hx:RFrom (zaX m) (fun y=>y=m.start.toNat) x):x<m.states.length:=by
 cases hx with
 | start e=>subst e;have:=h.start;omega
 | step _ hy=>exact zig h _ _ hy
open Classical in
def zdP {m:zaj}(h:Wf m){x:Nat}:x∈usefulL m↔zjE m x:=by
 unfold usefulL;rw[List.mem_filter,List.mem_range,decide_eq_true_iff];exact⟨fun h=>h.2,fun hu=>⟨zlV h hu.1,hu⟩⟩
def znu (m:zaj):(usefulL m).Nodup:=List.Pairwise.filter _ List.nodup_range
def zuG (m:zaj):(usefulL m).Pairwise (· < ·):=List.Pairwise.filter _ List.pairwise_lt_range
def zFn {l k:List Nat}(hl:l.Pairwise (· < ·))(hk:k.Pairwise (· < ·))(h:∀ x,x∈l↔x∈k):l=k:=by
 induction l generalizing k with
 | nil =>
  cases k with
  | nil=>rfl
  | cons y k=>have:=(h y).2 (by simp);simp at this
 | cons x l ih =>
  cases k with
  | nil=>have:=(h x).1 (by simp);simp at this
  | cons y k =>
   rw[List.pairwise_cons] at hl hk
   have e:x=y:=by
    have h1:=(h x).1 (by simp);have h2:=(h y).2 (by simp);simp only[List.mem_cons] at h1 h2;rcases h1 with h1|h1
    exact h1;rcases h2 with h2|h2
    ·exact h2.symm
    have:=hl.1 y h2;have:=hk.1 x h1;omega
   subst e;rw[ih hl.2 hk.2 (fun z=>?_)];have:=h z;simp only[List.mem_cons] at this;constructor
   ·intro hz
    have h1:=hl.1 z hz;rcases this.1 (.inr hz) with e|e
    omega;exact e
   intro hz;have h1:=hk.1 z hz;rcases this.2 (.inr hz) with e|e
   omega;exact e
def zIz {m:zaj}{x y:Nat}(hy:RFrom (zbn m) (isFin m) y)(h:y∈zaX m x):RFrom (zbn m) (isFin m) x:=.step hy (zpI.2 h)
def zIA {m:zaj}{x:Nat}(hx:RFrom (zaX m) (fun y=>y=m.start.toNat) x)(he:RFrom (zbn m) (isFin m) x):RFrom (zbn m) (isFin m) m.start.toNat:=by
 induction hx with
 | start e=>subst e;exact he
 | step _ hy ih=>exact ih (zIz he hy)
def znv {m:zaj}{x:Nat}(h:zjE m x):zjE m m.start.toNat:=⟨.start rfl,zIA h.1 h.2⟩
def zrs {m:zaj}(h:Wf m):usefulL m=[]↔¬ zjE m m.start.toNat:=by
 constructor
 ·intro e hu
  have:=(zdP h).2 hu;rw[e] at this;simp at this
 intro hn;rw[List.eq_nil_iff_forall_not_mem];intro x hx;exact hn (znv ((zdP h).1 hx))
def zKJ {l:List Nat}(hn:l.Nodup){i x:Nat}(h:l[i]?=some x):l.idxOf x=i:=by
 obtain⟨hi,rfl⟩:=zqae.1 h;exact List.Nodup.idxOf_getElem hn i hi
end Go.Proofs.YtiblmbpfcmcccaaGreatDoor
namespace Go.Proofs.YtiblmbpfcmcccaaGreatDoor
open Go.Proofs.Tryz
def ztU {l:List Nat}{x:Nat}(h:x∈l):l.idxOf x<l.length:=List.idxOf_lt_length_of_mem h
def zfP (m:zaj)(l:List Nat):(zbd m l).states.length=l.length:=by unfold zbd;simp
noncomputable def trimW (none:zaj)(m:zaj):zaj:=if usefulL m=[] then none else zbd m (usefulL m)
end Go.Proofs.YtiblmbpfcmcccaaGreatDoor
namespace Go.Proofs.YtiblmbpfcmcccaaGreatDoor
open Go.Proofs.Tryz
def zFo {l:List Nat}{a:zaI}(h:a.t.toNat∈l):zdO l a=some { a with t:=(l.idxOf a.t.toNat:Int) }:=by
 unfold zdO;rw[if_pos h]
def zIB {l:List Nat}{a:zaI}(h:a.t.toNat ∉ l):zdO l a=none:=by
 unfold zdO;rw[if_neg h]
open Go.RowKit
def znw {w:World}{B n k:Nat}{e:TypeId}{v:Value}{xs:List Value}(h:w.ownsRow B e k v n xs):∃ A cap,v=.slice A n cap/\Reads w w.heap.size k A n xs:=by
 have hlt:=h.lt;rcases h.2 with⟨rfl,rfl⟩|⟨g,cap,cur,rfl,hb,hg,hnc,hcm,hcs,ht⟩
 exact⟨none,0,rfl,h.1,fun h0=>absurd h0 (by omega)⟩;exact⟨_,cap,rfl,h.1,fun h0=>⟨_,rfl,(hlt g rfl).2,fun j u hu=>h.cells (g:=g) rfl j u hu⟩⟩
def zyr {w:World}{B:Nat}{v:Value}{l:List zaI}(h:w.ownsRow B 45 4 v l.length (l.flatMap zea)):zcP w v l:=by
 obtain⟨A,cap,hv,hr⟩:=znw h;exact⟨A,cap,hv,hr⟩
def zpJ {α β:Type}(f:α->List β)(n:Nat)(hn:∀ a,(f a).length=n):∀ (l:List α) (k j:Nat) (a a':α) (b:β),l[k]?=some a->j<n->f a'=(f a).set j b->(l.set k a').flatMap f=(l.flatMap f).set (k*n+j) b
 | [],k,j,a,a',b,h,_,_=>by simp at h
 | x::l,0,j,a,a',b,h,hj,hf=>by
  simp only[List.getElem?_cons_zero,Option.some.injEq] at h;subst h;rw[List.set_cons_zero,List.flatMap_cons,List.flatMap_cons,Nat.zero_mul,zqat,hf,List.set_append_left _ _ (by rw[hn];exact hj)]
 | x::l,k+1,j,a,a',b,h,hj,hf=>by
  rw[List.getElem?_cons_succ] at h;rw[List.set_cons_succ,List.flatMap_cons,List.flatMap_cons,List.set_append_right _ _ (by rw[hn,Nat.succ_mul];omega),hn,show(k+1)*n+j-n=k*n+j by rw[Nat.succ_mul];omega];rw[zpJ f n hn l k j a a' b h hj hf]
def zsW {α β:Type}:∀ (l:List α) (us:List β) (k:Nat) (a:α) (b:β),(l.set k a).zip (us.set k b)=(l.zip us).set k (a,b)
 | [],us,k,a,b=>by simp
 | x::l,[],k,a,b=>by cases k <;> simp
 | x::l,u::us,0,a,b=>by simp
 | x::l,u::us,k+1,a,b=>by simp[zsW l us k a b]
def zIC:(prog.info? 45).map (fun i=>(i.zero,i.size,i.bytes))=some (some (.agg #[.int .i64 0,.int .i64 0,.string ByteArray.empty,.int .i64 0]),4,40):=by kernel_rfl
open Go.RowKit
open Go.RowKit
structure zeg (w:World)(A:Option Addr)(us:List Value)(l:List zah):Prop where
 len:us.length=l.length
 row:Reads w w.heap.size 2 A l.length ((l.zip us).flatMap stC)
 arcs:∀ (k:Nat) (s:zah) (x:Value),l[k]?=some s->us[k]?=some x->zcP w x s.arcs
def zeg.of {w:World}{u:Value}{l:List zah}(h:zfL w u l):∃ A cap us,u=.slice A l.length cap/\zeg w A us l:=by
 obtain⟨A,cap,us,hv,h1,h2,h3⟩:=h;exact⟨A,cap,us,hv,h1,h2,h3⟩
def zeg.below {w w':World}{A:Option Addr}{us:List Value}{l:List zah}(h:zeg w A us l)(hb:Below w.heap.size w w'):zeg w' A us l :=
 ⟨h.len,(h.row.below hb).more hb.size,fun k s x hs hx=>(h.arcs k s x hs hx).below hb⟩
def zeg.grown {w w':World}{A:Option Addr}{us:List Value}{l:List zah}(h:zeg w A us l)(hg:w.grownBy w' none):zeg w' A us l:=h.below (zbb hg)
def zeg.at_ {w:World}{A:Option Addr}{us:List Value}{l:List zah}(h:zeg w A us l){k:Nat}(hk:k<l.length) :
  ∃ ad s B cb,A=some ad/\l[k]?=some s/\us[k]?=some (.slice B s.arcs.length cb)/\zfp w (ad.add (k*2)) s.fin (.slice B s.arcs.length cb)/\Reads w w.heap.size 4 B s.arcs.length (s.arcs.flatMap zea):=by
 obtain⟨ad,s,u,hA,_,hs,hu,hc⟩:=zkd h.row h.len hk;obtain⟨B,cb,rfl,hr⟩:=h.arcs k s u hs hu;exact⟨ad,s,B,cb,hA,hs,hu,hc,hr⟩
def zeg.arcs_at {w:World}{A:Option Addr}{us:List Value}{l:List zah}(h:zeg w A us l){k:Nat}{s:zah}{B:Option Addr}{cb:Nat}(hs:l[k]?=some s)(hu:us[k]?=some (.slice B s.arcs.length cb)):Reads w w.heap.size 4 B s.arcs.length (s.arcs.flatMap zea):=by
 obtain⟨B',cb',e,hr⟩:=h.arcs k s _ hs hu;cases e;exact hr
def zeN {w w1 w2:World}{r:Option Nat}(h1:w.grownBy w1 r)(h2:w1.grownBy w2 r):w.grownBy w2 r:=World.grownBy.trans h1 h2
def zfQ {w w':World}{r:Option Nat}(h:w.grownBy w' none):w.grownBy w' r:=⟨h.os,h.tape,h.output,h.size,fun k hk _=>h.block k hk (by simp)⟩
def zuT (Inv:World->Prop)(r:Option Nat)(b:Bool)(w:World)(e:Ending)(w':World):Prop:=e=.returned (.bool b)/\Inv w'/\w.grownBy w' r
def Says (Inv:World->Prop)(r:Option Nat)(F:Nat)(lb:Array Value)(m:zaj)(P:zaI->Bool):Prop :=
 ∀ (W:World) (s:zah) (a:zaI),Inv W->s∈m.states->a∈s.arcs->Calls prog F (#[.agg #[.int .i64 a.i,.int .i64 a.o,.string a.w,.int .i64 a.t]]++lb) W (zuT Inv r (P a) W)
def ziI (P:zaI->Bool)(m:zaj):Bool:=m.states.all (fun s=>s.arcs.all P)
def zID {P:zaI->Bool}{m:zaj}{k j:Nat}{s:zah}{a:zaI}(hs:m.states[k]?=some s)(ha:s.arcs[j]?=some a)(h:P a=false):ziI P m=false:=by
 unfold ziI;cases hx:m.states.all (fun s=>s.arcs.all P);rfl;have:=List.all_eq_true.1 (List.all_eq_true.1 hx s (zqak hs)) a (zqak ha);rw[this] at h;cases h
def zIE {P:zaI->Bool}{m:zaj}{k:Nat}(h:zwF P m k)(hk:¬ k<m.states.length):ziI P m=true:=by
 unfold ziI;rw[List.all_eq_true];intro s hs;obtain⟨j,hj⟩:=List.mem_iff_getElem?.1 hs;exact h.hs j s (by have:=(zqae.1 hj).1;omega) hj
def zzF {w:World}{A:Option Addr}{cap:Nat}{us:List Value}{m:zaj}{Inv:World->Prop}{r:Option Nat}{F:Nat}{lb:Array Value}{P:zaI->Bool}(hE:Enters F)(hI:∀ W W',Inv W->W.grownBy W' none->Inv W')
  (hS:∀ W,Inv W->zeg W A us m.states) (hr:∀ k,r=some k->k<w.heap.size) (h0:Inv w) (hf:Says Inv r F lb m P) (hn:m.states.length<=140737488355328) (hna:∀ s∈m.states,s.arcs.length<=140737488355328) :
  Calls prog 107 #[.agg #[.int .i64 m.kind,.int .i64 m.start,.string m.lead,.slice A m.states.length cap],.func (.func F) #[] lb] w (zuT Inv r (ziI P m) w):=by
 have HE:=zHd hE;have HI:=zHd hI;have HS:=zHd hS;have HR:=zHd hr;have HF:=zHd hf;have HNA:=zHd hna;have hg:w.grownBy (w.alloc (.cells #[.int .i64 m.kind,.int .i64 m.start,.string m.lead,.slice A m.states.length cap] 24)) none:=zGA _ _ _;have HG:=zHd (zfQ (r:=r) hg);have H0:=zHd (hI _ _ h0 hg);clear hE hI hS hr hf hna h0 hg;go_enter func107,ntmps107;go_wp2;generalize hW:w.alloc (.cells #[.int .i64 m.kind,.int .i64 m.start,.string m.lead,.slice A m.states.length cap] 24)=W at *;clear hW
 go_loopw [12] (fun i wr=>∃ k:Nat,i=.int .i64 k/\zwF P m k/\Inv wr/\W.grownBy wr r) (fun i _=>m.states.length-(intOf i).toNat)
 case atStart=>exact⟨0,rfl,⟨by omega,fun j s hj=>by omega⟩,H0.out,World.grownBy.refl _ _⟩
 case round =>
  obtain⟨k,rfl,ho,zI,hgr⟩:=hrel;have HO:=zHd ho;have hk:=ho.hk;have zi:=zHd zI;have HGR:=zHd hgr;clear ho hgr
  by_cases hlt:k<m.states.length
  ·obtain⟨ad,s,B,cb,hA,hs,hu,hc,hra⟩:=(HS.out wr zI).at_ hlt
   subst hA;obtain⟨x0,x1⟩:=hc;have hal:=HNA.out s (zqak hs);have n1:(k:Int)<(m.states.length:Int):=by omega
   have n2:IntKind.i64.wrap ((k:Int)+1)=(k:Int)+1:=by rw[zqah];omega
   have HSS:=zHd hs;have HU:=zHd hu;have hinv2:=HI.out _ _ zI (zGA wr (.cells #[.string s.fin,.slice B s.arcs.length cb] 40) none);have HINV2:=zHd hinv2;have HG2:=zHd (zeN HGR.out (zfQ (r:=r) (zGA wr (.cells #[.string s.fin,.slice B s.arcs.length cb] 40) none)));clear hs hu hra zI hinv2;go_wp2;generalize hW2:wr.alloc (.cells #[.string s.fin,.slice B s.arcs.length cb] 40)=W2 at *;clear hW2 x0 x1;generalize wr=w4 at *
   go_loopw [19] (fun i wr=>∃ j:Nat,i=.int .i64 j/\EIn P s j/\Inv wr/\W.grownBy wr r) (fun i _=>s.arcs.length-(intOf i).toNat)
   case atStart=>exact⟨0,rfl,⟨by omega,fun j s hj=>by omega⟩,HINV2.out,HG2.out⟩
   case round =>
    obtain⟨j,rfl,hi,zI,hgr⟩:=hrel;have HIN:=zHd hi;have hj:=hi.hj;have HINV3:=zHd zI;have HGR3:=zHd hgr;clear hi hgr
    by_cases hjl:j<s.arcs.length
    ·obtain⟨ad2,a,hB,hab,haj,hat⟩:=zgV ((HS.out wr zI).arcs_at HSS.out HU.out) hjl
     subst hB;obtain⟨z0,z1,z2,z3⟩:=hat;have n3:(j:Int)<(s.arcs.length:Int):=(by omega);have n4:IntKind.i64.wrap ((j:Int)+1)=(j:Int)+1:=(by rw[zqah];omega);have HAJ:=zHd haj;have hg4:wr.grownBy (wr.alloc (.cells #[.int .i64 a.i,.int .i64 a.o,.string a.w,.int .i64 a.t] 45)) none:=zGA _ _ _;have HG4:=zHd (zeN HGR3.out (zfQ (r:=r) hg4));have HC:=zHd (HF.out _ s a (HI.out _ _ zI hg4) (zqak HSS.out) (zqak haj));clear haj zI hg4;go_wp2_with fail;rw[HE.out];refine HC.out.mono ?_;rintro e w5 ⟨rfl,hinv5,hg5⟩;have HINV5:=zHd hinv5;have HG5:=zHd (zeN HG4.out hg5);clear hinv5 hg5 z0 z1 z2 z3;cases hP:P a
     ·have HNO:=zHd (zID HSS.out HAJ.out hP)
      clear hP;go_wp2;go_ret;exact⟨by rw[HNO.out];rfl,HINV5.out,zeN HG.out HG5.out⟩
     have HN:=zHd (HIN.out.next HAJ.out hP);clear hP;go_wp2
     go_roundw
     case rel=>exact⟨j+1,by go_num,HN.out,HINV5.out,HG5.out⟩
     case measure=>simp[intOf];omega
    have n3:¬ (j:Int)<(s.arcs.length:Int):=(by omega);have HN:=zHd (HO.out.next HSS.out (HIN.out.all hjl));clear zI;go_wp2
    go_roundw
    case rel=>exact⟨k+1,by go_num,HN.out,HINV3.out,HGR3.out⟩
    case measure=>simp[intOf];omega
  have n1:¬ (k:Int)<(m.states.length:Int):=by omega
  have HY:=zHd (zIE HO.out hlt);clear zI;go_wp2;go_ret;exact⟨by rw[HY.out];rfl,zi.out,zeN HG.out HGR.out⟩
open Go.RowKit
def zeb (n:Nat)(o:List Nat):List Bool:=(List.range n).map (fun x=>decide (x∈o))
def znx (n:Nat)(o:List Nat):(zeb n o).length=n:=by simp[zeb]
def zgY {n y:Nat}{o:List Nat}(h:y<n):(zeb n o)[y]?=some (decide (y∈o)):=by
 unfold zeb;rw[zqaj,zqbe h];rfl
def ztV {n y:Nat}{o:List Nat}(h:y<n):(zeb n o).set y true=zeb n (o++[y]):=by
 apply List.ext_getElem?;intro i
 by_cases e:i=y
 ·subst e
  rw[zqbi (by rw[znx];exact h),zgY h];simp
 rw[zqbl (Ne.symm e)]
 by_cases hi:i<n
 ·rw[zgY hi,zgY hi]
  simp[e]
 rw[zqas (by rw[znx];omega),zqas (by rw[znx];omega)]
def ztW (n:Nat):zeb n []=List.replicate n false:=by
 unfold zeb;apply List.ext_getElem?;intro i;rw[zqaj,zqbg]
 by_cases hi:i<n
 rw[zqbe hi,if_pos hi];simp;rw[zqas (by rw[List.length_range];omega),if_neg hi];rfl
structure zff (W:World)(B C s r t n:Nat)(o:List Nat)(v:Value):Prop where
 sv:W.heap[s]?=some (.cells #[.slice (some ⟨r,0,none⟩) n n] 135 (0,0))
 row:zcG W r (bv (zeb n o))
 tv:W.heap[t]?=some (.cells #[v] 64 (0,0))
 que:QAt W C v o
 hs:B<=s/\s<C
 hr:B<=r/\r<C
 ht:B<=t/\t<C
 ne:s≠r/\s≠t/\r≠t
 hC:C<=W.heap.size
def zff.next {W W':World}{B C s r t n:Nat}{o:List Nat}{v:Value}(h:zff W B C s r t n o v)(hg:W.grownBy W' none):zff W' B C s r t n o v :=
 ⟨(hg.block _ (by have:=h.hs;have:=h.hC;omega) (by simp)).trans h.sv,(hg.block _ (by have:=h.hr;have:=h.hC;omega) (by simp)).trans h.row,(hg.block _ (by have:=h.ht;have:=h.hC;omega) (by simp)).trans h.tv,h.que.grown hg (by simp),h.hs,h.hr,h.ht,h.ne,by have:=hg.size;have:=h.hC;omega⟩
def one_cell {W:World}{t:Nat}{v:Value}{ty:TypeId}(h:W.heap[t]?=some (.cells #[v] ty (0,0))):W.cell? ⟨t,0,none⟩=some v/\W.frozen? ⟨t,0,none⟩=false :=
 ⟨by rw[zqbw W t 0 _ _ (0,0) h];rfl,zqbx W t 0 _ _ h⟩
def QAt.one {W:World}{B:Nat}{v:Value}{q:List Nat}(h:QAt W B v q):v.oneCell'=true:=by
 obtain⟨a,cap,rfl,_⟩:=h;rfl
def QAt.off_set {W:World}{B:Nat}{v:Value}{q:List Nat}(h:QAt W B v q){a:Addr}(ha:a.block<B)(u:Value):QAt (W.setCell a u) B v q:=by
 have hg:=zac W a u;exact h.grown hg (fun k e=>by cases e;exact ha)
def zff.put {W w5:World}{B C s r t n y:Nat}{o:List Nat}{v v':Value}(h:zff W B C s r t n o v)(hy:y<n)(w4:World)
  (hb4:(W.setCell ⟨r,y,none⟩ (.bool true)).grownBy w4 none) (hq:QAt w5 C v' (o++[y])) (hb:Below C w4 w5):zff (w5.setCell ⟨t,0,none⟩ v') B C s r t n (o++[y]) v'/\Below B W (w5.setCell ⟨t,0,none⟩ v'):=by
 have g1:=zac W ⟨r,y,none⟩ (.bool true);have hset:=h.row.set y (.bool true);rw[zLT,ztV hy] at hset;have e1:(W.setCell ⟨r,y,none⟩ (.bool true)).heap.size=W.heap.size:=by simp[World.setCell]
 obtain⟨hs1,hs2⟩:=h.hs;obtain⟨hr1,hr2⟩:=h.hr;obtain⟨ht1,ht2⟩:=h.ht;obtain⟨n1,n2,n3⟩:=h.ne;have hC:=h.hC;have b1:Below B W (W.setCell ⟨r,y,none⟩ (.bool true)):=(Below.refl B W).grown g1 (by omega) (fun k e=>by cases e;exact hr1);have b2:Below B W w5:=(b1.trans ((zbb hb4).mono (by rw[e1];omega))).trans (hb.mono (by omega));have old:∀ k,k<C->k≠r->w5.heap[k]?=W.heap[k]?:=fun k hk hne=>(hb.block k hk).trans ((hb4.block k (by rw[e1];omega) (by simp)).trans (g1.block k (by omega) (by simpa using hne)));have g5:=zac w5 ⟨t,0,none⟩ v';have hsz5:C<=w5.heap.size:=by have:=hb.size;have:=hb4.size;rw[e1] at this;omega
 have hsz:(w5.setCell ⟨t,0,none⟩ v').heap.size=w5.heap.size:=by simp[World.setCell]
 refine⟨⟨?_,?_,?_,hq.off_set ht2 _,h.hs,h.hr,h.ht,h.ne,by rw[hsz];exact hsz5⟩,b2.grown g5 (by omega) (fun k e=>by cases e;exact ht1)⟩;exact(g5.block s (by omega) (by simpa using n2)).trans ((old s hs2 n1).trans h.sv);refine(g5.block r (by omega) (by simpa using n3)).trans (((hb.block r hr2).trans (hb4.block r (by rw[e1];omega) (by simp))).trans hset);have h2:w5.heap[t]?=some (.cells #[v] 64 (0,0)):=(old t ht2 (Ne.symm n3)).trans h.tv;rw[heap_setCell_same w5 t 0 _ _ v' h2];rfl
def REnd (W:World)(B C s r t n:Nat)(o:List Nat)(e:Ending)(W':World):Prop:=e=.returned (.tuple #[])/\(∃ v,zff W' B C s r t n o v)/\Below B W W'
def zny {W:World}{B C s r t n y:Nat}{o:List Nat}{v:Value}(h:zff W B C s r t n o v)(hy:y<n)(hol:o.length<=1000000) :
  Calls prog 154 #[.int .i64 (y:Int),.pointer (some ⟨s,0,none⟩),.pointer (some ⟨t,0,none⟩)] W (REnd W B C s r t n (zbg o y)):=by
 have H:=zHd h;obtain⟨x0,_⟩:=one_cell h.sv;have c0:W.cell? ⟨r,y,none⟩=some (.bool (decide (y∈o))):=by rw[h.row.cell];exact zwG _ _ _ (zgY hy)
 have c1:=h.row.free y;obtain⟨x1,x2⟩:=one_cell h.tv;have n1:(0:Int)<=(y:Int):=by omega
 have n2:(y:Int)<(n:Int):=by omega
 have e1:(W.setCell ⟨r,y,none⟩ (.bool true)).cell? ⟨s,0,none⟩=some (.slice (some ⟨r,0,none⟩) n n):=(World.cell?_of_block ((zac W ⟨r,y,none⟩ (.bool true)).block s (by have:=h.hs;have:=h.hC;omega) (by have:=h.ne;simpa using this.1))).trans x0;have e2:(W.setCell ⟨r,y,none⟩ (.bool true)).cell? ⟨t,0,none⟩=some v:=(World.cell?_of_block ((zac W ⟨r,y,none⟩ (.bool true)).block t (by have:=h.ht;have:=h.hC;omega) (by have:=h.ne;simpa using Ne.symm this.2.2))).trans x1;have hone:=h.que.one;clear h
 by_cases hm:y∈o
 ·have hp:zbg o y=o:=by unfold zbg;rw[if_pos hm]
  rw[hp];rw[decide_eq_true hm] at c0;clear hm hp;go_enter func154,ntmps154;go_wp2
  go_end0
  exact⟨rfl,⟨v,H.out⟩,Below.refl _ _⟩
 have hp:zbg o y=o++[y]:=by unfold zbg;rw[if_neg hm]
 rw[hp];rw[zqcb hm] at c0;clear hm hp;have HY:=zHd hy;have hq1:QAt ((W.setCell ⟨r,y,none⟩ (.bool true)).alloc (.cells #[.int .i64 (y:Int)] 3)) C v o:=(H.out.que.off_set H.out.hr.2 _).grown (zGA _ _ none) (by simp);have HQ:=zHd hq1;have e3:(W.setCell ⟨r,y,none⟩ (.bool true)).heap.size=W.heap.size:=by simp[World.setCell]
 have hC:=H.out.hC;clear hq1;go_enter func154,ntmps154;go_wp2_with (at_builtin;refine zoS HQ.out (by simp;omega) rfl _ _ rfl rfl _ _ y rfl ?ca hol ?_)
 case ca =>
  have:=ztO (W.setCell ⟨r,y,none⟩ (.bool true)) y;rw[e3] at this;exact this
 intro v' w5 hq5 hb5;have P:=H.out.put HY.out _ (zGA _ _ none) hq5 hb5
 have y0:w5.cell? ⟨t,0,none⟩=some v:=by
  have h1:=hb5.block t H.out.ht.2;refine(World.cell?_of_block h1).trans ?_;exact World.grownBy.cell (zGA _ _ none) e2 (by simp)
 have y1:w5.frozen? ⟨t,0,none⟩=false:=by
  have h1:=hb5.block t H.out.ht.2;have h2:=(zGA (W.setCell ⟨r,y,none⟩ (.bool true)) (.cells #[.int .i64 (y:Int)] 3) none).block t (by have:=H.out.ht.2;omega) (by simp);have h3:=(zac W ⟨r,y,none⟩ (.bool true)).block t (by have:=H.out.ht;omega) (by have:=H.out.ne;simpa using Ne.symm this.2.2);exact(World.frozen?_of_block (h1.trans (h2.trans h3))).trans x2
 obtain⟨a5,c5,rfl,_⟩:=hq5;rw[show(o++[y]).length=o.length+1 by simp] at P;have HP:=zHd P;clear P hb5 HQ;go_wp2
 go_end0
 exact⟨rfl,⟨_,HP.out.1⟩,HP.out.2⟩
open Go.RowKit
def nvL (q:List Nat):List Value:=q.map (fun x:Nat=>Value.int .i64 (x:Int))
def NSl (w:World)(v:Value)(q:List Nat):Prop:=∃ A cap,v=.slice A q.length cap/\Reads w w.heap.size 1 A q.length (nvL q)
def zKK {q:List Nat}{k x:Nat}(h:q[k]?=some x):(nvL q)[k]?=some (.int .i64 (x:Int)):=by unfold nvL;rw[zqaj,h];rfl
def NSl.grown {w w':World}{v:Value}{q:List Nat}(h:NSl w v q)(hg:w.grownBy w' none):NSl w' v q:=by
 obtain⟨A,cap,hv,hr⟩:=h;exact⟨A,cap,hv,(hr.below (zbb hg)).more hg.size⟩
def zix {w:World}{A:Option Addr}{q:List Nat}{k:Nat}(h:Reads w w.heap.size 1 A q.length (nvL q))(hk:k<q.length):∃ ad x,A=some ad/\q[k]?=some x/\w.cell? (ad.add k)=some (.int .i64 (x:Int)):=by
 obtain⟨ad,hA,hb,hc⟩:=h.2 (by omega);have hx:q[k]?=some q[k]:=zqac hk;exact⟨ad,_,hA,hx,hc _ _ (zKK hx)⟩
def QAt.at_ {w:World}{B:Nat}{v:Value}{q:List Nat}(h:QAt w B v q):∃ a cap,v=.slice a q.length cap/\∀ (k x:Nat),q[k]?=some x->∃ g off,a=some ⟨g,off,none⟩/\w.cell? ⟨g,off+k,none⟩=some (.int .i64 (x:Int)):=by
 obtain⟨a,cap,hv,⟨h0,_⟩|⟨g,off,cur,ha,hB,hh,hc,ho,hq⟩⟩:=h;exact⟨a,cap,hv,fun k x hx=>by rw[h0] at hx;simp at hx⟩;exact⟨a,cap,hv,fun k x hx=>⟨g,off,ha,by rw[zqbw w g _ _ _ (0,0) hh];exact hq k x hx⟩⟩
def Steps (w0:World)(F p n:Nat)(succ:Nat->List Nat):Prop :=
 ∀ (W:World) (B C s r t x:Nat) (o:List Nat) (v:Value),Below w0.heap.size w0 W->w0.heap.size<=B->zff W B C s r t n o v->x<n->o.Nodup->(∀ y∈o,y<n) ->
  Calls prog F #[.int .i64 (x:Int),.func (.func 154) #[] #[.pointer (some ⟨s,0,none⟩),.pointer (some ⟨t,0,none⟩)],.pointer (some ⟨p,0,none⟩)] W (REnd W B C s r t n ((succ x).foldl zbg o))
def zff.deep {W:World}{B C s r t n:Nat}{o:List Nat}{v:Value}(h:zff W B C s r t n o v)(ob:Obj):zff (W.alloc ob) B C s r t n o v:=h.next (zGA _ _ _)
def short_list {n:Nat}{o:List Nat}(h1:o.Nodup)(h2:∀ y∈o,y<n):o.length<=n:=zkA h1 h2
structure Small (m:zaj):Prop where
 wf:Wf m
 n:m.states.length<=3000
 a:∀ s∈m.states,s.arcs.length<=30000
def zys:Enters 155:=enters_of func155 (by kernel_rfl) rfl
def zBD {w0:World}{p:Nat}{A:Option Addr}{cap:Nat}{us:List Value}{m:zaj}(hbx:zas w0 p m (.slice A m.states.length cap))(hst:zeg w0 A us m.states)(hm:Small m) :
  Steps w0 155 p m.states.length (zaX m):=by
 intro W B C s r t x o v hB0 hBB zm hx hnd hlt;have hbx2:=hbx.below hB0 hbx.lt;have hst2:=hst.below hB0;obtain⟨ad,st,Br,cb,hA,hs,hu,hc,hra⟩:=hst2.at_ hx;subst hA;obtain⟨x0,x1,x2,x3⟩:=hbx2.cells;obtain⟨y0,y1⟩:=hc;have hal:=hm.a st (zqak hs);have zS':=zkf hs;have n1:(0:Int)<=(x:Int):=by omega
 have n2:(x:Int)<(m.states.length:Int):=by omega
 have HM:=zHd hm;have HMEM:=zHd zm;have HST:=zHd hst;have HSS:=zHd hs;have HU:=zHd hu;have HB0:=zHd hB0;have HSTEP:=zHd zS';have HND:=zHd hnd;have HLT:=zHd hlt;have hn3:=hm.n;clear hbx hst hbx2 hst2 zm hs hu hra hm zS' hnd hlt hB0;go_enter func155,ntmps155;go_wp2;clear x0 x1 x2 x3 y0 y1
 go_loopw [14] (fun i wr=>∃ (j:Nat) (v:Value),i=.int .i64 j/\j<=st.arcs.length/\zff wr B C s r t m.states.length (((zaX m x).take j).foldl zbg o) v/\Below B W wr) (fun i _=>st.arcs.length-(intOf i).toNat)
 case atStart=>exact⟨0,v,rfl,by omega,HMEM.out,Below.refl _ _⟩
 case round =>
  obtain⟨j,v',rfl,hj,zm,hb⟩:=hrel;have HMEM2:=zHd zm;have HB:=zHd hb;have hB1:Below w0.heap.size w0 wr:=HB0.out.trans (hb.mono hBB);clear zm hb
  by_cases hjl:j<st.arcs.length
  ·obtain⟨ad2,a,hBr,hab,haj,hat⟩:=zgV ((HST.out.below hB1).arcs_at HSS.out HU.out) hjl
   subst hBr;obtain⟨z0,z1,z2,z3⟩:=hat;have harc:=HM.out.wf.arcs st (zqak HSS.out) a (zqak haj);obtain⟨y,hy⟩:∃ y:Nat,a.t=(y:Int):=⟨a.t.toNat,by omega⟩;have hyn:y<m.states.length:=by omega
   have hst:(zaX m x)[j]?=some y:=by rw[HSTEP.out,zqaj,haj];simp[hy]
   have htk:((zaX m x).take (j+1)).foldl zbg o=zbg (((zaX m x).take j).foldl zbg o) y:=by
    rw[zcA hst,zlU]
   have zN:(((zaX m x).take j).foldl zbg o).length<=1000000:=by
    have:=short_list (zcw (l:=(zaX m x).take j) HND.out) (zdT (l:=(zaX m x).take j) HLT.out (fun z hz=>zig HM.out.wf x z (zqau hz)));omega
   rw[hy] at z3;have n3:(j:Int)<(st.arcs.length:Int):=by omega
   have n4:IntKind.i64.wrap ((j:Int)+1)=(j:Int)+1:=by rw[zqah];omega
   have HTK:=zHd htk;have hba:Below B W (wr.alloc (.cells #[.int .i64 a.i,.int .i64 a.o,.string a.w,.int .i64 (y:Int)] 45)):=HB.out.alloc (by have:=HMEM2.out.hs;have:=HMEM2.out.hC;omega) _;have HBA:=zHd hba;have HR:=zHd (zny (HMEM2.out.deep (.cells #[.int .i64 a.i,.int .i64 a.o,.string a.w,.int .i64 (y:Int)] 45)) hyn zN);clear haj harc hy hst htk hba hB1;go_wp2_with fail;refine HR.out.mono ?_;rintro e w5 ⟨rfl,⟨v5,hm5⟩,hb5⟩;have HM5:=zHd hm5;have HB5:=zHd (HBA.out.trans hb5);clear hm5 hb5 z0 z1 z2 z3;go_wp2
   go_roundw
   case rel=>exact⟨j+1,v5,by go_num,by omega,by rw[HTK.out];exact HM5.out,HB5.out⟩
   case measure=>simp[intOf];omega
  have n3:¬ (j:Int)<(st.arcs.length:Int):=by omega
  have e:(zaX m x).take j=zaX m x:=zqaf (by rw[HSTEP.out,zqbn];omega);rw[e] at HMEM2;clear hB1;go_wp2
  go_end0
  exact⟨rfl,⟨v',HMEM2.out⟩,HB.out⟩
def zLZ (F:Nat)(m:zaj)(u:Value)(w:World)(e:Ending)(w':World):Prop:=e=.returned (.func (.func F) #[] #[.pointer (some ⟨w.heap.size,0,none⟩)])/\zas w' w.heap.size m u/\w.grownBy w' none
def zsX {w:World}{u:Value}{m:zaj} :
  Calls prog 114 #[.agg #[.int .i64 m.kind,.int .i64 m.start,.string m.lead,u]] w (zLZ 155 m u w):=by
 have hg:w.grownBy (w.alloc (.cells #[.int .i64 m.kind,.int .i64 m.start,.string m.lead,u] 24)) none:=zGA _ _ _;have hbx:=zas.new w m u;have HG:=zHd hg;have HB:=zHd hbx;clear hg hbx;go_enter func114,ntmps114;go_wp2;go_ret;exact⟨rfl,HB.out,HG.out⟩
def zBE (o:List Nat)(w:World)(e:Ending)(w':World):Prop:=∃ v,e=.returned v/\QAt w' w.heap.size v o/\w.grownBy w' none
def zrt:(prog.info? 4).map (fun i=>(i.zero,i.size,i.bytes))=some (some (.bool false),1,1):=by kernel_rfl
def zff.start {w w1:World}{n:Nat}(hc:zcG w1 w.heap.size (bv (List.replicate n false)))(hg:w.grownBy w1 none) :
  zff ((w1.alloc (.cells #[.slice (some ⟨w.heap.size,0,none⟩) n n] 135)).alloc (.cells #[.slice none 0 0] 64)) w.heap.size (w1.heap.size+2) w1.heap.size w.heap.size (w1.heap.size+1) n [] (.slice none 0 0) /\
  w.grownBy ((w1.alloc (.cells #[.slice (some ⟨w.heap.size,0,none⟩) n n] 135)).alloc (.cells #[.slice none 0 0] 64)) none:=by
 have g1:=zGA w1 (.cells #[.slice (some ⟨w.heap.size,0,none⟩) n n] 135) none;have g2:=zGA (w1.alloc (.cells #[.slice (some ⟨w.heap.size,0,none⟩) n n] 135)) (.cells #[.slice none 0 0] 64) none;have e1:(w1.alloc (.cells #[.slice (some ⟨w.heap.size,0,none⟩) n n] 135)).heap.size=w1.heap.size+1:=by simp
 have hlt:=hc.lt
 have c1:(w1.alloc (.cells #[.slice (some ⟨w.heap.size,0,none⟩) n n] 135)).heap[w1.heap.size]?=some (.cells #[.slice (some ⟨w.heap.size,0,none⟩) n n] 135 (0,0)):=by
  show(w1.heap.push _)[w1.heap.size]?=_;rw[zqaz]
 have c2:((w1.alloc (.cells #[.slice (some ⟨w.heap.size,0,none⟩) n n] 135)).alloc (.cells #[.slice none 0 0] 64)).heap[w1.heap.size+1]?=some (.cells #[.slice none 0 0] 64 (0,0)):=by
  rw[<- e1];show(Array.push _ _)[_]?=_;exact zqaz
 refine⟨⟨(g2.block _ (by omega) (by simp)).trans c1,?_,c2,QAt.nil _ _,⟨by omega,by omega⟩,⟨by omega,by omega⟩,⟨by omega,by omega⟩,⟨by omega,by omega,by omega⟩,by simp⟩,zaa hg (zaa g1 g2)⟩;rw[ztW];exact(g2.block _ (by omega) (by simp)).trans ((g1.block _ hlt (by simp)).trans hc)
def zru {w0 w:World}{F p n:Nat}{succ:Nat->List Nat}{v:Value}{fs:List Nat}(hE:Enters F)(hs:Steps w0 F p n succ)(hw:Below w0.heap.size w0 w)(hv:NSl w v fs)(hn:n<=3000)(hfs:∀ x∈fs,x<n)(hsb:∀ x,∀ y∈succ x,y<n)(hfl:fs.length<=3000) :
  Calls prog 113 #[.int .i64 (n:Int),v,.func (.func F) #[] #[.pointer (some ⟨p,0,none⟩)]] w (zBE (zdl succ n 0 (fs.foldl zbg [])) w):=by
 obtain⟨i0,hi,hz0,hz1,hz2⟩:=zdo zrt;obtain⟨A,cap,rfl,hr⟩:=hv;have HR:=zHd hr;have HE:=zHd hE;have HST:=zHd hs;have HW:=zHd hw;have HFS:=zHd hfs;have HSB:=zHd hsb;clear hr hE hs hw hfs hsb;go_enter func113,ntmps113;go_wp2_with (at_make;refine wpList_make_full _ rfl _ _ 135 rfl w.heap.size 4 i0 (.bool false) 1 underlying135 hi hz0 hz1 _ _ _ _ n rfl rfl rfl rfl (by rw[hz2];omega) (by unfold maxLen;omega) (zqab _) ?_);intro w1 zO hgr;rw[znq] at zO;obtain⟨hm0,hg0⟩:=zff.start (zcG.of_full zO) hgr;have HM0:=zHd hm0;have HG0:=zHd hg0;have e0:w.heap.size<=w1.heap.size:=hgr.size;clear zO hgr hm0 hg0;go_wp2;generalize hW:(w1.alloc (.cells #[.slice (some ⟨w.heap.size,0,none⟩) n n] 135)).alloc (.cells #[.slice none 0 0] 64)=W at *;clear hW
 go_loopw [18] (fun i wr=>∃ (j:Nat) (v:Value),i=.int .i64 j/\j<=fs.length/\zff wr w.heap.size (w1.heap.size+2) w1.heap.size w.heap.size (w1.heap.size+1) n ((fs.take j).foldl zbg []) v/\w.grownBy wr none) (fun i _=>fs.length-(intOf i).toNat)
 case atStart=>exact⟨0,_,rfl,by omega,HM0.out,HG0.out⟩
 case round =>
  obtain⟨j,v',rfl,hj,zm,hg⟩:=hrel;have HMEM:=zHd zm;have HG:=zHd hg;clear zm hg
  by_cases hjl:j<fs.length
  ·obtain⟨ad,x,hA,hx,hc⟩:=zix ((HR.out.below (zbb HG.out)).more HG.out.size) hjl
   subst hA;have hxn:=HFS.out x (zqak hx);have htk:(fs.take (j+1)).foldl zbg []=zbg ((fs.take j).foldl zbg []) x:=by rw[zcA hx,zlU]
   have zN:((fs.take j).foldl zbg []).length<=1000000:=by
    have:=short_list (zcw (l:=fs.take j) (o:=[]) List.nodup_nil) (zdT (n:=n) (l:=fs.take j) (o:=[]) (fun z hz=>by simp at hz) (fun z hz=>HFS.out z (zqau hz)));omega
   have n1:(j:Int)<(fs.length:Int):=by omega
   have n2:IntKind.i64.wrap ((j:Int)+1)=(j:Int)+1:=by rw[zqah];omega
   have HTK:=zHd htk;have HRC:=zHd (zny HMEM.out hxn zN);clear hx htk;go_wp2_with fail;refine HRC.out.mono ?_;rintro e w5 ⟨rfl,⟨v5,hm5⟩,hb5⟩;have HM5:=zHd hm5;have HG5:=zHd (zbe ((zbb HG.out).trans (hb5)));clear hm5 hb5 hc;go_wp2
   go_roundw
   case rel=>exact⟨j+1,v5,by go_num,by omega,by rw[HTK.out];exact HM5.out,HG5.out⟩
   case measure=>simp[intOf];omega
  have n1:¬ (j:Int)<(fs.length:Int):=by omega
  rw[zqaf (l:=fs) (by omega)] at HMEM;have hd0:=zcw (l:=fs) (o:=[]) List.nodup_nil;have hb0:=zdT (n:=n) (l:=fs) (o:=[]) (fun z hz=>by simp at hz) HFS.out;generalize fs.foldl zbg []=o0 at *;have HD0:=zHd hd0;have HB0:=zHd hb0;clear hd0 hb0;generalize wr=w4 at *;go_wp2
  go_loopw [12] (fun i wr=>∃ (j:Nat) (o:List Nat) (v:Value),i=.int .i64 j/\j<=n/\zff wr w.heap.size (w1.heap.size+2) w1.heap.size w.heap.size (w1.heap.size+1) n o v/\w.grownBy wr none/\o.Nodup/\(∀ x∈o,x<n)/\zdl succ (n-j) j o=zdl succ n 0 o0) (fun i _=>n+1-(intOf i).toNat)
  case atStart=>exact⟨0,o0,v',rfl,by omega,HMEM.out,HG.out,HD0.out,HB0.out,rfl⟩
  case round =>
   obtain⟨j,o,v2,rfl,hjn,zm,hg,hnd,hbn,hsr⟩:=hrel;have hol:=short_list hnd hbn;have HMEM2:=zHd zm;have HG2:=zHd hg;have HND:=zHd hnd;have HBN:=zHd hbn;have HSR:=zHd hsr;obtain⟨a,cap2,rfl,hat⟩:=zm.que.at_;obtain⟨t0,_⟩:=one_cell zm.tv;clear zm hg hnd hbn hsr
   by_cases hjl:j<o.length
   ·have hx:o[j]?=some o[j]:=zqac hjl
    generalize o[j]=x at hx;obtain⟨g,off,ha,zE⟩:=hat j x hx;subst ha;have hxn:=HBN.out x (zqak hx)
    have hs1:zdl succ (n-j) j o=zdl succ (n-(j+1)) (j+1) ((succ x).foldl zbg o):=by
     rw[show n-j=(n-(j+1))+1 by omega,ztT hx]
    have n1:(j:Int)<(o.length:Int):=(by omega);have n2:IntKind.i64.wrap ((j:Int)+1)=(j:Int)+1:=(by rw[zqah];omega);have n3:(0:Int)<=(j:Int):=(by omega);have HS1:=zHd hs1;have HC:=zHd (HST.out wr _ _ _ _ _ x o _ (HW.out.trans ((zbb HG2.out).mono HW.out.size)) HW.out.size HMEM2.out hxn HND.out HBN.out);clear hs1 hx hat;go_wp2_with fail;rw[HE.out];refine HC.out.mono ?_;rintro e w5 ⟨rfl,⟨v5,hm5⟩,hb5⟩;have HM5:=zHd hm5;have HG5:=zHd (zbe ((zbb HG2.out).trans hb5));clear hm5 hb5 t0 zE;go_wp2
    go_roundw
    case rel=>exact⟨j+1,_,v5,by go_num,by omega,HM5.out,HG5.out,zcw HND.out,zdT HBN.out (HSB.out x),HS1.out.symm.trans HSR.out⟩
    case measure=>simp[intOf];omega
   have n1:¬ (j:Int)<(o.length:Int):=by omega
   have he:o=zdl succ n 0 o0:=(by rw[<- HSR.out,zFl (by omega)]);have HEQ:=zHd he;clear he hat;go_wp2;go_ret;refine⟨_,rfl,?_,HG2.out⟩;rw[<- HEQ.out];have:=HMEM2.out.que;obtain⟨a3,c3,e3,h3⟩:=this;refine⟨a3,c3,e3,?_⟩;rcases h3 with h3|⟨g3,off3,cur3,k1,k2,k3⟩
   exact .inl h3;exact .inr ⟨g3,off3,cur3,k1,by omega,k3⟩
open Go.RowKit
structure zhv (w:World)(l:List zah)(us:List Value)(A:Option Addr)(c:Nat):Prop where
 len:us.length=l.length
 at_:∀ i,i<l.length->∃ ad s u,A=some ad/\ad.block<w.heap.size/\l[i]?=some s/\us[i]?=some u/\zfp w (ad.add (i*2)) s.fin u/\zcP w u s.arcs
def zeO {w:World}{v:Value}{l:List zah}(h:zfL w v l):∃ A c us,v=.slice A l.length c/\zhv w l us A c:=by
 obtain⟨A,c,us,e,hl,hr,ha⟩:=h
 exact⟨A,c,us,e,hl,fun i hi=>by
  obtain⟨ad,s,u,h1,h2,h3,h4,h5⟩:=zkd hr hl hi;exact⟨ad,s,u,h1,h2,h3,h4,h5,ha i s u h3 h4⟩⟩
def zbM {w w':World}(h:w.grownBy w' none):Below w.heap.size w w':=⟨h.os,h.tape,h.output,h.size,fun i hi=>h.block i hi (by simp)⟩
def zhv.grown {w w':World}{l:List zah}{us:List Value}{A:Option Addr}{c:Nat}(h:zhv w l us A c)(hg:w.grownBy w' none):zhv w' l us A c :=
 ⟨h.len,fun i hi=>by
  obtain⟨ad,s,u,h1,h2,h3,h4,h5,h6⟩:=h.at_ i hi;exact⟨ad,s,u,h1,zqba h2 hg.size,h3,h4,h5.below (zbM hg) (by rw[zaw];exact h2),h6.below (zbM hg)⟩⟩
def zFp (P:Prop)(n m:Nat)(A:Nat->Nat->Value)(w:World)(e:Ending)(w':World):Prop :=
 zbQ P (fun v w'=>∃ zs:List Value,v=.slice (some ⟨w.heap.size,0,none⟩) n n/\zfE w' w.heap.size w.heap.size n m zs A/\w'.heap[w.heap.size]?=some (.cells zs.toArray 27 (0,0))) w e w'
def ziJ (F:Nat)(he:Enters F)(first cap:Array Value)(l:List zah)(us:List Value)(Ad:Option Addr)(c:Nat)(m:Nat)(P:Nat->Prop)(A:Nat->Nat->Value)(w:World)(hn:l.length<=10000)(hl:zhv w l us Ad c)
  (hF:∀ i s u,l[i]?=some s->us[i]?=some u->∀ w',w.grownBy w' none->zcP w' u s.arcs->Calls prog F (first++#[.agg #[.string s.fin,u]]++cap) w' (zlq (P i) w.heap.size m (A i) w')) :
  Calls prog 45 #[.slice Ad l.length c,.func (.func F) first cap] w (zFp (∀ i,i<l.length->P i) l.length m A w):=by
 obtain⟨i0,hi,hz0,hz1,hz2⟩:=info_parts zfb;obtain⟨n,hne⟩:∃ n,l.length=n:=⟨_,rfl⟩;have HNE:=zHd hne;rw[hne] at hn ⊢;have HE:=zHd he;have HF:=zHd hF;have HL:=zHd hl;have HN:=zHd hn;clear he hF hl hn hne;go_enter func45,ntmps45;go_wp2_with (at_make;refine wpList_make_full _ rfl _ _ 41 rfl w.heap.size 27 i0 (.slice none 0 0) 1 underlying41 hi hz0 hz1 _ _ _ _ n rfl rfl ?c0 ?c1 ?c2 (by have:=HN.out;unfold maxLen;omega) (zqab _) ?_)
 case c0=>omega
 case c1=>omega
 case c2=>have:=HN.out;first|omega|(rw[hz2];omega)
 intro w1 zO hgr;have zF:=zaD.start zO hgr;have HW:=zHd zF;clear zO hgr zF;go_wp2
 go_loopw [13] (fun iv wr=>∃ zs:List Value,iv=.int .i64 (zs.length:Int)/\zaD 27 (.slice none 0 0) n zs w wr/\∀ i,i<zs.length->∃ gi off c,zs.getD i (.slice none 0 0)=.slice (some ⟨gi,off,none⟩) m c/\m<=c/\c<=maxLen/\gi≠w.heap.size/\zar wr gi off m (A i)/\P i) (fun iv _=>n-(intOf iv).toNat)
 case atStart=>exact⟨[],rfl,HW.out,fun i hi=>absurd hi (by simp)⟩
 case round =>
  obtain⟨zs,rfl,zF,zR⟩:=hrel;obtain⟨k,hzk⟩:∃ k,zs.length=k:=⟨_,rfl⟩;have hle:=zF.le
  by_cases hk:k<n
  ·have hgw:=zF.gr
   obtain⟨ad,s,u,rfl,hb,hs,hu,⟨hc0,hc1⟩,has⟩:=(HL.out.grown hgw).at_ k (by rw[HNE.out];exact hk);have t1:decide (k<n)=true:=by simpa using hk
   have t1':decide ((k:Int)<(n:Int))=true:=by simpa using hk
   have hik:(k:Int)<(n:Int):=by omega
   have n1:IntKind.i64.wrap ((k:Int)+1)=(k:Int)+1:=by have:=HN.out;rw[zqah];omega
   have zC:=HF.out k s u hs hu (wr.alloc (.cells #[.string s.fin,u] 40)) (zaa hgw (zGA _ _ none)) (has.below (zbM (zGA _ _ none)));obtain⟨Au,cu,hue,_⟩:=has;rw[hue] at hc1 zC;have HFL:=zHd zF;have HK:=zHd (zAI hk (zAI hzk hle));have HCALL:=zHd zC;have HR:=zHd zR;rw[hzk];clear zR hgw hs hu zC;clear zF hk hle hzk hb;go_wp2_with fail;rw[HE.out];rw[show first.push (Value.agg #[.string s.fin,.slice Au s.arcs.length cu])++cap=first++#[.agg #[.string s.fin,.slice Au s.arcs.length cu]]++cap by simp];refine HCALL.out.mono ?_;rintro e w' (⟨hpk,v,rfl,⟨g,off,c2,rfl,hm1,hm2,hgl,zW⟩,hg0⟩|⟨hnp,rfl,hg0⟩)
   ·have hg:=zaa (zGA wr (.cells #[.string s.fin,.slice Au s.arcs.length cu] 40) none) hg0
    have hgl2:g<w.heap.size∨wr.heap.size<=g:=by
     rcases hgl with h|h;exact .inl h;right;simp at h;omega
    have HPK:=zHd hpk;clear hpk hg0 hgl;have hf2:=HFL.out.grown hg;have hcl:=hf2.cell (by rw[HK.out.2.1];exact HK.out.1);have hfr:=hf2.free k;rw[HK.out.2.1] at hcl;have HF2:=zHd hf2;have HG:=zHd hg;have HROW:=zHd (zAI hm1 (zAI hm2 (zAI hgl2 zW)));clear hf2 hg hm1 hm2 hgl2 zW;go_wp2;obtain⟨hk,hzk,hle⟩:=HK.out;have zp:=HF2.out.put (by rw[hzk];exact hk) (.slice (some ⟨g,off,none⟩) m c2);rw[hzk] at zp;obtain⟨hm1,hm2,hgl,zW⟩:=HROW.out
    have hne:g≠w.heap.size:=by
     rcases hgl with h|h;omega;exact zQbK
    refine⟨⟨zs++[.slice (some ⟨g,off,none⟩) m c2],by simp[hzk],zp,fun i hi=>?_⟩,by simp[intOf];omega⟩
    by_cases hik2:i<zs.length
    ·obtain⟨gi,oi,ci,e1,e2,e3,e4,e5,e6⟩:=HR.out i hik2
     exact zQaL
    exact zQaC
   go_wp2;exact⟨rfl,.inr ⟨fun h=>hnp (h k HK.out.1),rfl,zaa (zaa HFL.out.gr (zGA _ _ none)) hg0⟩⟩
  have hkn:k=n:=by omega
  subst hkn;have t1:decide (k<k)=false:=by simp
  have t1':decide ((k:Int)<(k:Int))=false:=by simp
  have HFL:=zHd zF;have HK:=zHd hzk;have HR:=zHd zR;rw[hzk];clear zR;clear zF hk hle hzk;go_wp2;go_ret;have hzk:=HK.out;exact .inl ⟨fun i hi=>by obtain⟨_,_,_,_,_,_,_,_,h⟩:=HR.out i (by omega);exact h,_,rfl,⟨zs,rfl,⟨hzk,HFL.out.rowAt hzk,fun i hi=>(by obtain⟨gi,oi,ci,e1,e2,e3,e4,e5,e6⟩:=HR.out i (by omega);exact⟨gi,oi,ci,e1,e2,e3,e4,e5⟩)⟩,(by have h:=HFL.out.row;rw[hzk,zqbr,List.replicate_zero,List.append_nil] at h;exact h)⟩,HFL.out.gr⟩
open Go.RowKit
section
variable {k:Int}
def zFq (hk:zad k)(a:ByteArray):∃ x:El k,∀ v,Val k a v->x.1=v:=by
 by_cases h:∃ v,Val k a v
 ·obtain⟨v,hv⟩:=h
  exact⟨⟨v,hv.has⟩,fun u hu=>hv.e.uniq hu.e⟩
 exact⟨(srE k hk).zero,fun v hv=>absurd ⟨v,hv⟩ h⟩
noncomputable def vE (hk:zad k)(a:ByteArray):El k:=Classical.choose (zFq hk a)
def zBF (hk:zad k){a:ByteArray}{v:Ext}(h:Val k a v):(vE hk a).1=v:=Classical.choose_spec (zFq hk a) v h
def zgt (hk:zad k){a:ByteArray}(h:∃ v,Val k a v):a=tx (vE hk a)/\zam (vE hk a):=by
 obtain⟨v,hv⟩:=h;have e:=zBF hk hv;refine⟨by unfold tx;rw[e];exact hv.e.text,?_⟩;show Fits (vE hk a).1;rw[e];have e2:=hv.e;rcases v with(_|_)|x;trivial;trivial;exact e2.short
def zcS (l:List zaI)(j:Nat):Nat:=(l[j]?.map (fun a=>a.t.toNat)).getD 0
noncomputable def arcF (hk:zad k)(l:List zaI)(j:Nat):El k:=(l[j]?.map (fun a=>vE hk a.w)).getD (srE k hk).zero
def zov {l:List zaI}{j:Nat}{a:zaI}(h:l[j]?=some a):zcS l j=a.t.toNat:=by unfold zcS;rw[h];rfl
def zow (hk:zad k){l:List zaI}{j:Nat}{a:zaI}(h:l[j]?=some a):arcF hk l j=vE hk a.w:=by unfold arcF;rw[h];rfl
def zwV (k:Int)(n:Nat)(l:List zaI):Prop:=∀ a∈l,0<=a.t/\a.t<(n:Int)/\∃ v,Val k a.w v
def zBG (hk:zad k)(n gc gm cs:Nat)(fin:ByteArray)(u:Value)(l:List zaI)(As:Option Addr)(w:World)(hn:n<=10000)(hl:l.length<=30000)(hok:zwV k n l)(hu:zcP w u l)(hcal:zcZ w gc k)(hst:w.cell? ⟨gm,3,none⟩=some (.slice As n cs)) :
  Calls prog 86 #[.agg #[.string fin,u],.pointer (some ⟨gc,0,none⟩),.pointer (some ⟨gm,0,none⟩)] w (zbQ (∀ s,s<l.length->zam (zcq hk (arcF hk l) (zcS l) (s+1) (zcS l s))) (fun v w'=>∃ g,v=.slice (some ⟨g,0,none⟩) n n/\w.heap.size<=g/\zar w' g 0 n (txs (zcq hk (arcF hk l) (zcS l) l.length))) w):=by
 have hz:=fun w'=>zgU k n w' hn;obtain⟨Au,cu,rfl,hr⟩:=hu;obtain⟨c0,c1,c2⟩:=hcal;obtain⟨q,hq⟩:∃ q,l.length=q:=⟨_,rfl⟩;have HQ:=zHd hq;rw[hq];have hr2:=hr;rw[hq] at hr2 hl;have HZ:=zHd hz;have HU:=zHd hr2;have HO:=zHd hok;have HN:=zHd (zAI hn hl);have HC:=zHd (zAI c0 (zAI c1 c2));have hW:=zGA w (.cells #[.string fin,.slice Au q cu] 40) none;have d0:=hW.cell c0 (by simp);have d1:=hW.cell c1 (by simp);have d2:=hW.cell c2 (by simp);have ds:=hW.cell hst (by simp);have b1:=zan w #[.string fin,.slice Au q cu] 40 (j:=1) rfl;have HW:=zHd hW;clear hz hr hr2 hok hn hl c0 c1 c2 hst hq hW;unfold zbl at *;go_enter func86,ntmps86;go_wp2_with fail;refine(HZ.out _).mono ?_;rintro e w1 ⟨g,rfl,hgW,zW,hg1⟩;have x0:=hg1.cell d0 (by simp);have x1:=hg1.cell d1 (by simp);have x2:=hg1.cell d2 (by simp);have xb:=hg1.cell b1 (by simp);have hgb:w.heap.size+1<=g:=by simpa using hgW
 have hgc:gc<w.heap.size:=by
  have:=HC.out.1;unfold World.cell? at this;dsimp only at this
  by_cases h:gc<w.heap.size
  exact h;rw[Array.getElem?_eq_none (by omega)] at this;simp at this
 have zI:zjA hk (arcF hk l) (zcS l) q n g w 0 w1:=⟨zqaw _,zaa HW.out hg1,by omega,by rw[ztK];exact zW,fun s hs=>absurd hs (by omega),fun d=>zce hk⟩;have HI:=zHd zI;have HX:=zHd (zAI x0 (zAI x1 (zAI x2 (zAI hgb hgc))));clear hgW zW hg1 x0 x1 x2 zI hgb hgc d0 d1 d2 ds b1 HC;go_wp2
 go_loopw [16] (fun iv wr=>∃ t:Nat,iv=.int .i64 (t:Int)/\zjA hk (arcF hk l) (zcS l) q n g w t wr/\wr.cell? ⟨gc,0,none⟩=some (.int .i64 k)/\wr.cell? ⟨gc,1,none⟩=some (.string (zag k))/\wr.cell? ⟨gc,2,none⟩=some (.string (zal k))) (fun iv _=>q-(intOf iv).toNat)
 case atStart=>exact⟨0,rfl,HI.out,HX.out.1,HX.out.2.1,HX.out.2.2.1⟩
 case round =>
  obtain⟨t,rfl,zI,y0,y1,y2⟩:=hrel
  by_cases ht:t<q
  ·have hrd:=(HU.out.below (zbM zI.gr)).more (zbM zI.gr).size
   rw[<- HQ.out] at hrd;obtain⟨ad,a,rfl,hbl,hla,⟨a0,a1,a2,a3⟩⟩:=zgV hrd (by rw[HQ.out];exact ht);obtain⟨ht0,htn,hwv⟩:=HO.out a (zqak hla);obtain⟨hwt,hwf⟩:=zgt hk hwv;obtain⟨κ,hκ⟩:∃ κ:Nat,a.t=(κ:Int):=⟨a.t.toNat,by omega⟩;have hκ2:zcS l t=κ:=by rw[zov hla,hκ];rfl
   have hκn:κ<n:=by omega
   have zC:=fun w'=>zkb hk (zI.now (zcS l t)) (show zam (arcF hk l t) by rw[zow hk hla];exact hwf) w';rw[<- zsI,hκ2] at zC;have hft:tx (arcF hk l t)=a.w:=by rw[zow hk hla];exact hwt.symm
   rw[hft] at zC;rw[hκ] at a3
   have r1:wr.cell? ⟨g,κ,none⟩=some (.string (tx (zcq hk (arcF hk l) (zcS l) t κ))):=by
    rw[zqbw wr g κ _ _ (0,0) zI.row,zqap,zfN hk _ _ t hκn]
   have t1:decide (t<q)=true:=by simpa using ht
   have t1':decide ((t:Int)<(q:Int))=true:=by simpa using ht
   have hit:(t:Int)<(q:Int):=by omega
   have i1:(κ:Int)<(n:Int):=by omega
   have i2:(0:Int)<=(κ:Int):=by omega
   have n1:IntKind.i64.wrap ((t:Int)+1)=(t:Int)+1:=by have:=HN.out.2;rw[zqah];omega
   have hgl:g<wr.heap.size:=(zqad.1 zI.row).1;have hne1:¬ gc=g:=by have:=HX.out.2.2.2;omega
   have hne2:¬ g=gc:=by have:=HX.out.2.2.2;omega
   have hne3:¬ wr.heap.size=g:=by omega
   have hne4:¬ g=wr.heap.size:=by omega
   have HI2:=zHd zI;have HCALL:=zHd zC;have HT:=zHd (zAI ht (zAI hκ2 hκn));clear zI zC ht hbl hla ht0 htn hwv hwt hwf hκ hκ2 hκn hft hrd hgl;unfold zbl at HCALL;go_upto_region 5 with(fail);have hal:=zGA wr (.cells #[.int .i64 a.i,.int .i64 a.o,.string a.w,.int .i64 (κ:Int)] 45) none;have u2:=zan wr #[.int .i64 a.i,.int .i64 a.o,.string a.w,.int .i64 (κ:Int)] 45 (j:=2) rfl;have u3:=zan wr #[.int .i64 a.i,.int .i64 a.o,.string a.w,.int .i64 (κ:Int)] 45 (j:=3) rfl;have v0:=hal.cell y0 (by simp);have v1:=hal.cell y1 (by simp);have v2:=hal.cell y2 (by simp);have vr:=hal.cell r1 (by simp);have hrowU:=(hal.block g (zqad.1 HI2.out.row).1 (by simp)).trans HI2.out.row;generalize wr.alloc (.cells #[.int .i64 a.i,.int .i64 a.o,.string a.w,.int .i64 (κ:Int)] 45)=U at *;have e2:U.drew.cell? ⟨wr.heap.size,2,none⟩=some (.string a.w):=u2;have e3:U.drew.cell? ⟨wr.heap.size,3,none⟩=some (.int .i64 (κ:Int)):=u3;have d0:U.drew.cell? ⟨gc,0,none⟩=some (.int .i64 k):=v0;have d1:U.drew.cell? ⟨gc,1,none⟩=some (.string (zag k)):=v1;have d2:U.drew.cell? ⟨gc,2,none⟩=some (.string (zal k)):=v2;have dr:U.drew.cell? ⟨g,κ,none⟩=some (.string (tx (zcq hk (arcF hk l) (zcS l) t κ))):=vr;have HUW:=zHd (zaa hal (zaf U none));have HROW:=zHd (show U.drew.heap[g]?=_ from hrowU);clear hal u2 u3 v0 v1 v2 vr hrowU y0 y1 y2 r1 a0 a1 a2 a3;refine zdU (e:=14) (n:=14) (fun W':World=>W'.cell? ⟨wr.heap.size,2,none⟩=some (.string a.w)/\W'.cell? ⟨wr.heap.size,3,none⟩=some (.int .i64 (κ:Int))/\W'.cell? ⟨gc,0,none⟩=some (.int .i64 k)/\W'.cell? ⟨gc,1,none⟩=some (.string (zag k))/\W'.cell? ⟨gc,2,none⟩=some (.string (zal k))/\W'.cell? ⟨g,κ,none⟩=some (.string (tx (zcq hk (arcF hk l) (zcS l) t κ)))) (by kernel_rfl) (by kernel_rfl) rfl ?_;have hS0:(fun W':World=>W'.cell? ⟨wr.heap.size,2,none⟩=some (.string a.w)/\W'.cell? ⟨wr.heap.size,3,none⟩=some (.int .i64 (κ:Int))/\W'.cell? ⟨gc,0,none⟩=some (.int .i64 k)/\W'.cell? ⟨gc,1,none⟩=some (.string (zag k))/\W'.cell? ⟨gc,2,none⟩=some (.string (zal k))/\W'.cell? ⟨g,κ,none⟩=some (.string (tx (zcq hk (arcF hk l) (zcS l) t κ)))) U.drew:=⟨e2,e3,d0,d1,d2,dr⟩;refine zTk 0 (.slice (some ⟨g,0,none⟩) n n) rfl hS0 ?_;(try simp only[zS,Act.put]);refine zTk 1 (.pointer (some ⟨wr.heap.size,3,none⟩)) rfl hS0 ?_;(try simp only[zS,Act.put]);refine zTk 2 (.int .i64 (κ:Int)) rfl hS0 ?_;(try simp only[zS,Act.put]);refine zTk 3 (.pointer (some ⟨gc,0,none⟩)) rfl hS0 ?_;(try simp only[zS,Act.put]);refine zTk 4 (.agg #[.int .i64 k,.string (zag k),.string (zal k)]) rfl hS0 ?_;(try simp only[zS,Act.put]);refine zTk 5 (.slice (some ⟨g,0,none⟩) n n) rfl hS0 ?_;(try simp only[zS,Act.put]);refine zTk 6 (.pointer (some ⟨wr.heap.size,3,none⟩)) rfl hS0 ?_;(try simp only[zS,Act.put]);refine zTk 7 (.int .i64 (κ:Int)) rfl hS0 ?_;(try simp only[zS,Act.put]);refine zTk 8 (.pointer (some ⟨g,κ,none⟩)) rfl hS0 ?_;(try simp only[zS,Act.put]);refine zTk 9 (.string (tx (zcq hk (arcF hk l) (zcS l) t κ))) rfl hS0 ?_;(try simp only[zS,Act.put]);refine zTk 10 (.pointer (some ⟨wr.heap.size,2,none⟩)) rfl hS0 ?_;(try simp only[zS,Act.put]);refine zTk 11 (.string a.w) rfl hS0 ?_;(try simp only[zS,Act.put]);refine zqcc (rs:=[12]) (by kernel_rfl) (by simp) ?_;refine AllReadyH.cons rfl (fun K hK=>?_) AllReadyH.nil;go_simp;refine(HCALL.out _).mono ?_;rintro e w5 (⟨hp,rfl,hg5⟩|⟨hn,rfl,hg5⟩);rotate_left 1
   exact⟨rfl,.inr ⟨fun h=>hn (HT.out.2.1▸h t HT.out.1),rfl,zaa (zaa HI2.out.gr HUW.out) hg5⟩⟩;have s0:=hg5.cell d0 (by simp);have s1:=hg5.cell d1 (by simp);have s2:=hg5.cell d2 (by simp);have hr5:=(hg5.block g (zqad.1 HROW.out).1 (by simp)).trans HROW.out;have z0:=zqbx w5 g κ _ _ hr5;have q0:=zqbw w5 g κ _ _ (0,0) hr5;rw[zqap,zfN hk _ _ t HT.out.2.2] at q0;refine hK.out _ _ (⟨hg5.cell e2 (by simp),hg5.cell e3 (by simp),s0,s1,s2,q0⟩) (fun zH=>?_);have H5:=zHd (zAI hp (zAI hg5 hr5));clear hp hg5 hr5 hS0 hK K;refine zTk 13 (.pointer (some ⟨g,κ,none⟩)) rfl zH ?_;(try simp only[zS,Act.put]);clear zH;refine wpAnyH_done (by kernel_rfl) ?_ _;refine zeZ (by rfl) (fun K hK=>?_);go_simp;refine hK _ _ ?_;go_wp2;obtain⟨hp,hg5,hr5⟩:=H5.out;have hnx:=HI2.out.next HT.out.1 (by rw[HT.out.2.1];exact HT.out.2.2) (zaa HUW.out hg5) hr5 (by rw[HT.out.2.1];exact hp);rw[HT.out.2.1] at hnx;exact⟨⟨t+1,by simp,hnx,zbc hne1 s0,zbc hne1 s1,zbc hne1 s2⟩,by have:=HT.out.1;simp[intOf];omega⟩
  have hte:t=q:=by have:=zI.le;omega
  subst hte;have t1:decide (t<t)=false:=by simp
  have t1':decide ((t:Int)<(t:Int))=false:=by simp
  have HI2:=zHd zI;clear zI ht;go_wp2;go_ret;refine .inl ⟨HI2.out.fit,_,rfl,⟨g,rfl,HI2.out.hg,(zqad.1 HI2.out.row).1,fun d hd=>?_⟩,HI2.out.gr⟩;rw[zqat,zqbw wr g d _ _ (0,0) HI2.out.row,zqap,zfN hk _ _ t hd];rfl
end
open Go.RowKit
def zBH (n:Nat)(L:Nat->Value)(a:ByteArray)(fv:Value)(w:World)(hn:0<n)(hf:zaK w fv n L)(h0:L 0=.string a) :
  Calls prog 85 #[fv] w (zab (.string a) w):=by
 obtain⟨A,c,rfl,h1,h2,h3⟩:=hf;obtain⟨ad,rfl,hb,hc⟩:=h3 0 hn;rw[h0] at hc;have hz:ad.add 0=ad:=by cases ad;unfold Addr.add;split <;> simp_all
 have hc':=hc;rw[hz] at hc';have i1:(0:Int)<(n:Int):=by omega
 have i2:¬ (n:Int)<=0:=by omega
 have i3:¬ n=0:=by omega
 clear h3 hb;go_enter func85,ntmps85;go_wp2;exact zQbP
def zuH:Enters 85:=enters_of func85 (by kernel_rfl) rfl
def zrv (n m:Nat)(V:Nat->Value)(L:Nat->Nat->Value)(G:Nat->ByteArray)(lv:Value)(w:World)(hn:n<=10000)(hm:0<m)(hl:zaK w lv n V)(zW:∀ i,i<n->zaK w (V i) m (L i))(h0:∀ i,i<n->L i 0=.string (G i)) :
  Calls prog 48 #[lv] w (fun e w'=>∃ v,e=.returned v/\v=.slice (some ⟨w.heap.size,0,none⟩) n n/\zar w' w.heap.size 0 n (fun i=>.string (G i))/\w.grownBy w' none):=by
 have h:=zmj 85 zuH #[] #[] n V (fun _=>True) G lv w hn hl (fun i hi w' hg=>by
  have h1:=zBH m (L i) (G i) (V i) w' hm ((zW i hi).grown hg) (h0 i hi);exact h1.mono (fun e w2 h2=>.inl ⟨trivial,h2⟩))
 obtain⟨A,c,rfl,-⟩:=hl;have H:=zHd h;clear h zW h0;go_enter func48,ntmps48;go_wp2_with fail;refine H.out.mono ?_;rintro e w1 (⟨hp,v,rfl,⟨rfl,hr⟩,hg1⟩|⟨hnp,-⟩)
 ·have HP:=zHd (zAI hr hg1)
  clear hp hr hg1 H;go_wp2;go_ret;exact⟨_,rfl,rfl,HP.out.1,HP.out.2⟩
 exact absurd (fun _ _=>trivial) hnp
open Go.RowKit
section
variable {k:Int}
def stA (l:List zah)(i:Nat):List zaI:=(l[i]?.map (·.arcs)).getD []
def stF (l:List zah)(i:Nat):ByteArray:=(l[i]?.map (·.fin)).getD ⟨#[]⟩
def ziy {l:List zah}{i:Nat}{s:zah}(h:l[i]?=some s):stA l i=s.arcs:=by unfold stA;rw[h];rfl
def zgo {l:List zah}{i:Nat}{s:zah}(h:l[i]?=some s):stF l i=s.fin:=by unfold stF;rw[h];rfl
noncomputable def arcM (hk:zad k)(l:List zah)(i d:Nat):El k:=zcq hk (arcF hk (stA l i)) (zcS (stA l i)) (stA l i).length d
def zdE (hk:zad k)(l:List zah):Prop:=∀ i,i<l.length->∀ s,s<(stA l i).length->zam (zcq hk (arcF hk (stA l i)) (zcS (stA l i)) (s+1) (zcS (stA l i) s))
noncomputable def finE (hk:zad k)(a:ByteArray):El k := @ite _ (a=⟨#[]⟩) (Classical.propDecidable _) (srE k hk).zero (vE hk a)
noncomputable def finM (hk:zad k)(l:List zah)(i:Nat):El k:=finE hk (stF l i)
structure zda (k:Int)(l:List zah):Prop where
 n60:l.length<=60
 arcs:∀ i,i<l.length->zwV k l.length (stA l i)/\(stA l i).length<=30000
 fins:∀ i,i<l.length->stF l i=⟨#[]⟩∨∃ v,Val k (stF l i) v
def zwW (hk:zad k){l:List zah}(h:zdE hk l){i:Nat}(hi:i<l.length)(d:Nat):zam (arcM hk l i d):=zpE hk _ _ _ (h i hi) d
def zwX (hk:zad k){a:ByteArray}(h:a=⟨#[]⟩∨∃ v,Val k a v):zam (finE hk a):=by
 unfold finE;split;exact zce hk
 next hn =>
 rcases h with h|h;exact absurd h hn;exact(zgt hk h).2
def zuI:Enters 86:=enters_of func86 (by kernel_rfl) rfl
def zuJ:Enters 46:=enters_of func46 (by kernel_rfl) rfl
def zoB:Enters 50:=enters_of func50 (by kernel_rfl) rfl
def ztX (hk:zad k)(l:List zah)(us:List Value)(As:Option Addr)(cs:Nat)(kd st:Int)(ld:ByteArray)(w:World)(hok:zda k l)(hst:zhv w l us As cs) :
  Calls prog 49 #[zbl k,.agg #[.int .i64 kd,.int .i64 st,.string ld,.slice As l.length cs]] w (zbQ (zdE hk l) (fun v w'=>zbv w' v l.length l.length (arcM hk l)) w):=by
 have hmf := @zMF prog;have hal1:=zGA w (.cells #[.int .i64 k,.string (zag k),.string (zal k)] 57) none;have hal2:=zGA (w.alloc (.cells #[.int .i64 k,.string (zag k),.string (zal k)] 57)) (.cells #[.int .i64 kd,.int .i64 st,.string ld,.slice As l.length cs] 24) none;have hW:=zaa hal1 hal2
 have xc:zcZ ((w.alloc (.cells #[.int .i64 k,.string (zag k),.string (zal k)] 57)).alloc (.cells #[.int .i64 kd,.int .i64 st,.string ld,.slice As l.length cs] 24)) w.heap.size k:=by
  have h:zcZ (w.alloc (.cells #[.int .i64 k,.string (zag k),.string (zal k)] 57)) w.heap.size k:=⟨zan w _ _ rfl,zan w _ _ rfl,zan w _ _ rfl⟩;exact h.grown hal2
 have xs:((w.alloc (.cells #[.int .i64 k,.string (zag k),.string (zal k)] 57)).alloc (.cells #[.int .i64 kd,.int .i64 st,.string ld,.slice As l.length cs] 24)).cell? ⟨w.heap.size+1,3,none⟩=some (.slice As l.length cs):=by
  have h:=zan (w.alloc (.cells #[.int .i64 k,.string (zag k),.string (zal k)] 57)) #[.int .i64 kd,.int .i64 st,.string ld,.slice As l.length cs] 24 (j:=3) (u:=.slice As l.length cs) rfl;exact zQaQ
 have hmap:=ziJ 86 zuI #[] #[.pointer (some ⟨w.heap.size,0,none⟩),.pointer (some ⟨w.heap.size+1,0,none⟩)] l us As cs l.length (fun i=>∀ s,s<(stA l i).length->zam (zcq hk (arcF hk (stA l i)) (zcS (stA l i)) (s+1) (zcS (stA l i) s))) (fun i=>txs (arcM hk l i)) _ (by have:=hok.n60;omega) (hst.grown hW) (fun i s u hs hu w' hw' ha=>by
  have hil:=(zqae.1 hs).1;have he:=ziy hs;obtain⟨h1,h2⟩:=hok.arcs i hil;rw[he] at h1 h2;have h:=zBG hk l.length w.heap.size (w.heap.size+1) cs s.fin u s.arcs As w' (by have:=hok.n60;omega) h2 h1 ha (xc.grown hw') (hw'.cell xs (by simp));refine h.mono (fun e w3 h=>?_);rcases h with⟨hp,v,e1,⟨g,e2,q1,q2⟩,q3⟩|⟨hp,q⟩
  ·refine .inl ⟨by rw[he];exact hp,v,e1,⟨g,0,l.length,e2,zqab _,by have:=hok.n60;unfold maxLen;omega,.inr q1,?_⟩,q3⟩
   show zar w3 g 0 l.length (txs (arcM hk l i));unfold arcM;rw[he];exact q2
  exact .inr ⟨by rw[he];exact hp,q⟩)
 have HM:=zHd hmap;have HW:=zHd hW;have HN:=zHd hok.n60;clear hmap hal1 hal2 hW xc xs hst hok;unfold zbl at *;go_enter func49,ntmps49;go_wp2_with fail;refine HM.out.mono ?_;rintro e w1 (⟨hp,v,rfl,⟨zs,rfl,hzs,_⟩,hg1⟩|⟨hn,rfl,hg1⟩)
 ·have HP:=zHd (zAI hp (zAI hzs hg1))
  clear hp hzs hg1 HM;go_wp2;go_ret;obtain⟨hp,hzs,hg1⟩:=HP.out;refine .inl ⟨hp,_,rfl,?_,zaa HW.out hg1⟩;have h:=hzs.mat (by have:=HN.out;omega);simpa using h
 exact⟨rfl,.inr ⟨hn,rfl,zaa HW.out hg1⟩⟩
end
open Go.RowKit Go.Maps
instance lawful6:LawfulBEq ByteArray where
 eq_of_beq {a b} h:=by
  have h2:a.data==b.data:=h;cases a;cases b;simp only[beq_iff_eq] at h2;subst h2;rfl
 rfl {a}:=by
  show(a.data==a.data)=true;simp
def zzG:Keyed prog 9:=string_keyed underlying9
def zFr (w:World):(zeroValue 4).run prog w=.ok (.bool false) w:=by kernel_rfl
def zpK (s:ByteArray):Lit:=.string s.data.toList
def zwY {s t:ByteArray}(h:zpK s=zpK t):s=t:=by
 unfold zpK at h;injection h with h
 exact ByteArray.ext (Array.toList_inj.1 h)
def zwZ (s:ByteArray):WideAt.IsKeyLit (zpK s):=trivial
def zzH {s:ByteArray}(h:s.size<=maxLen):keyOf prog 9 (.string s)=some (zpK s):=WideMaps.keyOf_string_mk underlying9 h
def znz {H:Type}{P:Program}{e:TypeId}(he:P.underlying e=some .bool){v:Value}{z:DataW H×List MemPlace}(h:plainElem P e v=some z):∃ a,v=.bool a/\z=(.lit (.bool a),[]):=by
 unfold plainElem at h;rw[he] at h;cases v <;> simp at h;exact⟨_,rfl,h.symm⟩
structure zMa (w:World)(b:Nat)(k:Int)(K:List ByteArray)(D:DataW Unit):Prop where
 owns:w.ownsMap prog 9 (plainElem prog 4) b K.length D
 at_:∀ s,D.atKey (zpK s) (.lit (.bool false))=.lit (.bool (decide (s∈K)&&wgtB k s))
 has_:∀ s,Maps.has D (zpK s)=decide (s∈K)
def zhS (w:World)(b:Nat)(k:Int)(K:List ByteArray):Prop:=∃ D,zMa w b k K D
def zhS.made (w:World)(k:Int):zhS (w.alloc (.map #[] 0)) w.heap.size k []:=⟨.map [],⟨World.ownsMap_made w _ _ _,fun s=>by simp;rfl,fun s=>by simp;rfl⟩⟩
def zhS.kept {w w':World}{b:Nat}{k:Int}{K:List ByteArray}{row:Option Nat}(h:zhS w b k K)(hg:w.grownBy w' row)(hne:some b≠row):zhS w' b k K:=by
 exact zQcf
def zhS.look_ok {w:World}{b:Nat}{k:Int}{K:List ByteArray}(h:zhS w b k K){s:ByteArray}(hs:s.size<=maxLen) :
  (Instr.lookup 90 (.map (some b)) (.string s) true).run prog w=.ok (.tuple #[.bool (decide (s∈K)&&wgtB k s),.bool (decide (s∈K))]) w:=by
 obtain⟨D,h1,h2,h3⟩:=h;obtain⟨v,ps,hrun,hv⟩:=h1.look_ok zzG underlying90 (zFr _) (plainElem_bool underlying4 false) (zzH hs);obtain⟨c,rfl,hc⟩:=znz underlying4 hv;rw[h2 s] at hc;simp only[Prod.mk.injEq,DataW.lit.injEq,Lit.bool.injEq] at hc;obtain⟨hc,_⟩:=hc;subst hc;rw[h3 s] at hrun;exact hrun
def zhS.store {w:World}{b:Nat}{k:Int}{K:List ByteArray}(h:zhS w b k K){s:ByteArray}(hs:s.size<=maxLen)(hn:s ∉ K)(hl:K.length<maxLen) :
  ∃ w',(Instr.mapUpdate 90 (.map (some b)) (.string s) (.bool (wgtB k s))).run prog w=.ok () w'/\zhS w' b k (K++[s])/\w.grownBy w' (some b):=by
 obtain⟨D,h1,h2,h3⟩:=h;obtain⟨w',hrun,zO,hg⟩:=h1.update zzG underlying90 hl (zzH hs) (plainElem_bool underlying4 (wgtB k s));have hD:IsMap D:=h1.isMap;refine⟨w',hrun,⟨_,⟨by rw[zqag];exact zO,fun t=>?_,fun t=>?_⟩⟩,hg⟩
 ·by_cases ht:t=s
  ·subst ht
   rw[atKey_put_same hD (zwZ t)];simp
  rw[atKey_put_other (fun e=>ht (zwY e)),h2 t];simp[ht]
 by_cases ht:t=s
 ·subst ht
  rw[has_put_same hD (zwZ t)];simp
 rw[has_put_other (fun e=>ht (zwY e)),h3 t];simp[ht]
def zhT (m:zaj):List ByteArray:=m.lead::m.states.flatMap (fun s=>s.fin::s.arcs.map zaI.w)
def zxa (m:zaj):(zhT m).length=1+m.states.length+zap m.states:=by
 unfold zhT zap;rw[zqbu]
 induction m.states with
 | nil=>simp
 | cons s l ih=>simp only[List.flatMap_cons,zqag,zqbu,zqbn,List.map_cons,List.sum_cons];omega
def zIF {m:zaj}{s:zah}(hs:s∈m.states):s.fin∈zhT m:=by
 unfold zhT;exact zqao _ (List.mem_flatMap.2 ⟨s,hs,by simp⟩)
def zIG {m:zaj}{s:zah}{a:zaI}(hs:s∈m.states)(ha:a∈s.arcs):a.w∈zhT m:=by
 unfold zhT;exact zqao _ (List.mem_flatMap.2 ⟨s,hs,zqao _ (List.mem_map_of_mem ha)⟩)
def zhw (w0:World)(b:Nat)(m:zaj)(W:World):Prop:=w0.grownBy W (some b)/\∃ K,zhS W b m.kind K/\K.Nodup/\∀ s∈K,s∈zhT m
def zhw.next {w0 W W':World}{b:Nat}{m:zaj}(h:zhw w0 b m W)(hg:W.grownBy W' none):zhw w0 b m W':=by
 obtain⟨h1,K,h2,h3,h4⟩:=h;exact⟨World.grownBy.trans h1 (zfQ hg),K,h2.kept hg (by simp),h3,h4⟩
structure zox (w0:World)(b kv bx wv:Nat)(m:zaj)(u:Value):Prop where
 hkv:w0.heap[kv]?=some (.cells #[.map (some b)] 90 (0,0))
 hbx:zas w0 bx m u
 hwv:w0.heap[wv]?=some (.cells #[.func (.func 109) #[] #[.pointer (some ⟨kv,0,none⟩),.pointer (some ⟨bx,0,none⟩)]] 87 (0,0))
 ne:kv≠b/\bx≠b/\wv≠b
def zox.at_ {w0 W:World}{b kv bx wv:Nat}{m:zaj}{u:Value}(h:zox w0 b kv bx wv m u)(hg:w0.grownBy W (some b)):zox W b kv bx wv m u :=
 ⟨(hg.block _ (lt_of_block h.hkv) (by simpa using h.ne.1)).trans h.hkv,(hg.block _ h.hbx.lt (by simpa using h.ne.2.1)).trans h.hbx,(hg.block _ (lt_of_block h.hwv) (by simpa using h.ne.2.2)).trans h.hwv,h.ne⟩
def zyt {k:Int}{a:ByteArray}(ha:a.size<=maxLen):VB 110 k a (wgtB k a):=by
 rcases zDM k a with⟨v,h⟩|h;rw[zlH h];exact zyh h
 have hB:wgtB k a=false:=by
  cases hb:wgtB k a;rfl;obtain⟨v,hv⟩:=zlI hb;have:=h v hv.1;rw[hv.2] at this;cases this
 rw[hB];exact zAZ h ha
def zsY:Enters 111:=enters_of func111 (by kernel_rfl) rfl
def zxb:Enters 108:=enters_of func108 (by kernel_rfl) rfl
def zlW {w0 W:World}{b kv bx wv:Nat}{m:zaj}{u:Value}{s:ByteArray}(hw:zox w0 b kv bx wv m u)(zI:zhw w0 b m W)(hs:s∈zhT m)(hz:s.size<=maxLen)(hl:(zhT m).length<=100000) :
  Calls prog 109 #[.string s,.pointer (some ⟨kv,0,none⟩),.pointer (some ⟨bx,0,none⟩)] W (zuT (zhw w0 b m) (some b) (wgtB m.kind s) W):=by
 obtain⟨hg,K,hK,hnd,hsub⟩:=zI;have HB:=zHd (hw.at_ hg);have HW:=zHd hw;have hlk:=hK.look_ok hz;have HSW:=zHd (zyt (k:=m.kind) hz);obtain⟨x0,_⟩:=one_cell HB.out.hkv;obtain⟨y0,_,_,_⟩:=HB.out.hbx.cells;have HG:=zHd hg;have HK:=zHd hK;have HND:=zHd hnd;have HSUB:=zHd hsub;have HS:=zHd hs;clear hw hg hK hnd hsub hs
 by_cases hm:s∈K
 ·rw[decide_eq_true hm] at hlk
  simp only[Bool.true_and] at hlk;clear hm;go_enter func109,ntmps109;go_wp2;go_ret;exact⟨rfl,⟨HG.out,K,HK.out,HND.out,HSUB.out⟩,World.grownBy.refl _ _⟩
 have HM:=zHd hm;rw[zqcb hm] at hlk;simp only[Bool.false_and] at hlk;clear hm;go_enter func109,ntmps109;go_wp2_with fail;refine(HSW.out _).mono ?_;rintro e w1 ⟨rfl,hg1⟩;have HG1:=zHd hg1;have hK1:=HK.out.kept hg1 (by simp);obtain⟨w2,hst,hK2,hg2⟩:=hK1.store hz HM.out (by have:=List.Nodup.length_le_of_subset (l₁:=K) (l₂:=zhT m) HND.out HSUB.out;unfold maxLen;omega);have HK2:=zHd hK2;have HG2:=zHd hg2;have z0:=(one_cell (HB.out.at_ (zfQ hg1)).hkv).1;clear hK1 hK2 hg1 hg2 x0 y0 hlk;go_wp2;go_ret;have hgg:=World.grownBy.trans (zfQ (r:=some b) HG1.out) HG2.out;refine⟨rfl,⟨World.grownBy.trans HG.out hgg,K++[s],HK2.out,?_,?_⟩,hgg⟩
 ·rw[List.nodup_append]
  exact⟨HND.out,by simp,fun a ha c hc e=>by simp at hc;subst hc;subst e;exact HM.out ha⟩
 intro t ht;rcases zqbo.1 ht with h|h;exact HSUB.out t h;simp at h;subst h;exact HS.out
def zih (x a b:Int)(w:World):Calls prog 106 #[.int .i64 x,.int .i64 a,.int .i64 b] w fun e w'=>e=.returned (.bool (decide (a<=x)&&decide (x<=b)))/\w'=w:=by
 by_cases h1:a<=x
 ·by_cases h2:x<=b
  ·rw[decide_eq_true h1,decide_eq_true h2]
   go_enter func106,ntmps106;exact zQaB
  rw[decide_eq_true h1,zqcb h2];go_enter func106,ntmps106;exact zQaB
 rw[zqcb h1];go_enter func106,ntmps106;exact zQaB
def znA (n:Nat)(a:zaI):Bool:=(decide (0<=a.i)&&decide (a.i<=500))&&((decide (0<=a.o)&&decide (a.o<=500))&&(decide (0<=a.t)&&decide (a.t<=(n:Int)-1)))
def zFs {W:World}{b n:Nat}{a:zaI}(hc:W.heap[b]?=some (.cells #[.int .i64 (n:Int)] 3 (0,0)))(hn:n<=3000) :
  Calls prog 108 #[.agg #[.int .i64 a.i,.int .i64 a.o,.string a.w,.int .i64 a.t],.pointer (some ⟨b,0,none⟩)] W (zab (.bool (znA n a)) W):=by
 have h1:=zih a.i 0 500;have h2:=zih a.o 0 500;have h3:=zih a.t 0 ((n:Int)-1);unfold znA;have hb:b<W.heap.size:=lt_of_block hc;have hg:=zGA W (.cells #[.int .i64 a.i,.int .i64 a.o,.string a.w,.int .i64 a.t] 45) none;obtain⟨x0,_⟩:=one_cell ((hg.block b hb (by simp)).trans hc);have n1:IntKind.i64.wrap ((n:Int)-1)=(n:Int)-1:=by rw[zqah];omega
 have HG:=zHd hg;clear hg hc;generalize (decide (0<=a.i)&&decide (a.i<=500))=p1 at h1 ⊢;generalize (decide (0<=a.o)&&decide (a.o<=500))=p2 at h2 ⊢;generalize (decide (0<=a.t)&&decide (a.t<=(n:Int)-1))=p3 at h3 ⊢;have H1:=zHd h1;have H2:=zHd h2;have H3:=zHd h3;clear h1 h2 h3;go_enter func108,ntmps108;go_wp2_with fail;refine(H1.out _).mono ?_;rintro e w1 ⟨rfl,rfl⟩;cases p1
 ·go_wp2
  exact zQbJ
 go_wp2_with fail;refine(H2.out _).mono ?_;rintro e w1 ⟨rfl,rfl⟩;cases p2
 ·go_wp2
  exact zQbJ
 go_wp2_with fail;refine(H3.out _).mono ?_;rintro e w1 ⟨rfl,rfl⟩;cases p3
 all_goals
  go_wp2;exact zQbJ
open Go.RowKit Go.Maps
noncomputable def fitsB (m:zaj):Bool:=decide (m.states.length<=3000)&&((decide (0<=m.start)&&decide (m.start<=(m.states.length:Int)-1))&&(decide (zap m.states<=30000)&&ziI (znA m.states.length) m))
def zlX (w:World)(o:Array Value)(t:TypeId):(w.alloc (.cells o t)).heap[w.heap.size]?=some (.cells o t (0,0)):=by
 exact zQaV
def zoU {M:Nat}:∀ {l:List zah},(∀ s∈l,s.arcs.length<=M)->zap l<=l.length*M
 | [],_=>by simp[zap]
 | s::l,h=>by
  have h1:=h s (by simp);have h2:=zoU (l:=l) (fun t ht=>h t (by simp[ht]));have e:zap (s::l)=s.arcs.length+zap l:=by unfold zap;simp
  rw[e,zqbu,Nat.succ_mul];omega
def zBI {w0:World}{F:Nat}{lb:Array Value}{m:zaj}{P:zaI->Bool}(h:∀ (W:World) (s:zah) (a:zaI),w0.grownBy W none->s∈m.states->a∈s.arcs->Calls prog F (#[.agg #[.int .i64 a.i,.int .i64 a.o,.string a.w,.int .i64 a.t]]++lb) W (zab (.bool (P a)) W)) :
  Says (fun W=>w0.grownBy W none) none F lb m P:=fun W s a hI hs ha=>(h W s a hI hs ha).mono fun e w' ⟨h1,h2⟩=>⟨h1,zaa hI h2,h2⟩
def zIH {w:World}{v:Value}{m:zaj}(hv:zbJ w v m)(hf:zdD m):Calls prog 81 #[v] w (zab (.bool (fitsB m)) w):=by
 obtain⟨u,rfl,hst0⟩:=hv;obtain⟨A,cap,us,rfl,hS0⟩:=zeg.of hst0;have hg1:w.grownBy (w.alloc (.cells #[.int .i64 m.kind,.int .i64 m.start,.string m.lead,.slice A m.states.length cap] 24)) none:=zGA _ _ _;have hg2:=zGA (w.alloc (.cells #[.int .i64 m.kind,.int .i64 m.start,.string m.lead,.slice A m.states.length cap] 24)) (.cells #[.int .i64 (m.states.length:Int)] 3) none;have hbx:=(zas.new w m (.slice A m.states.length cap)).grown hg2;have hvr:=zlX (w.alloc (.cells #[.int .i64 m.kind,.int .i64 m.start,.string m.lead,.slice A m.states.length cap] 24)) #[.int .i64 (m.states.length:Int)] 3;rw[show(w.alloc (.cells #[.int .i64 m.kind,.int .i64 m.start,.string m.lead,.slice A m.states.length cap] 24)).heap.size=w.heap.size+1 by simp] at hvr;have HG:=zHd (zaa hg1 hg2);have HS:=zHd hS0;have HBX:=zHd hbx;have HVR:=zHd hvr;have HF:=zHd hf;have hn0:=hf.n;have hwi:=zih m.start 0 ((m.states.length:Int)-1);have HWI:=zHd hwi;obtain⟨x0,x1,x2,x3⟩:=hbx.cells;obtain⟨y0,_⟩:=one_cell hvr;clear hst0 hS0 hg1 hg2 hbx hvr hf hwi;have n1:IntKind.i64.wrap ((m.states.length:Int)-1)=(m.states.length:Int)-1:=by rw[zqah];omega
 by_cases c1:m.states.length<=3000
 ·have n2:¬ (3000:Int)<(m.states.length:Int):=by omega
  go_enter func81,ntmps81;go_wp2_with fail;refine(HWI.out _).mono ?_;rintro e w1 ⟨rfl,hw1⟩;cases hp:(decide (0<=m.start)&&decide (m.start<=(m.states.length:Int)-1))
  ·have HN:Hid (fitsB m=false):=zHd (by unfold fitsB;rw[hp];simp)
   clear hp;subst hw1;go_wp2;go_ret;exact⟨by rw[HN.out];rfl,HG.out⟩
  have HP:=zHd hp;clear hp;subst hw1;generalize hW:(w.alloc (.cells #[.int .i64 m.kind,.int .i64 m.start,.string m.lead,.slice A m.states.length cap] 24)).alloc (.cells #[.int .i64 (m.states.length:Int)] 3)=W at *;clear hW;go_wp2;have HC1:=zHd c1;clear x0 x1 x2 x3 y0 n2
  go_loopw [4,23] (fun n i wr=>∃ k:Nat,i=.int .i64 k/\n=.int .i64 (zap (m.states.take k):Int)/\k<=m.states.length/\W.grownBy wr none) (fun _ i _=>m.states.length-(intOf i).toNat)
  case atStart=>exact⟨0,rfl,rfl,by omega,zae _ _⟩
  case round =>
   obtain⟨k,rfl,rfl,hk,hgr⟩:=hrel;have HGR:=zHd hgr;have HGR0:=zHd (zaa HG.out hgr);clear hgr
   by_cases hlt:k<m.states.length
   ·obtain⟨ad,s,B,cb,hA,hs,hu,hc,hra⟩:=(HS.out.grown HGR0.out).at_ hlt
    subst hA;obtain⟨z0,z1⟩:=hc;have hal:=HF.out.arcs s (zqak hs);have htk:=zcA hs;have hsn:zap (m.states.take (k+1))=zap (m.states.take k)+s.arcs.length:=(by rw[htk,zhs]);have hb:=zoU (l:=m.states.take k) (M:=140737488355328) (fun t ht=>HF.out.arcs t (zqau ht));have hb2:zap (m.states.take k)<=3000*140737488355328:=zqam hb (Nat.mul_le_mul_right _ (by rw[zqan];omega));have n2:(k:Int)<(m.states.length:Int):=(by omega);have n3:IntKind.i64.wrap ((k:Int)+1)=(k:Int)+1:=(by rw[zqah];omega);have n4:IntKind.i64.wrap ((zap (m.states.take k):Int)+(s.arcs.length:Int))=(zap (m.states.take (k+1)):Int):=(by rw[zqah];omega);clear hs hu hra hal htk hb hb2;generalize hq:zap (m.states.take (k+1))=q at *;have HQ:=zHd hq;clear hq hsn;go_wp2
    go_roundw
    case rel=>exact⟨k+1,by go_num,by rw[HQ.out],by omega,zaa HGR.out (zGA _ _ _)⟩
    case measure=>simp[intOf];omega
   have hk2:m.states.take k=m.states:=zqaf (by omega);rw[hk2];have n2:¬ (k:Int)<(m.states.length:Int):=by omega
   by_cases c2:zap m.states<=30000
   ·have n3:(zap m.states:Int)<=30000:=by omega
    have HC2:=zHd c2;obtain⟨x0,x1,x2,x3⟩:=(HBX.out.grown HGR.out).cells
    have hall:=zzF (w:=wr) (A:=A) (cap:=cap) (us:=us) (m:=m) (Inv:=fun W'=>wr.grownBy W' none) (r:=none) (F:=108) (lb:=#[.pointer (some ⟨w.heap.size+1,0,none⟩)]) (P:=znA m.states.length) zxb
     (fun W1 W2 h1 h2=>zaa h1 h2) (fun W1 h1=>HS.out.grown (zaa HGR0.out h1)) (fun k e=>by cases e) (zae _ _)
     (zBI (fun W1 s a hI hs ha=>zFs (((zaa HGR.out hI).block _ (lt_of_block HVR.out) (by simp)).trans HVR.out) HC1.out)) HF.out.n HF.out.arcs
    have HALL:=zHd hall;clear c2 hall;go_wp2_with fail;refine HALL.out.mono ?_;rintro e w2 ⟨rfl,_,hg2⟩;have HE:Hid (fitsB m=ziI (znA m.states.length) m):=zHd (by unfold fitsB;rw[decide_eq_true HC1.out,HP.out,decide_eq_true HC2.out];rfl);have HG2:=zHd (zaa HGR0.out hg2);clear hg2;cases hb:ziI (znA m.states.length) m
    all_goals
     rw[hb] at HE;clear hb;go_wp2;go_ret;exact⟨by rw[HE.out];rfl,HG2.out⟩
   have n3:¬ (zap m.states:Int)<=30000:=by omega
   have HN:Hid (fitsB m=false):=zHd (by unfold fitsB;rw[zqcb c2];simp);clear c2;go_wp2;go_ret;exact⟨by rw[HN.out];rfl,HGR0.out⟩
 have n2:(3000:Int)<(m.states.length:Int):=by omega
 have HN:Hid (fitsB m=false):=zHd (by unfold fitsB;rw[zqcb c1];rfl);clear c1;go_enter func81,ntmps81;go_wp2;go_ret;exact⟨by rw[HN.out];rfl,HG.out⟩
open Go.RowKit Go.Maps
noncomputable def weighedB (m:zaj):Bool:=m.states.all (fun s=>finB m.kind s.fin)&&(wgtB m.kind m.lead&&ziI (fun a=>wgtB m.kind a.w) m)
def zII {k:Int}{a:ByteArray}(h:wgtB k a=true):zcY k=true:=by
 obtain⟨v,hv⟩:=zlI h;have:=hv.2;cases hk:zcY k
 ·exfalso
  unfold zcY at hk;simp at hk;obtain⟨h1,h2,h3⟩:=hk;cases v with
  | inl b=>cases b <;> simp[zfc] at this
  | inr x=>simp[zfc,h1,h2,h3] at this
 rfl
def zyu (m:zaj):validB m=(fitsB m&&weighedB m):=by
 rw[Bool.eq_iff_iff];unfold validB headB fitsB weighedB ziI;simp only[zqbb,zqca,List.all_eq_true];constructor
 ·rintro ⟨⟨⟨⟨h1,h2,h3,h4,h5⟩,h6⟩,h7⟩,h8⟩
  have hp:=fun s hs=>zfq (h8 s hs);refine⟨⟨h3,⟨h4,by omega⟩,h7,fun s hs a ha=>?_⟩,fun s hs=>(hp s hs).1,h6,fun s hs a ha=>?_⟩
  ·have:=zgW ((hp s hs).2 a ha)
   unfold znA;simp only[zqbb,zqca];omega
  exact(zgW ((hp s hs).2 a ha)).2.2.2.2.2.2
 rintro ⟨⟨h3,⟨h4,h5⟩,h7,h8⟩,h9,h6,h10⟩;refine⟨⟨⟨⟨zII h6,by omega,h3,h4,by omega⟩,h6⟩,h7⟩,fun s hs=>?_⟩;unfold stB6;simp only[zqbb,List.all_eq_true];refine⟨h9 s hs,fun a ha=>?_⟩;have h1:=h8 s hs a ha;have h2:=h10 s hs a ha;unfold znA at h1;unfold arcB;simp only[zqbb,zqca] at h1 ⊢;exact⟨by omega,h2⟩
def ziz (w:World)(m:zaj)(u:Value):World :=
 (((w.alloc (.cells #[.int .i64 m.kind,.int .i64 m.start,.string m.lead,u] 24)).alloc (.map #[] 0)).alloc (.cells #[.map (some (w.heap.size+1))] 90)).alloc (.cells #[.func (.func 109) #[] #[.pointer (some ⟨w.heap.size+2,0,none⟩),.pointer (some ⟨w.heap.size,0,none⟩)]] 87)
def zBJ (w:World)(m:zaj)(u:Value):zox (ziz w m u) (w.heap.size+1) (w.heap.size+2) w.heap.size (w.heap.size+3) m u/\zhS (ziz w m u) (w.heap.size+1) m.kind []/\w.grownBy (ziz w m u) none:=by
 unfold ziz;have b1:=zas.new w m u;have g1:w.grownBy (w.alloc (.cells #[.int .i64 m.kind,.int .i64 m.start,.string m.lead,u] 24)) none:=zGA _ _ _;have e1:(w.alloc (.cells #[.int .i64 m.kind,.int .i64 m.start,.string m.lead,u] 24)).heap.size=w.heap.size+1:=by simp
 generalize w.alloc (.cells #[.int .i64 m.kind,.int .i64 m.start,.string m.lead,u] 24)=W1 at *;have k2:=zhS.made W1 m.kind;rw[e1] at k2;have g2:W1.grownBy (W1.alloc (.map #[] 0)) none:=zGA _ _ _;have e2:(W1.alloc (.map #[] 0)).heap.size=w.heap.size+2:=by simp[e1]
 generalize W1.alloc (.map #[] 0)=W2 at *;have c3:=zlX W2 #[.map (some (w.heap.size+1))] 90;rw[e2] at c3;have g3:W2.grownBy (W2.alloc (.cells #[.map (some (w.heap.size+1))] 90)) none:=zGA _ _ _;have e3:(W2.alloc (.cells #[.map (some (w.heap.size+1))] 90)).heap.size=w.heap.size+3:=by simp[e2]
 generalize W2.alloc (.cells #[.map (some (w.heap.size+1))] 90)=W3 at *;have c4:=zlX W3 #[.func (.func 109) #[] #[.pointer (some ⟨w.heap.size+2,0,none⟩),.pointer (some ⟨w.heap.size,0,none⟩)]] 87;rw[e3] at c4;have g4:=zGA W3 (.cells #[.func (.func 109) #[] #[.pointer (some ⟨w.heap.size+2,0,none⟩),.pointer (some ⟨w.heap.size,0,none⟩)]] 87) none;exact⟨⟨(g4.block _ (by omega) (by simp)).trans c3,((b1.grown g2).grown g3).grown g4,c4,by omega,by omega,by omega⟩,(k2.kept (zaa g3 g4) (by simp)),zaa g1 (zaa g2 (zaa g3 g4))⟩
def zIJ (w:World):(Instr.makeMap 90 none).run prog w=.ok (.map (some w.heap.size)) (w.alloc (.map #[] 0)):=by
 simp only[Instr.makeMap,Sem.run_bind,run_underlying underlying90,Result.andThen];rfl
def zyv {w0 W:World}{b kv bx wv:Nat}{m:zaj}{u:Value}{s:zah}{a:zaI}(hw:zox w0 b kv bx wv m u)(zI:zhw w0 b m W)(hs:s∈m.states)(ha:a∈s.arcs)(hf:zdD m)(hl:(zhT m).length<=100000) :
  Calls prog 111 #[.agg #[.int .i64 a.i,.int .i64 a.o,.string a.w,.int .i64 a.t],.pointer (some ⟨wv,0,none⟩)] W (zuT (zhw w0 b m) (some b) (wgtB m.kind a.w) W):=by
 have hg:=zGA W (.cells #[.int .i64 a.i,.int .i64 a.o,.string a.w,.int .i64 a.t] 45) none;have hinv2:=zI.next hg;have HC:=zHd (zlW hw hinv2 (zIG hs ha) (hf.w s hs a ha) hl);have HG:=zHd hg;obtain⟨x0,_⟩:=one_cell (hw.at_ hinv2.1).hwv;clear hinv2 hg hw zI;go_enter func111,ntmps111;go_wp2_with fail;refine HC.out.mono ?_;rintro e w2 ⟨rfl,hi,hg2⟩;have HI:=zHd hi;have HG2:=zHd hg2;clear hi hg2;go_wp2;go_ret;exact⟨rfl,HI.out,World.grownBy.trans (zfQ HG.out) HG2.out⟩
def zBK {m:zaj}{k:Nat}(hk:¬ k<m.states.length)(h:∀ (j:Nat) (s:zah),j<k->m.states[j]?=some s->finB m.kind s.fin=true):m.states.all (fun s=>finB m.kind s.fin)=true:=by
 rw[List.all_eq_true];intro s hs;obtain⟨j,hj⟩:=List.mem_iff_getElem?.1 hs;exact h j s (by have:=(zqae.1 hj).1;omega) hj
def zsZ {m:zaj}{k:Nat}{s:zah}(hs:m.states[k]?=some s)(h:finB m.kind s.fin=false):weighedB m=false:=by
 unfold weighedB;rw[show m.states.all (fun s=>finB m.kind s.fin)=false from ?_,Bool.false_and];cases hx:m.states.all (fun s=>finB m.kind s.fin);rfl;have:=List.all_eq_true.1 hx s (zqak hs);rw[this] at h;cases h
def zyw {w:World}{v:Value}{m:zaj}(hv:zbJ w v m)(hf:zdD m)(hl:(zhT m).length<=100000):Calls prog 82 #[v] w (zab (.bool (weighedB m)) w):=by
 obtain⟨u,rfl,hst0⟩:=hv;obtain⟨A,cap,us,rfl,hS0⟩:=zeg.of hst0;obtain⟨hb,hk,hg⟩:=zBJ w m (.slice A m.states.length cap);have HS:=zHd hS0;have HB:=zHd hb;have HG:=zHd hg;have HF:=zHd hf;have HL:=zHd hl;have H0:Hid (zhw (ziz w m (.slice A m.states.length cap)) (w.heap.size+1) m (ziz w m (.slice A m.states.length cap))):=zHd ⟨World.grownBy.refl _ _,[],hk,List.nodup_nil,fun s hs=>by simp at hs⟩;have hmk:=zIJ;have hn0:=hf.n;have hn1:m.states.length<=100000:=by have:=zxa m;omega
 obtain⟨x0,x1,x2,x3⟩:=hb.hbx.cells;obtain⟨y0,_⟩:=one_cell hb.hwv;clear hst0 hS0 hb hk hg hf hl;go_enter func82,ntmps82;go_wp2_with fail;have hW:ziz w m (.slice A m.states.length cap)=(((w.alloc (.cells #[.int .i64 m.kind,.int .i64 m.start,.string m.lead,.slice A m.states.length cap] 24)).alloc (.map #[] 0)).alloc (.cells #[.map (some (w.heap.size+1))] 90)).alloc (.cells #[.func (.func 109) #[] #[.pointer (some ⟨w.heap.size+2,0,none⟩),.pointer (some ⟨w.heap.size,0,none⟩)]] 87):=rfl;rw[<- hW];clear hW;generalize ziz w m (.slice A m.states.length cap)=W at *;have BEL:∀ W',zhw W (w.heap.size+1) m W'->Below w.heap.size w W':=fun W' h=>(zbb HG.out).grown h.1 HG.out.size (fun k e=>by cases e;omega);have HBEL:=zHd BEL;clear BEL
 go_loopw [12] (fun i wr=>∃ k:Nat,i=.int .i64 k/\k<=m.states.length/\(∀ (j:Nat) (s:zah),j<k->m.states[j]?=some s->finB m.kind s.fin=true)/\zhw W (w.heap.size+1) m wr) (fun i _=>m.states.length-(intOf i).toNat)
 case atStart=>exact⟨0,rfl,by omega,fun j s hj=>by omega,H0.out⟩
 case round =>
  obtain⟨k,rfl,hk,hall,zI⟩:=hrel;have HALL:=zHd hall;have zi:=zHd zI;have HB2:=zHd (HB.out.at_ zI.1);clear hall x0 x1 x2 x3 y0;obtain⟨x0,x1,x2,x3⟩:=HB2.out.hbx.cells;obtain⟨y0,_⟩:=one_cell HB2.out.hwv
  by_cases hlt:k<m.states.length
  ·obtain⟨ad,s,B,cb,hA,hs,hu,hc,hra⟩:=(HS.out.below (HBEL.out _ zI)).at_ hlt
   subst hA;obtain⟨z0,z1⟩:=hc;have n1:(k:Int)<(m.states.length:Int):=by omega
   have n2:IntKind.i64.wrap ((k:Int)+1)=(k:Int)+1:=by rw[zqah];omega
   have HSS:=zHd hs;have hinv2:=zI.next (zGA wr (.cells #[.string s.fin,.slice B s.arcs.length cb] 40) none);have HINV2:=zHd hinv2;have y1:=(one_cell (HB.out.at_ hinv2.1).hwv).1;clear hu hra zI hinv2
   by_cases hf0:s.fin.size=0
   ·have hfb:finB m.kind s.fin=true:=by unfold finB;simp[hf0]
    have b1:(s.fin.toList==[])=true:=(by rw[Lib.toList_data,beq_iff_eq,<- List.length_eq_zero_iff,zqbs];exact hf0);have b2:(s.fin.toList != [])=false:=zla b1;have HFB:=zHd hfb;clear hfb hs;go_wp2
    go_roundw
    case rel=>exact⟨k+1,by go_num,by omega,fun j t hj ht=>by
     by_cases e:j=k
     subst e;rw[HSS.out] at ht;cases ht;exact HFB.out;exact HALL.out j t (by omega) ht,HINV2.out⟩
    case measure=>simp[intOf];omega
   have b1:(s.fin.toList==[])=false:=by
    cases h:(s.fin.toList==[]);rfl;exact zQbb
   have b2:(s.fin.toList != [])=true:=zfK b1;have hfb:finB m.kind s.fin=wgtB m.kind s.fin:=(by unfold finB;simp[hf0]);have HFB:=zHd hfb;have HC:=zHd (zlW HB.out HINV2.out (zIF (zqak hs)) (HF.out.fin s (zqak hs)) HL.out);clear hfb hs;go_wp2_with fail;refine HC.out.mono ?_;rintro e w5 ⟨rfl,hinv5,hg5⟩;have HINV5:=zHd hinv5;have HG5:=zHd ((HBEL.out _ hinv5));clear hinv5 hg5;cases hwb:wgtB m.kind s.fin
   ·have HN:=zHd (zsZ HSS.out (HFB.out.trans hwb))
    exact zQcb
   have HF1:=zHd (HFB.out.trans hwb);clear hwb;go_wp2
   go_roundw
   case rel=>exact⟨k+1,by go_num,by omega,fun j t hj ht=>by
    by_cases e:j=k
    subst e;rw[HSS.out] at ht;cases ht;exact HF1.out;exact HALL.out j t (by omega) ht,HINV5.out⟩
   case measure=>simp[intOf];omega
  have n1:¬ (k:Int)<(m.states.length:Int):=by omega
  have HFI:=zHd (zBK hlt HALL.out);have HC:=zHd (zlW HB.out zI (show m.lead∈zhT m from zqbm ..) HF.out.lead HL.out);clear zI;go_wp2_with fail;refine HC.out.mono ?_;rintro e w5 ⟨rfl,hinv5,hg5⟩;have HINV5:=zHd hinv5;have HG5:=zHd ((HBEL.out _ hinv5));clear x0 x1 x2 x3 y0;obtain⟨x0,x1,x2,x3⟩:=(HB.out.at_ hinv5.1).hbx.cells;clear hinv5 hg5;cases hwb:wgtB m.kind m.lead
  ·have HN:Hid (weighedB m=false):=zHd (by unfold weighedB;rw[hwb];simp)
   exact zQcb
  have HE:Hid (weighedB m=ziI (fun a=>wgtB m.kind a.w) m):=zHd (by unfold weighedB;rw[hwb,HFI.out];rfl)
  have hall:=zzF (w:=w5) (A:=A) (cap:=cap) (us:=us) (m:=m) (Inv:=zhw W (w.heap.size+1) m) (r:=some (w.heap.size+1)) (F:=111) (lb:=#[.pointer (some ⟨w.heap.size+3,0,none⟩)]) (P:=fun a=>wgtB m.kind a.w) zsY
   (fun W1 W2 h1 h2=>h1.next h2) (fun W1 h1=>HS.out.below (HBEL.out _ h1)) (fun k e=>by cases e;have:=HB.out.hwv;have:=lt_of_block this;have:=HINV5.out.1.size;omega) HINV5.out
   (fun W1 s a hI hs ha=>zyv HB.out hI hs ha HF.out HL.out) HF.out.n HF.out.arcs
  have HA:=zHd hall;clear hall hwb;go_wp2_with fail;refine HA.out.mono ?_;rintro e w6 ⟨rfl,hinv6,hg6⟩;have HG6:=zHd (HBEL.out _ hinv6);clear hinv6 hg6;cases hb:ziI (fun a=>wgtB m.kind a.w) m
  all_goals
   rw[hb] at HE;clear hb;go_wp2;go_ret;exact⟨by rw[HE.out];rfl,zbe HG6.out⟩
def zxc {w:World}{v:Value}{m:zaj}(hv:zbJ w v m)(hf:zdD m)(h:fitsB m=true):Calls prog 82 #[v] w (zab (.bool (weighedB m)) w):=by
 refine zyw hv hf ?_;unfold fitsB at h;simp only[zqbb,zqca] at h;rw[zxa];omega
def zrw {w:World}{v:Value}{m:zaj}(hv:zbJ w v m)(hf:zdD m):Calls prog 43 #[v] w (zab (.bool (validB m)) w):=by
 have zf:=fun w' (h:w.grownBy w' none)=>zIH (hv.grown h) hf;have hwei:=fun w' (h:w.grownBy w' none)=>zxc (hv.grown h) hf;have HSP:=zHd (zyu m);obtain⟨u,rfl,hst0⟩:=hv;have hg:w.grownBy (w.alloc (.cells #[.int .i64 m.kind,.int .i64 m.start,.string m.lead,u] 24)) none:=zGA _ _ _;have hbx:=zas.new w m u;have HFI:=zHd zf;have HWE:=zHd hwei;have HBX:=zHd hbx;have HG:=zHd hg;obtain⟨x0,x1,x2,x3⟩:=hbx.cells;clear zf hwei hbx hg hst0;go_enter func43,ntmps43;go_wp2_with fail;refine(HFI.out _ HG.out).mono ?_;rintro e w1 ⟨rfl,hg1⟩;generalize hW:w.alloc (.cells #[.int .i64 m.kind,.int .i64 m.start,.string m.lead,u] 24)=W at *;clear hW x0 x1 x2 x3;have HG1:=zHd (zaa HG.out hg1);obtain⟨x0,x1,x2,x3⟩:=(HBX.out.grown hg1).cells;clear hg1;cases hB:fitsB m
 ·have HN:Hid (validB m=false):=zHd (by rw[HSP.out,hB];rfl)
  clear hB;go_wp2;go_ret;exact⟨by rw[HN.out];rfl,HG1.out⟩
 have HB:=zHd hB;clear hB;go_wp2_with fail;refine(HWE.out _ HG1.out HB.out).mono ?_;rintro e w2 ⟨rfl,hg2⟩;have HG2:=zHd (zaa HG1.out hg2);clear hg2;cases hB:weighedB m
 all_goals
  have HE:Hid (validB m=_):=zHd ((HSP.out.trans (by rw[HB.out,hB])));clear hB;go_wp2;go_ret;exact⟨by rw[HE.out];rfl,HG2.out⟩
end Go.Proofs.YtiblmbpfcmcccaaGreatDoor
