/- Part. -/
import Derived.Test.YtadgpgofcjpnjaaGreatDoorZK08
import Derived.Test.YtadgpgofcjpnjaaGreatDoorTie
import Derived.Test.YtadgpgofcjpnjaaGreatDoorCards
import Derived.Deep.DeepHandedRow
set_option linter.unusedVariables false
set_option linter.defProp false
set_option linter.unusedSimpArgs false
set_option maxRecDepth 100000
set_option maxHeartbeats 16000000
namespace Go.Proofs.YtadgpgofcjpnjaaGreatDoor
open Go.Proofs.Tryz
section
open Go.ChangeShapes Go.WideShapes Go.ChangeAt Go.RowKit Go.Lib
def own:ownKnob prog.godebug=none:=by kernel_rfl
def putCells (cs:Array Value):Obj->Obj
 | .cells _ t frozen=>.cells cs t frozen
 | o=>o
mutual
def zub:DataW Unit->List Value
 | .lit (.int k n)=>[.int k n]
 | .agg parts=>zws parts
 | _=>[]
def zws:List (DataW Unit)->List Value
 | []=>[]
 | d::r=>zub d++zws r
end
noncomputable def laidWorld (os:Os):World :=
 { World.holding prog os ⟨#[],#[],[]⟩ with heap:=((World.holding prog os ⟨#[],#[],[]⟩).heap.modify 3 (putCells (zub Rows.laid_unicode_utf8_first).toArray)).modify 4 (putCells (zub Rows.laid_unicode_utf8_acceptRanges).toArray) }
def zei {H:Type}{enc:TypeId×Value->H}{P:Program}{f:Func}{s:ChangeSpec}{apart fresh handsOn:Bool}{W W':World}{args:Array Value}{v:Value}{ds gs:List (DataW H)}{before pa pv:List MemPlace}
  (hW:DataW.Whole enc P f.params.toList s.vars apart W args.toList ds gs before)
  (hres:∀ (b:Nat) (sp:Nat->Bool) (hd:Bool),DataW.TrodAll enc P W' b sp hd f.resultTypes.toList (v.resultList f.resultTypes.size) (s.fn H (ds++gs)).results [])
  (hargs:DataW.TrodAll enc P W' 0 (fun b=>decide (b<W.heap.size)) true f.params.toList args.toList (s.fn H (ds++gs)).args pa)
  (hvars:DataW.TrodVars enc P W' (fun b=>decide (b<W.heap.size)) s.vars (s.fn H (ds++gs)).vars pv)
  (hb:Below W.heap.size W W'):s.post enc P f apart fresh handsOn false W args v W' :=
 ⟨ds,gs,before,[],pa,pv,hW,hres _ _ _,hargs,hvars,hb.frame _,fun h=>by cases h⟩
end
section
open Go.ChangeShapes Go.WideShapes Go.ChangeAt Go.RowKit Go.Lib
def zaT {H:Type}{enc:TypeId×Value->H}{W W':World}{t:TypeId}{v:Value}{d:DataW H}{p:List MemPlace}(hr:prog.readableRec t=true)(zW:t<prog.types.size)
  (h:DataW.Trod enc prog W 0 (fun _=>true) true t v d p) (hb:Below W.heap.size W W') (hlt:∀ x∈p,x.block<W.heap.size) :
  DataW.Trod enc prog W' 0 (fun b=>decide (b<W.heap.size)) true t v d p:=Below.trod (by kernel_rfl) hr zW h hb hlt
end
open Go.RowKit
structure zmI (w:World)(l:List zac)(us:List Value)(A:Option Addr)(c:Nat):Prop where
 len:us.length=l.length
 at_:∀ i,i<l.length->∃ ad s u,A=some ad/\ad.block<w.heap.size/\l[i]?=some s/\us[i]?=some u/\zdS w (ad.add (i*2)) s.fin u/\zco w u s.arcs
def zGm {w:World}{v:Value}{l:List zac}(h:zgE w v l):∃ A c us,v=.slice A l.length c/\zmI w l us A c:=by
 obtain⟨A,c,us,e,hl,hr,ha⟩:=h
 exact⟨A,c,us,e,hl,fun i hi=>by
  obtain⟨ad,s,u,h1,h2,h3,h4,h5⟩:=zfu hr hl hi;exact⟨ad,s,u,h1,h2,h3,h4,h5,ha i s u h3 h4⟩⟩
def zhj {w w':World}(h:w.grownBy w' none):Below w.heap.size w w':=⟨h.os,h.tape,h.output,h.size,fun i hi=>h.block i hi (by simp)⟩
def zmI.grown {w w':World}{l:List zac}{us:List Value}{A:Option Addr}{c:Nat}(h:zmI w l us A c)(hg:w.grownBy w' none):zmI w' l us A c :=
 ⟨h.len,fun i hi=>by
  obtain⟨ad,s,u,h1,h2,h3,h4,h5,h6⟩:=h.at_ i hi;exact⟨ad,s,u,h1,zqba h2 hg.size,h3,h4,h5.below (zhj hg) (by rw[zbx];exact h2),h6.below (zhj hg)⟩⟩
open Go.RowKit
section
variable {k:Int}
def zAS (hk:zam k)(a:ByteArray):∃ x:El k,∀ v,Val k a v->x.1=v:=by
 by_cases h:∃ v,Val k a v
 ·obtain⟨v,hv⟩:=h
  exact⟨⟨v,hv.has⟩,fun u hu=>hv.e.uniq hu.e⟩
 exact⟨(srE k hk).zero,fun v hv=>absurd ⟨v,hv⟩ h⟩
noncomputable def vE (hk:zam k)(a:ByteArray):El k:=Classical.choose (zAS hk a)
def zim (hk:zam k){a:ByteArray}{v:Ext}(h:Val k a v):(vE hk a).1=v:=Classical.choose_spec (zAS hk a) v h
def znH (hk:zam k){a:ByteArray}(h:∃ v,Val k a v):a=tx (vE hk a)/\zav (vE hk a):=by
 obtain⟨v,hv⟩:=h;have e:=zim hk hv;refine⟨by unfold tx;rw[e];exact hv.e.text,?_⟩;show Fits (vE hk a).1;rw[e];have e2:=hv.e;rcases v with(_|_)|x;trivial;trivial;exact e2.short
def zAT (k:Int)(n:Nat)(l:List zaz):Prop:=∀ a∈l,0<=a.t/\a.t<(n:Int)/\∃ v,Val k a.w v
end
open Go.RowKit
section
variable {k:Int}
def stA (l:List zac)(i:Nat):List zaz:=(l[i]?.map (·.arcs)).getD []
def stF (l:List zac)(i:Nat):ByteArray:=(l[i]?.map (·.fin)).getD ⟨#[]⟩
def zeP {l:List zac}{i:Nat}{s:zac}(h:l[i]?=some s):stA l i=s.arcs:=by unfold stA;rw[h];rfl
def zkM {l:List zac}{i:Nat}{s:zac}(h:l[i]?=some s):stF l i=s.fin:=by unfold stF;rw[h];rfl
noncomputable def finE (hk:zam k)(a:ByteArray):El k := @ite _ (a=⟨#[]⟩) (Classical.propDecidable _) (srE k hk).zero (vE hk a)
end
open Go.RowKit
section
variable {A:Nat->Nat->El 2} {k i j n:Nat}
end
open Go.RowKit
def dl:List Rat->Rat
 | []=>1
 | x::l=>(x.den:Rat)*dl l
def bl:List Rat->Rat
 | []=>1
 | x::l=>((x.num:Rat)+(x.den:Rat))*bl l
def sl:List Rat->Rat
 | []=>0
 | x::l=>x+sl l
open Go.RowKit
open Go.RowKit
open Go.Lib (nDigits)
variable {α:Type}
def cs (S:Sr α):List (Nat×α)->Nat->α
 | [],_=>S.zero
 | e::l,y=>if e.1=y then S.add e.2 (cs S l y) else cs S l y
def zwt (S:Sr α)(e:Nat×α)(y:Nat):∀ l,cs S (l++[e]) y=if e.1=y then S.add (cs S l y) e.2 else cs S l y
 | []=>by
  show(if e.1=y then S.add e.2 S.zero else S.zero)=if e.1=y then S.add S.zero e.2 else S.zero
  rw[S.add_comm]
 | x::l=>by
  show(if x.1=y then S.add x.2 (cs S (l++[e]) y) else cs S (l++[e]) y)=if e.1=y then S.add (if x.1=y then S.add x.2 (cs S l y) else cs S l y) e.2 else (if x.1=y then S.add x.2 (cs S l y) else cs S l y)
  rw[zwt S e y l]
  by_cases h1:x.1=y
  ·simp only[h1,if_true]
   by_cases h2:e.1=y
   simp only[h2,if_true];rw[S.add_assoc];simp only[h2,if_false]
  simp only[h1,if_false]
def fins:List (Nat×El 2)->List (Nat×Rat)
 | []=>[]
 | e::l=>match e.2.1 with
  | .inr x=>(e.1,x)::fins l
  | _=>fins l
def wn:Nat->Nat
 | 0=>4
 | t+1=>2*wn t+3
variable {k:Int} {hk:zam k} {A:Nat->Nat->El k} {n:Nat} {M:Nat->List (Nat×El k)}
open Go.RowKit
open Go.Lib (nDigits)
variable {α:Type}
variable {k:Int} {hk:zam k}
variable {A:Nat->Nat->El k} {F:Nat->El k} {n:Nat} {M:Nat->List (Nat×El k)}
open Go.RowKit
open Go.Lib (nDigits decDigits)
variable {α:Type}
def nzL (S:Sr α)[DecidableEq α](f:Nat->α):Nat->List (Nat×α)
 | 0=>[]
 | n+1=>nzL S f n++(if f n=S.zero then [] else [(n,f n)])
def zHw (S:Sr α)[DecidableEq α](f:Nat->α)(y:Nat):∀ {n:Nat},cs S (nzL S f n) y=if y<n then f y else S.zero
 | 0=>rfl
 | n+1=>by
  have ih:=zHw S f y (n:=n)
  by_cases hz:f n=S.zero
  ·have e:nzL S f (n+1)=nzL S f n:=by show nzL S f n++(if f n=S.zero then [] else [(n,f n)])=_;rw[if_pos hz,List.append_nil]
   rw[e,ih]
   by_cases h:y<n
   rw[if_pos h,if_pos (by omega)];rw[if_neg h]
   by_cases h2:y<n+1
   rw[if_pos h2,show y=n by omega,hz];rw[if_neg h2]
  have e:nzL S f (n+1)=nzL S f n++[(n,f n)]:=by show nzL S f n++(if f n=S.zero then [] else [(n,f n)])=_;rw[if_neg hz]
  rw[e,zwt,ih];dsimp only
  by_cases h:n=y
  ·subst h
   rw[if_pos rfl,if_neg (Nat.lt_irrefl _),if_pos (by omega),S.zero_add]
  rw[if_neg h]
  by_cases h2:y<n
  rw[if_pos h2,if_pos (by omega)];rw[if_neg h2,if_neg (by omega)]
instance (k:Int):DecidableEq (El k):=fun u v=>decidable_of_iff (u.1=v.1) ⟨fun h=>Subtype.ext h,fun h=>by rw[h]⟩
open Go.RowKit
section
variable {α:Type}
def Sr.mul_mono2 (S:Sr α)(a b c:α)(h:S.le a b):S.le (S.mul a c) (S.mul b c):=by
 rw[S.mul_comm a c,S.mul_comm b c];exact S.mul_mono a b c h
end
section
variable {A:Nat->Nat->El 2} {n:Nat}
end
open Go.RowKit
variable {α:Type}
structure zgh (S:Sr α)(I:α->Prop):Prop where
 pick:∀ u v,S.add u v=u∨S.add u v=v
 inf:∀ u v,I u->v≠S.zero->I (S.mul u v)
 nz:∀ u v,u≠S.zero->v≠S.zero->S.mul u v≠S.zero
 star:∀ u,S.star u=S.one∨I (S.star u)
 le_inf:∀ u v,I u->S.le u v->I v
 cancel:∀ x c,¬ I x->x≠S.zero->S.le (S.mul x c) x->S.le c S.one
def zjI (S:Sr α)(A:Nat->Nat->α)(l:List Nat)(m:Nat):∀ (p:List Nat) (i:Nat),zcJ S A (i::(p++m::l))=S.mul (zcJ S A (i::(p++[m]))) (zcJ S A (m::l))
 | [],i=>by
  show S.mul (A i m) (zcJ S A (m::l))=S.mul (S.mul (A i m) S.one) (zcJ S A (m::l));rw[S.mul_one]
 | x::p,i=>by
  show S.mul (A i x) (zcJ S A (x::(p++m::l)))=S.mul (S.mul (A i x) (zcJ S A (x::(p++[m])))) (zcJ S A (m::l));rw[zjI S A l m p x,S.mul_assoc]
def zmJ (S:Sr α)(A:Nat->Nat->α){n j:Nat}:∀ (ms:List Nat) (i:Nat),(∀ m∈ms,m<n)->S.le (zcJ S A (i::(ms++[j]))) (el S A n i j)
 | [],i,_=>by
  show S.le (S.mul (A i j) S.one) _;rw[S.mul_one,zgm];exact S.le_add _ _
 | m::ms,i,h=>by
  have ih:=zmJ S A (n:=n) (j:=j) ms m (fun x hx=>h x (zqao _ hx));show S.le (S.mul (A i m) (zcJ S A (m::(ms++[j])))) _;rw[zgm S A n i j];exact S.le_trans _ _ _ (S.mul_mono _ _ (A i m) ih) (S.le_trans _ _ _ (zwB S (fun l=>S.mul (A i l) (el S A n l j)) (h m (zqbm ..))) (S.le_add2 _ _))
section
variable {S:Sr α} {I:α->Prop} {A:Nat->Nat->α}
def zgh.idem (P:zgh S I)(u:α):S.add u u=u:=by rcases P.pick u u with h|h <;> exact h
def zgh.inf2 (P:zgh S I){u v:α}(hv:I v)(hu:u≠S.zero):I (S.mul u v):=by rw[S.mul_comm];exact P.inf v u hv hu
def zgh.way (P:zgh S I):∀ k i j,el S A k i j=S.zero∨I (el S A k i j)∨∃ ms:List Nat,(∀ m∈ms,m<k)/\zcJ S A (i::(ms++[j]))=el S A k i j
 | 0,i,j=>.inr (.inr ⟨[],fun m hm=>by (cases hm),S.mul_one _⟩)
 | k+1,i,j=>by
  show S.add (el S A k i j) (S.mul (S.mul (el S A k i k) (S.star (el S A k k k))) (el S A k k j))=_∨I (S.add (el S A k i j) (S.mul (S.mul (el S A k i k) (S.star (el S A k k k))) (el S A k k j)))∨∃ ms:List Nat,(∀ m∈ms,m<k+1)/\zcJ S A (i::(ms++[j]))=S.add (el S A k i j) (S.mul (S.mul (el S A k i k) (S.star (el S A k k k))) (el S A k k j));rcases P.pick (el S A k i j) (S.mul (S.mul (el S A k i k) (S.star (el S A k k k))) (el S A k k j)) with h|h <;> rw[h]
  ·rcases P.way k i j with h1|h1|⟨ms,h1,h2⟩
   ·exact .inl h1
   exact .inr (.inl h1);exact .inr (.inr ⟨ms,fun m hm=>by have:=h1 m hm;omega,h2⟩)
  rcases P.way k i k with h1|h1|⟨p,h1,h2⟩
  ·rw[h1,S.zero_mul,S.zero_mul];exact .inl rfl
  ·by_cases h3:el S A k k j=S.zero
   ·rw[h3,S.mul_zero];exact .inl rfl
   refine .inr (.inl (P.inf _ _ (P.inf _ _ h1 ?_) h3));intro e;have:=S.star_law (el S A k k k);rw[e] at this;have h4:=S.zero_left this;exact h3 (by rw[<- S.mul_one (el S A k k j),h4,S.mul_zero])
  rcases P.way k k j with g1|g1|⟨q,g1,g2⟩
  ·rw[g1,S.mul_zero];exact .inl rfl
  ·by_cases h3:S.mul (el S A k i k) (S.star (el S A k k k))=S.zero
   ·rw[h3,S.zero_mul];exact .inl rfl
   exact .inr (.inl (P.inf2 g1 h3))
  rcases P.star (el S A k k k) with s|s
  ·rw[s,S.mul_one]
   refine .inr (.inr ⟨p++k::q,fun m hm=>?_,?_⟩)
   ·rcases zqbo.1 hm with hm|hm
    ·have:=h1 m hm;omega
    rcases List.mem_cons.1 hm with rfl|hm
    ·omega
    have:=g1 m hm;omega
   rw[zqbj,List.cons_append,zjI,h2,g2]
  by_cases h3:el S A k i k=S.zero
  ·rw[h3,S.zero_mul,S.zero_mul];exact .inl rfl
  by_cases h4:el S A k k j=S.zero
  ·rw[h4,S.mul_zero];exact .inl rfl
  exact .inr (.inl (P.inf _ _ (P.inf2 s h3) h4))
def zgh.cat0 (P:zgh S I){n m:Nat}(hm:m<n){i:Nat}(hi:i<n)(j:Nat):S.le (S.mul (el S A n i m) (el S A n m j)) (el S A n i j):=by
 have hl:=zjs S A (fun x=>S.mul (A x m) (el S A n m j)) (fun x=>el S A n x j) (n:=n) (fun x hx=>by
  have h1:=S.add_mono _ _ _ _ (zwB S (fun l=>S.mul (A x l) (el S A n l j)) hm) (S.le_refl (sm S n (fun l=>S.mul (A x l) (el S A n l j))));rw[P.idem] at h1;refine S.le_trans _ _ _ h1 ?_;rw[zgm S A n x j];exact S.le_add2 _ _) n (zqab n) i hi
 rw[zar S (g:=fun l=>S.mul (S.mul (el S A n i l) (A l m)) (el S A n m j)) (fun l hl=>by rw[if_pos hl,S.mul_assoc]),<- zir,<- S.add_mul,<- zCa S A n i m] at hl;exact hl
def zgh.cat (P:zgh S I){n m:Nat}(hm:m<n)(i j:Nat):S.le (S.mul (el S A n i m) (el S A n m j)) (el S A n i j):=by
 have e:S.mul (el S A n i m) (el S A n m j)=S.add (S.mul (A i m) (el S A n m j)) (sm S n (fun l=>S.mul (A i l) (S.mul (el S A n l m) (el S A n m j)))):=by
  conv=>lhs;rw[zgm S A n i m]
  rw[S.add_mul,zir];congr 1;exact zar S (fun l _=>S.mul_assoc _ _ _)
 rw[e];have h1:=S.add_mono _ _ _ _ (zwB S (fun l=>S.mul (A i l) (el S A n l j)) hm) (znr S (n:=n) (f:=fun l=>S.mul (A i l) (S.mul (el S A n l m) (el S A n m j))) (g:=fun l=>S.mul (A i l) (el S A n l j)) (fun l hl=>S.mul_mono _ _ _ (P.cat0 hm hl j)));rw[P.idem] at h1;refine S.le_trans _ _ _ h1 ?_;rw[zgm S A n i j];exact S.le_add2 _ _
def zuc:∀ {ms:List Nat},¬ ms.Nodup->∃ p l q r,ms=p++l::(q++l::r)
 | [],h=>absurd List.nodup_nil h
 | m::t,h=>by
  by_cases hm:m∈t
  ·obtain⟨q,r,e⟩:=List.append_of_mem hm
   exact⟨[],m,q,r,by rw[e];rfl⟩
  obtain⟨p,l,q,r,e⟩:=zuc (ms:=t) (fun hn=>h (List.nodup_cons.2 ⟨hm,hn⟩));exact⟨m::p,l,q,r,by rw[e];rfl⟩
def zgh.simple (P:zgh S I){n i j:Nat}(h0:el S A n i j≠S.zero)(hI:¬ I (el S A n i j)):∀ (t:Nat) (ms:List Nat),ms.length<=t->(∀ m∈ms,m<n)->zcJ S A (i::(ms++[j]))=el S A n i j ->
  ∃ ms':List Nat,ms'.Nodup/\(∀ m∈ms',m<n)/\zcJ S A (i::(ms'++[j]))=el S A n i j
 | 0,ms,hl,h,e=>⟨ms,by have:ms=[]:=List.length_eq_zero_iff.1 (by omega);rw[this];exact List.nodup_nil,h,e⟩
 | t+1,ms,hl,h,e=>by
  by_cases hn:ms.Nodup
  exact⟨ms,hn,h,e⟩;obtain⟨p,l,q,r,rfl⟩:=zuc hn;have hl1:l<n:=h l (by simp)
  have e1:zcJ S A (i::(p++l::(q++l::r)++[j]))=S.mul (zcJ S A (i::(p++[l]))) (S.mul (zcJ S A (l::(q++[l]))) (zcJ S A (l::(r++[j])))):=by
   have s1:p++l::(q++l::r)++[j]=p++l::(q++l::(r++[j])):=(by simp);rw[s1,zjI S A (q++l::(r++[j])) l p i,zjI S A (r++[j]) l q l]
  have e2:zcJ S A (i::(p++l::r++[j]))=S.mul (zcJ S A (i::(p++[l]))) (zcJ S A (l::(r++[j]))):=by
   rw[zqbj,List.cons_append,zjI]
  have wa:=zmJ S A (n:=n) (j:=l) p i (fun m hm=>h m (by simp[hm]));have wc:=zmJ S A (n:=n) (j:=l) q l (fun m hm=>h m (by simp[hm]));have wb:=zmJ S A (n:=n) (j:=j) r l (fun m hm=>h m (by simp[hm]))
  have wn:=zmJ S A (n:=n) (j:=j) (p++l::r) i (fun m hm=>h m (by
   rcases zqbo.1 hm with hm|hm;simp[hm];rcases List.mem_cons.1 hm with rfl|hm
   ·simp
   simp[hm]))
  rw[e2] at wn;rw[e1] at e;generalize zcJ S A (i::(p++[l]))=a at *;generalize zcJ S A (l::(q++[l]))=c at *;generalize zcJ S A (l::(r++[j]))=b at *
  have hx:el S A n i l≠S.zero:=fun z=>h0 (by
   rw[z] at wa;rw[<- e,S.zero_of_le wa,S.zero_mul])
  have hy:el S A n l j≠S.zero:=fun z=>h0 (by
   rw[z] at wb;rw[<- e,S.zero_of_le wb,S.mul_zero,S.mul_zero])
  have hxI:¬ I (el S A n i l):=fun z=>hI (P.le_inf _ _ (P.inf _ _ z hy) (P.cat hl1 i j));have hc:=P.cancel _ c hxI hx (S.le_trans _ _ _ (S.mul_mono _ _ _ wc) (P.cat hl1 i l))
  have h1:S.le (S.mul a (S.mul c b)) (S.mul a b):=S.mul_mono _ _ _ (by
   have:=S.mul_mono2 _ _ b hc
   rwa [S.one_mul] at this)
  rw[e] at h1
  refine P.simple h0 hI t (p++l::r) ?_ (fun m hm=>h m (by
   rcases zqbo.1 hm with hm|hm;simp[hm];rcases List.mem_cons.1 hm with rfl|hm
   ·simp
   simp[hm])) (e2.trans (S.le_anti _ _ wn h1))
  rw[zqag,zqbu,zqag,zqbu] at hl;rw[zqag,zqbu];omega
def zAU:∀ {n:Nat} {o:List Nat},o.Nodup->(∀ x∈o,x<n)->o.length<=n
 | n,o,h,hb=>by
  have h2:=List.Nodup.length_le_of_subset (l₁:=o) (l₂:=List.range n) h (fun x hx=>List.mem_range.2 (hb x hx))
  rwa [List.length_range] at h2
def zgh.few (P:zgh S I){n i j:Nat}:el S A n i j=S.zero∨I (el S A n i j)∨∃ ms:List Nat,ms.length<=n/\(∀ m∈ms,m<n)/\zcJ S A (i::(ms++[j]))=el S A n i j:=by
 rcases P.way (A:=A) n i j with h|h|⟨ms,h1,h2⟩;exact .inl h;exact .inr (.inl h)
 by_cases h0:el S A n i j=S.zero
 ·exact .inl h0
 by_cases hI:I (el S A n i j)
 ·exact .inr (.inl hI)
 obtain⟨o,g1,g2,g3⟩:=P.simple h0 hI ms.length ms (zqab _) h1 h2;exact .inr (.inr ⟨o,zAU g1 g2,g2,g3⟩)
end
def zxM (hk:zam 1):zgh (srE 1 hk) (fun v=>v.1=.inl false) where
 pick u v:=by
  rcases zFI u.1 v.1 with h|h;exact .inl (Subtype.ext h);exact .inr (Subtype.ext h)
 inf u v hu hv:=by
  show zcL u.1 v.1=_;rw[show u.1=.inl false from hu];have h:v.1 ≠ .inl true:=fun e=>hv (Subtype.ext e);rcases hv2:v.1 with(_|_)|x
  rfl;exact absurd hv2 h;rfl
 nz u v hu hv e:=by
  have h1:u.1 ≠ .inl true:=fun e=>hu (Subtype.ext e);have h2:v.1 ≠ .inl true:=fun e=>hv (Subtype.ext e);have h3:zcL u.1 v.1=.inl true:=zqbz Subtype.val e;rcases hu2:u.1 with(_|_)|x <;> rcases hv2:v.1 with(_|_)|y <;> rw[hu2,hv2] at h3 <;> first|exact h1 hu2|exact h2 hv2|cases h3
 star u:=by
  by_cases h:zcr u.1 (.inr 0)<0
  exact .inr (if_pos h);exact .inl (Subtype.ext (if_neg h))
 le_inf u v hu h:=by
  have h2:leE v.1 u.1:=h;rw[show u.1=.inl false from hu] at h2;rcases hv:v.1 with(_|_)|x
  rfl;rw[hv] at h2;exact absurd h2 zks;rw[hv] at h2;exact absurd h2 (zgH x)
 cancel x c hI h0 h:=by
  have h2:leE x.1 (zcL x.1 c.1):=h;show leE (.inr 0) c.1;rcases hx:x.1 with(_|_)|q
  exact absurd hx hI;exact absurd (Subtype.ext hx) h0;rcases hc:c.1 with(_|_)|r
  ·rw[hx,hc] at h2;exact absurd h2 (zgH q)
  exact zdu _;rw[hx,hc] at h2;have h3:q<=q+r:=(zcg _ _).1 h2;exact(zcg _ _).2 (by grind)
def zhk (v:El 3):v.1=.inl true∨∃ x,v.1=.inr x/\0<=x:=by
 have h:=v.2;rw[<- zdi] at h;rcases zaP v.1 h with h|⟨x,h,hx⟩
 exact .inl h;exact .inr ⟨x,h,hx⟩
def zxN (hk:zam 3):zgh (srE 3 hk) (fun v=>v.1=.inl true) where
 pick u v:=by
  rcases zwi u.1 v.1 with h|h;exact .inl (Subtype.ext h);exact .inr (Subtype.ext h)
 inf u v hu hv:=by
  show zaX u.1 v.1=_;rw[show u.1=.inl true from hu];rcases zhk v with h|⟨x,h,hx⟩ <;> rw[h]
  exact zcm;exact zbd (fun e=>hv (Subtype.ext (by rw[h,e];rfl)))
 nz u v hu hv e:=by
  have h3:zaX u.1 v.1=.inr 0:=zqbz Subtype.val e;rcases zhk u with h|⟨x,h,hx⟩ <;> rcases zhk v with g|⟨y,g,hy⟩ <;> rw[h,g] at h3
  rw[zcm] at h3;cases h3;rw[zbd (fun e=>hv (Subtype.ext (by rw[g,e];rfl)))] at h3;cases h3;rw[zbm (fun e=>hu (Subtype.ext (by rw[h,e];rfl)))] at h3;cases h3;rw[zbT] at h3;have h4:x*y=0:=Sum.inr.inj h3;rcases Rat.mul_eq_zero.1 h4 with e|e
  exact hu (Subtype.ext (by rw[h,e];rfl));exact hv (Subtype.ext (by rw[g,e];rfl))
 star u:=by
  by_cases h:0<zcr u.1 (.inr 1)
  exact .inr (if_pos h);exact .inl (Subtype.ext (if_neg h))
 le_inf u v hu h:=by
  have h2:leE u.1 v.1:=h;rw[show u.1=.inl true from hu] at h2;rcases zhk v with g|⟨y,g,hy⟩
  exact g;rw[g] at h2;exact absurd h2 (zcV y)
 cancel x c hI h0 h:=by
  have h2:leE (zaX x.1 c.1) x.1:=h;show leE c.1 (.inr 1);rcases zhk x with hx|⟨q,hx,hq⟩
  exact absurd hx hI;have hq0:q≠0:=fun e=>h0 (Subtype.ext (by rw[hx,e];rfl));rcases zhk c with hc|⟨r,hc,hr⟩;rw[hx,hc,zbm hq0] at h2;exact absurd h2 (zcV q);rw[hc];rw[hx,hc,zbT] at h2;have h3:q*r<=q:=(zcg _ _).1 h2;refine(zcg _ _).2 (Rat.not_lt.1 (fun hlt=>?_))
  have hqp:0<q:=by
   rcases Rat.le_iff_lt_or_eq.1 hq with h|h;exact h;exact absurd h.symm hq0
  have:=zof hlt hqp;rw[Rat.mul_comm] at this;exact absurd h3 (Rat.not_le.2 this)
def zrZ {k:Int}{hk:zam k}{A:Nat->Nat->El k}{n w:Nat}(hw:1<=w)(hA:∀ x y,x<n->y<n->zaA w (A x y).1){j:Nat}(hj:j<n):∀ (ms:List Nat) (i:Nat),i<n->(∀ m∈ms,m<n)->zaA ((w+1)*(ms.length+1)+1) (zcJ (srE k hk) A (i::(ms++[j]))).1
 | [],i,hi,_=>(zkt k hw (hA i j hi hj) (zli k)).mono (by rw[List.length_nil];omega)
 | m::ms,i,hi,h=>by
  have hm:=h m (zqbm ..);have ih:=zrZ (hk:=hk) hw hA hj ms m hm (fun x hx=>h x (zqao _ hx));have h1:=zkt k hw (hA i m hi hm) ih;refine zaA.mono h1 ?_;rw[zqbu];have:(w+1)*(ms.length+1+1)=(w+1)*(ms.length+1)+(w+1):=Nat.mul_succ _ _;omega
variable {α:Type}
def zcN (a:zaz):Bool:=decide (a.i=0/\a.o=0)
def zdx (x y:Nat)(a:zaz):Bool:=decide (a.i=(x:Int)/\a.o=(y:Int))
def zcj (ve:ByteArray->α)(l:List zaz):List (Nat×α):=l.map (fun a=>(a.t.toNat,ve a.w))
def wmG (S:Sr α)(ve fe:ByteArray->α)(l:List zac):Wm α where
 n:=l.length
 E i j:=cs S (zcj ve ((stA l i).filter zcN)) j
 T x y i j:=if x=0/\y=0 then S.zero else cs S (zcj ve ((stA l i).filter (zdx x y))) j
 F i:=fe (stF l i)
def zbK (S:Sr α)(ve fe:ByteArray->α)(m:zah)(u v:List Nat):α:=S.mul (ve m.lead) (bk S (wmG S ve fe m.states) u v m.start.toNat)
def noB:ByteArray:=⟨#[]⟩
def zbW (d:Nat)(a:zaz):zaz := { a with t:=a.t+(d:Int) }
def zbu (w:ByteArray)(z:Nat):zaz:=⟨0,0,w,(z:Int)⟩
def zbi (d:Nat):Option Nat->zac->zac
 | none,s=>⟨s.fin,s.arcs.map (zbW d)⟩
 | some z,s=>⟨noB,s.arcs.map (zbW d)++if s.fin=noB then [] else [zbu s.fin z]⟩
def ToOk (l:List zac):Prop:=∀ s∈l,∀ a∈s.arcs,0<=a.t/\a.t<(l.length:Int)
def zfB {α:Type}(S:Sr α)(y:Nat):∀ (l m:List (Nat×α)),cs S (l++m) y=S.add (cs S l y) (cs S m y)
 | [],m=>(S.zero_add _).symm
 | e::l,m=>by
  show(if e.1=y then S.add e.2 (cs S (l++m) y) else cs S (l++m) y)=S.add (if e.1=y then S.add e.2 (cs S l y) else cs S l y) (cs S m y);rw[zfB S y l m];split;rw[S.add_assoc];rfl
section
variable {S:Sr α} {ve fe:ByteArray->α}
def zin (l m:List zaz):zcj ve (l++m)=zcj ve l++zcj ve m:=by unfold zcj;rw[List.map_append]
def zxO (d:Nat)(p:zaz->Bool)(hp:∀ a,p (zbW d a)=p a)(n s:Nat):∀ l:List zaz,(∀ a∈l,0<=a.t/\a.t<(n:Int))->cs S (zcj ve ((l.map (zbW d)).filter p)) s=if d<=s/\s<d+n then cs S (zcj ve (l.filter p)) (s-d) else S.zero
 | [],_=>by split <;> rfl
 | a::l,h=>by
  have ih:=zxO d p hp n s l (fun a ha=>h a (zqao _ ha));obtain⟨h1,h2⟩:=h a (zqbm ..);rw[List.map_cons];cases hpa:p a
  ·rw[List.filter_cons_of_neg (by rw[hp,hpa];simp),List.filter_cons_of_neg (by rw[hpa];simp)]
   exact ih
  rw[List.filter_cons_of_pos (by rw[hp,hpa]),List.filter_cons_of_pos hpa];show(if (zbW d a).t.toNat=s then S.add (ve a.w) (cs S (zcj ve ((l.map (zbW d)).filter p)) s) else cs S (zcj ve ((l.map (zbW d)).filter p)) s)=if _ then (if a.t.toNat=s-d then S.add (ve a.w) (cs S (zcj ve (l.filter p)) (s-d)) else cs S (zcj ve (l.filter p)) (s-d)) else S.zero
  have e:(zbW d a).t.toNat=a.t.toNat+d:=by show(a.t+(d:Int)).toNat=_;omega
  rw[ih,e]
  by_cases hs:d<=s/\s<d+n
  ·rw[if_pos hs,if_pos hs]
   by_cases h3:a.t.toNat=s-d
   rw[if_pos h3,if_pos (by omega)];rw[if_neg h3,if_neg (by omega)]
  rw[if_neg hs,if_neg hs,if_neg (by omega)]
def zGn (d:Nat)(a:zaz):zcN (zbW d a)=zcN a:=rfl
def zGo (x y d:Nat)(a:zaz):zdx x y (zbW d a)=zdx x y a:=rfl
def zlx (w:ByteArray)(z:Nat):zcN (zbu w z)=true:=by unfold zcN zbu;simp
def zud {x y:Nat}(h:¬ (x=0/\y=0))(w:ByteArray)(z:Nat):zdx x y (zbu w z)=false:=by
 unfold zdx zbu;simp only[decide_eq_false_iff_not];omega
def ziB (t s:Nat)(w:α):cs S [(t,w)] s=if s=t then w else S.zero:=by
 show(if t=s then S.add w S.zero else S.zero)=_
 by_cases h:s=t
 rw[if_pos h,if_pos h.symm,S.add_zero];rw[if_neg h,if_neg (fun e=>h e.symm)]
def zfK {l L:List zac}{o:Nat}{nxt:Option Nat}(h0:fe noB=S.zero)(hve:∀ a,a≠noB->fe a=ve a)(hl:ToOk l)(hc:∀ (r:Nat) (s:zac),l[r]?=some s->L[o+r]?=some (zbi o nxt s))(hn:∀ z,nxt=some z->z<L.length/\¬ (o<=z/\z<o+l.length))(hf:o+l.length<=L.length) :
  zcM S (wmG S ve fe L) (wmG S ve fe l) o nxt where
 fits:=hf
 out:=hn
 F r hr:=by
  have hs:l[r]?=some (l[r]'hr):=zqac hr;show fe (stF L (o+r))=if nxt=none then fe (stF l r) else S.zero
  rw[zkM (hc r _ hs),zkM hs];cases nxt with
  | none=>rw[if_pos rfl];rfl
  | some z=>exact h0
 T x y r s hr hsn:=by
  have hs:l[r]?=some (l[r]'hr):=zqac hr;show(if x=0/\y=0 then S.zero else cs S (zcj ve ((stA L (o+r)).filter (zdx x y))) s)=if o<=s/\s<o+l.length then (if x=0/\y=0 then S.zero else cs S (zcj ve ((stA l r).filter (zdx x y))) (s-o)) else S.zero
  by_cases hxy:x=0/\y=0
  ·rw[if_pos hxy,if_pos hxy];split <;> rfl
  rw[if_neg hxy,if_neg hxy,zeP (hc r _ hs),zeP hs];have key:=zxO (S:=S) (ve:=ve) o (zdx x y) (zGo x y o) l.length s (l[r]'hr).arcs (hl _ (List.getElem_mem hr));cases nxt with
  | none=>exact key
  | some z =>
   show cs S (zcj ve (((l[r]'hr).arcs.map (zbW o)++if (l[r]'hr).fin=noB then [] else [zbu (l[r]'hr).fin z]).filter (zdx x y))) s=_;rw[List.filter_append,zin,zfB,key]
   have e:((if (l[r]'hr).fin=noB then [] else [zbu (l[r]'hr).fin z]).filter (zdx x y))=[]:=by
    split;rfl;rw[List.filter_cons_of_neg (by rw[zud hxy];simp)];rfl
   rw[e];exact S.add_zero _
 E r s hr hsn:=by
  have hs:l[r]?=some (l[r]'hr):=zqac hr;show cs S (zcj ve ((stA L (o+r)).filter zcN)) s=if o<=s/\s<o+l.length then cs S (zcj ve ((stA l r).filter zcN)) (s-o) else if nxt=some s then fe (stF l r) else S.zero
  rw[zeP (hc r _ hs),zeP hs,zkM hs];have key:=zxO (S:=S) (ve:=ve) o zcN (zGn o) l.length s (l[r]'hr).arcs (hl _ (List.getElem_mem hr));cases nxt with
  | none =>
   have e:(if o<=s/\s<o+l.length then cs S (zcj ve ((l[r]'hr).arcs.filter zcN)) (s-o) else if (none:Option Nat)=some s then fe (l[r]'hr).fin else S.zero)=if o<=s/\s<o+l.length then cs S (zcj ve ((l[r]'hr).arcs.filter zcN)) (s-o) else S.zero:=by
    split;rfl;exact if_neg (by simp)
   rw[e];exact key
  | some z =>
   obtain⟨_,hz⟩:=hn z rfl;show cs S (zcj ve (((l[r]'hr).arcs.map (zbW o)++if (l[r]'hr).fin=noB then [] else [zbu (l[r]'hr).fin z]).filter zcN)) s=_;rw[List.filter_append,zin,zfB,key]
   by_cases hfin:(l[r]'hr).fin=noB
   ·rw[if_pos hfin,hfin,h0]
    show S.add _ S.zero=_;rw[S.add_zero];split;rfl;split <;> rfl
   rw[if_neg hfin,List.filter_cons_of_pos (zlx _ _)];show S.add _ (cs S [((z:Int).toNat,ve (l[r]'hr).fin)] s)=_;rw[ziB,Int.toNat_natCast,hve _ hfin]
   by_cases hi:o<=s/\s<o+l.length
   rw[if_pos hi,if_pos hi,if_neg (fun e=>hz (by rw[<- e];exact hi)),S.add_zero];rw[if_neg hi,if_neg hi,S.zero_add]
   by_cases e:s=z
   rw[if_pos e,if_pos (by rw[e])];rw[if_neg e,if_neg (fun h=>e (Option.some.inj h).symm)]
def zkN {L:List zac}{q:Nat}{s:zac}(hq:L[q]?=some s)(h:∀ a∈s.arcs,∃ w z,a=zbu w z)(x y t:Nat):(wmG S ve fe L).T x y q t=S.zero:=by
 show(if x=0/\y=0 then S.zero else cs S (zcj ve ((stA L q).filter (zdx x y))) t)=_
 by_cases hxy:x=0/\y=0
 rw[if_pos hxy];rw[if_neg hxy,zeP hq]
 have e:s.arcs.filter (zdx x y)=[]:=List.filter_eq_nil_iff.2 (fun a ha=>by
  obtain⟨w,z,rfl⟩:=h a ha;rw[zud hxy];simp)
 rw[e];rfl
def zue {L:List zac}{q:Nat}{f w:ByteArray}{z:Nat}(hq:L[q]?=some ⟨f,[zbu w z]⟩)(t:Nat):(wmG S ve fe L).E q t=if t=z then ve w else S.zero:=by
 show cs S (zcj ve ((stA L q).filter zcN)) t=_;rw[zeP hq,List.filter_cons_of_pos (zlx _ _)];exact ziB z t (ve w)
def zDU {L:List zac}{q:Nat}{f w w2:ByteArray}{z z2:Nat}(hq:L[q]?=some ⟨f,[zbu w z,zbu w2 z2]⟩)(t:Nat):(wmG S ve fe L).E q t=S.add (if t=z then ve w else S.zero) (if t=z2 then ve w2 else S.zero):=by
 show cs S (zcj ve ((stA L q).filter zcN)) t=_;rw[zeP hq,List.filter_cons_of_pos (zlx _ _),List.filter_cons_of_pos (zlx _ _)];show cs S ([(z,ve w)]++[(z2,ve w2)]) t=_;rw[zfB,ziB,ziB]
def zuf {L:List zac}{q:Nat}{f:ByteArray}(hq:L[q]?=some ⟨f,[]⟩)(t:Nat):(wmG S ve fe L).E q t=S.zero:=by
 show cs S (zcj ve ((stA L q).filter zcN)) t=_;rw[zeP hq];rfl
def zrs {L:List zac}{q:Nat}{s:zac}(hq:L[q]?=some s):(wmG S ve fe L).F q=fe s.fin:=by
 show fe (stF L q)=_;rw[zkM hq]
def zbA (one:ByteArray)(a b:zah):zah:=⟨a.kind,0,one,⟨noB,[zbu a.lead (1+a.start.toNat),zbu b.lead (1+a.states.length+b.start.toNat)]⟩::(a.states.map (zbi 1 none)++b.states.map (zbi (1+a.states.length) none))⟩
def zba (lead:ByteArray)(a b:zah):zah:=⟨a.kind,(b.states.length+a.start.toNat:Nat),lead,b.states.map (zbi 0 none)++a.states.map (zbi b.states.length (some b.start.toNat))⟩
def zbt (one:ByteArray)(a:zah):zah:=⟨a.kind,0,one,⟨one,[zbu a.lead (1+a.start.toNat)]⟩::a.states.map (zbi 1 (some 0))⟩
def zrt {β γ:Type}(f:β->γ)(l:List β)(k:List γ)(r:Nat)(s:β)(h:l[r]?=some s):(l.map f++k)[r]?=some (f s):=by
 have hr:=(zqae.1 h).1;rw[zqal (by rw[zqbn];exact hr),zqaj,h];rfl
structure zhG (m:zah):Prop where
 start:0<=m.start/\m.start<(m.states.length:Int)
 dest:ToOk m.states
def zhG.st {m:zah}(h:zhG m):m.start.toNat<m.states.length:=by have:=h.start;omega
def ziC (h0:fe noB=S.zero)(hve:∀ a,a≠noB->fe a=ve a){one:ByteArray}(h1:ve one=S.one){a b:zah}(ha:zhG a)(hb:zhG b)(u v:List Nat):zbK S ve fe (zbA one a b) u v=S.add (zbK S ve fe a u v) (zbK S ve fe b u v):=by
 unfold zbK;show S.mul (ve one) (bk S (wmG S ve fe (zbA one a b).states) u v 0)=_;rw[h1,S.one_mul]
 have zN:(zbA one a b).states.length=1+a.states.length+b.states.length:=by
  show(_::(_++_)).length=_;rw[zqbu,zqag,zqbn,zqbn];omega
 have c1:zcM S (wmG S ve fe (zbA one a b).states) (wmG S ve fe a.states) 1 none:=zfK h0 hve ha.dest (fun r s hr=>by
  show(_::(_++_))[1+r]?=_;rw[show 1+r=r+1 by omega,List.getElem?_cons_succ];exact zrt _ _ _ r s hr) (fun z h=>by cases h) (by rw[zN];omega)
 have c2:zcM S (wmG S ve fe (zbA one a b).states) (wmG S ve fe b.states) (1+a.states.length) none:=zfK h0 hve hb.dest (fun r s hr=>by
  show(_::(_++_))[1+a.states.length+r]?=_;rw[show 1+a.states.length+r=(a.states.length+r)+1 by omega,List.getElem?_cons_succ,zqaq (by rw[zqbn];omega),zqbn,show a.states.length+r-a.states.length=r by omega,zqaj,hr];rfl) (fun z h=>by cases h) (by rw[zN];omega)
 have hq:(zbA one a b).states[0]?=some ⟨noB,[zbu a.lead (1+a.start.toNat),zbu b.lead (1+a.states.length+b.start.toNat)]⟩:=rfl;refine zHu c1 c2 (by show 0<(zbA one a b).states.length;rw[zN];omega) ha.st hb.st (by rw[zrs hq];exact h0) (fun x y s _=>zkN hq (fun a ha=>?_) x y s) (fun s _=>zDU hq s) u v;rcases List.mem_cons.1 ha with rfl|ha
 exact⟨_,_,rfl⟩;rcases List.mem_cons.1 ha with rfl|ha
 ·exact⟨_,_,rfl⟩
 cases ha
def zly (h0:fe noB=S.zero)(hve:∀ a,a≠noB->fe a=ve a){lead:ByteArray}{a b:zah}(hl:ve lead=S.mul (ve a.lead) (ve b.lead))(ha:zhG a)(hb:zhG b)(u v:List Nat) :
  zbK S ve fe (zba lead a b) u v=sp S u v (fun p q r s=>S.mul (zbK S ve fe a p r) (zbK S ve fe b q s)):=by
 have zN:(zba lead a b).states.length=b.states.length+a.states.length:=by
  unfold zba;rw[zqag,zqbn,zqbn]
 have c1:zcM S (wmG S ve fe (zba lead a b).states) (wmG S ve fe a.states) b.states.length (some (0+b.start.toNat)):=zfK h0 hve ha.dest (fun r s hr=>by
  show(_++_)[b.states.length+r]?=_
  rw[zqaq (by rw[zqbn];omega),zqbn,show b.states.length+r-b.states.length=r by omega,zqaj,hr,zqat];rfl) (fun z h=>by
   have:=hb.st;cases h;rw[zN];exact⟨by omega,by omega⟩) (by rw[zN];omega)
 have c2:zcM S (wmG S ve fe (zba lead a b).states) (wmG S ve fe b.states) 0 none:=zfK h0 hve hb.dest (fun r s hr=>by
  rw[zqat];exact zrt _ _ _ r s hr) (fun z h=>by cases h) (by rw[zN];omega)
 have key:=zGf c1 c2 ha.st hb.st u v;unfold zbK;show S.mul (ve lead) (bk S (wmG S ve fe (zba lead a b).states) u v ((b.states.length+a.start.toNat:Nat):Int).toNat)=_;rw[Int.toNat_natCast,key,hl,<- zjG];exact zcP (fun p q r s _ _=>by ac_rfl)
def zlz (h0:fe noB=S.zero)(hve:∀ a,a≠noB->fe a=ve a){one:ByteArray}(h1:ve one=S.one)(hn:one≠noB){a:zah}(ha:zhG a)(u v:List Nat) :
  zbK S ve fe (zbt one a) u v=S.mul (S.star (zbK S ve fe a [] [])) (S.add (zfa S u v) (spx S u v (fun p q r s=>S.mul (zbK S ve fe a p r) (zbK S ve fe (zbt one a) q s)))):=by
 have zN:(zbt one a).states.length=1+a.states.length:=by
  show(_::_).length=_;rw[zqbu,zqbn];omega
 have c1:zcM S (wmG S ve fe (zbt one a).states) (wmG S ve fe a.states) 1 (some 0):=zfK h0 hve ha.dest (fun r s hr=>by
  show(_::_)[1+r]?=_
  rw[show 1+r=r+1 by omega,List.getElem?_cons_succ,zqaj,hr];rfl) (fun z h=>by
   cases h;rw[zN];exact⟨by omega,by omega⟩) (by rw[zN];omega)
 have hq:(zbt one a).states[0]?=some ⟨one,[zbu a.lead (1+a.start.toNat)]⟩:=rfl
 have e:∀ u v,zbK S ve fe (zbt one a) u v=bk S (wmG S ve fe (zbt one a).states) u v 0:=fun u v=>by
  unfold zbK;show S.mul (ve one) (bk S (wmG S ve fe (zbt one a).states) u v 0)=_;rw[h1,S.one_mul]
 rw[e,zHT (w:=ve a.lead) c1 (by show 0<(zbt one a).states.length;rw[zN];omega) ha.st (by rw[zrs hq];exact(hve _ hn).trans h1) (fun x y s _=>zkN hq (fun a ha=>by
  rcases List.mem_cons.1 ha with rfl|ha;exact⟨_,_,rfl⟩;cases ha) x y s) (fun s _=>zue hq s) (fun q hq=>by
  have hq:q<(zbt one a).states.length:=hq;rw[zN] at hq;rcases Nat.eq_zero_or_pos q with h|h
  exact .inl h;exact .inr ⟨h,hq⟩)]
 congr 2;exact zkj (fun p q r s _ _ _=>by rw[e];rfl)
end
variable {α:Type}
section
variable {S:Sr α} {ve fe:ByteArray->α}
def zfc (one lead:ByteArray)(A t n most i:Nat):zac:=⟨if n<=i then one else noB,if i<most then [zbu lead (2+i*(A+1)+t)] else []⟩
def zfC (one:ByteArray)(a:zah)(n most i:Nat):List zac:=zfc one a.lead a.states.length a.start.toNat n most (i+1)::a.states.map (zbi (2+i*(a.states.length+1)) (some (1+i*(a.states.length+1))))
def zaJ (one:ByteArray)(a:zah)(n most:Nat):zah:=⟨a.kind,0,one,zfc one a.lead a.states.length a.start.toNat n most 0::(List.range most).flatMap (zfC one a n most)⟩
def zoM (one:ByteArray)(a:zah)(n most i:Nat):(zfC one a n most i).length=a.states.length+1:=by unfold zfC;rw[zqbu,zqbn]
def zgw (one:ByteArray)(a:zah)(n most:Nat):(zaJ one a n most).states.length=1+most*(a.states.length+1):=by
 unfold zaJ;rw[zqbu,zjE _ _ (zoM one a n most),List.length_range];omega
def zqf (one:ByteArray)(a:zah)(n most:Nat){i j:Nat}(hi:i<most)(hj:j<a.states.length+1):(zaJ one a n most).states[1+i*(a.states.length+1)+j]?=(zfC one a n most i)[j]?:=by
 show(_::_)[_]?=_;rw[show 1+i*(a.states.length+1)+j=(i*(a.states.length+1)+j)+1 by omega,List.getElem?_cons_succ];exact flat_get _ _ (zoM one a n most) _ _ _ _ (zqbe hi) hj
def zhH (one:ByteArray)(a:zah)(n most:Nat){i:Nat}(hi:i<=most):(zaJ one a n most).states[if i=0 then 0 else 1+(i-1)*(a.states.length+1)]?=some (zfc one a.lead a.states.length a.start.toNat n most i):=by
 cases i with
 | zero=>rfl
 | succ i =>
  rw[if_neg (by omega)];exact zqf one a n most (i:=i) (j:=0) (by omega) (by omega)
def zhI (h0:fe noB=S.zero)(hve:∀ a,a≠noB->fe a=ve a){one:ByteArray}(h1:ve one=S.one)(hn:one≠noB){a:zah}(ha:zhG a)(n most:Nat)(u v:List Nat) :
  zbK S ve fe (zaJ one a n most) u v=ziL S (zbK S ve fe a) most n u v:=by
 have hst:=ha.st
 have hmul:∀ i,i<most->i*(a.states.length+1)+(a.states.length+1)<=most*(a.states.length+1):=fun i hi=>by
  have:=Nat.mul_le_mul_right (a.states.length+1) (show i+1<=most by omega);rw[Nat.succ_mul] at this;exact this
 have hb:∀ i,i<=most->(if i=0 then 0 else 1+(i-1)*(a.states.length+1))<(zaJ one a n most).states.length:=fun i hi=>by
  rw[zgw];split;omega;have:=hmul (i-1) (by omega);omega
 have key:=zwo (S:=S) (c:=wmG S ve fe (zaJ one a n most).states) (a:=wmG S ve fe a.states) (n:=n) (most:=most) (t:=a.start.toNat) (w:=ve a.lead) (fun i=>if i=0 then 0 else 1+(i-1)*(a.states.length+1)) (fun i=>2+i*(a.states.length+1)) hst hb
  (fun i hi=>zfK h0 hve ha.dest (fun r s hr=>by
   have hrl:=(zqae.1 hr).1;have:=zqf one a n most (i:=i) (j:=r+1) hi (by omega);rw[show 2+i*(a.states.length+1)+r=1+i*(a.states.length+1)+(r+1) by omega,this];unfold zfC;rw[List.getElem?_cons_succ,zqaj,hr];dsimp only[Option.map_some]
   rw[if_neg (by omega),show i+1-1=i by omega]) (fun z hz=>by
    have:=hmul i hi;have h3:=hb (i+1) (by omega);cases hz;refine⟨h3,?_⟩;rw[if_neg (by omega),show i+1-1=i by omega];omega) (by
    have:=hmul i hi;rw[zgw];omega))
  (fun i hi=>by
   rw[zrs (zhH one a n most hi)];unfold zfc
   by_cases h:n<=i
   rw[if_pos h,if_pos h];exact(hve _ hn).trans h1;rw[if_neg h,if_neg h];exact h0)
  (fun i hi x y s _=>zkN (zhH one a n most hi) (fun b hb=>by
   unfold zfc at hb;dsimp only at hb;split at hb
   ·rcases List.mem_cons.1 hb with rfl|hb
    ·exact⟨_,_,rfl⟩
    cases hb
   cases hb) x y s)
  (fun i hi s _=>by
   have hq:=zhH one a n most (i:=i) (by omega);unfold zfc at hq;rw[if_pos hi] at hq;exact zue hq s)
  (fun s _=>by
   have hq:=zhH one a n most (i:=most) (zqab _);unfold zfc at hq;rw[if_neg (Nat.lt_irrefl _)] at hq;exact zuf hq s) most 0 (by omega) u v
 unfold zbK;show S.mul (ve one) (bk S (wmG S ve fe (zaJ one a n most).states) u v 0)=_;rw[h1,S.one_mul];exact key
def zbF (kind:Int)(one w:ByteArray)(x y:List Nat):zah:=⟨kind,0,w,(List.range (max x.length y.length)).map (fun i=>⟨noB,[⟨(x.getD i 0:Nat),(y.getD i 0:Nat),one,((i+1:Nat):Int)⟩]⟩)++[⟨one,[]⟩]⟩
def zjJ (kind:Int)(one w:ByteArray)(x y:List Nat):(zbF kind one w x y).states.length=max x.length y.length+1:=by unfold zbF;simp
def zoN (kind:Int)(one w:ByteArray)(x y:List Nat){i:Nat}(hi:i<max x.length y.length):(zbF kind one w x y).states[i]?=some ⟨noB,[⟨(x.getD i 0:Nat),(y.getD i 0:Nat),one,((i+1:Nat):Int)⟩]⟩ :=
 zrt _ _ _ i i (zqbe hi)
def zmK (kind:Int)(one w:ByteArray)(x y:List Nat):(zbF kind one w x y).states[max x.length y.length]?=some ⟨one,[]⟩:=by
 unfold zbF;rw[zqaq (by simp)];simp
def zug (kind:Int)(one w:ByteArray)(x y:List Nat){i:Nat}(hi:i<max x.length y.length)(a b:Nat)(t:Nat)(hab:¬ (a=0/\b=0)):(wmG S ve fe (zbF kind one w x y).states).T a b i t=if x.getD i 0=a/\y.getD i 0=b then (if t=i+1 then ve one else S.zero) else S.zero:=by
 show(if a=0/\b=0 then S.zero else cs S (zcj ve ((stA (zbF kind one w x y).states i).filter (zdx a b))) t)=_;rw[if_neg hab,zeP (zoN kind one w x y hi)]
 by_cases h:x.getD i 0=a/\y.getD i 0=b
 ·rw[if_pos h,List.filter_cons_of_pos (by unfold zdx;simp only[zqca];rw[h.1,h.2];exact⟨rfl,rfl⟩)]
  exact ziB (i+1) t (ve one)
 rw[if_neg h,List.filter_cons_of_neg (by
  unfold zdx;simp only[zqca];intro e;exact h ⟨Int.ofNat.inj e.1,Int.ofNat.inj e.2⟩)]
 rfl
def zDV (kind:Int){one:ByteArray}(h1:ve one=S.one)(w:ByteArray)(x y:List Nat){i:Nat}(hi:i<max x.length y.length)(a b:Nat)(hab:¬ (a=0/\b=0))(f:Nat->α) :
  sm S (wmG S ve fe (zbF kind one w x y).states).n (fun r=>S.mul ((wmG S ve fe (zbF kind one w x y).states).T a b i r) (f r))=if x.getD i 0=a/\y.getD i 0=b then f (i+1) else S.zero:=by
 by_cases h:x.getD i 0=a/\y.getD i 0=b
 ·have hn:(wmG S ve fe (zbF kind one w x y).states).n=max x.length y.length+1:=zjJ kind one w x y
  rw[if_pos h,zdL (k:=i+1) (by rw[hn];omega) _ (fun r _ hr=>by rw[zug kind one w x y hi a b r hab,if_pos h,if_neg hr,S.zero_mul]),zug kind one w x y hi a b _ hab,if_pos h,if_pos rfl,h1,S.one_mul]
 rw[if_neg h];exact zdf S (fun r _=>by rw[zug kind one w x y hi a b r hab,if_neg h,S.zero_mul])
def zdb {x:List Nat}{i a:Nat}{u:List Nat}(ha:1<=a):(a::u=x.drop i)↔(x.getD i 0=a/\u=x.drop (i+1)):=by
 by_cases h:i<x.length
 ·rw[List.drop_eq_getElem_cons h,zqaa,zqac h]
  simp only[List.cons.injEq,Option.getD_some];constructor;rintro ⟨h1,h2⟩;exact⟨h1.symm,h2⟩;rintro ⟨h1,h2⟩;exact⟨h1.symm,h2⟩
 rw[List.drop_eq_nil_of_le (by omega),zqaa,zqas (by omega)];simp;omega
def zen {x:List Nat}(hx:∀ s∈x,1<=s)(i:Nat):([]=x.drop i)↔(x.getD i 0=0):=by
 by_cases h:i<x.length
 ·rw[List.drop_eq_getElem_cons h,zqaa,zqac h]
  have:=hx _ (List.getElem_mem h);simp;omega
 rw[List.drop_eq_nil_of_le (by omega),zqaa,zqas (by omega)];simp
def znI {p q:Prop}[Decidable p][Decidable q](h:p↔q)(a b:α):(if p then a else b)=if q then a else b:=by
 by_cases hp:p
 rw[if_pos hp,if_pos (h.1 hp)];rw[if_neg hp,if_neg (fun hq=>hp (h.2 hq))]
def zuh (kind:Int)(one w:ByteArray){x y:List Nat}(hx:∀ s∈x,1<=s)(hy:∀ s∈y,1<=s){i:Nat}(hi:i<=max x.length y.length)(t:Nat):(wmG S ve fe (zbF kind one w x y).states).E i t=S.zero:=by
 show cs S (zcj ve ((stA (zbF kind one w x y).states i).filter zcN)) t=_;rcases Nat.lt_or_eq_of_le hi with h|rfl
 ·rw[zeP (zoN kind one w x y h),List.filter_cons_of_neg (by
   unfold zcN;simp only[zqca];intro e;have e1:x.getD i 0=0:=Int.ofNat.inj e.1;have e2:y.getD i 0=0:=Int.ofNat.inj e.2;have g1:=(zen hx i).2 e1;have g2:=(zen hy i).2 e2;have l1:=zqbz List.length g1;have l2:=zqbz List.length g2;rw[List.length_drop] at l1 l2;simp only[List.length_nil] at l1 l2;omega)]
  rfl
 rw[zeP (zmK kind one w x y)];rfl
def zGp (h0:fe noB=S.zero)(hve:∀ a,a≠noB->fe a=ve a)(kind:Int){one:ByteArray}(h1:ve one=S.one)(hn:one≠noB)(w:ByteArray){x y:List Nat}(hx:∀ s∈x,1<=s)(hy:∀ s∈y,1<=s) :
  ∀ k i,i+k=max x.length y.length->∀ u v:List Nat,(∀ s∈u,1<=s)->(∀ s∈v,1<=s)->bk S (wmG S ve fe (zbF kind one w x y).states) u v i=if u=x.drop i/\v=y.drop i then S.one else S.zero:=by
 have hN:(wmG S ve fe (zbF kind one w x y).states).n=max x.length y.length+1:=zjJ kind one w x y;intro k
 induction k with
 | zero =>
  intro i hi u v hu hv;obtain rfl:i=max x.length y.length:=by omega
  have hE:=fun t=>zuh (S:=S) (ve:=ve) (fe:=fe) kind one w hx hy (zqab _) t;rw[ziy _ (by rw[hN];omega) (fun a b s _=>zkN (zmK kind one w x y) (fun a ha=>by cases ha) a b s),zdf S (fun s _=>by rw[hE,S.zero_mul]),S.add_zero];unfold nxF;rw[zrs (zmK kind one w x y),List.drop_eq_nil_of_le (Nat.le_max_left ..),List.drop_eq_nil_of_le (Nat.le_max_right ..)];rw[(hve _ hn).trans h1]
 | succ k ih =>
  intro i hi u v hu hv;have hil:i<max x.length y.length:=by omega
  have hE:=fun t=>zuh (S:=S) (ve:=ve) (fe:=fe) kind one w hx hy (Nat.le_of_lt hil) t;rw[zgV S _ u v (show i<(wmG S ve fe (zbF kind one w x y).states).n by rw[hN];omega),zdf S (fun s _=>by rw[hE,S.zero_mul]),S.add_zero];have hsum:=fun a b hab f=>zDV (S:=S) (ve:=ve) (fe:=fe) kind h1 w x y hil a b hab f;cases u with
  | nil=>cases v with
   | nil =>
    show(wmG S ve fe (zbF kind one w x y).states).F i=_
    rw[zrs (zoN kind one w x y hil),if_neg (fun e=>by
     have l1:=zqbz List.length e.1;have l2:=zqbz List.length e.2;rw[List.length_drop] at l1 l2;simp only[List.length_nil] at l1 l2;omega)]
    exact h0
   | cons b v =>
    have hb:=hv b (zqbm ..);show sm S _ (fun r=>S.mul _ (bk S _ [] v r))=_;rw[hsum 0 b (by omega),ih (i+1) (by omega) [] v (by simp) (fun s hs=>hv s (zqao _ hs))]
    by_cases e1:x.getD i 0=0
    ·have e2:[]=x.drop (i+1):=by
      have:=zqbz List.length ((zen hx i).2 e1);exact zQbO
     by_cases e3:y.getD i 0=b
     ·rw[if_pos ⟨e1,e3⟩]
      exact znI ⟨fun e=>⟨(zen hx i).2 e1,(zdb hb).2 ⟨e3,e.2⟩⟩,fun e=>⟨e2,((zdb hb).1 e.2).2⟩⟩ _ _
     rw[if_neg (fun e=>e3 e.2),if_neg (fun e=>e3 ((zdb hb).1 e.2).1)]
    rw[if_neg (fun e=>e1 e.1),if_neg (fun e=>e1 ((zen hx i).1 e.1))]
  | cons a u =>
   have ha:=hu a (zqbm ..);have hu':∀ s∈u,1<=s:=fun s hs=>hu s (zqao _ hs);cases v with
   | nil =>
    show sm S _ (fun r=>S.mul _ (bk S _ u [] r))=_;rw[hsum a 0 (by omega),ih (i+1) (by omega) u [] hu' (by simp)]
    by_cases e1:y.getD i 0=0
    ·have e2:[]=y.drop (i+1):=by
      have:=zqbz List.length ((zen hy i).2 e1);exact zQbO
     by_cases e3:x.getD i 0=a
     ·rw[if_pos ⟨e3,e1⟩]
      exact znI ⟨fun e=>⟨(zdb ha).2 ⟨e3,e.1⟩,(zen hy i).2 e1⟩,fun e=>⟨((zdb ha).1 e.1).2,e2⟩⟩ _ _
     rw[if_neg (fun e=>e3 e.1),if_neg (fun e=>e3 ((zdb ha).1 e.1).1)]
    rw[if_neg (fun e=>e1 e.2),if_neg (fun e=>e1 ((zen hy i).1 e.2))]
   | cons b v =>
    have hb:=hv b (zqbm ..);have hv':∀ s∈v,1<=s:=fun s hs=>hv s (zqao _ hs);show S.add (S.add (sm S _ (fun r=>S.mul _ (bk S _ u (b::v) r))) (sm S _ (fun r=>S.mul _ (bk S _ (a::u) v r)))) (sm S _ (fun r=>S.mul _ (bk S _ u v r)))=_;rw[hsum a 0 (by omega),hsum 0 b (by omega),hsum a b (by omega),ih (i+1) (by omega) u (b::v) hu' hv,ih (i+1) (by omega) (a::u) v hu hv',ih (i+1) (by omega) u v hu' hv']
    have z1:(if x.getD i 0=a/\y.getD i 0=0 then (if u=x.drop (i+1)/\b::v=y.drop (i+1) then S.one else S.zero) else S.zero)=S.zero:=by
     by_cases e:x.getD i 0=a/\y.getD i 0=0
     ·rw[if_pos e,if_neg (fun e2=>by
       have l1:=zqbz List.length ((zen hy i).2 e.2);have l2:=zqbz List.length e2.2;rw[List.length_drop] at l1 l2;simp only[List.length_nil,zqbu] at l1 l2;omega)]
     rw[if_neg e]
    have z2:(if x.getD i 0=0/\y.getD i 0=b then (if a::u=x.drop (i+1)/\v=y.drop (i+1) then S.one else S.zero) else S.zero)=S.zero:=by
     by_cases e:x.getD i 0=0/\y.getD i 0=b
     ·rw[if_pos e,if_neg (fun e2=>by
       have l1:=zqbz List.length ((zen hx i).2 e.1);have l2:=zqbz List.length e2.1;rw[List.length_drop] at l1 l2;simp only[List.length_nil,zqbu] at l1 l2;omega)]
     rw[if_neg e]
    rw[z1,z2,S.add_zero,S.zero_add]
    by_cases e:x.getD i 0=a/\y.getD i 0=b
    ·rw[if_pos e]
     exact znI ⟨fun h=>⟨(zdb ha).2 ⟨e.1,h.1⟩,(zdb hb).2 ⟨e.2,h.2⟩⟩,fun h=>⟨((zdb ha).1 h.1).2,((zdb hb).1 h.2).2⟩⟩ _ _
    rw[if_neg e,if_neg (fun h=>e ⟨((zdb ha).1 h.1).1,((zdb hb).1 h.2).1⟩)]
def zoO (h0:fe noB=S.zero)(hve:∀ a,a≠noB->fe a=ve a)(kind:Int){one:ByteArray}(h1:ve one=S.one)(hn:one≠noB)(w:ByteArray){x y:List Nat}(hx:∀ s∈x,1<=s)(hy:∀ s∈y,1<=s){u v:List Nat}(hu:∀ s∈u,1<=s)(hv:∀ s∈v,1<=s) :
  zbK S ve fe (zbF kind one w x y) u v=if u=x/\v=y then ve w else S.zero:=by
 unfold zbK;show S.mul (ve w) (bk S (wmG S ve fe (zbF kind one w x y).states) u v 0)=_;rw[zGp h0 hve kind h1 hn w hx hy (max x.length y.length) 0 (by omega) u v hu hv,List.drop_zero,List.drop_zero];split;exact S.mul_one _;exact S.mul_zero _
def zcb (kind:Int)(one:ByteArray)(l:List Nat):zah:=⟨kind,0,one,[⟨noB,l.map (fun s=>⟨(s:Nat),(s:Nat),one,1⟩)⟩,⟨one,[]⟩]⟩
def zmL (kind:Int){one:ByteArray}{l:List Nat}(hl:l.Nodup)(a b t:Nat)(hab:¬ (a=0/\b=0)):(wmG S ve fe (zcb kind one l).states).T a b 0 t=if a=b/\a∈l then (if t=1 then ve one else S.zero) else S.zero:=by
 show(if a=0/\b=0 then S.zero else cs S (zcj ve ((l.map (fun s=>(⟨(s:Nat),(s:Nat),one,1⟩:zaz))).filter (zdx a b))) t)=_;rw[if_neg hab]
 have key:∀ l:List Nat,l.Nodup->(l.map (fun s=>(⟨(s:Nat),(s:Nat),one,1⟩:zaz))).filter (zdx a b)=if a=b/\a∈l then [⟨(a:Nat),(a:Nat),one,1⟩] else []:=by
  intro l
  induction l with
  | nil=>intro _;simp
  | cons s l ih =>
   intro hn;obtain⟨h1,h2⟩:=List.nodup_cons.1 hn;rw[List.map_cons]
   by_cases e:a=s/\b=s
   ·obtain⟨rfl,rfl⟩:=e
    rw[List.filter_cons_of_pos (by unfold zdx;simp),ih h2,if_neg (fun h=>h1 h.2),if_pos ⟨rfl,zqbm ..⟩]
   rw[List.filter_cons_of_neg (by
    unfold zdx;simp only[zqca];intro h;exact e ⟨(Int.ofNat.inj h.1).symm,(Int.ofNat.inj h.2).symm⟩),ih h2]
   refine znI ⟨fun h=>⟨h.1,zqao _ h.2⟩,fun h=>⟨h.1,?_⟩⟩ _ _;rcases List.mem_cons.1 h.2 with h3|h3
   exact absurd ⟨h3,h.1▸h3⟩ e;exact h3
 rw[key l hl]
 by_cases e:a=b/\a∈l
 ·rw[if_pos e,if_pos e]
  exact ziB 1 t (ve one)
 rw[if_neg e,if_neg e];rfl
def zoh (h0:fe noB=S.zero)(hve:∀ a,a≠noB->fe a=ve a)(kind:Int){one:ByteArray}(h1:ve one=S.one)(hn:one≠noB){l:List Nat}(hl:l.Nodup)(hpos:∀ s∈l,1<=s){u v:List Nat}(hu:∀ s∈u,1<=s)(hv:∀ s∈v,1<=s) :
  zbK S ve fe (zcb kind one l) u v = @ite _ (∃ s,s∈l/\u=[s]/\v=[s]) (Classical.propDecidable _) S.one S.zero:=by
 unfold zbK;show S.mul (ve one) (bk S (wmG S ve fe (zcb kind one l).states) u v 0)=_;rw[h1,S.one_mul];have hN:(wmG S ve fe (zcb kind one l).states).n=2:=rfl;have hq1:(zcb kind one l).states[1]?=some ⟨one,[]⟩:=rfl
 have hend:∀ u v:List Nat,bk S (wmG S ve fe (zcb kind one l).states) u v 1=if u=[]/\v=[] then S.one else S.zero:=fun u v=>by
  rw[ziy _ (by rw[hN];omega) (fun a b s _=>zkN hq1 (fun a ha=>by cases ha) a b s),zdf S (fun s _=>by rw[zuf hq1,S.zero_mul]),S.add_zero];unfold nxF;rw[zrs hq1,(hve _ hn).trans h1]
 have hE:∀ t,(wmG S ve fe (zcb kind one l).states).E 0 t=S.zero:=fun t=>by
  show cs S (zcj ve ((l.map (fun s=>(⟨(s:Nat),(s:Nat),one,1⟩:zaz))).filter zcN)) t=_
  have e:(l.map (fun s=>(⟨(s:Nat),(s:Nat),one,1⟩:zaz))).filter zcN=[]:=List.filter_eq_nil_iff.2 (fun a ha=>by
   obtain⟨s,hs,rfl⟩:=zqbf.1 ha;have:=hpos s hs;unfold zcN;simp only[zqca];intro h;have:s=0:=Int.ofNat.inj h.1;omega)
  rw[e];rfl
 rw[zgV S _ u v (show 0<(wmG S ve fe (zcb kind one l).states).n by rw[hN];omega),zdf S (fun s _=>by rw[hE,S.zero_mul]),S.add_zero]
 have hsum:∀ (a b:Nat) (hab:¬ (a=0/\b=0)) (f:Nat->α),sm S (wmG S ve fe (zcb kind one l).states).n (fun r=>S.mul ((wmG S ve fe (zcb kind one l).states).T a b 0 r) (f r))=if a=b/\a∈l then f 1 else S.zero:=fun a b hab f=>by
  by_cases h:a=b/\a∈l
  rw[if_pos h,zdL (k:=1) (by rw[hN];omega) _ (fun r _ hr=>by rw[zmL kind hl a b r hab,if_pos h,if_neg hr,S.zero_mul]),zmL kind hl a b _ hab,if_pos h,if_pos rfl,h1,S.one_mul];rw[if_neg h];exact zdf S (fun r _=>by rw[zmL kind hl a b r hab,if_neg h,S.zero_mul])
 cases u with
 | nil=>cases v with
  | nil =>
   show fe noB=_;rw[if_neg (by rintro ⟨s,_,h,_⟩;cases h)];exact h0
  | cons b v =>
   have hb:=hv b (zqbm ..);show sm S _ (fun r=>S.mul _ (bk S _ [] v r))=_;rw[hsum 0 b (by omega),if_neg (by rintro ⟨h,_⟩;omega),if_neg (by rintro ⟨s,_,h,_⟩;cases h)]
 | cons a u =>
  have ha:=hu a (zqbm ..);cases v with
  | nil =>
   show sm S _ (fun r=>S.mul _ (bk S _ u [] r))=_;rw[hsum a 0 (by omega),if_neg (by rintro ⟨h,_⟩;omega),if_neg (by rintro ⟨s,_,_,h⟩;cases h)]
  | cons b v =>
   have hb:=hv b (zqbm ..);show S.add (S.add (sm S _ (fun r=>S.mul _ (bk S _ u (b::v) r))) (sm S _ (fun r=>S.mul _ (bk S _ (a::u) v r)))) (sm S _ (fun r=>S.mul _ (bk S _ u v r)))=_;rw[hsum a 0 (by omega),hsum 0 b (by omega),hsum a b (by omega),if_neg (show ¬ (a=0/\a∈l) by rintro ⟨h,_⟩;omega),if_neg (show ¬ (0=b/\0∈l) by rintro ⟨h,_⟩;omega),S.add_zero,S.zero_add,hend]
   by_cases e:a=b/\a∈l
   ·rw[if_pos e]
    by_cases e2:u=[]/\v=[]
    rw[if_pos e2,if_pos ⟨a,e.2,by rw[e2.1],by rw[e2.2,e.1]⟩]
    rw[if_neg e2,if_neg (by
     rintro ⟨s,_,h3,h4⟩;exact e2 ⟨(List.cons.inj h3).2,(List.cons.inj h4).2⟩)]
   rw[if_neg e,if_neg (by
    rintro ⟨s,hs,h3,h4⟩;exact e ⟨(List.cons.inj h3).1.trans (List.cons.inj h4).1.symm,(List.cons.inj h3).1▸hs⟩)]
def zsa {lead w:ByteArray}{m:zah}(hl:ve lead=S.mul (ve w) (ve m.lead))(u v:List Nat):zbK S ve fe { m with lead:=lead } u v=S.mul (ve w) (zbK S ve fe m u v):=by
 unfold zbK;show S.mul (ve lead) _=_;rw[hl,S.mul_assoc]
end
variable {α:Type}
def zaR (S:Sr α)(fit:α->Prop)(L:List (Nat×α)):Prop:=∀ D e R,L=D++e::R->fit e.2/\fit (S.add (cs S D e.1) e.2)
section
variable {S:Sr α} {fit:α->Prop}
def zib (S:Sr α)(D:List (Nat×α))(e:Nat×α)(y:Nat):cs S (D++[e]) y=if e.1=y then S.add (cs S D y) e.2 else cs S D y:=by
 rw[zfB];show S.add _ (if e.1=y then S.add e.2 S.zero else S.zero)=_;split;rw[S.add_zero];rw[S.add_zero]
def zaR.nil:zaR S fit []:=fun D e R h=>by cases D <;> cases h
def zaR.pre {D R:List (Nat×α)}(h:zaR S fit (D++R)):zaR S fit D:=fun D' e R' he=>h D' e (R'++R) (by rw[he];simp)
def zaR.at_ {D R:List (Nat×α)}{e:Nat×α}(h:zaR S fit (D++e::R)):fit e.2/\fit (S.add (cs S D e.1) e.2):=h D e R rfl
def zaR.snoc {D:List (Nat×α)}{e:Nat×α}(h:zaR S fit D)(h1:fit e.2)(h2:fit (S.add (cs S D e.1) e.2)):zaR S fit (D++[e]):=fun D' e' R' he=>by
 rcases List.eq_nil_or_concat R' with rfl|⟨R2,x,rfl⟩
 ·have:=List.append_inj' he rfl
  obtain⟨rfl,h3⟩:=this;cases h3;exact⟨h1,h2⟩
 have e2:D++[e]=(D'++e'::R2)++[x]:=by rw[he];simp
 exact h D' e' R2 (List.append_inj' e2 rfl).1
def zaR.all {D:List (Nat×α)}(h:zaR S fit D)(h0:fit S.zero)(y:Nat):fit (cs S D y):=by
 rcases List.eq_nil_or_concat D with rfl|⟨D2,x,rfl⟩;exact h0;rw[List.concat_eq_append] at h ⊢;rw[zib];split
 ·next e=>rw[<- e];exact h.at_.2
 exact zaR.all (h.pre (R:=[x])) h0 y
termination_by D.length
decreasing_by subst_vars;simp
def znJ (S:Sr α)(g:Nat->List (Nat×α))(y:Nat):∀ n,cs S ((List.range n).flatMap g) y=sm S n (fun q=>cs S (g q) y)
 | 0=>rfl
 | n+1=>by
  rw[List.range_succ,List.flatMap_append,zfB,znJ S g y n];show S.add _ (cs S (g n++[]) y)=_;rw[List.append_nil];rfl
def zeo {β:Type}(g:Nat->List β)(n:Nat):(List.range (n+1)).flatMap g=(List.range n).flatMap g++g n:=by
 rw[List.range_succ,List.flatMap_append];show _++(g n++[])=_;rw[List.append_nil]
section
variable (S) (ve fe:ByteArray->α) (l:List zac) (f:Nat->α) (a b:Nat)
def zfL (q:Nat)(x:zaz):Nat×α:=(x.t.toNat,S.mul (f q) (ve x.w))
open Classical in
noncomputable def stepRow (q t:Nat):List (Nat×α):=if f q=S.zero then [] else (((stA l q).take t).filter (zdx a b)).map (zfL S ve f q)
noncomputable def stepL (q t:Nat):List (Nat×α):=(List.range q).flatMap (fun r=>stepRow S ve l f a b r (stA l r).length)++stepRow S ve l f a b q t
end
def zui (ve:ByteArray->α)(f:Nat->α)(q y:Nat):∀ L:List zaz,cs S (L.map (zfL S ve f q)) y=S.mul (f q) (cs S (zcj ve L) y)
 | []=>(S.mul_zero _).symm
 | x::L=>by
  show(if x.t.toNat=y then S.add (S.mul (f q) (ve x.w)) (cs S (L.map (zfL S ve f q)) y) else cs S (L.map (zfL S ve f q)) y)=S.mul (f q) (if x.t.toNat=y then S.add (ve x.w) (cs S (zcj ve L) y) else cs S (zcj ve L) y);rw[zui ve f q y L];split;rw[S.mul_add];rfl
def zhJ (ve:ByteArray->α)(l:List zac)(f:Nat->α)(a b q:Nat):stepL S ve l f a b (q+1) 0=stepL S ve l f a b q (stA l q).length:=by
 unfold stepL;rw[zeo];have:stepRow S ve l f a b (q+1) 0=[]:=by unfold stepRow;split <;> simp
 rw[this,List.append_nil]
def zqg (ve:ByteArray->α)(l:List zac)(f:Nat->α)(a b q t:Nat)(h:f q=S.zero):stepL S ve l f a b q t=stepL S ve l f a b q 0:=by
 unfold stepL stepRow;rw[if_pos h,if_pos h]
def zmM (ve:ByteArray->α)(l:List zac)(f:Nat->α)(a b q t:Nat)(h:f q≠S.zero){x:zaz}(hx:(stA l q)[t]?=some x):stepL S ve l f a b q (t+1)=stepL S ve l f a b q t++if zdx a b x=true then [zfL S ve f q x] else []:=by
 unfold stepL stepRow;rw[if_neg h,if_neg h,List.take_add_one,hx,zqbj];congr 1;show((((stA l q).take t)++[x]).filter (zdx a b)).map _=_;rw[List.filter_append,List.map_append];congr 1;split
 ·next e=>rw[List.filter_cons_of_pos e];rfl
 next e=>rw[List.filter_cons_of_neg e];rfl
def zoi (ve:ByteArray->α)(l:List zac)(f:Nat->α)(a b:Nat):stepL S ve l f a b 0 0=[]:=by
 unfold stepL stepRow;split <;> rfl
def zxP (ve fe:ByteArray->α)(l:List zac)(f:Nat->α){a b:Nat}(hab:¬ (a=0/\b=0))(q y:Nat):cs S (stepRow S ve l f a b q (stA l q).length) y=S.mul (f q) ((wmG S ve fe l).T a b q y):=by
 have e:(wmG S ve fe l).T a b q y=cs S (zcj ve ((stA l q).filter (zdx a b))) y:=by
  show(if a=0/\b=0 then S.zero else _)=_;rw[if_neg hab]
 rw[e];unfold stepRow;split
 ·next h=>rw[h,S.zero_mul];rfl
 rw[List.take_length,zui]
def zDW (ve fe:ByteArray->α)(l:List zac)(f:Nat->α){a b:Nat}(hab:¬ (a=0/\b=0))(y:Nat):cs S (stepL S ve l f a b l.length 0) y=stp S (wmG S ve fe l) f a b y:=by
 unfold stepL;have:stepRow S ve l f a b l.length 0=[]:=by unfold stepRow;split <;> simp
 rw[this,List.append_nil,znJ];exact zar S (fun q _=>zxP ve fe l f hab q y)
open Classical in
noncomputable def restRow (S:Sr α)(f:Nat->α)(M:Nat->Nat->α)(q m:Nat):List (Nat×α):=(List.range m).flatMap (fun p=>if f q=S.zero∨M q p=S.zero then [] else [(p,S.mul (f q) (M q p))])
noncomputable def restL (S:Sr α)(n:Nat)(f:Nat->α)(M:Nat->Nat->α)(q m:Nat):List (Nat×α):=(List.range q).flatMap (fun r=>restRow S f M r n)++restRow S f M q m
def zlA (n:Nat)(f:Nat->α)(M:Nat->Nat->α)(q:Nat):restL S n f M (q+1) 0=restL S n f M q n:=by
 unfold restL;rw[zeo];show _++[]=_;rw[List.append_nil]
def zlB (n:Nat)(f:Nat->α)(M:Nat->Nat->α)(q p:Nat)(h:f q=S.zero∨M q p=S.zero):restL S n f M q (p+1)=restL S n f M q p:=by
 unfold restL restRow;rw[zeo,if_pos h,List.append_nil]
def zsb (n:Nat)(f:Nat->α)(M:Nat->Nat->α)(q p:Nat)(h:¬ (f q=S.zero∨M q p=S.zero)):restL S n f M q (p+1)=restL S n f M q p++[(p,S.mul (f q) (M q p))]:=by
 unfold restL restRow;rw[zeo,if_neg h,zqbj]
def zqh (f:Nat->α)(M:Nat->Nat->α)(q y:Nat):∀ m,cs S (restRow S f M q m) y=if y<m then S.mul (f q) (M q y) else S.zero
 | 0=>(if_neg (Nat.not_lt_zero y)).symm
 | m+1=>by
  have ih:=zqh f M q y m;unfold restRow at ih ⊢;rw[zeo,zfB,ih]
  by_cases h:f q=S.zero∨M q m=S.zero
  ·rw[if_pos h]
   show S.add _ S.zero=_;rw[S.add_zero]
   by_cases h1:y<m
   rw[if_pos h1,if_pos (by omega)];rw[if_neg h1]
   by_cases h2:y<m+1
   ·rw[if_pos h2]
    obtain rfl:y=m:=by omega
    rcases h with h|h;rw[h,S.zero_mul];rw[h,S.mul_zero]
   rw[if_neg h2]
  rw[if_neg h];have e:cs S [(m,S.mul (f q) (M q m))] y=if y=m then S.mul (f q) (M q m) else S.zero:=ziB m y _
  rw[e]
  by_cases h1:y<m
  rw[if_pos h1,if_neg (by omega),if_pos (by omega),S.add_zero];rw[if_neg h1,S.zero_add]
  by_cases h2:y=m
  rw[if_pos h2,if_pos (by omega),h2];rw[if_neg h2,if_neg (by omega)]
def zDX (n:Nat)(f:Nat->α)(M:Nat->Nat->α){y:Nat}(hy:y<n):cs S (restL S n f M n 0) y=sm S n (fun q=>S.mul (f q) (M q y)):=by
 unfold restL;show cs S (_++[]) y=_;rw[List.append_nil,znJ];exact zar S (fun q _=>by rw[zqh,if_pos hy])
open Classical in
noncomputable def finL (S:Sr α)(ve:ByteArray->α)(l:List zac)(f:Nat->α)(q:Nat):List (Nat×α):=(List.range q).flatMap (fun r=>if stF l r=noB then [] else [(0,S.mul (f r) (ve (stF l r)))])
def zsc (ve:ByteArray->α)(l:List zac)(f:Nat->α)(q:Nat)(h:stF l q=noB):finL S ve l f (q+1)=finL S ve l f q:=by
 unfold finL;rw[zeo,if_pos h,List.append_nil]
def zuj (ve:ByteArray->α)(l:List zac)(f:Nat->α)(q:Nat)(h:stF l q≠noB):finL S ve l f (q+1)=finL S ve l f q++[(0,S.mul (f q) (ve (stF l q)))]:=by
 unfold finL;rw[zeo,if_neg h]
def zGq (ve fe:ByteArray->α)(h0:fe noB=S.zero)(hve:∀ a,a≠noB->fe a=ve a)(l:List zac)(f:Nat->α):cs S (finL S ve l f l.length) 0=zde S (wmG S ve fe l) f (wmG S ve fe l).F:=by
 unfold finL;rw[znJ];refine zar S (fun q _=>?_);show _=S.mul (f q) (fe (stF l q));split
 ·next h=>rw[h,h0,S.mul_zero];rfl
 next h =>
 rw[hve _ h];exact(ziB 0 0 _).trans (if_pos rfl)
section
variable (S) (m:Wm α) (x y:List Nat)
def zDY (i:Nat)(V:Nat->Nat->Nat->α):Nat->Nat->Nat->Nat->α
 | 0=>V
 | j+1=>zfQ S m x y (zDY i V j) i j
def zAV (V:Nat->Nat->Nat->α):Nat->Nat->Nat->Nat->α
 | 0=>V
 | i+1=>zDY S m x y i (zAV V i) (y.length+1)
def VI (V:Nat->Nat->Nat->α)(i j:Nat):Nat->Nat->Nat->α:=zDY S m x y i (zAV S m x y V i) j
end
def zuk (m:Wm α)(x y:List Nat)(V:Nat->Nat->Nat->α)(i:Nat):VI S m x y V (i+1) 0=VI S m x y V i (y.length+1):=rfl
def zru (m:Wm α)(x y:List Nat)(V:Nat->Nat->Nat->α)(i j:Nat):VI S m x y V i (j+1)=zfQ S m x y (VI S m x y V i j) i j:=rfl
def zHx (m:Wm α)(x y:List Nat)(V:Nat->Nat->Nat->α):∀ i,i<=x.length->∀ j,(j<=y.length∨(j=y.length+1/\i<x.length))->pot S m x y (VI S m x y V i j) i j=pot S m x y V 0 0:=by
 intro i
 induction i with
 | zero =>
  intro hi j
  induction j with
  | zero=>intro _;rfl
  | succ j ih =>
   exact zQcm
 | succ i ihi =>
  intro hi j
  induction j with
  | zero =>
   intro _;rw[zuk,<- zFy];exact ihi (by omega) _ (.inr ⟨rfl,by omega⟩)
  | succ j ih =>
   exact zQcm
def zmN (m:Wm α)(x y:List Nat)(V:Nat->Nat->Nat->α):zfQ S m x y V x.length y.length x.length y.length=zaW S m (V x.length y.length):=by
 unfold zfQ;have e4:∀ V':Nat->Nat->Nat->α,zgL S m x y V' x.length y.length=V':=fun V'=>by unfold zgL;rw[if_neg (fun h=>Nat.lt_irrefl _ h.1)]
 have e3:∀ V':Nat->Nat->Nat->α,zdk S m y V' x.length y.length=V':=fun V'=>by unfold zdk;rw[if_neg (Nat.lt_irrefl _)]
 have e2:∀ V':Nat->Nat->Nat->α,zci S m x V' x.length y.length=V':=fun V'=>by unfold zci;rw[if_neg (Nat.lt_irrefl _)]
 rw[e4,e3,e2,zbS]
def zDZ (m:Wm α)(x y:List Nat){V:Nat->Nat->Nat->α}{lead:α}{start:Nat}(hs:start<m.n)(h:∀ i j q,V i j q=if i=0/\j=0/\q=start then lead else S.zero):zde S m (VI S m x y V x.length (y.length+1) x.length y.length) m.F=S.mul lead (bk S m x y start):=by
 rw[zru,zmN,<- zCu,zHx m x y V x.length (zqab _) y.length (.inl (zqab _)),zzi hs h]
section
variable (S) (fit:α->Prop) (ve fe:ByteArray->α) (l:List zac) (x y:List Nat)
structure zrv (V:Nat->Nat->Nat->α)(i j i2 j2 a b:Nat):Prop where
 step:zaR S fit (stepL S ve l (V i j) a b l.length 0)
 sum:∀ p,p<l.length->fit (S.add (V i2 j2 p) (stp S (wmG S ve fe l) (V i j) a b p))
structure zul (any:Prop)(V:Nat->Nat->Nat->α)(i j:Nat):Prop where
 rest:any->zaR S fit (restL S l.length (V i j) (stM S (wmG S ve fe l).E l.length) l.length 0)
 in_:i<x.length->zrv S fit ve fe l (proc1 S (wmG S ve fe l) V i j) i j (i+1) j (x.getD i 0) 0
 out:j<y.length->zrv S fit ve fe l (zci S (wmG S ve fe l) x (proc1 S (wmG S ve fe l) V i j) i j) i j i (j+1) 0 (y.getD j 0)
 both:i<x.length/\j<y.length->zrv S fit ve fe l (zdk S (wmG S ve fe l) y (zci S (wmG S ve fe l) x (proc1 S (wmG S ve fe l) V i j) i j) i j) i j (i+1) (j+1) (x.getD i 0) (y.getD j 0)
end
def zEa {m:Wm α}(h:∀ i j,m.E i j=S.zero)(i j:Nat):stM S m.E m.n i j=idm S i j:=by
 have e:∀ t i j,el S m.E t i j=S.zero:=fun t=>by
  induction t with
  | zero=>exact h
  | succ t ih=>intro i j;show S.add (el S m.E t i j) (S.mul (S.mul (el S m.E t i t) _) (el S m.E t t j))=_;rw[ih,ih,S.zero_mul,S.zero_mul,S.add_zero]
 unfold stM;rw[e,S.add_zero]
def zAW {m:Wm α}(h:∀ i j,m.E i j=S.zero)(f:Nat->α){p:Nat}(hp:p<m.n):zaW S m f p=f p:=by
 unfold zaW;rw[zar S (g:=fun q=>S.mul (f q) (idm S q p)) (fun q _=>by rw[zEa h])];exact zpi S f hp
end
open Go.RowKit
section
variable {k:Int}
def zmO (w:World)(g:Nat)(kd st:Int)(ld:ByteArray)(As:Option Addr)(n cs:Nat):Prop :=
 w.cell? ⟨g,0,none⟩=some (.int .i64 kd)/\w.cell? ⟨g,1,none⟩=some (.int .i64 st)/\w.cell? ⟨g,2,none⟩=some (.string ld)/\w.cell? ⟨g,3,none⟩=some (.slice As n cs)
def zmO.new (w:World)(kd st:Int)(ld:ByteArray)(As:Option Addr)(n cs:Nat):zmO (w.alloc (.cells #[.int .i64 kd,.int .i64 st,.string ld,.slice As n cs] 29)) w.heap.size kd st ld As n cs:=⟨zge w _ _ rfl,zge w _ _ rfl,zge w _ _ rfl,zge w _ _ rfl⟩
end
open Go.RowKit
def tk9 {P:Program}{ops:Array Oper}{Q:Exit->Act->World->Prop}{md:Region.Mode}{S:World->Prop}(i:Nat)(v:Value){oi:Oper}{fuel:Nat}{listed:Array Bool}{a:Act}{w:World}(hi:ops[i]?=some oi)(hS:S w)
  (h:wpAnyH P md ops Q S fuel (listed.setIfInBounds i true) (a.put oi.dst v) w)
  (hb:(Region.noSelect ops&&Region.free md ops listed i&&(Region.ready md ops listed).contains i)=true:=by kernel_rfl)
  (hQ:∀ c a w,Q (.panic c) (a.put oi.dst v) w->Q (.panic c) a w:=by exact fun _ _ _ h=>h)
  (hw:Region.wanted oi (yielded ops a.tmps)=true:=by rfl)
  (hy:∀ W,S W->(execOp a.eval oi).run P W=.ok (.value v) W:=by intro W h;(try dsimp only at h);first|(go_simp;done)|(go_simp;rfl)):wpAnyH P md ops Q S (fuel+1) listed a w:=by
 simp only[zqbb] at hb;exact wpAnyH_take hi hb.1.1 hb.1.2 hb.2 hQ (Or.inl ⟨hw,hy⟩) hS h
def tu9 {P:Program}{ops:Array Oper}{Q:Exit->Act->World->Prop}{md:Region.Mode}{S:World->Prop}(i:Nat){oi:Oper}{fuel:Nat}{listed:Array Bool}{a:Act}{w:World}(hi:ops[i]?=some oi)(hS:S w)
  (h:wpAnyH P md ops Q S fuel (listed.setIfInBounds i true) (a.put oi.dst undef) w)
  (hb:(Region.noSelect ops&&Region.free md ops listed i&&(Region.ready md ops listed).contains i)=true:=by kernel_rfl)
  (hQ:∀ c a w,Q (.panic c) (a.put oi.dst undef) w->Q (.panic c) a w:=by exact fun _ _ _ h=>h)
  (hw:Region.wanted oi (yielded ops a.tmps)=false:=by rfl):wpAnyH P md ops Q S (fuel+1) listed a w:=by
 simp only[zqbb] at hb;exact wpAnyH_take hi hb.1.1 hb.1.2 hb.2 hQ (Or.inr ⟨hw,rfl⟩) hS h
def zbe (w:World)(g n:Nat)(G:Nat->ByteArray):Prop:=w.heap[g]?=some (.cells (zfA G n).toArray 9 (0,0))
def zbe.lt {w:World}{g n:Nat}{G:Nat->ByteArray}(h:zbe w g n G):g<w.heap.size:=(zqad.1 h).1
def zbe.cell {w:World}{g n:Nat}{G:Nat->ByteArray}(h:zbe w g n G){j:Nat}(hj:j<n):w.cell? ⟨g,j,none⟩=some (.string (G j)):=by
 rw[zqbw w g j _ _ (0,0) h,zqap];unfold zfA;rw[zqaj,zqbe hj];rfl
def zbe.free {w:World}{g n:Nat}{G:Nat->ByteArray}(h:zbe w g n G)(j:Nat):w.frozen? ⟨g,j,none⟩=false:=zqbx w g j _ _ h
def zbe.grown {w w':World}{g n:Nat}{G:Nat->ByteArray}(h:zbe w g n G)(hg:w.grownBy w' none):zbe w' g n G:=(hg.block g h.lt (by simp)).trans h
def zbe.grownB {w w':World}{g n b:Nat}{G:Nat->ByteArray}(h:zbe w g n G)(hg:w.grownBy w' (some b))(hb:g≠b):zbe w' g n G:=(hg.block g h.lt (by simpa using hb)).trans h
def zbe.congr {w:World}{g n:Nat}{G H:Nat->ByteArray}(h:zbe w g n G)(e:∀ j,j<n->G j=H j):zbe w g n H:=by
 have:zfA G n=zfA H n:=List.map_congr_left (fun j hj=>by rw[e j (List.mem_range.1 hj)]);unfold zbe;rw[<- this];exact h
def zbe.put {w:World}{g n:Nat}{G:Nat->ByteArray}(h:zbe w g n G){i:Nat}(hi:i<n)(s:ByteArray):zbe (w.setCell ⟨g,i,none⟩ (.string s)) g n (fun j=>if j=i then s else G j):=by
 have h1:=heap_setCell_same w g i _ _ (.string s) h;unfold zbe;rw[h1];congr 2;apply Array.toList_inj.1;simp only[Array.toList_setIfInBounds];apply List.ext_getElem?;intro j;unfold zfA
 by_cases e:j=i
 ·subst e
  rw[zqbi (by simpa using hi),zqaj,zqbe hi];simp
 rw[zqbl (Ne.symm e),zqaj,zqaj]
 by_cases hj:j<n
 ·rw[zqbe hj]
  simp[e]
 rw[zqas (by simpa using hj)];rfl
def zbe.rowAt {w:World}{g n:Nat}{G:Nat->ByteArray}(h:zbe w g n G):zsC w g 0 n (fun j=>.string (G j)):=⟨h.lt,fun j hj=>by rw[zqat];exact h.cell hj⟩
def zbe.rowR {w:World}{g n:Nat}{G:Nat->ByteArray}(h:zbe w g n G)(hn:n<=maxLen):zev w (.slice (some ⟨g,0,none⟩) n n) n (fun j=>.string (G j)):=h.rowAt.row (zqab _) hn
def zEb {k:Int}(hk:zam k)(g n i:Nat)(U:Nat->El k)(z:El k)(w:World)(e:Ending)(w':World):Prop :=
 ∃ E:Int,e=.returned (.int .i64 E)/\w.grownBy w' (some g)/\((E=0/\zav z/\zav ((srE k hk).add (U i) z)/\zbe w' g n (fun j=>if j=i then tx ((srE k hk).add (U i) z) else tx (U j)))∨(E=2/\¬ (zav z/\zav ((srE k hk).add (U i) z))/\zbe w' g n (fun j=>tx (U j))))
def zgi {k:Int}(r:El k):(zav r/\zdm r.1=.tuple #[.string (tx r),.int .i64 0])∨(¬ zav r/\zdm r.1=.tuple #[.string ⟨#[]⟩,.int .i64 2]):=by
 by_cases hf:zav r
 exact .inl ⟨hf,znC (znF hf)⟩;exact .inr ⟨hf,ztQ hf⟩
def zxQ (k:Int)(n:Nat)(w:World)(e:Ending)(w':World):Prop :=
 ∃ g,e=.returned (.slice (some ⟨g,0,none⟩) n n)/\w.heap.size<=g/\w.grownBy w' none/\zbe w' g n (fun _=>zaV k)
def zqi {n:Nat}{G:Nat->ByteArray}:zfA G n++List.replicate (n-(zfA G n).length) (.string ⟨#[]⟩)=zfA G n:=by rw[zeO,zqbr];simp
def zio (k st:Int)(ld:ByteArray)(As:Option Addr)(n cs:Nat)(w:World)(hn:n<=3000) :
  Calls prog 71 #[.agg #[.int .i64 k,.int .i64 st,.string ld,.slice As n cs]] w (zxQ k n w):=by
 obtain⟨j0,ji,jz0,jz1,jz2⟩:=info_parts zoJ;have hal:=zGA w (.cells #[.int .i64 k,.int .i64 st,.string ld,.slice As n cs] 29) none;obtain⟨x0,_,_,x3⟩:=zmO.new w k st ld As n cs;have hsz:(w.alloc (.cells #[.int .i64 k,.int .i64 st,.string ld,.slice As n cs] 29)).heap.size=w.heap.size+1:=by simp
 have n0:¬ (n:Int)<0:=by omega
 have HN:=zHd hn;have HAL:=zHd hal;have HSZ:=zHd hsz;clear hn hal hsz;go_enter func71,ntmps71;go_upto_region 1 with(fail);generalize w.alloc (.cells #[.int .i64 k,.int .i64 st,.string ld,.slice As n cs] 29)=W0 at *;go_wp2_with (at_make;refine wpList_make_full _ rfl _ _ 109 rfl W0.heap.size 9 j0 (.string ⟨#[]⟩) 1 underlying109 ji jz0 jz1 _ _ _ _ n rfl rfl ?c0 ?c1 ?c2 (by have:=HN.out;unfold maxLen;omega) (zqab _) ?_)
 case c0=>omega
 case c1=>omega
 case c2=>have:=HN.out;first|omega|(rw[jz2];omega)
 intro w1 zO hgr;have zF:=zbI.start zO hgr;have HF:=zHd zF;have e0:=hgr.cell x0 (by simp);clear zO hgr zF x3;go_wp2
 go_loopw [4] (fun iv wr=>∃ i:Nat,i<=n/\iv=.int .i64 (i:Int)/\zbI 9 (.string ⟨#[]⟩) n (zfA (fun _=>zaV k) i) W0 wr) (fun iv _=>n-(intOf iv).toNat)
 case atStart=>exact⟨0,zqaw _,rfl,HF.out⟩
 case round =>
  obtain⟨i,hi',rfl,hf⟩:=hrel;have y0:=hf.gr.cell x0 (by simp)
  by_cases hin:i<n
  ·have u1:decide (i<n)=true:=by simpa using hin
   have u1':decide ((i:Int)<(n:Int))=true:=by simpa using hin
   have u2:(i:Int)<(n:Int):=by omega
   have u3:(0:Int)<=(i:Int):=by omega
   have u4:IntKind.i64.wrap ((i:Int)+1)=(i:Int)+1:=by have:=HN.out;rw[zqah];omega
   have HI:=zHd (zAI hin hf);clear hi' hin hf e0;go_wp2_with fail;refine(zbj k _).mono ?_;rintro e w2 ⟨rfl,hg2⟩;have hf2:=HI.out.2.grown hg2;have c2:=hf2.cell (by rw[zeO];exact HI.out.1);have z2:=hf2.free i;rw[zeO] at c2;have hp:=hf2.put (by rw[zeO];exact HI.out.1) (.string (zaV k));rw[zeO] at hp;have hs:=zqb (fun _=>zaV k) i;rw[hs] at hp;have HP:=zHd hp;clear hf2 hp hs hg2;go_wp2;exact⟨⟨i+1,HI.out.1,by simp,HP.out⟩,by have:=HI.out.1;simp[intOf];omega⟩
  obtain rfl:i=n:=by omega
  have v1:decide (i<i)=false:=by simp
  have v1':decide ((i:Int)<(i:Int))=false:=by simp
  have HJ:=zHd hf;clear hi' hin hf e0;go_wp2;go_ret;have hr:=HJ.out.row;rw[zqi] at hr;exact⟨_,rfl,by have:=HSZ.out;omega,zaa HAL.out HJ.out.gr,hr⟩
def zmP {k:Int}(hk:zam k)(g n i:Nat)(cp:Nat)(U:Nat->El k)(u v:El k)(fu:zav u)(fv:zav v)(hU:∀ j,j<n->zav (U j))(hi:i<n)(w:World)(hr:zbe w g n (fun j=>tx (U j))) :
  Calls prog 112 #[.int .i64 k,.slice (some ⟨g,0,none⟩) n cp,.int .i64 (i:Int),.string (tx u),.string (tx v)] w (zEb hk g n i U ((srE k hk).mul u v) w):=by
 have hop:SOp 61 k (tx u) (tx v) (zdm ((srE k hk).mul u v).1):=zlq (zcW fu) (zcW fv);have hpl:zav ((srE k hk).mul u v)->SOp 59 k (tx (U i)) (tx ((srE k hk).mul u v)) (zdm ((srE k hk).add (U i) ((srE k hk).mul u v)).1):=fun hf=>zix (zcW (hU i hi)) (zcW hf);generalize (srE k hk).mul u v=z at *;have HOP:=zHd hop;have HPL:=zHd hpl;have HR:=zHd hr;have HU:=zHd hU;have HI:=zHd hi;have ti:(i:Int)<(n:Int):=by omega
 clear hop hpl hr hU;go_enter func112,ntmps112;go_wp2_with fail;refine(HOP.out w).mono ?_;rintro e w1 ⟨rfl,hg1⟩;have hr1:=HR.out.grown hg1;have c1:=hr1.cell HI.out;have HR1:=zHd hr1;have HG1:=zHd hg1;clear hr1 hg1;rcases zgi z with⟨hf,hE⟩|⟨hf,hE⟩
 ·rw[hE]
  have HPL2:=zHd (HPL.out hf);have HF:=zHd hf;clear HPL hf hE;go_wp2_with fail;refine(HPL2.out _).mono ?_;rintro e w2 ⟨rfl,hg2⟩;have hr2:=HR1.out.grown hg2;have y2:=hr2.free i;have c2:=hr2.cell HI.out;have HR2:=zHd hr2;have HG2:=zHd (zaa HG1.out hg2);clear hr2 hg2;rcases zgi ((srE k hk).add (U i) z) with⟨hf,hE⟩|⟨hf,hE⟩
  ·rw[hE]
   have HF2:=zHd hf;clear hf hE;go_wp2;go_ret;exact⟨0,rfl,zaa (zaw (some g) HG2.out) (zad _ _ _),.inl ⟨rfl,HF.out,HF2.out,HR2.out.put HI.out _⟩⟩
  rw[hE];have HF2:=zHd hf;clear hf hE;go_wp2;go_ret;exact⟨2,rfl,zaw (some g) HG2.out,.inr ⟨rfl,fun h=>HF2.out h.2,HR2.out⟩⟩
 rw[hE];have HF:=zHd hf;clear HPL hf hE;go_wp2;go_ret;exact⟨2,rfl,zaw (some g) HG1.out,.inr ⟨rfl,fun h=>HF.out h.1,HR1.out⟩⟩
open Go.RowKit
def zEc:(prog.info? 76).map (fun i=>(i.zero,i.size,i.bytes))=some (some (.agg #[.string ⟨#[]⟩,.slice none 0 0]),2,40):=by kernel_rfl
def zsd:(prog.info? 78).map (fun i=>(i.zero,i.size,i.bytes))=some (some (.agg #[.int .i64 0,.int .i64 0,.string ⟨#[]⟩,.int .i64 0]),4,40):=by kernel_rfl
structure zbG (W:World)(bb:Nat)(k:Int)(one:ByteArray)(v:Value)(ss:List zac)(us:List Value):Prop where
 box:W.heap[bb]?=some (.cells #[v,.int .i64 k,.string one] 68 (0,0))
 len:us.length=ss.length
 own:W.ownsRow (bb+1) 76 2 v ss.length ((ss.zip us).flatMap stC)
 arcs:∀ (i:Nat) (s:zac) (u:Value),ss[i]?=some s->us[i]?=some u->W.ownsRow (bb+1) 78 4 u s.arcs.length (s.arcs.flatMap zdw)
 dis:∀ (i j:Nat) (u u':Value),i≠j->us[i]?=some u->us[j]?=some u'->u.ownBlock=none∨u.ownBlock≠u'.ownBlock
 far:∀ (i:Nat) (u:Value),us[i]?=some u->u.ownBlock=none∨u.ownBlock≠v.ownBlock
section
variable {W W':World} {bb:Nat} {k:Int} {one:ByteArray} {v:Value} {ss:List zac} {us:List Value}
def zbG.lt (h:zbG W bb k one v ss us):bb<W.heap.size:=(zqad.1 h.box).1
def zbG.c0 (h:zbG W bb k one v ss us):W.cell? ⟨bb,0,none⟩=some v:=by rw[zqbw W bb 0 _ _ (0,0) h.box];rfl
def zbG.c1 (h:zbG W bb k one v ss us):W.cell? ⟨bb,1,none⟩=some (.int .i64 k):=by rw[zqbw W bb 1 _ _ (0,0) h.box];rfl
def zbG.c2 (h:zbG W bb k one v ss us):W.cell? ⟨bb,2,none⟩=some (.string one):=by rw[zqbw W bb 2 _ _ (0,0) h.box];rfl
def zbG.free (h:zbG W bb k one v ss us)(j:Nat):W.frozen? ⟨bb,j,none⟩=false:=zqbx W bb j _ _ h.box
def zbG.vlow (h:zbG W bb k one v ss us):some bb≠v.ownBlock:=fun e=>by have:=(h.own.lt bb e.symm).1;omega
def zbG.ulow (h:zbG W bb k one v ss us){i:Nat}{u:Value}(hu:us[i]?=some u):some bb≠u.ownBlock:=fun e=>by
 have hi:=(zqae.1 hu).1;have:=((h.arcs i _ u (zqac (by rw[<- h.len];exact hi)) hu).lt bb e.symm).1;omega
def zbG.ult (h:zbG W bb k one v ss us){i:Nat}{u:Value}(hu:us[i]?=some u){b:Nat}(hb:u.ownBlock=some b):bb+1<=b/\b<W.heap.size:=by
 have hi:=(zqae.1 hu).1;exact(h.arcs i _ u (zqac (by rw[<- h.len];exact hi)) hu).lt b hb
def zbG.grown (h:zbG W bb k one v ss us)(hg:W.grownBy W' none):zbG W' bb k one v ss us where
 box:=(hg.block bb h.lt (by simp)).trans h.box
 len:=h.len
 own:=h.own.kept hg (by cases e:v.ownBlock <;> simp)
 arcs i s u hs hu:=(h.arcs i s u hs hu).kept hg (by cases e:u.ownBlock <;> simp)
 dis:=h.dis
 far:=h.far
def zbG.box_set {v':Value}(hbox:W.heap[bb]?=some (.cells #[v,.int .i64 k,.string one] 68 (0,0))):(W.setCell ⟨bb,0,none⟩ v').heap[bb]?=some (.cells #[v',.int .i64 k,.string one] 68 (0,0)):=by
 rw[heap_setCell_same W bb 0 _ _ v' hbox];rfl
def zbG.push {W1:World}{g cap:Nat}{s:zac}(h:zbG W1 bb k one v ss us)(hs:s.arcs=[])(zO:W'.ownsRow (bb+1) 76 2 (.slice (some ⟨g,0,none⟩) (ss.length+1) cap) (ss.length+1) ((ss.zip us).flatMap stC++stC (s,.slice none 0 0)))
  (hg:W1.grownBy W' v.ownBlock) (hat:v.ownBlock=some g∨g=W1.heap.size) :
  zbG (W'.setCell ⟨bb,0,none⟩ (.slice (some ⟨g,0,none⟩) (ss.length+1) cap)) bb k one (.slice (some ⟨g,0,none⟩) (ss.length+1) cap) (ss++[s]) (us++[.slice none 0 0]):=by
 have hset:=zad W' ⟨bb,0,none⟩ (.slice (some ⟨g,0,none⟩) (ss.length+1) cap);have hgb:bb+1<=g:=(zO.lt g rfl).1
 have hfar:∀ (i:Nat) (u:Value),us[i]?=some u->u.ownBlock=none∨u.ownBlock≠some g:=fun i u hu=>by
  cases e:u.ownBlock with
  | none=>exact .inl rfl
  | some b =>
   refine .inr (fun e2=>?_);cases e2;rcases hat with h1|h1
   ·rcases h.far i u hu with h2|h2
    ·rw[h2] at e;cases e
    exact h2 (e.trans h1.symm)
   have:=(h.ult hu e).2;omega
 refine⟨zbG.box_set ((hg.block bb h.lt h.vlow).trans h.box),by simp[h.len],?_,fun i s' u hs' hu=>?_,fun i j u u' hij hu hu'=>?_,fun i u hu=>?_⟩
 ·have hl:((ss++[s]).zip (us++[.slice none 0 0])).flatMap stC=(ss.zip us).flatMap stC++stC (s,.slice none 0 0):=by
   rw[List.zip_append h.len.symm,List.flatMap_append];rfl
  rw[hl,zqag];exact zO.kept hset (.inr (by show some g≠some bb;intro e;cases e;omega))
 ·by_cases hi:i<us.length
  ·rw[zqal hi] at hu
   rw[zqal (by rw[<- h.len];exact hi)] at hs';refine((h.arcs i s' u hs' hu).kept hg (h.far i u hu)).kept hset (.inr ?_);exact fun e=>h.ulow hu e.symm
  rw[zqaq (by omega)] at hu;rw[zqaq (by rw[<- h.len];omega)] at hs'
  have e1:i-us.length=0:=by
   rcases Nat.eq_zero_or_pos (i-us.length) with e|e;exact e;exact zQbR
  rw[e1] at hu;rw[<- h.len,e1] at hs';cases hu;cases hs';rw[hs];exact World.ownsRow_nil _ _ _ _
 ·by_cases hi:i<us.length
  ·rw[zqal hi] at hu
   by_cases hj:j<us.length
   ·rw[zqal hj] at hu'
    exact h.dis i j u u' hij hu hu'
   rw[zqaq (by omega)] at hu'
   have e1:j-us.length=0:=by
    rcases Nat.eq_zero_or_pos (j-us.length) with e|e;exact e;rw[zqas (by simp;omega)] at hu';cases hu'
   rw[e1] at hu';cases hu';cases e:u.ownBlock with
   | none=>exact .inl rfl
   | some b=>exact .inr (by show some b≠none;simp)
  rw[zqaq (by omega)] at hu
  have e1:i-us.length=0:=by
   rcases Nat.eq_zero_or_pos (i-us.length) with e|e;exact e;exact zQbR
  rw[e1] at hu;cases hu;exact .inl rfl
 by_cases hi:i<us.length
 ·rw[zqal hi] at hu
  exact hfar i u hu
 rw[zqaq (by omega)] at hu
 have e1:i-us.length=0:=by
  rcases Nat.eq_zero_or_pos (i-us.length) with e|e;exact e;exact zQbR
 rw[e1] at hu;cases hu;exact .inl rfl
end
def zbU (E:Nat->Prop)(W W':World):Prop:=Below 0 W W'/\∀ b,E b->W'.heap[b]?=W.heap[b]?
def zbU.refl (E:Nat->Prop)(W:World):zbU E W W:=⟨Below.refl _ _,fun _ _=>rfl⟩
def zbU.trans {E:Nat->Prop}{W W1 W2:World}(h:zbU E W W1)(h2:zbU E W1 W2):zbU E W W2:=⟨h.1.trans h2.1,fun b hb=>(h2.2 b hb).trans (h.2 b hb)⟩
def zbU.mono {E F:Nat->Prop}{W W':World}(h:zbU E W W')(hf:∀ b,F b->E b):zbU F W W':=⟨h.1,fun b hb=>h.2 b (hf b hb)⟩
def zbU.size {E:Nat->Prop}{W W':World}(h:zbU E W W'):W.heap.size<=W'.heap.size:=h.1.size
def zaF {E:Nat->Prop}{W W':World}{r:Option Nat}(h:W.grownBy W' r)(hr:∀ b,r=some b->¬ E b)(hl:∀ b,E b->b<W.heap.size):zbU E W W' :=
 ⟨⟨h.os,h.tape,h.output,h.size,fun i hi=>absurd hi (Nat.not_lt_zero i)⟩,fun b hb=>h.block b (hl b hb) (fun e=>hr b e.symm hb)⟩
def zbU.below {E:Nat->Prop}{B:Nat}{W W':World}(h:zbU E W W')(hB:∀ b,b<B->E b):Below B W W':=⟨h.1.os,h.1.tape,h.1.output,h.1.size,fun i hi=>h.2 i (hB i hi)⟩
def zbU.cell {E:Nat->Prop}{W W':World}(h:zbU E W W'){p:Addr}{x:Value}(hp:E p.block)(hc:W.cell? p=some x):W'.cell? p=some x:=(World.cell?_of_block (h.2 p.block hp)).trans hc
structure zbL (E:Nat->Prop)(W:World)(bb:Nat)(k:Int)(one:ByteArray)(v:Value)(ss:List zac)(us:List Value):Prop where
 at_:zbG W bb k one v ss us
 nb:¬ E bb
 nv:∀ b,v.ownBlock=some b->¬ E b
 nu:∀ (i:Nat) (u:Value) (b:Nat),us[i]?=some u->u.ownBlock=some b->¬ E b
 lt:∀ b,E b->b<W.heap.size
section
variable {E F:Nat->Prop} {W W':World} {bb:Nat} {k:Int} {one:ByteArray} {v:Value} {ss:List zac} {us:List Value}
def zbL.mono (h:zbL E W bb k one v ss us)(hf:∀ b,F b->E b):zbL F W bb k one v ss us :=
 ⟨h.at_,fun e=>h.nb (hf _ e),fun b e hb=>h.nv b e (hf b hb),fun i u b hu e hb=>h.nu i u b hu e (hf b hb),fun b hb=>h.lt b (hf b hb)⟩
def zbL.grown (h:zbL E W bb k one v ss us)(hg:W.grownBy W' none)(hf:∀ b,F b->E b∨(W.heap.size<=b/\b<W'.heap.size)):zbL F W' bb k one v ss us:=by
 refine⟨h.at_.grown hg,fun e=>?_,fun b e hb=>?_,fun i u b hu e hb=>?_,fun b hb=>?_⟩
 ·rcases hf _ e with e|e
  ·exact h.nb e
  have:=h.at_.lt;omega
 ·rcases hf _ hb with e2|e2
  ·exact h.nv b e e2
  have:=(h.at_.own.lt b e).2;omega
 ·rcases hf _ hb with e2|e2
  ·exact h.nu i u b hu e e2
  have:=(h.at_.ult hu e).2;omega
 rcases hf _ hb with e|e
 ·have:=h.lt b e;have:=hg.size;omega
 exact e.2
def zbL.same (h:zbL E W bb k one v ss us)(hg:W.grownBy W' none):zbL E W' bb k one v ss us:=h.grown hg (fun b hb=>.inl hb)
def zbL.push {W1:World}{g cap:Nat}{s:zac}(h:zbL E W1 bb k one v ss us)(hs:s.arcs=[])(zO:W'.ownsRow (bb+1) 76 2 (.slice (some ⟨g,0,none⟩) (ss.length+1) cap) (ss.length+1) ((ss.zip us).flatMap stC++stC (s,.slice none 0 0)))
  (hg:W1.grownBy W' v.ownBlock) (hat:v.ownBlock=some g∨g=W1.heap.size) :
  zbL E (W'.setCell ⟨bb,0,none⟩ (.slice (some ⟨g,0,none⟩) (ss.length+1) cap)) bb k one (.slice (some ⟨g,0,none⟩) (ss.length+1) cap) (ss++[s]) (us++[.slice none 0 0]) /\
  zbU E W1 (W'.setCell ⟨bb,0,none⟩ (.slice (some ⟨g,0,none⟩) (ss.length+1) cap)):=by
 have hset:=zad W' ⟨bb,0,none⟩ (.slice (some ⟨g,0,none⟩) (ss.length+1) cap);refine⟨⟨h.at_.push hs zO hg hat,h.nb,fun b e hb=>?_,fun i u b hu e hb=>?_,fun b hb=>?_⟩,(zaF hg (fun b e=>h.nv b e) h.lt).trans (zaF hset (fun b e=>by cases e;exact h.nb) (fun b hb=>?_))⟩
 ·have e:some g=some b:=e
  cases e;rcases hat with e|e
  exact h.nv g e hb;have:=h.lt g hb;omega
 ·by_cases hi:i<us.length
  ·rw[zqal hi] at hu
   exact h.nu i u b hu e hb
  rw[zqaq (by omega)] at hu
  have e1:i-us.length=0:=by
   rcases Nat.eq_zero_or_pos (i-us.length) with e|e;exact e;exact zQbR
  rw[e1] at hu;cases hu;cases e
 have:=h.lt b hb;have:=hg.size;have:=hset.size;omega;have:=h.lt b hb;have:=hg.size;omega
end
def zum (E:Nat->Prop)(bb:Nat)(k:Int)(one:ByteArray)(ss:List zac)(us:List Value)(f:ByteArray)(w:World)(e:Ending)(w':World):Prop :=
 e=.returned (.int .i64 (ss.length:Int))/\zbU E w w'/\∃ v',zbL E w' bb k one v' (ss++[⟨f,[]⟩]) (us++[.slice none 0 0])
def zgj {E:Nat->Prop}(bb:Nat)(k:Int)(one:ByteArray)(v:Value)(ss:List zac)(us:List Value)(f:ByteArray)(w:World)(h:zbL E w bb k one v ss us)(hn:ss.length<=1000000) :
  Calls prog 44 #[.pointer (some ⟨bb,0,none⟩),.string f] w (zum E bb k one ss us f w):=by
 obtain⟨i0,hi,hz0,hz1,hz2⟩:=info_parts zEc;have d0:=h.at_.c0;have z0:=h.at_.free 0;have hal:=zGA w (.cells #[.string f,.slice none 0 0] 76) none;have h1:=h.same hal;have zO:=h1.at_.own;have hlt:=h.at_.lt;have HK1:=zHd (zaF hal (fun b e=>by cases e) h.lt);have HN:=zHd hn;have H1:=zHd h1;have HAL:=zHd hal;have HLT:=zHd hlt;have HL:=zHd h.at_.vlow;clear hn hal h h1;go_enter func44,ntmps44;go_wp2_with (at_builtin;refine wpList_append_lies _ rfl _ _ _ rfl (bb+1) 76 i0 (.agg #[.string ⟨#[]⟩,.slice none 0 0]) 2 40 underlying27 hi hz0 hz1 hz2 rfl (by omega) v ss.length _ rfl zO ⟨w.heap.size,0,none⟩ 1 1 [.string f,.slice none 0 0] rfl rfl (World.news_of_block (cs:=#[.string f,.slice none 0 0]) (t:=76) (fr:=(0,0)) (zqce w _)) (by simp[Value.oneCell']) (by omega) (by have:=HN.out;unfold maxLen;omega) (by have:=HN.out;omega) (by simp;omega) (w.heap.size+1) (by simp) ?_);intro g cap w2 hown2 hg2 hat hlt2;have e0:w2.cell? ⟨bb,0,none⟩=some v:=hg2.cell (HAL.out.cell d0 (by simp)) HL.out
 have y0:w2.frozen? ⟨bb,0,none⟩=false:=by
  have:=HAL.out.size;have hb:=hg2.block bb (by have:=HLT.out;omega) HL.out;have h3:=H1.out.at_.box;exact zqbx w2 bb 0 _ _ (hb.trans h3)
 have hp:=H1.out.push (s:=⟨f,[]⟩) rfl hown2 hg2 (by rcases hat with e|e;exact .inl e;exact .inr (by rw[e];simp));have HP:=zHd hp.1;have HB:=zHd (HK1.out.trans hp.2);clear hp zO hown2 hg2 hat;have n1:IntKind.i64.wrap (((ss.length+1:Nat):Int)-1)=(ss.length:Int):=by have:=HN.out;rw[zqah];omega
 have n2:IntKind.i64.wrap ((ss.length:Int)+1-1)=(ss.length:Int):=by have:=HN.out;rw[zqah];omega
 go_wp2;go_ret;refine⟨?_,HB.out,_,HP.out⟩;have e:wrap64 (ss.length:Int)=(ss.length:Int):=by have:=HN.out;unfold wrap64;omega
 show Ending.returned (Value.int .i64 (wrap64 (ss.length:Int)))=_;rw[e]
open Go.RowKit
def zeE (w:World)(r:Option Nat)(x:Value)(l:List zaz):Prop:=zco w x l/\(0<l.length->x.ownBlock≠r)
def zeE.grown {w w':World}{r:Option Nat}{x:Value}{l:List zaz}(h:zeE w r x l)(hg:w.grownBy w' r):zeE w' r x l:=by
 obtain⟨⟨A,cap,rfl,hr⟩,ho⟩:=h;refine⟨⟨A,cap,rfl,hr.1,fun hl=>?_⟩,ho⟩;obtain⟨ad,rfl,hb,hc⟩:=hr.2 hl;have hne:=ho hl;refine⟨ad,rfl,zqba hb hg.size,fun j u hu=>hg.cell (hc j u hu) ?_⟩;rw[zbH];exact hne
def zeE.grown_none {w w':World}{r:Option Nat}{x:Value}{l:List zaz}(h:zeE w r x l)(hg:w.grownBy w' none):zeE w' r x l:=⟨h.1.grown hg,h.2⟩
def zco.block {w:World}{x:Value}{l:List zaz}(h:zco w x l)(hl:0<l.length):∃ b,x.ownBlock=some b/\b<w.heap.size:=by
 obtain⟨A,cap,rfl,hr⟩:=h;obtain⟨ad,rfl,hb,_⟩:=hr.2 hl;exact⟨_,rfl,hb⟩
def zew {w:World}{B n k:Nat}{e:TypeId}{v:Value}{xs:List Value}(h:w.ownsRow B e k v n xs):∃ A cap,v=.slice A n cap/\Reads w w.heap.size k A n xs:=by
 have hlt:=h.lt;rcases h.2 with⟨rfl,rfl⟩|⟨g,cap,cur,rfl,hb,hg,hnc,hcm,hcs,ht⟩
 exact⟨none,0,rfl,h.1,fun h0=>absurd h0 (by omega)⟩;exact⟨_,cap,rfl,h.1,fun h0=>⟨_,rfl,(hlt g rfl).2,fun j u hu=>h.cells (g:=g) rfl j u hu⟩⟩
def zoj {w:World}{B:Nat}{v:Value}{l:List zaz}(h:w.ownsRow B 78 4 v l.length (l.flatMap zdw)):zco w v l:=by
 obtain⟨A,cap,hv,hr⟩:=zew h;exact⟨A,cap,hv,hr⟩
def zun {w:World}{B:Nat}{v:Value}{l:List zaz}(h:w.ownsRow B 78 4 v l.length (l.flatMap zdw)){g:Nat}(hg:g<B):zeE w (some g) v l:=by
 refine⟨zoj h,fun _ e=>?_⟩;have:=(h.lt g e).1;omega
def zcw (w:World)(B:Nat)(P:Nat->Prop)(u:Value)(l:List zac):Prop:=∃ us,us.length=l.length/\w.ownsRow B 76 2 u l.length ((l.zip us).flatMap stC)/\∀ (k:Nat) (s:zac) (x:Value),l[k]?=some s->us[k]?=some x->zeE w u.ownBlock x s.arcs/\(0<s.arcs.length->∀ b,x.ownBlock=some b->P b)
def zcw.grown {w w':World}{B:Nat}{P:Nat->Prop}{u:Value}{l:List zac}(h:zcw w B P u l)(hg:w.grownBy w' none):zcw w' B P u l:=by
 obtain⟨us,hl,ho,ha⟩:=h;refine⟨us,hl,ho.kept hg ?_,fun k s x hs hx=>⟨(ha k s x hs hx).1.grown_none hg,(ha k s x hs hx).2⟩⟩;cases hb:u.ownBlock;exact .inl rfl;exact .inr (by simp)
def zcw.mono {w:World}{B B':Nat}{P P':Nat->Prop}{u:Value}{l:List zac}(h:zcw w B P u l)(hb:B'<=B)(hP:∀ b,P b->P' b):zcw w B' P' u l:=by
 obtain⟨us,hl,ho,ha⟩:=h;refine⟨us,hl,⟨ho.1,?_⟩,fun k s x hs hx=>⟨(ha k s x hs hx).1,fun h0 b hb=>hP b ((ha k s x hs hx).2 h0 b hb)⟩⟩;rcases ho.2 with h|⟨g,cap,cur,h1,h2,h3⟩;exact .inl h;exact .inr ⟨g,cap,cur,h1,by omega,h3⟩
def zcw.other {w w':World}{B b:Nat}{P:Nat->Prop}{u:Value}{l:List zac}(h:zcw w B P u l)(hg:w.grownBy w' (some b))(hu:u.ownBlock≠some b)(hP:¬ P b):zcw w' B P u l:=by
 obtain⟨us,hl,ho,ha⟩:=h;refine⟨us,hl,ho.kept hg (.inr hu),fun k s x hs hx=>⟨?_,(ha k s x hs hx).2⟩⟩;obtain⟨⟨⟨A,cap,rfl,hr⟩,ho1⟩,h2⟩:=ha k s x hs hx;refine⟨⟨A,cap,rfl,hr.1,fun h0=>?_⟩,ho1⟩;obtain⟨ad,rfl,hb1,hc⟩:=hr.2 h0;have hPb:=h2 h0 ad.block rfl;refine⟨ad,rfl,zqba hb1 hg.size,fun j v hv=>hg.cell (hc j v hv) ?_⟩;rw[zbH];intro e;cases e;exact hP hPb
def zEd (w:World)(B:Nat)(v:Value)(m:zah):Prop:=∃ u,v=.agg #[.int .i64 m.kind,.int .i64 m.start,.string m.lead,u]/\zcw w B (fun b=>B<=b) u m.states
def zcw.stN {w:World}{B C:Nat}{u:Value}{l:List zac}(h:zcw w B (fun b=>C<=b) u l)(hC:C<=B):StN w C u l:=by
 obtain⟨us,hl,ho,ha⟩:=h;obtain⟨A,cap,rfl,hr⟩:=zew ho;refine⟨A,cap,us,rfl,hl,hr,fun h0 ad hA=>?_,fun k s x hs hx=>⟨(ha k s x hs hx).1.1,(ha k s x hs hx).2⟩⟩;subst hA;exact zqam hC (ho.lt ad.block rfl).1
def zEd.mn {w:World}{B:Nat}{v:Value}{m:zah}(h:zEd w B v m):MN w B v m:=by
 obtain⟨u,hv,hs⟩:=h;exact⟨u,hv,hs.stN (zqab _)⟩
def zHy (m:zah)(w:World)(e:Ending)(w':World):Prop:=∃ v,e=.returned v/\zEd w' w.heap.size v m/\w.grownBy w' none
def zlC {α β:Type}(f:α->List β)(n:Nat)(hn:∀ a,(f a).length=n):∀ (l:List α) (k j:Nat) (a a':α) (b:β),l[k]?=some a->j<n->f a'=(f a).set j b->(l.set k a').flatMap f=(l.flatMap f).set (k*n+j) b
 | [],k,j,a,a',b,h,_,_=>by simp at h
 | x::l,0,j,a,a',b,h,hj,hf=>by
  simp only[List.getElem?_cons_zero,Option.some.injEq] at h;subst h;rw[List.set_cons_zero,List.flatMap_cons,List.flatMap_cons,Nat.zero_mul,zqat,hf,List.set_append_left _ _ (by rw[hn];exact hj)]
 | x::l,k+1,j,a,a',b,h,hj,hf=>by
  rw[List.getElem?_cons_succ] at h;rw[List.set_cons_succ,List.flatMap_cons,List.flatMap_cons,List.set_append_right _ _ (by rw[hn,Nat.succ_mul];omega),hn,show(k+1)*n+j-n=k*n+j by rw[Nat.succ_mul];omega];rw[zlC f n hn l k j a a' b h hj hf]
def zrw {α β:Type}:∀ (l:List α) (us:List β) (k:Nat) (a:α) (b:β),(l.set k a).zip (us.set k b)=(l.zip us).set k (a,b)
 | [],us,k,a,b=>by simp
 | x::l,[],k,a,b=>by cases k <;> simp
 | x::l,u::us,0,a,b=>by simp
 | x::l,u::us,k+1,a,b=>by simp[zrw l us k a b]
def zgx {w:World}{g j:Nat}{v:Value}:w.grownBy (w.setCell ⟨g,j,none⟩ v) (some g):=zad w ⟨g,j,none⟩ v
def zcw.set_arcs {w:World}{B g k cap:Nat}{P:Nat->Prop}{l:List zac}{s:zac}{x':Value}{al:List zaz}(h:zcw w B P (.slice (some ⟨g,0,none⟩) l.length cap) l)(hs:l[k]?=some s)(hx:zeE w (some g) x' al)(hxP:0<al.length->∀ b,x'.ownBlock=some b->P b) :
  zcw (w.setCell ⟨g,k*2+1,none⟩ x') B P (.slice (some ⟨g,0,none⟩) (l.set k ⟨s.fin,al⟩).length cap) (l.set k ⟨s.fin,al⟩):=by
 obtain⟨us,hl,ho,ha⟩:=h;have hk:=(zqae.1 hs).1;have hu:us[k]?=some (us[k]'(by omega)):=zqac (by omega);have hz:(l.zip us)[k]?=some (s,us[k]'(by omega)):=by rw[List.getElem?_zip_eq_some];exact⟨hs,hu⟩
 have hst:=(ho.stored (k*2+1) x').1;rw[<- zlC stC 2 zfI (l.zip us) k 1 _ (⟨s.fin,al⟩,x') x' hz (by omega) rfl,<- zrw] at hst;refine⟨us.set k x',by simp[hl],by rw[List.length_set];exact hst,fun i t x hi hx2=>?_⟩;show zeE _ (some g) x t.arcs/\_
 by_cases e:i=k
 ·subst e
  rw[zqbi hk] at hi;rw[zqbi (by omega)] at hx2;cases hi;cases hx2;exact⟨hx.grown zgx,hxP⟩
 rw[zqbl (Ne.symm e)] at hi hx2;exact zQcu
def zcw.set_fin {w:World}{B g k cap:Nat}{P:Nat->Prop}{l:List zac}{s:zac}{f:ByteArray}(h:zcw w B P (.slice (some ⟨g,0,none⟩) l.length cap) l)(hs:l[k]?=some s) :
  zcw (w.setCell ⟨g,k*2,none⟩ (.string f)) B P (.slice (some ⟨g,0,none⟩) (l.set k ⟨f,s.arcs⟩).length cap) (l.set k ⟨f,s.arcs⟩):=by
 obtain⟨us,hl,ho,ha⟩:=h;have hk:=(zqae.1 hs).1;have hu:us[k]?=some (us[k]'(by omega)):=zqac (by omega);have hz:(l.zip us)[k]?=some (s,us[k]'(by omega)):=by rw[List.getElem?_zip_eq_some];exact⟨hs,hu⟩
 have hst:=(ho.stored (k*2) (.string f)).1;have hself:us.set k (us[k]'(by omega))=us:=by simp
 have hfl:=zlC stC 2 zfI (l.zip us) k 0 _ (⟨f,s.arcs⟩,us[k]'(by omega)) (.string f) hz (by omega) rfl;rw[Nat.add_zero] at hfl;rw[<- hfl,<- zrw,hself] at hst;refine⟨us,by simp[hl],by rw[List.length_set];exact hst,fun i t x hi hx2=>?_⟩;show zeE _ (some g) x t.arcs/\_
 by_cases e:i=k
 ·subst e
  rw[zqbi hk] at hi;cases hi;exact⟨(ha i s x hs hx2).1.grown zgx,(ha i s x hs hx2).2⟩
 rw[zqbl (Ne.symm e)] at hi;exact zQcu
def zcw.at_ {w:World}{B g cap k:Nat}{P:Nat->Prop}{l:List zac}{s:zac}(h:zcw w B P (.slice (some ⟨g,0,none⟩) l.length cap) l)(hs:l[k]?=some s) :
  ∃ x,w.cell? ⟨g,k*2,none⟩=some (.string s.fin)/\w.cell? ⟨g,k*2+1,none⟩=some x/\zeE w (some g) x s.arcs/\∀ j,w.frozen? ⟨g,j,none⟩=false:=by
 obtain⟨us,hl,ho,ha⟩:=h;have hk:=(zqae.1 hs).1;have hu:us[k]?=some (us[k]'(by omega)):=zqac (by omega);have hz:(l.zip us)[k]?=some (s,us[k]'(by omega)):=by rw[List.getElem?_zip_eq_some];exact⟨hs,hu⟩
 have h0:=flat_get stC 2 zfI (l.zip us) k 0 _ hz (by omega);have h1:=flat_get stC 2 zfI (l.zip us) k 1 _ hz (by omega);rw[Nat.add_zero] at h0;exact⟨_,(ho.cellAt (k*2) (by omega)).trans h0,(ho.cellAt (k*2+1) (by omega)).trans h1,(ha k s _ hs hu).1,ho.frozenAt⟩
def zxR (P:Program)(w:World)(dT sT ty elem:TypeId)(g o dLen dCap:Nat)(a:Addr)(sLen sCap k:Nat)(cur:Array Value)(t:TypeId)(cs:List Value)
  (hu:P.underlying dT=some (.slice elem)) (hs:(P.info? elem).map (·.size)=some k)
  (hg:w.heap[g]?=some (.cells cur t (0,0))) (hn:cs.length=Nat.min sLen dLen*k)
  (hsrc:∀ j v,cs[j]?=some v->w.cell? (a.add j)=some v) (zf:o+cs.length<=cur.size) (h1:∀ v∈cs,v.oneCell'=true) :
  (Builtin.copy_ #[dT,sT] ty #[.slice (some ⟨g,o,none⟩) dLen dCap,.slice (some a) sLen sCap]).run P w =
   .ok (goInt (Nat.min sLen dLen)) (w.setRow g (cur.toList.take o++cs++cur.toList.drop (o+cs.length)).toArray):=by
 have hl:=run_loadCells_list (P:=P) w a cs hsrc;have hst:=run_storeCells_at P g o t cs 0 cur w hg (by simpa using zf) h1;cases hq:P.info? elem with
 | none=>simp[hq] at hs
 | some i =>
  have hi:i.size=k:=by simpa [hq] using hs
  rw[hn] at hl;simp[Builtin.copy_,run_underlying hu,Builtin.lenOf,Builtin.firstCells,sizeOf,typeInfo,hq,hi,hl,hst]
def zsu (P:Program)(w:World)(dT sT ty elem:TypeId)(d a:Option Addr)(dLen dCap sLen sCap:Nat)(hu:P.underlying dT=some (.slice elem))(hs:((P.info? elem).map (·.size)).isSome=true)(hn:Nat.min sLen dLen=0) :
  (Builtin.copy_ #[dT,sT] ty #[.slice d dLen dCap,.slice a sLen sCap]).run P w=.ok (goInt 0) w:=by
 have hl:=fun a=>run_loadCells_list (P:=P) w a [] (fun j v h=>by simp at h);simp only[List.length_nil] at hl;cases hq:P.info? elem with
 | none=>simp[hq] at hs
 | some i=>cases d <;> cases a <;> simp[Builtin.copy_,run_underlying hu,Builtin.lenOf,Builtin.firstCells,sizeOf,typeInfo,hq,storeCells,hn,hl]
def zlQ {P:Program}{w:World}(base:Nat)(t ty e:TypeId)(i:TypeInfo)(size:Nat)(ht:P.underlying t=some (.slice e))(hi:P.info? e=some i)
  (v:Value) (n c:Nat) (xs:List Value) (zO:w.ownsRow base e size v n xs) :
  (Builtin.append_ #[t,t] ty #[v,.slice none 0 c]).run P w=.ok v w:=by
 rcases zO.2 with⟨rfl,rfl⟩|⟨g,cap,cur,rfl,_,_,hnc,_⟩;simp[Builtin.append_,run_underlying ht,sizeOf,typeInfo,hi,Builtin.lenOf,Builtin.firstCells];simp[Builtin.append_,run_underlying ht,sizeOf,typeInfo,hi,Builtin.lenOf,Builtin.firstCells,hnc,storeCells]
def zlR {P:Program}(w:World){ops:Array Oper}{rest:List Oper}{o:Oper}{a:Act}{Q:Exit->Act->World->Prop}(hgd:o.guard=none)(s x:Operand)(t:TypeId)
  (ho:o.op=.call { callee:=.builtin .append,args:=#[s,x],argTypes:=#[t,t] })
  (base:Nat) (e:TypeId) (i:TypeInfo) (z:Value) (size bytes:Nat) (ht:P.underlying t=some (.slice e)) (hi:P.info? e=some i) (hz:i.zero=some z)
  (hsize:i.size=size) (hby:i.bytes=bytes) (hzs:z.cells.size=size) (hsz:0<size)
  (v:Value) (n:Nat) (xs:List Value) (hs:a.eval s=v) (zO:w.ownsRow base e size v n xs)
  (ao:Option Addr) (m c:Nat) (news:List Value) (hx:a.eval x=.slice ao m c) (hr:Reads w w.heap.size size ao m news) (h1:∀ u∈news,u.oneCell'=true)
  (h63:n+m<=maxLen) (hbytes:(n+m)*bytes<=140737488355328) (hbase:base<=w.heap.size)
  (h:∀ v' w',w'.ownsRow base e size v' (n+m) (xs++news)->w.grownBy w' v.ownBlock->(v'.ownBlock=v.ownBlock∨v'.ownBlock=some w.heap.size)->wpList P ops Q rest (a.put o.dst v') w') :
  wpList P ops Q (o::rest) a w:=by
 by_cases h0:0<m
 ·obtain⟨ad,rfl,hb,hc⟩:=hr.2 h0
  exact wpList_append_own_at w hgd s x t ho base e i z size bytes ht hi hz hsize hby hzs hsz v n xs hs zO ad m c news hx hr.1 hc h1 h63 hbytes hbase (fun v' w' k1 k2 _ k4=>h v' w' k1 k2 k4)
 obtain rfl:m=0:=by omega
 have hn:news=[]:=List.eq_nil_of_length_eq_zero (by have:=hr.1;omega);subst hn;cases ao with
 | some ad=>exact wpList_append_own_at w hgd s x t ho base e i z size bytes ht hi hz hsize hby hzs hsz v n xs hs zO ad 0 c [] hx (by simp) (fun j u hu=>by simp at hu) (by simp) h63 hbytes hbase (fun v' w' k1 k2 _ k4=>h v' w' k1 k2 k4)
 | none =>
  refine wpList_plain hgd fun K hK=>?_;have hrun:=zlQ (P:=P) (w:=w) base t o.type e i size ht hi v n c xs zO;unfold Oper.wp;simp[execOp,ho,resolve,invoke,builtin,hs,hx,hrun,Result.andThen];exact hK _ _ (h v w (by simpa using zO) (World.grownBy.refl _ _) (.inl rfl))
def zuo (l:List zaz):∀ u∈l.flatMap zdw,u.oneCell'=true:=by
 intro u hu;obtain⟨a,_,ha⟩:=List.mem_flatMap.1 hu;simp[zdw] at ha;rcases ha with rfl|rfl|rfl|rfl <;> rfl
def zEe:(prog.info? 78).map (fun i=>(i.zero,i.size,i.bytes))=some (some (.agg #[.int .i64 0,.int .i64 0,.string ByteArray.empty,.int .i64 0]),4,40):=by kernel_rfl
open Go.RowKit
def zlO {P:Program}{w:World}(dT sT ty elem:TypeId)(k:Nat)(hu:P.underlying dT=some (.slice elem))(hsz:(P.info? elem).map (·.size)=some k)
  (B g n c:Nat) (A:Option Addr) (old news:List Value) (zO:w.ownsRow B elem k (.slice (some ⟨g,0,none⟩) n n) n old) (hr:Reads w w.heap.size k A n news) (h1:∀ v∈news,v.oneCell'=true) :
  ∃ w',(Builtin.copy_ #[dT,sT] ty #[.slice (some ⟨g,0,none⟩) n n,.slice A n c]).run P w=.ok (.int .i64 (n:Int)) w'/\w'.ownsRow B elem k (.slice (some ⟨g,0,none⟩) n n) n news/\w.grownBy w' (some g):=by
 have hmin:Nat.min n n=n:=Nat.min_self n
 by_cases h0:0<n
 ·obtain⟨ad,rfl,hb,hc⟩:=hr.2 h0
  rcases zO.2 with⟨e,_⟩|⟨g',cap',cur,e,hbg,hg,hnc,hcm,hcs,ht⟩;cases e;simp only[Value.slice.injEq,Option.some.injEq,Addr.mk.injEq,and_true,true_and] at e;obtain⟨rfl,rfl⟩:=e;have hl:=hr.1;have hrun:=zxR P w dT sT ty elem g 0 n n ad n c k cur elem news hu hsz hg (by rw[hmin];exact hl) hc (by rw[hcs,hl];omega) h1;rw[hmin] at hrun;refine⟨_,hrun,⟨hl,.inr ⟨g,n,_,rfl,hbg,setRow_heap w g cur _ elem _ hg,zqab _,hcm,?_,?_⟩⟩,⟨rfl,rfl,rfl,by simp,fun j _ hj=>setRow_other w g j _ (fun e=>hj (by simp[e]))⟩⟩;simp[hl,hcs];simp[hl,hcs,List.drop_of_length_le];rw[<- hl];exact List.take_length
 obtain rfl:n=0:=by omega
 have hrun:=zsu P w dT sT ty elem (some ⟨g,0,none⟩) A 0 0 0 c hu (by rw[hsz];rfl) (by simp);have e1:news=[]:=List.eq_nil_of_length_eq_zero (by simpa using hr.1);have e2:old=[]:=List.eq_nil_of_length_eq_zero (by simpa using zO.1);subst e1 e2;exact⟨w,hrun,zO,World.grownBy.refl _ _⟩
def zup (e0:TypeId)(k n:Nat)(cells:List Value)(w:World)(e:Ending)(w':World):Prop:=∃ g,e=.returned (.slice (some ⟨g,0,none⟩) n n)/\w'.ownsRow w.heap.size e0 k (.slice (some ⟨g,0,none⟩) n n) n cells/\w.grownBy w' none
def zEf:(prog.info? 78).map (·.size)=some 4:=by kernel_rfl
def zGr:(prog.info? 76).map (·.size)=some 2:=by kernel_rfl
def zkv {w w':World}{k n:Nat}{A:Option Addr}{xs:List Value}(h:Reads w w.heap.size k A n xs)(hg:w.grownBy w' none):Reads w' w'.heap.size k A n xs:=(h.below (zct hg)).more hg.size
def zvx {w:World}{A:Option Addr}{n cap:Nat}{cells:List Value}(hr:Reads w w.heap.size 4 A n cells)(h1:∀ u∈cells,u.oneCell'=true)(hn:n<=1000000) :
  Calls prog 90 #[.slice A n cap] w (zup 78 4 n cells w):=by
 obtain⟨i0,hi,hz0,hz1,hz2⟩:=zku zEe;have HR:=zHd hr;have hc0:((n:Nat):Int)=(n:Int):=rfl;clear hr hc0;go_enter func90,ntmps90;go_wp2_with (at_make;refine wpList_make_full _ rfl _ _ 74 rfl w.heap.size 78 i0 (.agg #[.int .i64 0,.int .i64 0,.string ByteArray.empty,.int .i64 0]) 4 underlying74 hi hz0 hz1 _ _ _ _ n rfl rfl rfl rfl (by rw[hz2];omega) (by unfold maxLen;omega) (zqab _) ?_);intro w1 zO hgr;have HG:=zHd hgr;have HO:=zHd zO;clear hgr zO;obtain⟨w2,hcp,hown2,hg2⟩:=zlO (P:=prog) 74 74 3 78 4 underlying74 zEf w.heap.size w.heap.size n cap A _ cells HO.out (zkv HR.out HG.out) h1;exact zQbw
def zvy {w:World}{A:Option Addr}{n cap:Nat}{cells:List Value}(hr:Reads w w.heap.size 2 A n cells)(h1:∀ u∈cells,u.oneCell'=true)(hn:n<=1000000) :
  Calls prog 89 #[.slice A n cap] w (zup 76 2 n cells w):=by
 obtain⟨i0,hi,hz0,hz1,hz2⟩:=zku zGi;have HR:=zHd hr;clear hr;go_enter func89,ntmps89;go_wp2_with (at_make;refine wpList_make_full _ rfl _ _ 27 rfl w.heap.size 76 i0 (.agg #[.string ByteArray.empty,.slice none 0 0]) 2 underlying27 hi hz0 hz1 _ _ _ _ n rfl rfl rfl rfl (by rw[hz2];omega) (by unfold maxLen;omega) (zqab _) ?_);intro w1 zO hgr;have HG:=zHd hgr;have HO:=zHd zO;clear hgr zO;obtain⟨w2,hcp,hown2,hg2⟩:=zlO (P:=prog) 27 27 3 76 2 underlying27 zGr w.heap.size w.heap.size n cap A _ cells HO.out (zkv HR.out HG.out) h1;exact zQbw
open Go.RowKit
def zGs {l:List zac}{us:List Value}(h:∀ u∈us,u.oneCell'=true):∀ v∈(l.zip us).flatMap stC,v.oneCell'=true:=by
 intro v hv;obtain⟨p,hp,hm⟩:=List.mem_flatMap.1 hv;have h2:=List.of_mem_zip hp;simp[stC] at hm;rcases hm with rfl|rfl
 rfl;exact h _ h2.2
def zeA.one {w:World}{A:Option Addr}{us:List Value}{l:List zac}(h:zeA w A us l):∀ u∈us,u.oneCell'=true:=by
 intro u hu;obtain⟨k,hk⟩:=List.mem_iff_getElem?.1 hu;have hl:=(zqae.1 hk).1;have hs:l[k]?=some (l[k]'(by rw[<- h.len];exact hl)):=zqac (by rw[<- h.len];exact hl);obtain⟨B,cb,rfl,_⟩:=h.arcs k _ u hs hk;rfl
def zcw.copy {w w2:World}{A:Option Addr}{us:List Value}{l:List zac}{g cap B:Nat}{P:Nat->Prop}(h:zeA w A us l)(hb:Below w.heap.size w w2)(ho:w2.ownsRow B 76 2 (.slice (some ⟨g,0,none⟩) l.length cap) l.length ((l.zip us).flatMap stC))(hg:w.heap.size<=g)(hP:∀ b,b<w.heap.size->P b) :
  zcw w2 B P (.slice (some ⟨g,0,none⟩) l.length cap) l:=by
 refine⟨us,h.len,ho,fun k s x hs hx=>?_⟩;have h1:=h.arcs k s x hs hx;refine⟨⟨h1.below hb,fun hl e=>?_⟩,fun hl b hbb=>by obtain⟨b',hb1,hb2⟩:=h1.block hl;rw[hb1] at hbb;cases hbb;exact hP _ hb2⟩;obtain⟨b,hb1,hb2⟩:=h1.block hl;rw[hb1] at e;have e2:b=g:=by simpa [Value.ownBlock] using e
 omega
def zaf.set3 {w:World}{g:Nat}{m:zah}{u v:Value}(h:zaf w g m u):zaf (w.setCell ⟨g,3,none⟩ v) g m v:=by
 unfold zaf at *;rw[heap_setCell_same w g 3 _ _ v h];rfl
def zby {W:World}{g:Nat}{m n:zah}{u v:Value}(h:zaf W g m u) :
  zaf ((((W.setCell ⟨g,0,none⟩ (.int .i64 n.kind)).setCell ⟨g,1,none⟩ (.int .i64 n.start)).setCell ⟨g,2,none⟩ (.string n.lead)).setCell ⟨g,3,none⟩ v) g n v /\
  W.grownBy ((((W.setCell ⟨g,0,none⟩ (.int .i64 n.kind)).setCell ⟨g,1,none⟩ (.int .i64 n.start)).setCell ⟨g,2,none⟩ (.string n.lead)).setCell ⟨g,3,none⟩ v) (some g):=by
 have g1:=zad W ⟨g,0,none⟩ (.int .i64 n.kind);have g2:=zad (W.setCell ⟨g,0,none⟩ (.int .i64 n.kind)) ⟨g,1,none⟩ (.int .i64 n.start);have g3:=zad ((W.setCell ⟨g,0,none⟩ (.int .i64 n.kind)).setCell ⟨g,1,none⟩ (.int .i64 n.start)) ⟨g,2,none⟩ (.string n.lead);have g4:=zad (((W.setCell ⟨g,0,none⟩ (.int .i64 n.kind)).setCell ⟨g,1,none⟩ (.int .i64 n.start)).setCell ⟨g,2,none⟩ (.string n.lead)) ⟨g,3,none⟩ v;exact⟨h.set,World.grownBy.trans g1 (World.grownBy.trans g2 (World.grownBy.trans g3 g4))⟩
def zcw.sharp {w:World}{B g cap:Nat}{P P':Nat->Prop}{l:List zac}(h:zcw w B P (.slice (some ⟨g,0,none⟩) l.length cap) l)(hc:∀ (j:Nat) (s:zac),l[j]?=some s->0<s.arcs.length->∀ (x:Value) (b:Nat),w.cell? ⟨g,j*2+1,none⟩=some x->x.ownBlock=some b->P' b) :
  zcw w B P' (.slice (some ⟨g,0,none⟩) l.length cap) l:=by
 obtain⟨us,hl,ho,ha⟩:=h;refine⟨us,hl,ho,fun k s x hs hx=>⟨(ha k s x hs hx).1,fun h0 b hb=>?_⟩⟩;have hk:=(zqae.1 hs).1;have hz:(l.zip us)[k]?=some (s,x):=by rw[List.getElem?_zip_eq_some];exact⟨hs,hx⟩
 have h1:=flat_get stC 2 zfI (l.zip us) k 1 _ hz (by omega);exact hc k s hs h0 x b ((ho.cellAt (k*2+1) (by omega)).trans h1) hb
def zsE (W:World)(B g:Nat)(l:List zac)(k:Nat):Prop:=∀ (j:Nat) (s:zac),j<k->l[j]?=some s->0<s.arcs.length->∀ (x:Value) (b:Nat),W.cell? ⟨g,j*2+1,none⟩=some x->x.ownBlock=some b->B<=b
def zsE.next {W w5:World}{B g k:Nat}{l:List zac}{s:zac}{y:Value}(h:zsE W B g l k)(hg:W.grownBy w5 none)(hgw:g<W.heap.size)(hs:l[k]?=some s)(hy:0<s.arcs.length->∀ b,y.ownBlock=some b->B<=b)(hc:(w5.setCell ⟨g,k*2+1,none⟩ y).cell? ⟨g,k*2+1,none⟩=some y) :
  zsE (w5.setCell ⟨g,k*2+1,none⟩ y) B g l (k+1):=by
 intro j t hj ht h0 x b hx hb
 by_cases e:j=k
 ·subst e
  rw[hs] at ht;cases ht;rw[hc] at hx;cases hx;exact hy h0 b hb
 refine h j t (by omega) ht h0 x b ?_ hb;rw[World.cell?_setCell_other _ _ _ _ (by intro e2;simp only[Addr.mk.injEq] at e2;omega)] at hx;exact(World.cell?_of_block (hg.block g hgw (by simp))).symm.trans hx
open Go.RowKit
def zxS {w:World}{v:Value}{m:zah}(hv:zan w v m)(hn:m.states.length<=3000)(ha:∀ s∈m.states,s.arcs.length<=30000):Calls prog 65 #[v] w (zHy m w):=by
 obtain⟨u,rfl,hst0⟩:=hv;obtain⟨A,cap,us,rfl,hS0⟩:=zeA.of hst0;have g1:w.grownBy (w.alloc (.cells #[.int .i64 m.kind,.int .i64 m.start,.string m.lead,.slice A m.states.length cap] 29)) none:=zGA _ _ _;have b1:=zaf.new w m (.slice A m.states.length cap);have e1:(w.alloc (.cells #[.int .i64 m.kind,.int .i64 m.start,.string m.lead,.slice A m.states.length cap] 29)).heap.size=w.heap.size+1:=by simp
 have g2:=zGA (w.alloc (.cells #[.int .i64 m.kind,.int .i64 m.start,.string m.lead,.slice A m.states.length cap] 29)) (.cells #[.int .i64 m.kind,.int .i64 m.start,.string m.lead,.slice A m.states.length cap] 29) none;have b2:=zaf.new (w.alloc (.cells #[.int .i64 m.kind,.int .i64 m.start,.string m.lead,.slice A m.states.length cap] 29)) m (.slice A m.states.length cap);rw[e1] at b2;have e2:((w.alloc (.cells #[.int .i64 m.kind,.int .i64 m.start,.string m.lead,.slice A m.states.length cap] 29)).alloc (.cells #[.int .i64 m.kind,.int .i64 m.start,.string m.lead,.slice A m.states.length cap] 29)).heap.size=w.heap.size+2:=by simp
 have hb1:=b1.grown g2;have hg:=zaa g1 g2;have HG:=zHd hg;have HB2:=zHd b2;have HS:=zHd hS0;have HA:=zHd ha;have hcp:=zvy (cap:=cap) ((hS0.grown hg).row) (zGs hS0.one) (by omega:m.states.length<=1000000);have HCP:=zHd hcp;obtain⟨x0,x1,x2,x3⟩:=hb1.cells;clear hst0 hS0 g1 g2 b1 b2 e1 hb1 hg hcp ha;go_enter func65,ntmps65;go_wp2_with fail;refine HCP.out.mono ?_;rintro e w1 ⟨g,rfl,zO,hg1⟩;generalize hW:(w.alloc (.cells #[.int .i64 m.kind,.int .i64 m.start,.string m.lead,.slice A m.states.length cap] 29)).alloc (.cells #[.int .i64 m.kind,.int .i64 m.start,.string m.lead,.slice A m.states.length cap] 29)=W0 at *;clear hW x0 x1 x2 x3;have hb3:=HB2.out.grown hg1;obtain⟨y0,y1,y2,y3⟩:=hb3.cells;have y4:=hb3.free 3;have gs:=zad w1 ⟨w.heap.size+1,3,none⟩ (.slice (some ⟨g,0,none⟩) m.states.length m.states.length);have hlt:=zO.lt g rfl;have HG1:=zHd (zae (g:=w.heap.size+1) (zaa HG.out hg1) gs (by omega));have HB3b:=zHd (hb3.set3 (v:=.slice (some ⟨g,0,none⟩) m.states.length m.states.length));have hso:=zcw.copy HS.out (zct HG1.out) (ownsRow_setCell_below zO (a:=⟨w.heap.size+1,3,none⟩) (by show w.heap.size+1<W0.heap.size;omega) (.slice (some ⟨g,0,none⟩) m.states.length m.states.length)) (by omega) (P:=fun b=>b<w.heap.size∨W0.heap.size<=b) (fun b hb=>.inl hb);have HSO:=zHd hso;have HLT:=zHd hlt;have hgl:w.heap.size+2<=g:=by omega
 clear zO hg1 hb3 gs hlt hso HCP;go_wp2;generalize hW2:w1.setCell ⟨w.heap.size+1,3,none⟩ (.slice (some ⟨g,0,none⟩) m.states.length m.states.length)=W2 at *;clear hW2 y0 y1 y2 y3 y4
 go_loopw [13] (fun i wr=>∃ k:Nat,i=.int .i64 k/\k<=m.states.length/\zcw wr W0.heap.size (fun b=>b<w.heap.size∨W0.heap.size<=b) (.slice (some ⟨g,0,none⟩) m.states.length m.states.length) m.states/\zaf wr (w.heap.size+1) m (.slice (some ⟨g,0,none⟩) m.states.length m.states.length)/\w.grownBy wr none/\zsE wr W0.heap.size g m.states k) (fun i _=>m.states.length-(intOf i).toNat)
 case atStart=>exact⟨0,rfl,by omega,HSO.out,HB3b.out,HG1.out,fun j s hj=>by omega⟩
 case round =>
  obtain⟨k,rfl,hk,hso,hb3,hgr,hfr0⟩:=hrel;have HFRE:=zHd hfr0;clear hfr0;have HSO2:=zHd hso;have HB3c:=zHd hb3;have HGR:=zHd hgr;obtain⟨y0,y1,y2,y3⟩:=hb3.cells;clear hb3 hgr
  by_cases hlt:k<m.states.length
  ·obtain⟨s,hs⟩:∃ s,m.states[k]?=some s:=⟨_,zqac hlt⟩
   obtain⟨x,z0,z1,hoff,hfree⟩:=hso.at_ hs;obtain⟨B,cb,hx,hra⟩:=hoff.1;subst hx;have hal:=HA.out s (zqak hs);have n1:(k:Int)<(m.states.length:Int):=by omega
   have n2:IntKind.i64.wrap ((k:Int)+1)=(k:Int)+1:=by rw[zqah];omega
   have n3:(0:Int)<=(k:Int):=by omega
   have hga:=zGA wr (.cells #[.string s.fin,.slice B s.arcs.length cb] 76) none;have HSS:=zHd hs;have HC:=zHd (zvx (cap:=cb) (zkv hra (zaa hga (zag _ _))) (zuo s.arcs) (by omega:s.arcs.length<=1000000));have HFR:=zHd (hfree (k*2+1));have HZ1:=zHd z1
   have hgw:g<wr.heap.size:=by
    obtain⟨_,_,ho,_⟩:=hso;exact(ho.lt g rfl).2
   have t0:=(ztT wr s.fin (.slice B s.arcs.length cb)).c1;simp only[zqat] at t0;have HB3d:=zHd (HB3c.out.grown hga);have c3:=HB3d.out.cells.c3;clear hso hs hoff hra hga hfree;go_wp2_with fail;clear z0 z1 y0 y1 y2 y3;have d1:g≠w.heap.size+1:=by omega
   have d2:g≠wr.heap.size:=by omega
   have q1:=World.new_ne (wr.alloc (.cells #[.string s.fin,.slice B s.arcs.length cb] 76)) _ t0
   go_region_held3 (fun W'=>W'.cell? ⟨w.heap.size+1,3,none⟩=some (.slice (some ⟨g,0,none⟩) m.states.length m.states.length)/\W'.cell? ⟨wr.heap.size,1,none⟩=some (.slice B s.arcs.length cb)) (go_keep)
    (first
     | (go_at_call 90;refine HC.out.mono ?_;rintro e w5 ⟨g5,rfl,hO5,hg5⟩;have s1:=hg5.cell (show(wr.alloc (.cells #[.string s.fin,.slice B s.arcs.length cb] 76)).drew.cell? _=_ from c3) (by simp);have s2:=hg5.cell (show(wr.alloc (.cells #[.string s.fin,.slice B s.arcs.length cb] 76)).drew.cell? _=_ from t0) (by simp);have hgg:=zaa (zaa (zGA wr (.cells #[.string s.fin,.slice B s.arcs.length cb] 76) none) (zag _ none)) hg5;have s3:=hgg.cell HZ1.out (by simp);have s4:=(World.frozen?_of_block (hgg.block g hgw (by simp))).trans HFR.out))
   have hso3:=HSO2.out.grown hgg;have hoff5:=zun (g:=g) hO5 (zqba hgw (by show wr.heap.size<=(wr.alloc (.cells #[.string s.fin,.slice B s.arcs.length cb] 76)).heap.size;simp))
   have hso4:=hso3.set_arcs HSS.out hoff5 (fun hl b hb=>.inr (by
    have h2:=(hO5.lt b hb).1;have:=HGR.out.size;have h3:wr.heap.size<=(wr.alloc (.cells #[.string s.fin,.slice B s.arcs.length cb] 76)).drew.heap.size:=(zaa (zGA wr (.cells #[.string s.fin,.slice B s.arcs.length cb] 76) none) (zag _ none)).size;omega))
   rw[show m.states.set k ⟨s.fin,s.arcs⟩=m.states from by
    obtain⟨hk2,he⟩:=zqae.1 HSS.out
    exact List.ext_getElem? fun j=>by
     rw[List.getElem?_set]
     by_cases hj:k=j
     subst hj;rw[if_pos rfl,if_pos hk2,HSS.out];rw[if_neg hj]] at hso4
   have HSO4:=zHd hso4;have HFR4:=zHd (HFRE.out.next (y:=.slice (some ⟨g5,0,none⟩) s.arcs.length s.arcs.length) hgg hgw HSS.out (fun h0 b hb=>by have h2:=(hO5.lt b hb).1;have:=HGR.out.size;have h3:wr.heap.size<=(wr.alloc (.cells #[.string s.fin,.slice B s.arcs.length cb] 76)).drew.heap.size:=(zaa (zGA wr (.cells #[.string s.fin,.slice B s.arcs.length cb] 76) none) (zag _ none)).size;omega) (World.cell?_setCell_same _ _ _ s3));have gst:=zad w5 ⟨g,k*2+1,none⟩ (.slice (some ⟨g5,0,none⟩) s.arcs.length s.arcs.length);have hb3e:=(HB3c.out.grown hgg);have HB3f:=zHd ((gst.block (w.heap.size+1) hb3e.lt (by simp;omega)).trans hb3e);have HGF:=zHd (zae (g:=g) (zaa HGR.out hgg) gst (by omega));clear s1 s2 s3 s4 hO5 hg5 hgg hso3 hoff5 hso4 gst hb3e c3 t0 q1;go_wp2
   go_roundw
   case rel=>exact⟨k+1,by go_num,by omega,HSO4.out,HB3f.out,HGF.out,HFR4.out⟩
   case measure=>simp[intOf];omega
  have n1:¬ (k:Int)<(m.states.length:Int):=by omega
  have f0:=HB3c.out.free 0;have f1:=HB3c.out.free 1;have f2:=HB3c.out.free 2;have f3:=HB3c.out.free 3;obtain⟨hbf,hgf⟩:=zby (n:=m) (v:=.slice (some ⟨g,0,none⟩) m.states.length m.states.length) HB3c.out;have HGF:=zHd (zae (g:=w.heap.size+1) HGR.out hgf (by omega))
  have hso5:zcw wr W0.heap.size (fun b=>W0.heap.size<=b) (.slice (some ⟨g,0,none⟩) m.states.length m.states.length) m.states :=
   HSO2.out.sharp (fun j s hs h0 x b hx hb=>HFRE.out j s (by have:=(zqae.1 hs).1;omega) hs h0 x b hx hb)
  have HSL:Hid (zcw ((((wr.setCell ⟨w.heap.size+1,0,none⟩ (.int .i64 m.kind)).setCell ⟨w.heap.size+1,1,none⟩ (.int .i64 m.start)).setCell ⟨w.heap.size+1,2,none⟩ (.string m.lead)).setCell ⟨w.heap.size+1,3,none⟩ (.slice (some ⟨g,0,none⟩) m.states.length m.states.length)) w.heap.size (fun b=>w.heap.size<=b) (.slice (some ⟨g,0,none⟩) m.states.length m.states.length) m.states) :=
   zHd ((hso5.other hgf (by show some g≠some _;intro e;cases e;omega) (by intro h;omega)).mono (by omega) (fun _ _=>by omega))
  obtain⟨c0,c1,c2,c3⟩:=hbf.cells;clear hbf hgf hso5;go_wp2_with fail;generalize (((wr.setCell ⟨w.heap.size+1,0,none⟩ (.int .i64 m.kind)).setCell ⟨w.heap.size+1,1,none⟩ (.int .i64 m.start)).setCell ⟨w.heap.size+1,2,none⟩ (.string m.lead)).setCell ⟨w.heap.size+1,3,none⟩ (.slice (some ⟨g,0,none⟩) m.states.length m.states.length)=WW at *;exact zqby (v:=.agg #[.int .i64 m.kind,.int .i64 m.start,.string m.lead,.slice (some ⟨g,0,none⟩) m.states.length m.states.length]) (by simp[results,results65,go_sem,c0,c1,c2,c3]) rfl ⟨_,rfl,⟨_,rfl,HSL.out⟩,HGF.out⟩
def zkw {m:zah}(h:validB m=true){s:zac}(hs:s∈m.states):finB m.kind s.fin=true/\∀ a∈s.arcs,arcB m.kind m.states.length a=true:=by
 obtain⟨k,hk⟩:=List.mem_iff_getElem?.1 hs;exact zfJ (zgd h hk)
def zAX {k:Int}{n n':Nat}{a a':zaz}(h:arcB k n a=true)(hi:a'.i=a.i)(ho:a'.o=a.o)(hw:a'.w=a.w)(ht:0<=a'.t/\a'.t<(n':Int)):arcB k n' a'=true:=by
 obtain⟨h1,h2,h3,h4,h5,h6,h7⟩:=zel h;unfold arcB;rw[hi,ho,hw,h7];simp only[Bool.and_true,zqca];omega
def bare (s:zac):zac:=⟨ByteArray.empty,s.arcs⟩
open Go.RowKit
structure zfd (W:World)(g:Nat)(vs:List Value)(rows:Nat->List Value):Prop where
 row:W.heap[g]?=some (.cells vs.toArray 109 (0,0))
 own:∀ (i:Nat) (v:Value),vs[i]?=some v->W.ownsRow (g+1) 9 1 v (rows i).length (rows i)
 dis:∀ (i j:Nat) (v v':Value),i≠j->vs[i]?=some v->vs[j]?=some v'->v.ownBlock=none∨v.ownBlock≠v'.ownBlock
def zfd.lt {W:World}{g:Nat}{vs:List Value}{rows:Nat->List Value}(h:zfd W g vs rows):g<W.heap.size:=(zqad.1 h.row).1
def zfd.next {W W':World}{g:Nat}{vs:List Value}{rows:Nat->List Value}(h:zfd W g vs rows)(hg:W.grownBy W' none):zfd W' g vs rows :=
 ⟨(hg.block g h.lt (by simp)).trans h.row,fun i v hv=>(h.own i v hv).kept hg (by cases e:v.ownBlock <;> simp),h.dis⟩
def zfd.other {W W':World}{g b:Nat}{vs:List Value}{rows:Nat->List Value}(h:zfd W g vs rows)(hg:W.grownBy W' (some b))(hb:b<g):zfd W' g vs rows :=
 ⟨(hg.block g h.lt (by simp;omega)).trans h.row,fun i v hv=>(h.own i v hv).kept hg (by
   cases e:v.ownBlock with
   | none=>exact .inl rfl
   | some c=>exact .inr (by have:=((h.own i v hv).lt c e).1;intro e2;cases e2;omega)),h.dis⟩
def zfd.cell {W:World}{g i:Nat}{vs:List Value}{rows:Nat->List Value}(h:zfd W g vs rows){v:Value}(hv:vs[i]?=some v):W.cell? ⟨g,i,none⟩=some v:=by
 rw[zqbw W g i _ _ (0,0) h.row,zqap];exact hv
def zfd.put {W W':World}{g i:Nat}{vs:List Value}{rows:Nat->List Value}{v v':Value}{l:List Value}(h:zfd W g vs rows)(hv:vs[i]?=some v)(hg:W.grownBy W' v.ownBlock)
  (zO:W'.ownsRow (g+1) 9 1 v' l.length l) (hat:∀ c,v'.ownBlock=some c->v.ownBlock=some c∨W.heap.size<=c) :
  zfd (W'.setCell ⟨g,i,none⟩ v') g (vs.set i v') (fun x=>if x=i then l else rows x):=by
 have hlt:=h.lt;have hi:=(zqae.1 hv).1;have hne:some g≠v.ownBlock:=fun e=>by have:=((h.own i v hv).lt g e.symm).1;omega
 have zW:W'.heap[g]?=some (.cells vs.toArray 109 (0,0)):=(hg.block g hlt hne).trans h.row
 have hfar:∀ (u:Value) (l':List Value),W'.ownsRow (g+1) 9 1 u l'.length l'->(W'.setCell ⟨g,i,none⟩ v').ownsRow (g+1) 9 1 u l'.length l':=fun u l' ho=>ho.kept (zad W' ⟨g,i,none⟩ v') (by
  cases e:u.ownBlock with
  | none=>exact .inl rfl
  | some c=>exact .inr (by have:=(ho.lt c e).1;show some c≠some g;intro e2;cases e2;omega))
 refine⟨?_,fun x u hx=>?_,fun x y u u' hxy hx hy=>?_⟩
 ·rw[heap_setCell_same W' g i _ _ _ zW]
  simp
 ·by_cases e:x=i
  ·subst e
   rw[zqbi hi] at hx;cases hx;rw[if_pos rfl];exact hfar _ _ zO
  rw[zqbl (Ne.symm e)] at hx;rw[if_neg e];refine hfar _ _ ((h.own x u hx).kept hg ?_);exact h.dis x i u v e hx hv
 by_cases ex:x=i
 ·subst ex
  rw[zqbi hi] at hx;rw[zqbl hxy] at hy;cases hx;cases ev:v'.ownBlock with
  | none=>exact .inl rfl
  | some c =>
   refine .inr (fun e2=>?_);have h2:=(h.own y u' hy).lt c e2.symm;rcases hat c ev with h3|h3
   ·rcases h.dis x y v u' hxy hv hy with h4|h4
    ·rw[h4] at h3;cases h3
    exact h4 (h3.trans e2)
   omega
 rw[zqbl (Ne.symm ex)] at hx
 by_cases ey:y=i
 ·subst ey
  rw[zqbi hi] at hy;cases hy;cases eu:u.ownBlock with
  | none=>exact .inl rfl
  | some c =>
   refine .inr (fun e2=>?_);have h2:=(h.own x u hx).lt c eu;rcases hat c e2.symm with h3|h3
   ·rcases h.dis x y u v hxy hx hv with h4|h4
    ·rw[h4] at eu;cases eu
    exact h4 (eu.trans h3.symm)
   omega
 rw[zqbl (Ne.symm ey)] at hy;exact h.dis x y u u' hxy hx hy
def zfd.made {w w1:World}{n:Nat}(h:zbI 109 (.slice none 0 0) n [] w w1):zfd w1 w.heap.size (List.replicate n (.slice none 0 0)) (fun _=>[]):=by
 have hr:=h.row;simp only[List.nil_append,List.length_nil,Nat.sub_zero] at hr;refine⟨hr,fun i v hv=>?_,fun i j v v' _ hv _=>.inl ?_⟩
 ·obtain⟨h1,rfl⟩:=zqae.1 hv
  rw[List.getElem_replicate];exact World.ownsRow_nil _ _ _ _
 obtain⟨h1,rfl⟩:=zqae.1 hv;rw[List.getElem_replicate];rfl
def zgR (n i j x:Nat):Nat:=if x<i then n else if x=i then j else 0
def zbX (n:Nat)(G:Nat->Nat->ByteArray)(i j x:Nat):List Value:=(List.range (zgR n i j x)).map (fun y=>.string (G x y))
def zeQ (n:Nat)(G:Nat->Nat->ByteArray)(i j x:Nat):(zbX n G i j x).length=zgR n i j x:=by simp[zbX]
def zeB (G:Nat->Nat->ByteArray)(i j:Nat)(s:ByteArray)(x y:Nat):ByteArray:=if x=i/\y=j then s else G x y
def zAY {n i j:Nat}{G:Nat->Nat->ByteArray}{s:ByteArray}(hj:j<n):(fun x=>if x=i then zbX n G i j i++[.string s] else zbX n G i j x)=zbX n (zeB G i j s) i (j+1):=by
 funext x
 by_cases e:x=i
 ·subst e
  rw[if_pos rfl];unfold zbX zgR;rw[if_neg (Nat.lt_irrefl _),if_pos rfl,if_neg (Nat.lt_irrefl _),if_pos rfl,List.range_succ,List.map_append];congr 1
  ·refine List.map_congr_left (fun y hy=>?_)
   have:=List.mem_range.1 hy;unfold zeB;rw[if_neg (by omega)]
  simp[zeB]
 rw[if_neg e];unfold zbX;have hc:zgR n i j x=zgR n i (j+1) x:=by unfold zgR;rw[if_neg e,if_neg e]
 rw[hc];exact zQcl
def zEg (n i x:Nat):zgR n i n x=zgR n (i+1) 0 x:=by
 unfold zgR
 by_cases h:x<i
 rw[if_pos h,if_pos (by omega)];rw[if_neg h]
 by_cases e:x=i
 rw[if_pos e,if_pos (by omega)];rw[if_neg e,if_neg (by omega)];split <;> rfl
def zxT (n:Nat)(G:Nat->Nat->ByteArray)(i:Nat):zbX n G i n=zbX n G (i+1) 0:=by
 funext x;unfold zbX;rw[zEg]
def zkx (n:Nat)(G:Nat->Nat->ByteArray):zbX n G 0 0=fun _=>[]:=by
 funext x;unfold zbX zgR;rw[if_neg (by omega)];split <;> rfl
def zeF {n x j:Nat}(hx:x<n):zgR n n j x=n:=by unfold zgR;rw[if_pos hx]
def zoP (w:World)(b:Nat)(v:Value)(n:Nat)(L:Nat->Value):Prop :=
 ∃ A cap,v=.slice A n cap/\n<=cap/\cap<=maxLen/\∀ j,j<n->∃ ad,A=some ad/\ad.block<w.heap.size/\ad.block≠b/\w.cell? (ad.add j)=some (L j)
def zoP.grown {w w':World}{b:Nat}{v:Value}{n:Nat}{L:Nat->Value}(h:zoP w b v n L)(hg:w.grownBy w' (some b)):zoP w' b v n L:=by
 obtain⟨A,cap,rfl,h1,h2,h3⟩:=h;refine⟨A,cap,rfl,h1,h2,fun j hj=>?_⟩;obtain⟨ad,rfl,hb,hne,hc⟩:=h3 j hj;exact⟨ad,rfl,zqba hb hg.size,hne,(zhg (ad:=ad.add j) (by rw[zbx];exact hg.block ad.block hb (by simpa using hne))).trans hc⟩
def zoP.of {w:World}{b:Nat}{v:Value}{n:Nat}{L:Nat->Value}(h:zev w v n L)(hb:w.heap.size<=b):zoP w b v n L:=by
 obtain⟨A,cap,rfl,h1,h2,h3⟩:=h;refine⟨A,cap,rfl,h1,h2,fun j hj=>?_⟩;obtain⟨ad,rfl,hl,hc⟩:=h3 j hj;exact⟨ad,rfl,hl,by omega,hc⟩
def zjK (w:World)(b:Nat)(v:Value)(n:Nat)(G:Nat->Nat->ByteArray):Prop :=
 ∃ rs:Nat->Value,zoP w b v n rs/\∀ i,i<n->zoP w b (rs i) n (fun j=>.string (G i j))
def zjK.grown {w w':World}{b:Nat}{v:Value}{n:Nat}{G:Nat->Nat->ByteArray}(h:zjK w b v n G)(hg:w.grownBy w' (some b)):zjK w' b v n G:=by
 exact zQch
def zjK.of {w:World}{b:Nat}{v:Value}{n:Nat}{G:Nat->Nat->ByteArray}(h:zfb w v n (fun _=>n) G)(hb:w.heap.size<=b):zjK w b v n G:=by
 obtain⟨rs,h1,h2⟩:=h;exact⟨rs,.of h1 hb,fun i hi=>.of (h2 i hi) hb⟩
def zjK.shape {w:World}{b:Nat}{v:Value}{n:Nat}{G:Nat->Nat->ByteArray}(h:zjK w b v n G):∃ A c,v=.slice A n c:=by
 obtain⟨rs,⟨A,c,e,_⟩,_⟩:=h;exact⟨A,c,e⟩
def zfd.rows {W:World}{g n:Nat}{vs:List Value}{G:Nat->Nat->ByteArray}(h:zfd W g vs (zbX n G n 0))(hn:vs.length=n)(hn2:n<=10000) :
  (∀ j,j<n->W.cell? ⟨g,0+j,none⟩=some (vs.getD j (.slice none 0 0)))/\∀ i,i<n->∃ c cap,vs.getD i (.slice none 0 0)=.slice (some ⟨c,0,none⟩) n cap/\n<=cap/\cap<=maxLen/\g<c/\c<W.heap.size/\∀ j,j<n->W.cell? ((⟨c,0,none⟩:Addr).add j)=some (.string (G i j)):=by
 refine⟨fun j hj=>?_,fun i hi=>?_⟩
 ·rw[zqat]
  refine h.cell ?_;rw[zqaa,zqac (by omega)];rfl
 have hv:vs[i]?=some (vs.getD i (.slice none 0 0)):=by
  rw[zqaa,zqac (by omega)];rfl
 have ho:=h.own i _ hv;rw[zeQ,zeF hi] at ho;rcases ho.2 with⟨he,h0⟩|⟨c,cap,cur,he,hbc,hgc,h1,h2,h3,h4⟩
 omega;refine⟨c,cap,he,h1,h2,by omega,(zqad.1 hgc).1,fun j hj=>?_⟩
 exact ho.cells (g:=c) (by rw[he];rfl) j (.string (G i j)) (by
  unfold zbX;rw[zqaj,zqbe (by rw[zeF hi];exact hj)];rfl)
def zfd.matA {W:World}{g n:Nat}{vs:List Value}{G:Nat->Nat->ByteArray}(h:zfd W g vs (zbX n G n 0))(hn:vs.length=n)(hn2:n<=10000):zfb W (.slice (some ⟨g,0,none⟩) n n) n (fun _=>n) G:=by
 obtain⟨h1,h2⟩:=h.rows hn hn2;refine⟨fun i=>vs.getD i (.slice none 0 0),⟨_,_,rfl,zqab _,by unfold maxLen;omega,fun j hj=>⟨_,rfl,h.lt,by rw[zhY];exact h1 j hj⟩⟩,fun i hi=>?_⟩;obtain⟨c,cap,he,e1,e2,e3,e4,e5⟩:=h2 i hi;exact⟨_,_,he,e1,e2,fun j hj=>⟨_,rfl,e4,e5 j hj⟩⟩
open Go.RowKit
structure zbk (r:Option Nat)(n:Nat)(w:World)(g i j:Nat)(vs:List Value)(G:Nat->Nat->ByteArray)(wr:World):Prop where
 len:vs.length=n
 grid:zfd wr g vs (zbX n G i j)
 gr:w.grownBy wr r
 far:w.heap.size<=g
 low:∀ b,r=some b->b<w.heap.size
def zbk.kept {r:Option Nat}{n:Nat}{w:World}{g i j:Nat}{vs:List Value}{G:Nat->Nat->ByteArray}{wr w2:World}(h:zbk r n w g i j vs G wr)(hg:wr.grownBy w2 r):zbk r n w g i j vs G w2:=by
 refine⟨h.len,?_,zaa h.gr hg,h.far,h.low⟩;cases r with
 | none=>exact h.grid.next hg
 | some b=>exact h.grid.other hg (by have:=h.low b rfl;have:=h.far;omega)
def zbk.row {r:Option Nat}{n:Nat}{w:World}{g i:Nat}{vs:List Value}{G:Nat->Nat->ByteArray}{wr:World}(h:zbk r n w g i n vs G wr):zbk r n w g (i+1) 0 vs G wr :=
 ⟨h.len,by rw[<- zxT];exact h.grid,h.gr,h.far,h.low⟩
def zbk.at_ {r:Option Nat}{n:Nat}{w:World}{g i j:Nat}{vs:List Value}{G:Nat->Nat->ByteArray}{wr:World}(h:zbk r n w g i j vs G wr)(hi:i<n) :
  ∃ v,vs[i]?=some v/\wr.cell? ⟨g,i,none⟩=some v/\wr.ownsRow (g+1) 9 1 v j (zbX n G i j i)/\v.ownBlock≠some g/\∃ A c,v=.slice A j c:=by
 have hv:vs[i]?=some (vs[i]'(by rw[h.len];exact hi)):=zqac (by rw[h.len];exact hi);have ho:=h.grid.own i _ hv;have hc:zgR n i j i=j:=by unfold zgR;rw[if_neg (Nat.lt_irrefl _),if_pos rfl]
 rw[zeQ,hc] at ho;refine⟨_,hv,h.grid.cell hv,ho,fun e=>by have:=(ho.lt g e).1;omega,?_⟩;rcases ho.2 with⟨e,h0⟩|⟨c,cap,cur,e,_⟩
 exact⟨none,0,by rw[e,h0]⟩;exact⟨_,_,e⟩
def zbk.ready {r:Option Nat}{n:Nat}{w:World}{g i j:Nat}{vs:List Value}{G:Nat->Nat->ByteArray}{wr W':World}{v:Value}{o:Obj}(h:zbk r n w g i j vs G wr)(hv:vs[i]?=some v)(hg:(wr.alloc o).grownBy W' v.ownBlock) :
  W'.cell? ⟨g,i,none⟩=some v/\W'.frozen? ⟨g,i,none⟩=false:=by
 have hne:some g≠v.ownBlock:=fun e=>by have:=((h.grid.own i v hv).lt g e.symm).1;omega
 have h1:=(zGA wr o none).block g h.grid.lt (by simp);have hb:W'.heap[g]?=wr.heap[g]?:=(hg.block g (zqba h.grid.lt (zGA wr o none).size) hne).trans h1;exact⟨(zhg (ad:=⟨g,i,none⟩) hb).trans (h.grid.cell hv),zqbx W' g i _ _ (hb.trans h.grid.row)⟩
def zbk.start {r:Option Nat}{n:Nat}{w w1:World}(h:zbI 109 (.slice none 0 0) n [] w w1)(hr:∀ b,r=some b->b<w.heap.size):zbk r n w w.heap.size 0 0 (List.replicate n (.slice none 0 0)) (fun _ _=>⟨#[]⟩) w1 :=
 ⟨zqax ..,by rw[zkx];exact zfd.made h,by cases r with
  | none=>exact h.gr
  | some b=>exact grown_none h.gr,zqab _,hr⟩
def zbk.put {r:Option Nat}{n:Nat}{w:World}{g i j g2 cap:Nat}{vs:List Value}{G:Nat->Nat->ByteArray}{wr W':World}{v:Value}{o:Obj}{s:ByteArray}(h:zbk r n w g i j vs G wr)(hi:i<n)(hj:j<n)(hv:vs[i]?=some v)
  (hg:(wr.alloc o).grownBy W' v.ownBlock) (zO:W'.ownsRow (g+1) 9 1 (.slice (some ⟨g2,0,none⟩) (j+1) cap) (j+1) (zbX n G i j i++[.string s])) (hat:v.ownBlock=some g2∨g2=wr.heap.size+1) :
  zbk r n w g i (j+1) (vs.set i (.slice (some ⟨g2,0,none⟩) (j+1) cap)) (zeB G i j s) (W'.setCell ⟨g,i,none⟩ (.slice (some ⟨g2,0,none⟩) (j+1) cap)) /\
   ∀ b,b<w.heap.size->(W'.setCell ⟨g,i,none⟩ (.slice (some ⟨g2,0,none⟩) (j+1) cap)).heap[b]?=wr.heap[b]?:=by
 have hgA:=zGA wr o none;have hfar:=h.far;have hlw:=h.gr.size;have hob:∀ c,v.ownBlock=some c->g+1<=c:=fun c e=>((h.grid.own i v hv).lt c e).1
 have hl:(zbX n G i j i++[Value.string s]).length=j+1:=by
  rw[zqag,zeQ];unfold zgR;rw[if_neg (Nat.lt_irrefl _),if_pos rfl];rfl
 have hsz:(wr.alloc o).heap.size=wr.heap.size+1:=by simp
 refine⟨⟨by rw[List.length_set];exact h.len,?_,?_,h.far,h.low⟩,fun b hb=>?_⟩
 ·have h1:=(h.grid.next hgA).put (l:=zbX n G i j i++[.string s]) (v':=.slice (some ⟨g2,0,none⟩) (j+1) cap) hv hg (by rw[hl];exact zO) (fun c e=>by
   have e2:g2=c:=by simpa [Value.ownBlock] using e
   subst e2;rcases hat with h2|h2
   exact .inl h2;exact .inr (by rw[hsz];omega))
  rw[zAY hj] at h1;exact h1
 ·have h1:w.grownBy W' r:=by
   have h0:w.grownBy (wr.alloc o) r:=zaa h.gr (grown_none hgA);cases e:v.ownBlock with
   | none=>rw[e] at hg;exact zaa h0 (grown_none hg)
   | some c=>rw[e] at hg;exact zae h0 hg (by have:=hob c e;omega)
  exact zae h1 (zad _ _ _) hfar
 have e1:(W'.setCell ⟨g,i,none⟩ (.slice (some ⟨g2,0,none⟩) (j+1) cap)).heap[b]?=W'.heap[b]?:=zqcd W' _ b _ (by show b≠g;omega);have e2:W'.heap[b]?=(wr.alloc o).heap[b]?:=hg.block b (by omega) (fun e=>by have:=hob b e.symm;omega);exact e1.trans (e2.trans (hgA.block b (by omega) (by simp)))
def zbk.matA {r:Option Nat}{n:Nat}{w:World}{g:Nat}{vs:List Value}{G:Nat->Nat->ByteArray}{wr:World}(h:zbk r n w g n 0 vs G wr)(hn:n<=10000):zfb wr (.slice (some ⟨g,0,none⟩) n n) n (fun _=>n) G:=h.grid.matA h.len hn
def zbk.any {r:Option Nat}{n:Nat}{w:World}{g:Nat}{vs:List Value}{G:Nat->Nat->ByteArray}{wr:World}(h:zbk r n w g 0 0 vs G wr)(G':Nat->Nat->ByteArray):zbk r n w g 0 0 vs G' wr :=
 ⟨h.len,by rw[zkx,<- zkx n G];exact h.grid,h.gr,h.far,h.low⟩
def zxU (s:ByteArray)(i j:Nat):zeB (fun _ _=>s) i j s=fun _ _=>s:=by funext x y;unfold zeB;split <;> rfl
open Go.RowKit
def zEh {W:World}{B c n cap j:Nat}{T:TypeId}{xs:List Value}(h:W.ownsRow B T 1 (.slice (some ⟨c,0,none⟩) n cap) n xs)(hj:j<n)(u:Value) :
  (W.setCell ⟨c,j,none⟩ u).ownsRow B T 1 (.slice (some ⟨c,0,none⟩) n cap) n (xs.set j u):=by
 refine⟨by rw[List.length_set];exact h.1,?_⟩;rcases h.2 with⟨e,h0⟩|⟨g',cap',cur,e,hb,hg,h1,h2,h3,h4⟩
 omega;simp only[Value.slice.injEq,Option.some.injEq,Addr.mk.injEq,and_true,true_and] at e;obtain⟨rfl,rfl⟩:=e;refine .inr ⟨c,cap,cur.setIfInBounds j u,rfl,hb,heap_setCell_same W c j _ _ u hg,h1,h2,by rw[Array.size_setIfInBounds];exact h3,?_⟩;rw[Array.toList_setIfInBounds,<- h4];apply List.ext_getElem?;intro i;simp only[List.getElem?_take,List.getElem?_set,zqan]
 by_cases hi:i<n*1
 ·rw[if_pos hi]
  by_cases e:j=i
  ·rw[if_pos e,if_pos e]
   subst e;have:j<cur.toList.length:=by rw[zqbs];omega
   rw[if_pos this,if_pos (by omega)]
  rw[if_neg e,if_neg e,if_pos hi]
 rw[if_neg hi,if_neg (by omega),if_neg hi]
def zAZ {n i j:Nat}{G:Nat->Nat->ByteArray}{s:ByteArray}(hi:i<n)(hj:j<n)(x:Nat):zbX n (zeB G i j s) n 0 x=if x=i then (zbX n G n 0 i).set j (.string s) else zbX n G n 0 x:=by
 by_cases e:x=i
 ·subst e
  rw[if_pos rfl];unfold zbX;rw[zeF hi];apply List.ext_getElem?;intro y;rw[List.getElem?_set];simp only[zqaj,zqbn,List.length_range]
  by_cases hy:y<n
  ·rw[zqbe hy]
   by_cases e2:j=y
   subst e2;rw[if_pos rfl,if_pos hj];simp[zeB];rw[if_neg e2];simp[zeB,Ne.symm e2]
  rw[zqas (by simpa using hy),if_neg (by omega)];rfl
 rw[if_neg e];unfold zbX;exact zQcl
def zbk.get {r:Option Nat}{n:Nat}{w:World}{g i j:Nat}{vs:List Value}{G:Nat->Nat->ByteArray}{wr:World}(h:zbk r n w g n 0 vs G wr)(hi:i<n)(hj:j<n) :
  ∃ c cap,vs[i]?=some (.slice (some ⟨c,0,none⟩) n cap)/\wr.cell? ⟨g,i,none⟩=some (.slice (some ⟨c,0,none⟩) n cap)/\wr.cell? ⟨c,j,none⟩=some (.string (G i j))/\wr.frozen? ⟨c,j,none⟩=false/\g<c/\c<wr.heap.size:=by
 have hv:vs[i]?=some (vs[i]'(by rw[h.len];exact hi)):=zqac (by rw[h.len];exact hi);have ho:=h.grid.own i _ hv;rw[zeQ,zeF hi] at ho;have hc0:=h.grid.cell hv;rcases ho.2 with⟨e,h0⟩|⟨c,cap,cur,e,hb,hg,h1,h2,h3,h4⟩
 omega
 have hc:=ho.cells (g:=c) (by rw[e];rfl) j (.string (G i j)) (by
  unfold zbX;rw[zqaj,zqbe (by rw[zeF hi];exact hj)];rfl)
 rw[zhY,zqat] at hc;rw[e] at hv hc0;exact⟨c,cap,hv,hc0,hc,zqbx wr c j _ _ hg,by omega,(zqad.1 hg).1⟩
def zbk.set {r:Option Nat}{n:Nat}{w:World}{g i j c cap:Nat}{vs:List Value}{G:Nat->Nat->ByteArray}{wr:World}{s:ByteArray}(h:zbk r n w g n 0 vs G wr)(hi:i<n)(hj:j<n)(hv:vs[i]?=some (.slice (some ⟨c,0,none⟩) n cap)) :
  zbk r n w g n 0 vs (zeB G i j s) (wr.setCell ⟨c,j,none⟩ (.string s)):=by
 have ho:=h.grid.own i _ hv;rw[zeQ,zeF hi] at ho;have hc:=(ho.lt c rfl).1;have hfar:=h.far;have gs:=zad wr ⟨c,j,none⟩ (.string s);refine⟨h.len,⟨(gs.block g h.grid.lt (by show some g≠some c;intro e;cases e;omega)).trans h.grid.row,fun x u hx=>?_,h.grid.dis⟩,zae h.gr gs (by show w.heap.size<=c;omega),h.far,h.low⟩;rw[zAZ hi hj x]
 by_cases e:x=i
 ·subst e
  rw[hv] at hx;cases hx;rw[if_pos rfl,List.length_set,zeQ,zeF hi];exact zEh ho hj _
 rw[if_neg e];refine(h.grid.own x u hx).kept gs ?_;have:=h.grid.dis x i u _ e hx hv;rcases this with h1|h1
 exact .inl h1;exact .inr h1
open Go.RowKit
def zbq (k:Int)(sb:Nat)(bad:Bool)(w:World):Prop:=w.heap[sb]?=some (.cells #[.int .i64 k,.bool bad] 148 (0,0))
def zbq.lt {k:Int}{sb:Nat}{bad:Bool}{w:World}(h:zbq k sb bad w):sb<w.heap.size:=(zqad.1 h).1
def zbq.kept {k:Int}{sb:Nat}{bad:Bool}{w w':World}(h:zbq k sb bad w)(hg:w.grownBy w' none):zbq k sb bad w':=(hg.block sb h.lt (by simp)).trans h
def zcu {k:Int}{w:World}{b:Nat}{bad:Bool}{c:Bool}(h:zbq k b bad w):zbq k b c (w.setCell ⟨b,1,none⟩ (.bool c)):=zGk h
def zej (k:Int)(b:Nat)(bad:Bool)(c:ByteArray)(w:World)(hb:zbq k b bad w):Calls prog 178 #[.pointer (some ⟨b,0,none⟩),.string c] w (zab (.string (if bad=true then zaV k else c)) w):=by
 have d0:=zqbw w b 0 _ _ (0,0) hb;have d1:=zqbw w b 1 _ _ (0,0) hb;clear hb;go_enter func178,ntmps178;cases bad
 ·go_wp2
  go_ret;exact⟨rfl,World.grownBy.refl _ _⟩
 go_wp2_with fail;refine(zbj _ _).mono ?_;rintro e w1 ⟨rfl,hg⟩;have HG:=zHd hg;clear hg;exact zQbu
def zoQ {k:Int}(b:Nat)(bad:Bool)(r:El k)(w:World)(e:Ending)(w':World):Prop :=
 ∃ (S:ByteArray) (bad':Bool),e=.returned (.string S)/\w.grownBy w' (some b)/\zbq k b bad' w'/\(bad'=false↔bad=false/\zav r)/\(bad'=false->S=tx r)/\∃ t:El k,zav t/\S=tx t
def zrx {k:Int}(r:El k):∃ (S:ByteArray) (E:Int),zdm r.1=.tuple #[.string S,.int .i64 E]/\(E=0↔zav r)/\(E=0->S=tx r):=by
 by_cases hf:zav r
 exact⟨tx r,0,znC (znF hf),⟨fun _=>hf,fun _=>rfl⟩,fun _=>rfl⟩;exact⟨⟨#[]⟩,2,ztQ hf,⟨fun h=>absurd h (by decide),fun h=>absurd h hf⟩,fun h=>absurd h (by decide)⟩
def zse {k:Int}(hk:zam k)(b:Nat)(bad:Bool)(u v:El k)(fu:zav u)(fv:zav v)(w:World)(hb:zbq k b bad w) :
  Calls prog 166 #[.pointer (some ⟨b,0,none⟩),.string (tx u),.string (tx v)] w (zoQ b bad ((srE k hk).add u v) w):=by
 have hop:SOp 59 k (tx u) (tx v) (zdm ((srE k hk).add u v).1):=zix (zcW fu) (zcW fv);obtain⟨S,E,hE,h0,hS⟩:=zrx ((srE k hk).add u v);rw[hE] at hop;have HOP:=zHd hop;have HE:=zHd (zAI h0 hS);have HB:=zHd hb;have HK:=zHd hk;have d0:=zqbw w b 0 _ _ (0,0) hb;have d1:=zqbw w b 1 _ _ (0,0) hb;have z1:=zqbx w b 1 _ _ hb;generalize hr:(srE k hk).add u v=r at *;have HR:=zHd hr;clear hop h0 hS hE hb hr;go_enter func166,ntmps166;go_wp2_with fail;refine(HOP.out w).mono ?_;rintro e w1 ⟨rfl,hg1⟩;have e0:=hg1.cell d0 (by simp);have e1:=hg1.cell d1 (by simp);have hb1:zbq k b bad w1:=zbq.kept HB.out hg1;have y1:=zqbx w1 b 1 _ _ hb1;have HB1:=zHd hb1;have HG:=zHd hg1;clear hb1 hg1 d0 d1 z1;cases bad
 ·by_cases hE0:E=0
  ·subst hE0
   exact zQas
  have t0:(E != 0)=true:=by simpa using hE0
  exact zQap
 exact zQat
def zqj {k:Int}(hk:zam k)(b:Nat)(bad:Bool)(u v:El k)(fu:zav u)(fv:zav v)(w:World)(hb:zbq k b bad w) :
  Calls prog 167 #[.pointer (some ⟨b,0,none⟩),.string (tx u),.string (tx v)] w (zoQ b bad ((srE k hk).mul u v) w):=by
 have hop:SOp 61 k (tx u) (tx v) (zdm ((srE k hk).mul u v).1):=zlq (zcW fu) (zcW fv);obtain⟨S,E,hE,h0,hS⟩:=zrx ((srE k hk).mul u v);rw[hE] at hop;have HOP:=zHd hop;have HE:=zHd (zAI h0 hS);have HB:=zHd hb;have HK:=zHd hk;have d0:=zqbw w b 0 _ _ (0,0) hb;have d1:=zqbw w b 1 _ _ (0,0) hb;have z1:=zqbx w b 1 _ _ hb;generalize hr:(srE k hk).mul u v=r at *;have HR:=zHd hr;clear hop h0 hS hE hb hr;go_enter func167,ntmps167;go_wp2_with fail;refine(HOP.out w).mono ?_;rintro e w1 ⟨rfl,hg1⟩;have e0:=hg1.cell d0 (by simp);have e1:=hg1.cell d1 (by simp);have hb1:zbq k b bad w1:=zbq.kept HB.out hg1;have y1:=zqbx w1 b 1 _ _ hb1;have HB1:=zHd hb1;have HG:=zHd hg1;clear hb1 hg1 d0 d1 z1;cases bad
 ·by_cases hE0:E=0
  ·subst hE0
   exact zQas
  have t0:(E != 0)=true:=by simpa using hE0
  exact zQap
 exact zQat
def zBa {k:Int}(hk:zam k)(b:Nat)(bad:Bool)(u:El k)(fu:zav u)(w:World)(hb:zbq k b bad w) :
  Calls prog 165 #[.pointer (some ⟨b,0,none⟩),.string (tx u)] w (zoQ b bad ((srE k hk).star u) w):=by
 have hop:zDs 64 k (tx u) (zdm ((srE k hk).star u).1):=zrU (zcW fu);obtain⟨S,E,hE,h0,hS⟩:=zrx ((srE k hk).star u);rw[hE] at hop;have HOP:=zHd hop;have HE:=zHd (zAI h0 hS);have HB:=zHd hb;have HK:=zHd hk;have d0:=zqbw w b 0 _ _ (0,0) hb;have d1:=zqbw w b 1 _ _ (0,0) hb;have z1:=zqbx w b 1 _ _ hb;generalize hr:(srE k hk).star u=r at *;have HR:=zHd hr;clear hop h0 hS hE hb hr;go_enter func165,ntmps165;go_wp2_with fail;refine(HOP.out w).mono ?_;rintro e w1 ⟨rfl,hg1⟩;have e0:=hg1.cell d0 (by simp);have e1:=hg1.cell d1 (by simp);have hb1:zbq k b bad w1:=zbq.kept HB.out hg1;have y1:=zqbx w1 b 1 _ _ hb1;have HB1:=zHd hb1;have HG:=zHd hg1;clear hb1 hg1 d0 d1 z1;cases bad
 ·by_cases hE0:E=0
  ·subst hE0
   exact zQas
  have t0:(E != 0)=true:=by simpa using hE0
  exact zQap
 exact zQat
open Go.RowKit
def zfb.square {w:World}{v:Value}{n:Nat}{ln:Nat->Nat}{G:Nat->Nat->ByteArray}(h:zfb w v n ln G)(hl:∀ i,i<n->ln i=n):zfb w v n (fun _=>n) G:=by
 obtain⟨rs,h1,h2⟩:=h;exact⟨rs,h1,fun i hi=>by have:=h2 i hi;rw[hl i hi] at this;exact this⟩
open Go.RowKit
def zvz (k:Int)(n:Nat)(ln:Nat->Nat)(G:Nat->Nat->ByteArray)(av:Value)(w:World)(hn:n<=10000)(ha:zfb w av n ln G)(hs:∀ i j,(G i j).size<=maxLen) :
  Calls prog 141 #[.int .i64 k,av] w (zgv (zAR k n ln G) w):=by
 obtain⟨rs,⟨A,c,rfl,ha1,ha2,ha3⟩,hr⟩:=ha;have HA:=zHd ha3;have HR:=zHd hr;have HN:=zHd hn;have HS:=zHd hs
 by_cases hk:zam k
 rotate_left 1
 ·have HK:=zHd (zkK (k:=k) hk)
  have HKN:=zHd hk;clear ha3 hr hn hs hk;go_enter func141,ntmps141;go_wp2_with fail;refine(HK.out _).mono ?_;rintro e w' ⟨rfl,rfl⟩;go_wp2;go_ret;exact zgv.no (fun h=>HKN.out h.1) (World.grownBy.refl _ _)
 have HK:=zHd (zhe (k:=k) hk);have HKY:=zHd hk;clear ha3 hr hn hs hk;go_enter func141,ntmps141;go_wp2_with fail;refine(HK.out _).mono ?_;rintro e w' ⟨rfl,rfl⟩;go_wp2_with fail
 go_loopw [5] (fun iv wr=>∃ i:Nat,i<=n/\iv=.int .i64 (i:Int)/\w.grownBy wr none/\∀ x,x<i->ln x=n/\∀ y,y<n->∃ v,Val k (G x y) v) (fun iv _=>n-(intOf iv).toNat)
 case atStart=>exact⟨0,zqaw _,rfl,World.grownBy.refl _ _,fun x hx=>absurd hx (by omega)⟩
 case round =>
  obtain⟨i,hi,rfl,hg,hx⟩:=hrel
  by_cases hin:i<n
  ·obtain⟨ad,rfl,hb,hc⟩:=HA.out i hin
   obtain⟨Ai,ci,hre,hi1,hi2,hi3⟩:=HR.out i hin;rw[hre] at hc;have q1:wr.cell? (ad.add i)=some (.slice Ai (ln i) ci):=(zhg (ad:=ad.add i) (by rw[zbx];exact hg.block ad.block hb (by simp))).trans hc;have u1:decide (i<n)=true:=(by simpa using hin);have u1':decide ((i:Int)<(n:Int))=true:=(by simpa using hin);have hit:(i:Int)<(n:Int):=(by omega);have hi0:(0:Int)<=(i:Int):=(by omega);have n1:IntKind.i64.wrap ((i:Int)+1)=(i:Int)+1:=by have:=HN.out;rw[zqah];omega
   by_cases hl:ln i=n
   rotate_left 1
   ·have HI:=zHd (zAI hin (zAI hg hl))
    have u2:((ln i:Int) != (n:Int))=true:=(by simp[bne];omega);clear hi hin hg hx hb hc hre hi1 hi2 hi3 hl;go_wp2;go_ret;exact zgv.no (fun h=>HI.out.2.2 (h.2.1 i HI.out.1)) HI.out.2.1
   have u2:((n:Int) != (n:Int))=false:=by simp
   rw[hl] at q1 hi3;have HI:=zHd (zAI hin (zAI hg (zAI hx hl)));have H3:=zHd hi3;have HQ:=zHd q1;clear hi hin hg hx hb hc hre hi1 hi2 hi3 hl;go_wp2;generalize wr=wq at *
   go_loopw [6] (fun jv wr=>∃ y:Nat,y<=n/\jv=.int .i64 (y:Int)/\wq.grownBy wr none/\∀ x,x<y->∃ v,Val k (G i x) v) (fun jv _=>n-(intOf jv).toNat)
   case atStart=>exact⟨0,zqaw _,rfl,World.grownBy.refl _ _,fun x hx=>absurd hx (by omega)⟩
   case round =>
    obtain⟨y,hy,rfl,hg,hv⟩:=hrel
    by_cases hyn:y<n
    ·obtain⟨rd,rfl,hrb,hrc⟩:=H3.out y hyn
     have hgw:=zaa HI.out.2.1 hg;have d1:wr.cell? (ad.add i)=some (.slice (some rd) n ci):=hg.cell HQ.out (by simp);have d2:wr.cell? (rd.add y)=some (.string (G i y)):=hgw.cell hrc (by simp);have v1:decide (y<n)=true:=(by simpa using hyn);have v1':decide ((y:Int)<(n:Int))=true:=(by simpa using hyn);have hyt:(y:Int)<(n:Int):=(by omega);have hy0:(0:Int)<=(y:Int):=(by omega);have n2:IntKind.i64.wrap ((y:Int)+1)=(y:Int)+1:=by have:=HN.out;rw[zqah];omega
     have hvb:∃ b:Bool,(b=true↔∃ v,Val k (G i y) v)/\VB 48 k (G i y) b:=by
      rcases zzH k (G i y) with⟨v,h⟩|h;exact⟨true,⟨fun _=>⟨v,h⟩,fun _=>rfl⟩,zfl h⟩;exact⟨false,⟨fun e=>by simp at e,fun⟨v,e⟩=>absurd e.has (by rw[h v e.e];simp)⟩,zEV h (HS.out i y)⟩
     obtain⟨b,hb1,hb2⟩:=hvb;have HV:=zHd hb1;have HC:=zHd hb2;have HJ:=zHd (zAI hyn (zAI hg (zAI hgw hv)));clear hy hyn hg hv hgw hb1 hb2 hrb hrc q1;go_wp2_with fail;refine(HC.out _).mono ?_;rintro e w5 ⟨rfl,hg5⟩;have H5:=zHd hg5;clear hg5;cases b
     ·go_wp2
      go_ret;refine zgv.no (fun h=>?_) (zaa HJ.out.2.2.1 H5.out);have:=HV.out.2 (h.2.2 i y HI.out.1 HJ.out.1);simp at this
     go_wp2;refine⟨⟨y+1,HJ.out.1,by simp,zaa HJ.out.2.1 H5.out,fun x hx=>?_⟩,by have:=HJ.out.1;simp[intOf];omega⟩
     by_cases e:x<y
     exact HJ.out.2.2.2 x e;rw[show x=y by omega];exact HV.out.1 (by simp)
    obtain rfl:y=n:=by omega
    have v1:decide (y<y)=false:=(by simp);have v1':decide ((y:Int)<(y:Int))=false:=(by simp);have HJ:=zHd (zAI hg hv);clear hy hyn hg hv q1;go_wp2;refine⟨⟨i+1,HI.out.1,by simp,zaa HI.out.2.1 HJ.out.1,fun x hx=>?_⟩,by have:=HI.out.1;simp[intOf];omega⟩
    by_cases e:x<i
    exact HI.out.2.2.1 x e;rw[show x=i by omega];exact⟨HI.out.2.2.2,HJ.out.2⟩
  obtain rfl:i=n:=by omega
  have u1:decide (i<i)=false:=(by simp);have u1':decide ((i:Int)<(i:Int))=false:=(by simp);have HI:=zHd (zAI hg hx);clear hi hin hg hx;go_wp2;go_ret;exact zgv.yes ⟨HKY.out,fun x hx=>(HI.out.2 x hx).1,fun x y hx hy=>(HI.out.2 x hx).2 y hy⟩ HI.out.1
open Go.RowKit
def zEi {k:Int}{v:Ext}(h:zcs k v=true):zaD k v=true:=by
 rcases v with(_|_)|x;cases h;cases h;unfold zcs at h;unfold zaD;simp only[Bool.or_eq_true,zqbb,zqca] at h ⊢;rcases h with h|⟨h,h2⟩
 exact .inl h;exact .inr ⟨h,by grind⟩
def zmQ {k:Int}{a:ByteArray}(h:wgtB k a=true):∃ v,Val k a v:=by
 obtain⟨v,hv⟩:=zcO h;exact⟨v,hv.e,zEi hv.has⟩
structure MOk (m:zah):Prop where
 kind:zam m.kind
 start:∃ s0:Nat,m.start=(s0:Int)/\s0<m.states.length
 lead:∃ v,Val m.kind m.lead v
 arcs:∀ i,i<m.states.length->zAT m.kind m.states.length (stA m.states i)/\(stA m.states i).length<=30000
 fins:∀ i,i<m.states.length->stF m.states i=⟨#[]⟩∨∃ v,Val m.kind (stF m.states i) v
def zBb {m:zah}(h:validB m=true):MOk m:=by
 obtain⟨h1,h2,h3,h4,h5,h6⟩:=zdG (zeh h);refine⟨(zbQ _).1 h1,⟨m.start.toNat,by omega,by omega⟩,zmQ h6,fun i hi=>?_,fun i hi=>?_⟩
 ·have hs:m.states[i]?=some m.states[i]:=zqac hi
  rw[zeP hs];obtain⟨_,ha⟩:=zfJ (zgd h hs);refine⟨fun a hm=>?_,?_⟩
  ·obtain⟨_,_,_,_,q1,q2,q3⟩:=zel (ha a hm)
   exact⟨q1,q2,zmQ q3⟩
  have:=zki (zqak hs);have:=ziV h;omega
 have hs:m.states[i]?=some m.states[i]:=zqac hi;rw[zkM hs];obtain⟨hf,_⟩:=zfJ (zgd h hs);unfold finB at hf;simp only[Bool.or_eq_true,zqca] at hf;rcases hf with hf|hf
 exact .inl (ByteArray.ext (Array.eq_empty_of_size_eq_zero hf));exact .inr (zmQ hf)
open Go.RowKit
end Go.Proofs.YtadgpgofcjpnjaaGreatDoor
