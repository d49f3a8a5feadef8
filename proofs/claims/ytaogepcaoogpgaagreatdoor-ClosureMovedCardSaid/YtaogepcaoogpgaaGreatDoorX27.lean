/- WA3 WA4 WA5 -/
import Derived.Test.YtaogepcaoogpgaaGreatDoorX26
set_option linter.unusedVariables false
set_option linter.unusedSimpArgs false
set_option maxRecDepth 100000
set_option maxHeartbeats 16000000
namespace Go.Proofs.YtaogepcaoogpgaaGreatDoor
open Go.RowKit
section
variable {k:Int}
theorem zmS (hk:zad k){n:Nat}{A0:Nat→Nat→El k}{G:Nat→Nat→ByteArray}{ln:Nat→Nat}(h5:n≤5)(hG:∀ i,i<n→∀ j,j<n→G i j=tx (A0 i j))(hf:∀ i,i<n→∀ j,j<n→FitE (A0 i j))
  (hs:∀ i,i<n→∀ j,j<n→Sh4 (A0 i j).1) (ten:ns n (fun x=>(nzL (srE k hk) (A0 x) n).length)≤10) (hl:∀ i,i<n→ln i=n) {w:World} {e:Ending} {w':World} (h:zfM k n ln G w e w') :
  w.grownBy w' none∧∃ v,e = .returned (.tuple #[v,.int .i64 0])∧MatV w' v n n (stM (srE k hk) A0 n):=by
 obtain⟨hg,h⟩:=h;refine⟨hg,?_⟩;have hm:zfr k n ln G:=⟨hk,hl,fun i j hi hj=>⟨_,by rw[hG i hi j hj];exact zby (hf i hi j hj)⟩⟩;rcases h with⟨hn,_⟩|⟨_,h60,_⟩|⟨_,_,hk2,A,hA,h⟩
 ·exact absurd hm hn
 ·omega
 ·have hAA:∀ i j,i<n→j<n→A i j=A0 i j:=fun i j hi hj=>zdl (hA i hi j hj).2 (hf i hi j hj) (by rw[← (hA i hi j hj).1,hG i hi j hj])
  have hfew:Few (srE k hk) (fun v=>Sh4 v.1) A n (fun x=>nzL (srE k hk) (A0 x) n):=⟨h5,fun x y hx hy=>by rw[hAA x y hx hy,zAD,if_pos hy],fun x hx e he=>by
   obtain⟨h1,h2⟩:=zsP _ _ he;rw[h2];exact hs x hx _ h1,fun x hx e he=>(zsP _ _ he).1,ten⟩
  have hsf:=zBi hk hfew (Nat.le_refl n);rcases h with⟨_,v,h1,h2⟩|⟨hn,_⟩
  ·exact⟨v,h1,h2.congr (fun i hi j hj=>zjW (srE k hk) hAA hi hj)⟩
  ·exact absurd hsf hn
noncomputable def arcL (hk:zad k)(l:List MArc):List (Nat × El k):=l.map (fun a=>(a.t.toNat,vE hk a.w))
theorem zpU (hk:zad k)(l:List MArc)(d:Nat):∀ t,t≤l.length→mrgP hk (arcF hk l) (arcK l) t d=cs (srE k hk) ((arcL hk l).take t) d
 | 0,_=>rfl
 | t+1,ht=>by
  have ha:l[t]? = some (l[t]'(by omega)):=List.getElem?_eq_getElem (by omega)
  have e1:(arcL hk l).take (t+1)=(arcL hk l).take t++[(arcK l t,arcF hk l t)]:=by
   rw[List.take_add_one]
   congr 1
   unfold arcL;rw[List.getElem?_map,ha,zpN ha,zpO hk ha]
   rfl
  rw[e1,zlC,← zpU hk l d t (by omega)];show(srE k hk).add (mrgP hk (arcF hk l) (arcK l) t d) (if arcK l t=d then arcF hk l t else (srE k hk).zero)=_
  dsimp only
  split
  ·rfl
  ·exact(srE k hk).add_zero _
theorem zgZ (hk:zad k)(l:List zag)(i d:Nat):arcM hk l i d=cs (srE k hk) (arcL hk (stA l i)) d:=by
 unfold arcM;rw[zpU hk _ d _ (Nat.le_refl _)]
 congr 1
 exact List.take_of_length_le (by unfold arcL;simp)
def zcP (a:ByteArray):Prop:=dgs7 a.data.toList≤4
theorem zou (hk:zad k){a:ByteArray}(h:∃ v,Val k a v)(hs:zcP a):Sh4 (vE hk a).1:=by
 obtain⟨v,hv⟩:=h;rw[zym hk hv];exact zHi hv.e hs
structure LitM (k:Int)(l:List zag):Prop where
 n5:l.length≤5
 ten:ns l.length (fun i=>(stA l i).length)≤10
 arcs:∀ i,i<l.length→∀ a∈stA l i,zcP a.w
 fins:∀ i,i<l.length→zcP (stF l i)
theorem zue (hk:zad k){l:List zag}(hl:LitM k l)(hok:zcz k l){i:Nat}(hi:i<l.length):Sh4 (finM hk l i).1:=by
 unfold finM finE
 split
 ·exact zmv hk
 ·next hn=>exact zou hk ((hok.fins i hi).resolve_left hn) (hl.fins i hi)
theorem zfc (hk:zad k){l:List zag}(hl:LitM k l)(hok:zcz k l):Few (srE k hk) (fun v=>Sh4 v.1) (arcM hk l) l.length (fun i=>arcL hk (stA l i)) where
 n5:=hl.n5
 a x y hx hy:=zgZ hk l x y
 sh x hx e he:=by
  obtain⟨a,ha,rfl⟩:=List.mem_map.1 he;exact zou hk ((hok.arcs x hx).1 a ha).2.2 (hl.arcs x hx a ha)
 lt x hx e he:=by
  obtain⟨a,ha,rfl⟩:=List.mem_map.1 he;have:=(hok.arcs x hx).1 a ha;show a.t.toNat<_
  omega
 ten:=by
  have e:(fun x=>(arcL hk (stA l x)).length)=fun i=>(stA l i).length:=by funext i;unfold arcL;simp
  rw[e];exact hl.ten
theorem zFe (f:Nat→Nat):∀ {n i:Nat},i<n→f i≤ns n f
 | n+1,i,h=>by
  show f i≤ns n f+f n
  by_cases e:i<n
  ·have:=zFe f e;omega
  ·rw[show i=n by omega];omega
theorem zuf (hk:zad k){l:List zag}(hl:LitM k l)(hok:zcz k l):zfO hk l:=fun i hi s hs=>by
 rw[zpU hk _ _ _ (by omega)];have h1:=zFe (fun i=>(stA l i).length) hi;have h2:=hl.ten;have ha:(stA l i)[s]? = some ((stA l i)[s]):=List.getElem?_eq_getElem hs;have h3:=(hok.arcs i hi).1 _ (List.mem_of_getElem? ha);have h5:=hl.n5;refine(zAC hk (fun e he=>(zfc hk hl hok).sh i hi e (List.mem_of_mem_take he)) ?_ ?_).fits (by omega)
 ·rw[List.length_take]
  unfold arcL;rw[List.length_map]
  omega
 ·rw[zpN ha];omega
theorem zCh (hk:zad k){l:List zag}(hl:LitM k l)(hok:zcz k l):zfv hk l:=⟨zuf hk hl hok,ztp hk (zfc hk hl hok) (fun x hx=>zue hk hl hok hx) (Nat.le_refl _)⟩
end
open Go.RowKit
section
variable {k:Int}
theorem zwF (hk:zad k){m:Mach}{x y:Nat}(h:y ∉ zaF m x):arcM hk m.states x y=(srE k hk).zero:=by
 rw[zgZ];refine zpt _ _ (fun e he => ?_);obtain⟨a,ha,rfl⟩:=List.mem_map.1 he;intro e2
 apply h
 cases hs:m.states[x]? with
 | none=>unfold stA at ha;rw[hs] at ha;cases ha
 | some s =>
  rw[zkR hs] at ha;rw[zhZ hs];exact List.mem_map.2 ⟨a,ha,e2⟩
theorem zGz (hk:zad k){m:Mach}{x:Nat}(h:¬ isFin m x):finM hk m.states x=(srE k hk).zero:=by
 unfold finM finE;rw[if_pos];cases hs:m.states[x]? with
 | none=>unfold stF;rw[hs];rfl
 | some s =>
  rw[zgs hs]
  by_cases hz:s.fin.size=0
  ·exact ByteArray.ext (Array.eq_empty_of_size_eq_zero hz)
  ·exact absurd ⟨s,hs,hz⟩ h
theorem zle (hk:zad k){m:Mach}{x:Nat}(hx:x<m.states.length)(h:¬ RFrom (zaQ m) (isFin m) x):toE hk m.states x=(srE k hk).zero:=by
 classical
 have key:=zef (srE k hk) (arcM hk m.states) (n:=m.states.length) (finM hk m.states) (fun j=>if RFrom (zaQ m) (isFin m) j then toE hk m.states j else (srE k hk).zero) (fun i hi => ?_) hx
 ·rw[if_neg h] at key
  exact(srE k hk).le_anti _ _ key ((srE k hk).zero_le _)
 ·try dsimp only
  by_cases hc:RFrom (zaQ m) (isFin m) i
  ·rw[if_pos hc]
   show(srE k hk).le _ (xsol (srE k hk) (arcM hk m.states) m.states.length (finM hk m.states) i);rw[zeM (srE k hk) (arcM hk m.states) m.states.length (finM hk m.states) hi];refine(srE k hk).add_mono _ _ _ _ ((srE k hk).le_refl _) (zgO _ (fun j hj=>(srE k hk).mul_mono _ _ _ ?_))
   by_cases hj2:RFrom (zaQ m) (isFin m) j
   ·rw[if_pos hj2];exact(srE k hk).le_refl _
   ·rw[if_neg hj2];exact(srE k hk).zero_le _
  ·rw[if_neg hc,zGz hk (fun hf=>hc (.start hf)),zgN _ (fun j hj => ?_),(srE k hk).add_zero]
   ·exact(srE k hk).le_refl _
   ·by_cases hj2:RFrom (zaQ m) (isFin m) j
    ·rw[zwF hk (fun hs=>hc (.step hj2 (zmO.2 hs))),(srE k hk).zero_mul]
    ·rw[if_neg hj2,(srE k hk).mul_zero]
def lsm {α:Type}(S:Sr α)(l:List Nat)(f:Nat→α):α:=sm S l.length (fun d=>f (l.getD d 0))
theorem zEM {α:Type}(S:Sr α)(l:List Nat)(x:Nat)(f:Nat→α):lsm S (l++[x]) f=S.add (lsm S l f) (f x):=by
 unfold lsm;rw[List.length_append];show S.add (sm S l.length _) (f ((l++[x]).getD l.length 0))=_;rw[zcg,zal S (g:=fun d=>f (l.getD d 0)) (fun d hd=>by rw[zbt hd])]
theorem zrc {α:Type}(S:Sr α)(p:Nat→Bool)(f:Nat→α):∀ n,(∀ j,j<n→p j=false→f j=S.zero)→sm S n f=lsm S ((List.range n).filter p) f
 | 0,_=>rfl
 | n+1,h=>by
  rw[List.range_succ,List.filter_append];show S.add (sm S n f) (f n)=_;rw[zrc S p f n (fun j hj=>h j (by omega))];cases hp:p n
  ·rw[h n (by omega) hp,S.add_zero]
   simp[hp]
  ·rw[show[n].filter p=[n] by simp[hp],zEM]
theorem zwG (hk:zad k){L:List Nat}(hn:L.Nodup){d:Nat}(hd:d<L.length):∀ (l:List MArc),cs (srE k hk) (arcL hk (l.filterMap (zcx L))) d=cs (srE k hk) (arcL hk l) (L.getD d 0)
 | []=>rfl
 | a::l=>by
  have ih:=zwG hk hn hd l;have hgd:L.getD d 0=L[d]:=by rw[List.getD_eq_getElem?_getD,List.getElem?_eq_getElem hd];rfl
  show _=(if a.t.toNat=L.getD d 0 then _ else _)
  by_cases hm:a.t.toNat∈L
  ·rw[List.filterMap_cons,zBB hm]
   show(if ((L.idxOf a.t.toNat:Nat):Int).toNat=d then _ else _)=_;rw[Int.toNat_natCast]
   by_cases e:a.t.toNat=L.getD d 0
   ·have e2:L.idxOf a.t.toNat=d:=by rw[e,hgd];exact List.Nodup.idxOf_getElem hn d hd
    rw[if_pos e2,if_pos e];show(srE k hk).add (vE hk a.w) (cs (srE k hk) (arcL hk (l.filterMap (zcx L))) d)=_;rw[ih]
    rfl
   ·have e2:¬ L.idxOf a.t.toNat=d:=fun h=>e (by rw[hgd];subst h;exact(List.getElem_idxOf (List.idxOf_lt_length_of_mem hm)).symm)
    rw[if_neg e2,if_neg e];exact ih
  ·rw[List.filterMap_cons,zEo hm]
   have e:¬ a.t.toNat=L.getD d 0:=fun h=>hm (by rw[h,hgd];exact List.getElem_mem hd);rw[if_neg e];exact ih
theorem zgv {m:Mach}{L:List Nat}(hL:∀ x∈L,x<m.states.length){c:Nat}(hc:c<L.length):stA (zaH m L).states c=(stA m.states (L.getD c 0)).filterMap (zcx L)∧stF (zaH m L).states c=stF m.states (L.getD c 0):=by
 have hgd:L.getD c 0=L[c]:=by rw[List.getD_eq_getElem?_getD,List.getElem?_eq_getElem hc];rfl
 have hx:=hL L[c] (List.getElem_mem hc);have hs:m.states[L[c]]? = some m.states[L[c]]:=List.getElem?_eq_getElem hx
 have h:(zaH m L).states[c]? = some (zhA L (stOf m L[c])):=by
  unfold zaH;rw[List.getElem?_map,List.getElem?_eq_getElem hc]
  rfl
 rw[zkR h,zgs h,hgd,zkR hs,zgs hs,zfL hs];exact⟨rfl,rfl⟩
theorem zjE (hk:zad k){m:Mach}(hw:Wf m):totE hk (trimM m).states (trimM m).lead (trimM m).start.toNat=totE hk m.states m.lead m.start.toNat:=by
 unfold totE;have hst:m.start.toNat<m.states.length:=by have:=hw.start;omega
 by_cases hu:usefulL m=[]
 ·have hns:=(zok hw).1 hu
  rw[zle hk hst (fun h=>hns ⟨.start rfl,h⟩),(srE k hk).mul_zero,zfb hu]
  have e:toE hk (zbG m.kind).states (zbG m.kind).start.toNat=(srE k hk).zero:=by
   refine zle hk (m:=zbG m.kind) (by show(0:Int).toNat<1;decide) (fun h => ?_)
   have hno:∀ x,¬ isFin (zbG m.kind) x:=fun x ⟨s,hs,hz⟩=>by
    cases x with
    | zero=>simp[zbG] at hs;subst hs;exact hz rfl
    | succ x=>simp[zbG] at hs
   have hnr:∀ x,¬ RFrom (zaQ (zbG m.kind)) (isFin (zbG m.kind)) x:=fun x h=>by
    induction h with
    | start h=>exact hno _ h
    | step _ _ ih=>exact ih
   exact hnr _ h
  rw[e,(srE k hk).mul_zero]
 ·rw[zdC hu]
  have hsu:m.start.toNat∈usefulL m:=by
   obtain⟨x,r,hx⟩:∃ x r,usefulL m=x::r:=by
    cases h:usefulL m with
    | nil=>exact absurd h hu
    | cons x r=>exact⟨x,r,rfl⟩
   have:x∈usefulL m:=by rw[hx];simp
   exact(zcy hw).2 (zkO ((zcy hw).1 this))
  have hnd:(usefulL m).Nodup:=List.nodup_range.filter _
  have hlt:∀ x∈usefulL m,x<m.states.length:=fun x hx=>by
   unfold usefulL at hx;exact List.mem_range.1 (List.mem_filter.1 hx).1
  have hgd:∀ c,c<(usefulL m).length→(usefulL m).getD c 0∈usefulL m:=fun c hc=>by
   rw[List.getD_eq_getElem?_getD,List.getElem?_eq_getElem hc];exact List.getElem_mem hc
  have hout:∀ j,j<m.states.length→(∀ d,d<(usefulL m).length→(usefulL m).getD d 0≠j)→j ∉ usefulL m:=fun j hj h hm=>by
   obtain⟨d,hd,e⟩:=List.getElem_of_mem hm;refine h d hd ?_;rw[List.getD_eq_getElem?_getD,List.getElem?_eq_getElem hd];exact e
  have hA:∀ c d,c<(usefulL m).length→d<(usefulL m).length→arcM hk (zaH m (usefulL m)).states c d=arcM hk m.states ((usefulL m).getD c 0) ((usefulL m).getD d 0):=fun c d hc hd=>by
   rw[zgZ,zgZ,(zgv hlt hc).1,zwG hk hnd hd]
  have hpart:=zze (srE k hk) (arcM hk m.states) (arcM hk (zaH m (usefulL m)).states) (n:=m.states.length) (k:=(usefulL m).length) (finM hk m.states) (finM hk (zaH m (usefulL m)).states) (fun c=>(usefulL m).getD c 0)
   (fun c hc=>hlt _ (hgd c hc))
   (fun c hc X hX=>by
    rw[zrc (srE k hk) (fun j=>decide (j∈usefulL m)) _ m.states.length (fun j hj hp=>hX j hj (fun d hd e=>by
     have h1:=hgd d hd;rw[e] at h1;simp[h1] at hp))]
    have e:(List.range m.states.length).filter (fun j=>decide (j∈usefulL m))=usefulL m:=by
     conv=>rhs;unfold usefulL
     refine List.filter_congr (fun x hx => ?_);rw[decide_eq_decide];exact zcy hw
    rw[e];unfold lsm;exact zal _ (fun d hd=>by rw[hA c d hc hd]))
   (fun c hc=>by unfold finM;rw[(zgv hlt hc).2])
   (fun c hc j hj hj2=>by
    by_cases hs:j∈zaF m ((usefulL m).getD c 0)
    ·have hu1:=(zcy hw).1 (hgd c hc)
     have hd:=zle hk hj (fun h=>hout j hj hj2 ((zcy hw).2 ⟨.step hu1.1 hs,h⟩));unfold toE at hd;rw[hd,(srE k hk).mul_zero]
    ·rw[zwF hk hs,(srE k hk).zero_mul])
   (fun c d hc hd e=>by
    try dsimp only at e
    rw[List.getD_eq_getElem?_getD,List.getElem?_eq_getElem hc,List.getD_eq_getElem?_getD,List.getElem?_eq_getElem hd] at e;have h1:=List.Nodup.idxOf_getElem hnd c hc;have h2:=List.Nodup.idxOf_getElem hnd d hd;have e3:(usefulL m)[c]=(usefulL m)[d]:=e;rw[e3] at h1;exact h1.symm.trans h2)
   (c:=(usefulL m).idxOf m.start.toNat) (List.idxOf_lt_length_of_mem hsu)
  have e1:(zaH m (usefulL m)).start.toNat=(usefulL m).idxOf m.start.toNat:=rfl;rw[e1]
  have e2:(usefulL m).getD ((usefulL m).idxOf m.start.toNat) 0=m.start.toNat:=by
   rw[List.getD_eq_getElem?_getD,List.getElem?_eq_getElem (List.idxOf_lt_length_of_mem hsu)];exact List.getElem_idxOf _
  rw[e2] at hpart;show(srE k hk).mul _ (xsol (srE k hk) (arcM hk (zaH m (usefulL m)).states) (zaH m (usefulL m)).states.length (finM hk (zaH m (usefulL m)).states) _)=_;rw[zeb,hpart]
  rfl
end
open Go.RowKit
section
variable {k:Int}
theorem zug {f g:Nat→Nat}:∀ {n:Nat},(∀ x,x<n→f x≤g x)→ns n f≤ns n g
 | 0,_=>Nat.le_refl _
 | n+1,h=>by
  show ns n f+f n≤ns n g+g n;have:=zug (f:=f) (g:=g) (n:=n) (fun x hx=>h x (by omega));have:=h n (by omega)
  omega
theorem zEN {m:Mach}(hv:validB m=true)(hl:LitM m.kind m.states):LitM (trimM m).kind (trimM m).states:=by
 have hw:=zfQ hv;rw[zjC]
 by_cases hu:usefulL m=[]
 ·rw[zfb hu]
  refine⟨by show 1≤5;omega,by show(0+0:Nat)≤10;omega,fun i hi a ha => ?_,fun i hi => ?_⟩
  ·obtain rfl:i=0:=by have:i<1:=hi;omega
   cases ha
  ·obtain rfl:i=0:=by have:i<1:=hi;omega
   show(([]:List UInt8).filter isDg).length≤4
   decide
 ·rw[zdC hu]
  have hlt:∀ x∈usefulL m,x<m.states.length:=fun x hx=>by
   unfold usefulL at hx;exact List.mem_range.1 (List.mem_filter.1 hx).1
  have hgd:∀ c,c<(usefulL m).length→(usefulL m).getD c 0∈usefulL m:=fun c hc=>by
   rw[List.getD_eq_getElem?_getD,List.getElem?_eq_getElem hc];exact List.getElem_mem hc
  have hlen:=zra hv;rw[zdC hu,zeb] at hlen;refine⟨by rw[zeb];have:=hl.n5;omega,?_,fun i hi a ha => ?_,fun i hi => ?_⟩
  ·rw[zeb]
   have hpw:(usefulL m).Pairwise (· < ·):=List.pairwise_lt_range.filter _;have h1:=zpF (fun x=>(stA m.states x).length) (usefulL m) (usefulL m).length (Nat.le_refl _);rw[List.take_length] at h1;have h2:=zob (fun x=>(stA m.states x).length) m.states.length (usefulL m) hpw hlt
   have h3:ns (usefulL m).length (fun i=>(stA (zaH m (usefulL m)).states i).length)≤ns (usefulL m).length (fun c=>(stA m.states ((usefulL m).getD c 0)).length):=zug (fun c hc=>by
    rw[(zgv hlt hc).1];exact List.length_filterMap_le _ _)
   have h4:=hl.ten
   omega
  ·rw[zeb] at hi
   rw[(zgv hlt hi).1] at ha;obtain⟨b,hb,he⟩:=List.mem_filterMap.1 ha;unfold zcx at he
   split at he
   ·cases he
    exact hl.arcs _ (hlt _ (hgd i hi)) b hb
   ·cases he
  ·rw[zeb] at hi
   rw[(zgv hlt hi).2];exact hl.fins _ (hlt _ (hgd i hi))
theorem zvu (hk:zad k){l:List zag}(hl:LitM k l)(hok:zcz k l):zdI k hk (arcM hk l) (finM hk l) l.length (fun i=>arcL hk (stA l i)) :=
 ⟨hl.n5,(zfc hk hl hok).a,fun x hx e he=>⟨(zfc hk hl hok).lt x hx e he,(zfc hk hl hok).sh x hx e he⟩,(zfc hk hl hok).ten,fun x hx=>zue hk hl hok hx⟩
theorem zGB (hk:zad k){l:List zag}{ld:ByteArray}{s0:Nat}(hl:LitM k l)(hok:zcz k l)(hld:∃ v,Val k ld v)(hs:zcP ld)(h0:s0<l.length):FitE (totE hk l ld s0) :=
 ((zvu hk hl hok).total (zou hk hld hs).wide h0).fits (by omega)
theorem zCi {m:Mach}(hk:zad m.kind)(hv:validB m=true)(hl:LitM m.kind m.states)(hs:zcP m.lead):ziL hk (trimM m).states (trimM m).lead (trimM m).start.toNat:=by
 have hok:=zcD hv;have hokt:=zcD (zot hv);have hlt:=zEN hv hl;have e:=zjC m;have hst:zcz (trimM m).kind (trimM m).states:=hokt.sts (by have:=hlt.n5;omega);rw[e] at hlt hst;refine⟨zCh hk hlt hst,?_⟩;rw[zjE hk (zfQ hv)];obtain⟨s0,h1,h2⟩:=hok.start;exact zGB hk hl (hok.sts (by have:=hl.n5;omega)) hok.lead hs (by rw[h1];exact h2)
def zgc {α:Type}(M:Nat→List (Nat × α))(n x:Nat):List (Nat × α):=(List.range n).flatMap (fun i=>((M i).filter (fun e=>decide (e.1=x))).map (fun e=>(i,e.2)))
theorem zov {α:Type}(S:Sr α)(y:Nat):∀ (l m:List (Nat × α)),cs S (l++m) y=S.add (cs S l y) (cs S m y)
 | [],m=>(S.zero_add _).symm
 | e::l,m=>by
  show(if e.1=y then S.add e.2 (cs S (l++m) y) else cs S (l++m) y)=S.add (if e.1=y then S.add e.2 (cs S l y) else cs S l y) (cs S m y);rw[zov S y l m]
  split
  ·rw[S.add_assoc]
  ·rfl
theorem zuh {α:Type}(S:Sr α)(x i y:Nat):∀ (l:List (Nat × α)),cs S ((l.filter (fun e=>decide (e.1=x))).map (fun e=>(i,e.2))) y=if i=y then cs S l x else S.zero
 | []=>by show S.zero=if i=y then S.zero else S.zero;split <;> rfl
 | e::l=>by
  have ih:=zuh S x i y l
  by_cases h:e.1=x
  ·rw[List.filter_cons_of_pos (by simpa using h)]
   show(if i=y then S.add e.2 (cs S ((l.filter (fun e=>decide (e.1=x))).map (fun e=>(i,e.2))) y) else cs S ((l.filter (fun e=>decide (e.1=x))).map (fun e=>(i,e.2))) y)=if i=y then (if e.1=x then S.add e.2 (cs S l x) else cs S l x) else S.zero
   rw[ih,if_pos h]
   split
   ·rfl
   ·rfl
  ·rw[List.filter_cons_of_neg (by simpa using h),ih]
   show _=if i=y then (if e.1=x then S.add e.2 (cs S l x) else cs S l x) else S.zero
   rw[if_neg h]
theorem zwH {α:Type}(S:Sr α)(M:Nat→List (Nat × α))(x y:Nat):∀ n,cs S (zgc M n x) y=if y<n then cs S (M y) x else S.zero
 | 0=>rfl
 | n+1=>by
  have e:zgc M (n+1) x=zgc M n x++((M n).filter (fun e=>decide (e.1=x))).map (fun e=>(n,e.2)):=by
   unfold zgc;rw[List.range_succ,List.flatMap_append];simp
  rw[e,zov,zwH S M x y n,zuh]
  by_cases h:n=y
  ·subst h
   rw[if_pos rfl,if_neg (by omega),if_pos (by omega),S.zero_add]
  ·rw[if_neg h,S.add_zero]
   by_cases h2:y<n
   ·rw[if_pos h2,if_pos (by omega)]
   ·rw[if_neg h2,if_neg (by omega)]
theorem count_le {α:Type}:∀ (l:List (Nat × α)) (n:Nat),ns n (fun x=>(l.filter (fun e=>decide (e.1=x))).length)≤l.length
 | [],n=>by
  have:ns n (fun x=>(([]:List (Nat × α)).filter (fun e=>decide (e.1=x))).length)=0:=by
   induction n with
   | zero=>rfl
   | succ n ih=>show ns n _+0=0;rw[ih]
  omega
 | e::l,n=>by
  have ih:=count_le l n
  have h:∀ n,ns n (fun x=>((e::l).filter (fun e=>decide (e.1=x))).length)=ns n (fun x=>(l.filter (fun e=>decide (e.1=x))).length)+(if e.1<n then 1 else 0):=by
   intro n
   induction n with
   | zero=>rfl
   | succ n ih2 =>
    show ns n _+((e::l).filter (fun e=>decide (e.1=n))).length=ns n _+(l.filter (fun e=>decide (e.1=n))).length+_;rw[ih2]
    by_cases he:e.1=n
    ·rw[List.filter_cons_of_pos (by simpa using he),List.length_cons,if_neg (by omega),if_pos (by omega)]
     omega
    ·rw[List.filter_cons_of_neg (by simpa using he)]
     by_cases h3:e.1<n
     ·rw[if_pos h3,if_pos (by omega)];omega
     ·rw[if_neg h3,if_neg (by omega)];omega
  rw[h n,List.length_cons]
  split <;> omega
theorem zwI (f g:Nat→Nat):∀ n,ns n (fun x=>f x+g x)=ns n f+ns n g
 | 0=>rfl
 | n+1=>by
  show ns n (fun x=>f x+g x)+(f n+g n)=(ns n f+f n)+(ns n g+g n);rw[zwI f g n];omega
theorem zow {α:Type}(M:Nat→List (Nat × α))(q:Nat):∀ n,ns q (fun x=>(zgc M n x).length)≤ns n (fun i=>(M i).length)
 | 0=>by
  have h:∀ q,ns q (fun x=>(zgc M 0 x).length)=0:=by
   intro q
   induction q with
   | zero=>rfl
   | succ q ih=>show ns q _+0=0;rw[ih]
  rw[h q];exact Nat.zero_le _
 | n+1=>by
  have ih:=zow M q n
  have e:(fun x=>(zgc M (n+1) x).length)=fun x=>(zgc M n x).length+((M n).filter (fun e=>decide (e.1=x))).length:=by
   funext x
   unfold zgc;rw[List.range_succ,List.flatMap_append,List.length_append];simp
  rw[e,zwI];have:=count_le (M n) q;show _≤ns n (fun i=>(M i).length)+(M n).length
  omega
theorem zEO (hk:zad k){l:List zag}(hl:LitM k l)(hok:zcz k l):Few (srE k hk) (fun v=>Sh4 v.1) (fun x y=>arcM hk l y x) l.length (zgc (fun i=>arcL hk (stA l i)) l.length) where
 n5:=hl.n5
 a x y hx hy:=by rw[zwH,if_pos hy];exact zgZ hk l y x
 sh x hx e he:=by
  obtain⟨i,hi,h⟩:=List.mem_flatMap.1 he;obtain⟨e2,h2,rfl⟩:=List.mem_map.1 h;exact(zfc hk hl hok).sh i (List.mem_range.1 hi) e2 (List.mem_filter.1 h2).1
 lt x hx e he:=by
  obtain⟨i,hi,h⟩:=List.mem_flatMap.1 he;obtain⟨e2,h2,rfl⟩:=List.mem_map.1 h;exact List.mem_range.1 hi
 ten:=Nat.le_trans (zow _ _ _) (zfc hk hl hok).ten
theorem zEP (hk:zad k){l:List zag}{ld:ByteArray}{s0:Nat}(hl:LitM k l)(hok:zcz k l)(hld:∃ v,Val k ld v)(hs:zcP ld):zeL hk l ld s0 :=
 ⟨zuf hk hl hok,ztp hk (zEO hk hl hok) (fun x hx=>by
  unfold leadM
  split
  ·exact zou hk hld hs
  ·exact zmv hk) (Nat.le_refl _)⟩
end
open Go.RowKit
theorem k1:zad 1 := .inl rfl
theorem k2:zad 2 := .inr (.inl rfl)
theorem k3:zad 3 := .inr (.inr rfl)
def e1 (x:Rat):El 1:=⟨.inr x,by unfold hasE;rfl⟩
def e2 (x:Rat)(h:decide (0≤x)=true):El 2:=⟨.inr x,by show(decide ((2:Int)=1) || ((decide ((2:Int)=2) || decide ((2:Int)=3))&&decide (0≤x)))=true;rw[h];rfl⟩
def top1:El 1:=⟨.inl true,rfl⟩
def li0:ByteArray:=⟨#[48]⟩
def li1:ByteArray:=⟨#[49]⟩
def li2:ByteArray:=⟨#[50]⟩
def li3:ByteArray:=⟨#[51]⟩
def li4:ByteArray:=⟨#[52]⟩
def li6:ByteArray:=⟨#[54]⟩
def li7:ByteArray:=⟨#[55]⟩
def sInf:ByteArray:=⟨#[105,110,102]⟩
def sLow:ByteArray:=⟨#[45,105,110,102]⟩
theorem MatA.congr {w:World}{v:Value}{n m:Nat}{G R:Nat→Nat→ByteArray}(h:MatA w v n (fun _=>m) G)(e:∀ i,i<n→∀ j,j<m→G i j=R i j):MatA w v n (fun _=>m) R:=by
 obtain⟨rs,h1,h2⟩:=h;refine⟨rs,h1,fun i hi => ?_⟩;obtain⟨A,c,e1,e2,e3,e4⟩:=h2 i hi;refine⟨A,c,e1,e2,e3,fun j hj => ?_⟩;obtain⟨ad,q1,q2,q3⟩:=e4 j hj;exact⟨ad,q1,q2,q3.trans (by dsimp only;rw[e i hi j hj])⟩
def tab {α:Type}(a b c d:α)(i j:Nat):α:=if i=0 then (if j=0 then a else b) else (if j=0 then c else d)
theorem zGC {α:Type}{P:α→Prop}{a b c d:α}(h:P a∧P b∧P c∧P d)(i j:Nat):P (tab a b c d i j):=by
 unfold tab
 split <;> split
 ·exact h.1
 ·exact h.2.1
 ·exact h.2.2.1
 ·exact h.2.2.2
instance (v:Ext):Decidable (Fits v):=by
 rcases v with(_|_)|x
 ·exact .isTrue trivial
 ·exact .isTrue trivial
 ·show Decidable (zbd x);unfold zbd;infer_instance
instance (v:Ext):Decidable (Sh4 v):=by
 rcases v with(_|_)|x
 ·exact .isTrue trivial
 ·exact .isTrue trivial
 ·show Decidable (_≤4);infer_instance
instance {k:Int} (v:El k):Decidable (FitE v):=inferInstanceAs (Decidable (Fits v.1))
def A1:Nat→Nat→El 1:=tab (e1 1) (e1 2) top1 (e1 3)
def A2:Nat→Nat→El 2:=tab (e2 (1/2) (by decide +kernel)) (e2 (1/4) (by decide +kernel)) (e2 0 (by decide +kernel)) (e2 (1/3) (by decide +kernel))
def A3:Nat→Nat→El 1:=fun _ _=>e1 (-1)
def G1:Nat→Nat→ByteArray:=tab li1 li2 sInf li3
def G2:Nat→Nat→ByteArray:=tab ⟨#[49,47,50]⟩ ⟨#[49,47,52]⟩ li0 ⟨#[49,47,51]⟩
def G3:Nat→Nat→ByteArray:=fun _ _=>⟨#[45,49]⟩
def R1:Nat→Nat→ByteArray:=tab li0 li2 sInf li0
def R2:Nat→Nat→ByteArray:=tab li2 ⟨#[51,47,52]⟩ li0 ⟨#[51,47,50]⟩
def R3:Nat→Nat→ByteArray:=fun _ _=>sLow
theorem all2 {P:Nat→Nat→Prop}(h:P 0 0∧P 0 1∧P 1 0∧P 1 1):∀ i,i<2→∀ j,j<2→P i j:=fun i hi j hj=>by
 rcases (show i=0∨i=1 by omega) with rfl|rfl <;> rcases (show j=0∨j=1 by omega) with rfl|rfl
 ·exact h.1
 ·exact h.2.1
 ·exact h.2.2.1
 ·exact h.2.2.2
theorem all1 {P:Nat→Nat→Prop}(h:P 0 0):∀ i,i<1→∀ j,j<1→P i j:=fun i hi j hj=>by
 obtain rfl:i=0:=by omega
 obtain rfl:j=0:=by omega
 exact h
theorem ex1 {w:World}{e:Ending}{w':World}(h:zfM 1 2 (fun _=>2) G1 w e w'):w.grownBy w' none∧∃ v,e = .returned (.tuple #[v,.int .i64 0])∧MatA w' v 2 (fun _=>2) R1:=by
 obtain⟨hg,v,h1,h2⟩:=zmS k1 (A0:=A1) (by omega) (all2 (by refine⟨?_,?_,?_,?_⟩ <;> decide +kernel)) (all2 (by refine⟨?_,?_,?_,?_⟩ <;> decide +kernel)) (all2 (by refine⟨?_,?_,?_,?_⟩ <;> decide +kernel)) (by decide +kernel) (fun _ _=>rfl) h;exact⟨hg,v,h1,h2.texts.congr (all2 (by refine⟨?_,?_,?_,?_⟩ <;> decide +kernel))⟩
theorem ex2 {w:World}{e:Ending}{w':World}(h:zfM 2 2 (fun _=>2) G2 w e w'):w.grownBy w' none∧∃ v,e = .returned (.tuple #[v,.int .i64 0])∧MatA w' v 2 (fun _=>2) R2:=by
 obtain⟨hg,v,h1,h2⟩:=zmS k2 (A0:=A2) (by omega) (all2 (by refine⟨?_,?_,?_,?_⟩ <;> decide +kernel)) (all2 (by refine⟨?_,?_,?_,?_⟩ <;> decide +kernel)) (all2 (by refine⟨?_,?_,?_,?_⟩ <;> decide +kernel)) (by decide +kernel) (fun _ _=>rfl) h;exact⟨hg,v,h1,h2.texts.congr (all2 (by refine⟨?_,?_,?_,?_⟩ <;> decide +kernel))⟩
theorem ex3 {w:World}{e:Ending}{w':World}(h:zfM 1 1 (fun _=>1) G3 w e w'):w.grownBy w' none∧∃ v,e = .returned (.tuple #[v,.int .i64 0])∧MatA w' v 1 (fun _=>1) R3:=by
 obtain⟨hg,v,h1,h2⟩:=zmS k1 (A0:=A3) (by omega) (all1 (by decide +kernel)) (all1 (by decide +kernel)) (all1 (by decide +kernel)) (by decide +kernel) (fun _ _=>rfl) h;exact⟨hg,v,h1,h2.texts.congr (all1 (by decide +kernel))⟩
def exM7:Mach:=⟨1,0,li1,[⟨⟨#[]⟩,[⟨1,1,li2,1⟩]⟩,⟨li4,[⟨2,1,li3,1⟩]⟩]⟩
theorem wgt7 {a:ByteArray}{x:Rat}(h:zay a x):wgtB 1 a=true:=zmJ (v := .inr x) ⟨h,rfl⟩
theorem val7 {a:ByteArray}{x:Rat}(h:zay a x):Val 1 a (.inr x):=⟨h,rfl⟩
theorem r1:zay li1 1:=⟨by decide +kernel,by decide +kernel⟩
theorem r2:zay li2 2:=⟨by decide +kernel,by decide +kernel⟩
theorem r3:zay li3 3:=⟨by decide +kernel,by decide +kernel⟩
theorem r4:zay li4 4:=⟨by decide +kernel,by decide +kernel⟩
theorem zid:validB exM7=true:=by
 unfold validB headB exM7 stB6 finB arcB zaY zeD;simp[wgt7 r1,wgt7 r2,wgt7 r3,wgt7 r4];exact .inl (by decide +kernel)
theorem zlf:checkC exM7=0:=by
 unfold checkC;rw[if_pos zid]
 rfl
theorem zmT:zer exM7:=⟨by decide +kernel,by decide +kernel,by decide +kernel,by decide +kernel,by decide +kernel⟩
theorem zlg {x:Rat}{a:ByteArray}(h:zay a x):vE k1 a=e1 x:=Subtype.ext (zym k1 (val7 h))
def Am:Nat→Nat→El 1:=tab top1 (e1 2) top1 (e1 3)
def Fm (i:Nat):El 1:=if i=0 then top1 else e1 4
theorem zFf:∀ i,i<2→∀ j,j<2→arcM k1 exM7.states i j=Am i j:=all2 (by
 refine⟨?_,?_,?_,?_⟩
 all_goals
  rw[zgZ];unfold arcL stA exM7;simp[zlg r2,zlg r3]
  decide +kernel)
theorem zIc:∀ i,i<2→finM k1 exM7.states i=Fm i:=fun i hi=>by
 rcases (show i=0∨i=1 by omega) with rfl|rfl
 ·unfold finM finE stF exM7 Fm
  simp
  decide +kernel
 ·unfold finM finE stF exM7 Fm
  simp only[List.getElem?_cons_succ,List.getElem?_cons_zero,Option.map_some,Option.getD_some];rw[if_neg (by decide +kernel),zlg r4]
  rfl
theorem zui:toE k1 exM7.states 0=e1 6∧toE k1 exM7.states 1=e1 4:=by
 have h:=fun i (hi:i<2)=>ziO (srE 1 k1) (n:=2) (fun i j hi hj=>zFf i hi j hj) zIc hi;refine⟨(h 0 (by omega)).trans ?_,(h 1 (by omega)).trans ?_⟩ <;> decide +kernel
theorem zuj:frE k1 exM7.states li1 0 0=e1 1∧frE k1 exM7.states li1 0 1=e1 3:=by
 have hl:∀ i,i<2→leadM k1 li1 0 i=(if i=0 then e1 1 else top1):=fun i hi=>by
  unfold leadM;rw[zlg r1]
  rfl
 have h:=fun i (hi:i<2)=>ziO (srE 1 k1) (n:=2) (A:=fun x y=>arcM k1 exM7.states y x) (B:=fun x y=>Am y x) (fun i j hi hj=>zFf j hj i hi) hl hi;refine⟨(h 0 (by omega)).trans ?_,(h 1 (by omega)).trans ?_⟩ <;> decide +kernel
theorem zpV:LitM exM7.kind exM7.states:=⟨by decide,by decide +kernel,fun i hi a ha=>by
  rcases (show i=0∨i=1 by have:i<2:=hi;omega) with rfl|rfl
  ·rw[List.mem_singleton.1 (show a∈[_] from ha)];unfold zcP;decide +kernel
  ·rw[List.mem_singleton.1 (show a∈[_] from ha)];unfold zcP;decide +kernel,fun i hi=>by
  rcases (show i=0∨i=1 by have:i<2:=hi;omega) with rfl|rfl
  ·unfold zcP;decide +kernel
  ·unfold zcP;decide +kernel⟩
theorem zwJ:zcz 1 exM7.states:=(zcD zid).sts (by decide)
theorem zGD:totE k1 (trimM exM7).states (trimM exM7).lead (trimM exM7).start.toNat=e1 7:=by
 have h:=zjE (k:=1) k1 (m:=exM7) (zfQ zid);rw[h];unfold totE;show(srE 1 k1).mul (vE k1 li1) (toE k1 exM7.states 0)=e1 7;rw[zlg r1,zui.1]
 decide +kernel
open Go.RowKit
theorem zjF (w:World)(a b:ByteArray):RowR (w.alloc (.cells #[.string a,.string b] 9)) (.slice (some ⟨w.heap.size,0,none⟩) 2 2) 2 (fun j => .string (if j=0 then a else b)) :=
 ⟨_,2,rfl,Nat.le_refl _,by unfold maxLen;omega,fun j hj=>⟨_,rfl,by simp,by
  rw[zbF,Nat.zero_add];rcases (show j=0∨j=1 by omega) with rfl|rfl
  ·exact zak w _ _ rfl
  ·exact zak w _ _ rfl⟩⟩
theorem zEQ (w:World)(a:ByteArray):RowR (w.alloc (.cells #[.string a] 9)) (.slice (some ⟨w.heap.size,0,none⟩) 1 1) 1 (fun j => .string a) :=
 ⟨_,1,rfl,Nat.le_refl _,by unfold maxLen;omega,fun j hj=>⟨_,rfl,by simp,by
  rw[zbF,Nat.zero_add];obtain rfl:j=0:=by omega
  exact zak w _ _ rfl⟩⟩
theorem zie (w:World)(a b c d:ByteArray)(H1 H2:Nat)(h1:H1=w.heap.size+1)(h2:H2=w.heap.size+2) :
  MatA (((w.alloc (.cells #[.string a,.string b] 9)).alloc (.cells #[.string c,.string d] 9)).alloc (.cells #[.slice (some ⟨w.heap.size,0,none⟩) 2 2,.slice (some ⟨H1,0,none⟩) 2 2] 33)) (.slice (some ⟨H2,0,none⟩) 2 2) 2 (fun _=>2) (tab a b c d):=by
 subst h1 h2;have g1:=zGA (w.alloc (.cells #[.string a,.string b] 9)) (.cells #[.string c,.string d] 9) none;have g2:=zGA ((w.alloc (.cells #[.string a,.string b] 9)).alloc (.cells #[.string c,.string d] 9)) (.cells #[.slice (some ⟨w.heap.size,0,none⟩) 2 2,.slice (some ⟨w.heap.size+1,0,none⟩) 2 2] 33) none;have r1:=((zjF w a b).grown g1).grown g2;have r2:=(zjF (w.alloc (.cells #[.string a,.string b] 9)) c d).grown g2;have hs1:(w.alloc (.cells #[.string a,.string b] 9)).heap.size=w.heap.size+1:=by simp
 have hs2:((w.alloc (.cells #[.string a,.string b] 9)).alloc (.cells #[.string c,.string d] 9)).heap.size=w.heap.size+2:=by simp
 rw[hs1] at r2;refine⟨fun i=>if i=0 then .slice (some ⟨w.heap.size,0,none⟩) 2 2 else .slice (some ⟨w.heap.size+1,0,none⟩) 2 2,⟨_,2,rfl,Nat.le_refl _,by unfold maxLen;omega,fun j hj=>⟨_,rfl,by simp,?_⟩⟩,fun i hi => ?_⟩
 ·rw[zbF,Nat.zero_add,← hs2]
  rcases (show j=0∨j=1 by omega) with rfl|rfl
  ·exact zak _ _ _ rfl
  ·exact zak _ _ _ rfl
 ·unfold tab
  rcases (show i=0∨i=1 by omega) with rfl|rfl
  ·exact r1
  ·exact r2
theorem zrd (w:World)(a:ByteArray)(H1:Nat)(h1:H1=w.heap.size+1) :
  MatA ((w.alloc (.cells #[.string a] 9)).alloc (.cells #[.slice (some ⟨w.heap.size,0,none⟩) 1 1] 33)) (.slice (some ⟨H1,0,none⟩) 1 1) 1 (fun _=>1) (fun _ _=>a):=by
 subst h1;have g2:=zGA (w.alloc (.cells #[.string a] 9)) (.cells #[.slice (some ⟨w.heap.size,0,none⟩) 1 1] 33) none;have r1:=(zEQ w a).grown g2;have hs1:(w.alloc (.cells #[.string a] 9)).heap.size=w.heap.size+1:=by simp
 refine⟨fun i => .slice (some ⟨w.heap.size,0,none⟩) 1 1,⟨_,1,rfl,Nat.le_refl _,by unfold maxLen;omega,fun j hj=>⟨_,rfl,by simp,?_⟩⟩,fun i hi=>r1⟩;rw[zbF,Nat.zero_add,← hs1];obtain rfl:j=0:=by omega
 exact zak _ _ _ rfl
theorem zuk {a b c d:ByteArray}(h:a.size≤9∧b.size≤9∧c.size≤9∧d.size≤9)(i j:Nat):(tab a b c d i j).size≤maxLen:=by
 have:=zGC (P:=fun x:ByteArray=>x.size≤9) h i j;unfold maxLen;omega
theorem zhD {W:World}{g k n:Nat}{xs:List Value}{t:TypeId}(h:W.heap[g]? = some (.cells xs.toArray t (0,0)))(hl:xs.length=n * k):Reads W W.heap.size k (some ⟨g,0,none⟩) n xs :=
 ⟨hl,fun _=>⟨_,rfl,(Array.getElem?_eq_some_iff.1 h).1,fun j u hu=>by
  rw[zbF,Nat.zero_add,cell_of_row W g _ _ _ (0,0) h,List.getElem?_toArray];exact hu⟩⟩
theorem zGE (w:World)(H:Nat)(hH:H=w.heap.size+2) :
  zbX ((((w.alloc (.cells #[.int .i64 1,.int .i64 1,.string li2,.int .i64 1] 59)).alloc (.cells #[.int .i64 2,.int .i64 1,.string li3,.int .i64 1] 59)).alloc (.cells #[.string ⟨#[]⟩,.slice (some ⟨w.heap.size,0,none⟩) 1 1,.string li4,.slice (some ⟨w.heap.size+1,0,none⟩) 1 1] 57)).alloc (.cells #[.int .i64 1,.int .i64 0,.string li1,.slice (some ⟨H,0,none⟩) 2 2] 31))
   (.agg #[.int .i64 1,.int .i64 0,.string li1,.slice (some ⟨H,0,none⟩) 2 2]) exM7:=by
 subst hH;have g1:=zGA (w.alloc (.cells #[.int .i64 1,.int .i64 1,.string li2,.int .i64 1] 59)) (.cells #[.int .i64 2,.int .i64 1,.string li3,.int .i64 1] 59) none;have g2:=zGA ((w.alloc (.cells #[.int .i64 1,.int .i64 1,.string li2,.int .i64 1] 59)).alloc (.cells #[.int .i64 2,.int .i64 1,.string li3,.int .i64 1] 59)) (.cells #[.string ⟨#[]⟩,.slice (some ⟨w.heap.size,0,none⟩) 1 1,.string li4,.slice (some ⟨w.heap.size+1,0,none⟩) 1 1] 57) none;have g3:=zGA (((w.alloc (.cells #[.int .i64 1,.int .i64 1,.string li2,.int .i64 1] 59)).alloc (.cells #[.int .i64 2,.int .i64 1,.string li3,.int .i64 1] 59)).alloc (.cells #[.string ⟨#[]⟩,.slice (some ⟨w.heap.size,0,none⟩) 1 1,.string li4,.slice (some ⟨w.heap.size+1,0,none⟩) 1 1] 57)) (.cells #[.int .i64 1,.int .i64 0,.string li1,.slice (some ⟨w.heap.size+2,0,none⟩) 2 2] 31) none;have b0:=zau w (.cells #[.int .i64 1,.int .i64 1,.string li2,.int .i64 1] 59);have b1:=zau (w.alloc (.cells #[.int .i64 1,.int .i64 1,.string li2,.int .i64 1] 59)) (.cells #[.int .i64 2,.int .i64 1,.string li3,.int .i64 1] 59);have b2:=zau ((w.alloc (.cells #[.int .i64 1,.int .i64 1,.string li2,.int .i64 1] 59)).alloc (.cells #[.int .i64 2,.int .i64 1,.string li3,.int .i64 1] 59)) (.cells #[.string ⟨#[]⟩,.slice (some ⟨w.heap.size,0,none⟩) 1 1,.string li4,.slice (some ⟨w.heap.size+1,0,none⟩) 1 1] 57);have z1:(w.alloc (.cells #[.int .i64 1,.int .i64 1,.string li2,.int .i64 1] 59)).heap.size=w.heap.size+1:=by simp
 have z2:((w.alloc (.cells #[.int .i64 1,.int .i64 1,.string li2,.int .i64 1] 59)).alloc (.cells #[.int .i64 2,.int .i64 1,.string li3,.int .i64 1] 59)).heap.size=w.heap.size+2:=by simp
 rw[z1] at b1;rw[z2] at b2;have c0:=(g3.block _ (by first|(simp;omega)|simp) (by simp)).trans ((g2.block _ (by first|(simp;omega)|simp) (by simp)).trans ((g1.block w.heap.size (by simp) (by simp)).trans b0));have c1:=(g3.block _ (by first|(simp;done)|(simp;omega)) (by simp)).trans ((g2.block (w.heap.size+1) (by simp) (by simp)).trans b1);have c2:=(g3.block (w.heap.size+2) (by simp) (by simp)).trans b2;refine⟨_,rfl,some ⟨w.heap.size+2,0,none⟩,2,[.slice (some ⟨w.heap.size,0,none⟩) 1 1,.slice (some ⟨w.heap.size+1,0,none⟩) 1 1],rfl,rfl,zhD c2 rfl,fun i s u hs hu => ?_⟩;have hi:i<2:=(List.getElem?_eq_some_iff.1 hs).1;rcases (show i=0∨i=1 by omega) with rfl|rfl
 ·simp only[exM7,List.getElem?_cons_zero,Option.some.injEq] at hs hu
  subst hs hu;exact⟨_,1,rfl,zhD (xs:=([⟨1,1,li2,1⟩]:List MArc).flatMap arcC) c0 rfl⟩
 ·simp only[exM7,List.getElem?_cons_succ,List.getElem?_cons_zero,Option.some.injEq] at hs hu
  subst hs hu;exact⟨_,1,rfl,zhD (xs:=([⟨2,1,li3,1⟩]:List MArc).flatMap arcC) c1 rfl⟩
theorem zGF (w:World)(H:Nat):MBox ((((w.alloc (.cells #[.int .i64 1,.int .i64 1,.string li2,.int .i64 1] 59)).alloc (.cells #[.int .i64 2,.int .i64 1,.string li3,.int .i64 1] 59)).alloc (.cells #[.string ⟨#[]⟩,.slice (some ⟨w.heap.size,0,none⟩) 1 1,.string li4,.slice (some ⟨w.heap.size+1,0,none⟩) 1 1] 57)).alloc (.cells #[.int .i64 1,.int .i64 0,.string li1,.slice (some ⟨H,0,none⟩) 2 2] 31)) (w.heap.size+3) 1 0 li1 (some ⟨H,0,none⟩) 2 2:=by
 have h:=MBox.new (((w.alloc (.cells #[.int .i64 1,.int .i64 1,.string li2,.int .i64 1] 59)).alloc (.cells #[.int .i64 2,.int .i64 1,.string li3,.int .i64 1] 59)).alloc (.cells #[.string ⟨#[]⟩,.slice (some ⟨w.heap.size,0,none⟩) 1 1,.string li4,.slice (some ⟨w.heap.size+1,0,none⟩) 1 1] 57)) 1 0 li1 (some ⟨H,0,none⟩) 2 2;rw[show(((w.alloc (.cells #[.int .i64 1,.int .i64 1,.string li2,.int .i64 1] 59)).alloc (.cells #[.int .i64 2,.int .i64 1,.string li3,.int .i64 1] 59)).alloc (.cells #[.string ⟨#[]⟩,.slice (some ⟨w.heap.size,0,none⟩) 1 1,.string li4,.slice (some ⟨w.heap.size+1,0,none⟩) 1 1] 57)).heap.size=w.heap.size+3 by simp] at h;exact h
theorem zwK {w:World}{v:Value}{f:Nat→El 1}{a b:ByteArray}(h:RowR w v 2 (txs f))(h0:tx (f 0)=a)(h1:tx (f 1)=b):RowR w v 2 (fun j => .string (if j=0 then a else b)):=by
 obtain⟨A,c,e1,e2,e3,e4⟩:=h;refine⟨A,c,e1,e2,e3,fun j hj => ?_⟩;obtain⟨ad,q1,q2,q3⟩:=e4 j hj;refine⟨ad,q1,q2,q3.trans ?_⟩;unfold txs;rcases (show j=0∨j=1 by omega) with rfl|rfl
 ·rw[h0];rfl
 ·rw[h1];rfl
theorem zGG {w:World}{e:Ending}{w':World}(h:ztX exM7 w e w'):w.grownBy w' none∧∃ v,e = .returned (.tuple #[v,.int .i64 0])∧RowR w' v 2 (fun j => .string (if j=0 then li6 else li4)):=by
 rcases h with⟨hn,_⟩|⟨_,hk,hg,⟨_,v,h1,h2⟩|⟨hn,_⟩⟩
 ·exact absurd zlf hn
 ·exact⟨hg,v,h1,zwK h2 (by rw[show toE hk exM7.states 0=e1 6 from zui.1];decide +kernel) (by rw[show toE hk exM7.states 1=e1 4 from zui.2];decide +kernel)⟩
 ·exact absurd (zCh k1 zpV zwJ) hn
theorem zCj {w:World}{e:Ending}{w':World}(h:zmR exM7 w e w'):w.grownBy w' none∧∃ v,e = .returned (.tuple #[v,.int .i64 0])∧RowR w' v 2 (fun j => .string (if j=0 then li1 else li3)):=by
 rcases h with⟨hn,_⟩|⟨_,hk,hg,⟨_,v,h1,h2⟩|⟨hn,_⟩⟩
 ·exact absurd zlf hn
 ·exact⟨hg,v,h1,zwK h2 (by rw[show frE hk exM7.states exM7.lead exM7.start.toNat 0=e1 1 from zuj.1];decide +kernel) (by rw[show frE hk exM7.states exM7.lead exM7.start.toNat 1=e1 3 from zuj.2];decide +kernel)⟩
 ·exact absurd (zEP k1 (s0:=0) zpV zwJ ⟨_,val7 r1⟩ (by unfold zcP;decide +kernel)) hn
theorem zER {w:World}{e:Ending}{w':World}(h:zld exM7 w e w'):w.grownBy w' none∧e = .returned (.tuple #[.string li7,.int .i64 0]):=by
 rcases h with⟨hn,_⟩|⟨_,hk,hg,⟨_,h1⟩|⟨hn,_⟩⟩
 ·exact absurd zlf hn
 ·refine⟨hg,h1.trans ?_⟩
  rw[show totE hk (trimM exM7).states (trimM exM7).lead (trimM exM7).start.toNat=e1 7 from zGD];exact congrArg (fun a=>Ending.returned (.tuple #[.string a,.int .i64 0])) (show tx (k:=1) (e1 7)=li7 by decide +kernel)
 ·exact absurd (zCi (m:=exM7) k1 zid zpV (by unfold zcP;decide +kernel)) hn
theorem zio (n:Nat)(l:Nat→Nat)(X:Nat→Nat→ByteArray):zBF n n l l X X:=⟨rfl,fun _ _=>⟨rfl,fun _ _=>rfl⟩⟩
theorem zav (w:World):Calls Tryz.prog 11 #[] w (fun e w'=>e = .returned (.bool true)∧w.grownBy w' none):=by
 go_enter Tryz.func11,Tryz.ntmps11;go_wp2_with fail;refine(zfN 1 2 (fun _=>2) G1 _ _ (by omega) (zie w li1 li2 sInf li3 _ _ rfl rfl) (zuk (by decide +kernel))).mono ?_;intro e w1 hq;obtain⟨hg,v1,rfl,hm1⟩:=ex1 hq;have H1:=zHd (zAI hm1 (zaa (zaa (zaa (zGA w (.cells #[.string li1,.string li2] 9) none) (zGA _ (.cells #[.string sInf,.string li3] 9) none)) (zGA _ _ none)) hg));clear hq hm1 hg;go_wp2_with fail;refine(zfN 2 2 (fun _=>2) G2 _ _ (by omega) (zie w1 ⟨#[49,47,50]⟩ ⟨#[49,47,52]⟩ li0 ⟨#[49,47,51]⟩ _ _ rfl rfl) (zuk (by decide +kernel))).mono ?_;intro e w2 hq;obtain⟨hg,v2,rfl,hm2⟩:=ex2 hq;have H2:=zHd (zAI hm2 (zaa (zaa (zaa (zGA w1 (.cells #[.string ⟨#[49,47,50]⟩,.string ⟨#[49,47,52]⟩] 9) none) (zGA _ (.cells #[.string li0,.string ⟨#[49,47,51]⟩] 9) none)) (zGA _ _ none)) hg));clear hq hm2 hg;go_wp2_with fail;refine(zfN 1 1 (fun _=>1) G3 _ _ (by omega) (zrd w2 ⟨#[45,49]⟩ _ rfl) (fun _ _=>by show(⟨#[45,49]⟩:ByteArray).size≤maxLen;decide +kernel)).mono ?_;intro e w3 hq;obtain⟨hg,v3,rfl,hm3⟩:=ex3 hq;have H3:=zHd (zAI hm3 (zaa (zaa (zGA w2 (.cells #[.string ⟨#[45,49]⟩] 9) none) (zGA _ _ none)) hg));clear hq hm3 hg;go_wp2_with fail;have hgm:=zaa (zaa (zaa (zGA w3 (.cells #[.int .i64 1,.int .i64 1,.string li2,.int .i64 1] 59) none) (zGA _ (.cells #[.int .i64 2,.int .i64 1,.string li3,.int .i64 1] 59) none)) (zGA _ (.cells #[.string ⟨#[]⟩,.slice (some ⟨w3.heap.size,0,none⟩) 1 1,.string li4,.slice (some ⟨w3.heap.size+1,0,none⟩) 1 1] 57) none)) (zGA _ (.cells #[.int .i64 1,.int .i64 0,.string li1,.slice (some ⟨w3.heap.size+1+1,0,none⟩) 2 2] 31) none);have hmv:=zGE w3 (w3.heap.size+1+1) rfl;have hbx:=zGF w3 (w3.heap.size+1+1);have HG:=zHd hgm;have HMV:=zHd hmv;have HBX:=zHd hbx;clear hgm hmv hbx;refine(zBO HMV.out zmT).mono ?_;intro e w4 hq;obtain⟨hg4,v4,rfl,hr4⟩:=zGG hq;obtain⟨x0,x1,x2,x3⟩:=HBX.out.grown hg4;have HMV4:=zHd (HMV.out.below (zbm hg4));have H4:=zHd (zAI hr4 (zaa HG.out hg4));have HBX4:=zHd (HBX.out.grown hg4);clear hq hr4 hg4 HMV HBX HG;go_wp2_with fail;refine(ztZ HMV4.out zmT).mono ?_;intro e w5 hq;obtain⟨hg5,v5,rfl,hr5⟩:=zCj hq;obtain⟨y0,y1,y2,y3⟩:=HBX4.out.grown hg5;have HMV5:=zHd (HMV4.out.below (zbm hg5));have H5:=zHd (zAI hr5 hg5);clear hq hr5 hg5 HMV4 HBX4 x0 x1 x2 x3;go_wp2_with fail;refine(zrb HMV5.out zmT).mono ?_;intro e w6 hq;obtain⟨hg6,rfl⟩:=zER hq;have H6:=zHd hg6;clear hq hg6 HMV5 y0 y1 y2 y3;go_wp2_with fail;have G6:=zHd (zaa (zaa (zaa H6.out (zGA w6 (.cells #[.string li0,.string li2] 9) none)) (zGA _ (.cells #[.string sInf,.string li0] 9) none)) (zGA _ (.cells #[.slice (some ⟨w6.heap.size,0,none⟩) 2 2,.slice (some ⟨w6.heap.size+1,0,none⟩) 2 2] 33) none));refine(zeu 2 2 (fun _=>2) (fun _=>2) R1 R1 _ _ _ (by omega) (by omega) (by intros;omega) (by intros;omega) (((((H1.out.1.grown H2.out.2).grown H3.out.2).grown H4.out.2).grown H5.out.2).grown G6.out) (zie w6 li0 li2 sInf li0 _ _ rfl rfl)).mono ?_;rintro e w7 ⟨b,rfl,hb,hg7⟩;obtain rfl:=hb.2 (zio 2 (fun _=>2) R1);have H7:=zHd (zaa G6.out hg7);clear hb hg7 G6;go_wp2_with fail;have G7:=zHd (zaa (zaa (zaa H7.out (zGA w7 (.cells #[.string li2,.string ⟨#[51,47,52]⟩] 9) none)) (zGA _ (.cells #[.string li0,.string ⟨#[51,47,50]⟩] 9) none)) (zGA _ (.cells #[.slice (some ⟨w7.heap.size,0,none⟩) 2 2,.slice (some ⟨w7.heap.size+1,0,none⟩) 2 2] 33) none));refine(zeu 2 2 (fun _=>2) (fun _=>2) R2 R2 _ _ _ (by omega) (by omega) (by intros;omega) (by intros;omega) ((((H2.out.1.grown H3.out.2).grown H4.out.2).grown H5.out.2).grown G7.out) (zie w7 li2 ⟨#[51,47,52]⟩ li0 ⟨#[51,47,50]⟩ _ _ rfl rfl)).mono ?_;rintro e w8 ⟨b,rfl,hb,hg8⟩;obtain rfl:=hb.2 (zio 2 (fun _=>2) R2);have H8:=zHd (zaa G7.out hg8);clear hb hg8 G7;go_wp2_with fail;have G8:=zHd (zaa (zaa H8.out (zGA w8 (.cells #[.string sLow] 9) none)) (zGA _ (.cells #[.slice (some ⟨w8.heap.size,0,none⟩) 1 1] 33) none));refine(zeu 1 1 (fun _=>1) (fun _=>1) R3 R3 _ _ _ (by omega) (by omega) (by intros;omega) (by intros;omega) (((H3.out.1.grown H4.out.2).grown H5.out.2).grown G8.out) (zrd w8 sLow _ rfl)).mono ?_;rintro e w9 ⟨b,rfl,hb,hg9⟩;obtain rfl:=hb.2 (zio 1 (fun _=>1) R3);have H9:=zHd (zaa G8.out hg9);clear hb hg9 G8;go_wp2_with fail;have G9:=zHd (zaa H9.out (zGA w9 (.cells #[.string li6,.string li4] 9) none));refine(zkS 2 2 (fun j=>if j=0 then li6 else li4) (fun j=>if j=0 then li6 else li4) _ _ _ (by omega) (by omega) ((H4.out.1.grown H5.out.2).grown G9.out) (zjF w9 li6 li4)).mono ?_;rintro e wa ⟨b,rfl,hb,hga⟩;obtain rfl:=hb.2 ⟨rfl,fun _ _=>rfl⟩;have HA:=zHd (zaa G9.out hga);clear hb hga G9;go_wp2_with fail;have GA:=zHd (zaa HA.out (zGA wa (.cells #[.string li1,.string li3] 9) none));refine(zkS 2 2 (fun j=>if j=0 then li1 else li3) (fun j=>if j=0 then li1 else li3) _ _ _ (by omega) (by omega) (H5.out.1.grown GA.out) (zjF wa li1 li3)).mono ?_;rintro e wb ⟨b,rfl,hb,hgb⟩;obtain rfl:=hb.2 ⟨rfl,fun _ _=>rfl⟩;have HB:=zHd (zaa GA.out hgb);clear hb hgb GA;go_wp2_with fail;rw[show(li7.toList == [55])=true by decide +kernel];exact bodyPost_ret (v := .bool true) (by simp[results,Tryz.results11,go_sem]) rfl ⟨rfl,zaa H1.out.2 (zaa H2.out.2 (zaa H3.out.2 (zaa H4.out.2 (zaa H5.out.2 HB.out))))⟩
end Go.Proofs.YtaogepcaoogpgaaGreatDoor
