/- Part. -/
import Derived.Test.YtaogepcaoogpgaaGreatDoorKF09
set_option linter.unusedVariables false
set_option linter.unusedSimpArgs false
set_option maxRecDepth 100000
set_option maxHeartbeats 16000000
namespace Go.Proofs.YtaogepcaoogpgaaGreatDoor
open Go.RowKit
def zfS (w:World)(v:Value)(n:Nat)(zs:List Value)(g:Nat):Prop:=(n=0/\v=.slice none 0 0/\zs=[])∨(0<n/\∃ c,v=.slice (some ⟨g,0,none⟩) n c/\zhf w g n c zs)
theorem zxs (n g vb:Nat)(v:Value)(zs:List Value)(u:Value)(TB:TypeId)(w:World)(hn:n<=10000)(hr:zfS w v n zs g)(hne:0<n->vb≠g)(hv:w.heap[vb]?=some (.cells #[u] TB (0,0)))(h1:u.oneCell'=true)(hz:∀ z∈zs,z.oneCell'=true) :
  Calls Tryz.prog 133 #[v,.int .i64 0,.slice (some ⟨vb,0,none⟩) 1 1] w (znE n g u zs w):=by
 have hvc:w.cell? ⟨vb,0,none⟩=some u:=zqbw w vb 0 _ _ (0,0) hv;rcases hr with⟨rfl,rfl,rfl⟩|⟨h0,c,rfl,hown⟩
 ·refine(zxr vb u w hvc h1).mono (fun e w' h=>?_)
  obtain⟨g',c',h2,h3,⟨_,h4,_⟩|h4⟩:=h
  ·omega
  ·exact⟨g',c',h2,h3,.inr h4⟩
 ·have:=hown.le
  by_cases hc:n+1<=c
  ·exact zvC n c g vb zs u TB w h0 hn hc hown (hne h0) hv h1 hz
  ·exact zvD n c g vb zs u w h0 hn (by omega) hown hvc (zqad.1 hv).1 h1 hz
section
variable {k:Int}
def zrS (B n m:Nat)(F:Nat->Nat->El k)(v:Value)(w':World):Prop :=
 ∃ zs g,zfS w' v n zs g/\(0<n->B<=g)/\∀ i,i<n->∃ gi o ci,zs.getD i (.slice none 0 0)=.slice (some ⟨gi,o,none⟩) m ci/\m<=ci/\ci<=maxLen/\gi≠g/\zaq w' gi o m (txs (F i))
theorem zfS.len {w:World}{v:Value}{n:Nat}{zs:List Value}{g:Nat}(h:zfS w v n zs g):zs.length=n:=by
 rcases h with⟨rfl,_,rfl⟩|⟨_,c,_,ho⟩
 ·rfl
 ·exact ho.len
theorem zfS.grown {w w':World}{v:Value}{n:Nat}{zs:List Value}{g:Nat}(h:zfS w v n zs g)(hg:w.grownBy w' none):zfS w' v n zs g:=by
 rcases h with h|⟨h0,c,e,ho⟩
 ·exact .inl h
 ·exact .inr ⟨h0,c,e,ho.grown hg⟩
theorem zfS.lt {w:World}{v:Value}{n:Nat}{zs:List Value}{g:Nat}(h:zfS w v n zs g)(hn:0<n):g<w.heap.size:=by
 rcases h with⟨rfl,_,rfl⟩|⟨_,c,_,ho⟩
 ·omega
 ·exact ho.lt
theorem zfS.rowR {w:World}{v:Value}{n:Nat}{zs:List Value}{g:Nat}(h:zfS w v n zs g):zaG w v n (fun j=>zs.getD j (.slice none 0 0)):=by
 rcases h with⟨rfl,rfl,rfl⟩|⟨h0,c,rfl,ho⟩
 ·exact⟨none,0,rfl,zqab _,by unfold maxLen;omega,fun j hj=>absurd hj (by omega)⟩
 ·exact ho.rowAt.row ho.le ho.max
theorem zfS.shape {w:World}{v:Value}{n:Nat}{zs:List Value}{g:Nat}(h:zfS w v n zs g):∃ R cr,v=.slice R n cr:=by
 rcases h with⟨rfl,rfl,rfl⟩|⟨h0,c,rfl,ho⟩
 ·exact⟨_,_,rfl⟩
 ·exact⟨_,_,rfl⟩
theorem zrT:Enters 132:=enters_of Tryz.func132 (by kernel_rfl) rfl
def zKC (w:World)(g:Nat)(k:Int):Prop:=w.cell? ⟨g,0,none⟩=some (.int .i64 k)/\w.cell? ⟨g,1,none⟩=some (.string (zae k))/\w.cell? ⟨g,2,none⟩=some (.string (zal k))
theorem zAv (w:World)(k:Int):zKC (w.alloc (.cells #[.int .i64 k,.string (zae k),.string (zal k)] 64)) w.heap.size k:=⟨zao w _ _ rfl,zao w _ _ rfl,zao w _ _ rfl⟩
theorem zjJ {w:World}{g o:Nat}{u v:Value}{ad:Addr}(hb:ad.block≠g)(h:w.cell? ad=some v):(w.setCell ⟨g,o,none⟩ u).cell? ad=some v:=(zac w ⟨g,o,none⟩ u).cell h (by simpa using hb)
theorem zed {w:World}{g:Nat}{u0 u1 u2 u3 v:Value}{ad:Addr}(hb:ad.block≠g)(h:w.cell? ad=some v):((((w.setCell ⟨g,0,none⟩ u0).setCell ⟨g,1,none⟩ u1).setCell ⟨g,2,none⟩ u2).setCell ⟨g,3,none⟩ u3).cell? ad=some v :=
 zjJ hb (zjJ hb (zjJ hb (zjJ hb h)))
theorem zsY {w:World}{g:Nat}{u0 u1 u2 u3:Value}{c:Array Value}{T:TypeId}(hc:c.size=4)(h:w.heap[g]?=some (.cells c T (0,0))):((((w.setCell ⟨g,0,none⟩ u0).setCell ⟨g,1,none⟩ u1).setCell ⟨g,2,none⟩ u2).setCell ⟨g,3,none⟩ u3).heap[g]?=some (.cells #[u0,u1,u2,u3] T (0,0)):=by
 rw[heap_setCell_same _ g 3 _ _ u3 (heap_setCell_same _ g 2 _ _ u2 (heap_setCell_same _ g 1 _ _ u1 (heap_setCell_same w g 0 _ _ u0 h)))];congr 2;apply Array.toList_inj.1;simp only[Array.toList_setIfInBounds];obtain⟨l⟩:=c
 match l,hc with
 | [a,b,c,d],_=>rfl
theorem zjZ (w:World)(g:Nat)(u0 u1 u2 u3:Value):w.grownBy ((((w.setCell ⟨g,0,none⟩ u0).setCell ⟨g,1,none⟩ u1).setCell ⟨g,2,none⟩ u2).setCell ⟨g,3,none⟩ u3) (some g) :=
 zaa (zaa (zaa (zac _ _ _) (zac _ _ _)) (zac _ _ _)) (zac _ _ _)
theorem zmF (hk:zad k){m:Nat}:∀ {n:Nat} {A:Nat->Nat->El k},zfl (srE k hk) zam n m A->∀ i,i<n->∀ j,j<m->zam (zeM (srE k hk) n A i j)
 | 0,_,_,i,hi,_,_=>absurd hi (by omega)
 | n+1,A,h,0,_,j,hj=>by
  cases n with
  | zero =>
   show zam (zbh (srE k hk) (fun J=>zeh (srE k hk) A (0+J)) (zeh (srE k hk) A) (zeM (srE k hk) 0 (zeL (srE k hk) A)) 0 j);rw[zjV];exact h.2.1 (0+j) (by omega)
  | succ n=>exact(h.2.2.2.2 n (by omega) j hj).2
 | n+1,A,h,i+1,hi,j,hj=>zmF hk h.2.2.2.1 i (by omega) j hj
theorem ztJ (hk:zad k)(m:Nat)(hm:1<=m):∀ (n:Nat) (A:Nat->Nat->El k) (gl ol c:Nat) (rs:Nat->Value) (w:World),n+m<=10000->n<=c->c<=maxLen->zaq w gl ol n rs->(∀ i,i<n->zjY w (rs i) (n+m) (A i))->(∀ i,i<n->∀ j,j<n+m->zam (A i j)) ->
  Calls Tryz.prog 75 #[zbi k,.slice (some ⟨gl,ol,none⟩) n c] w (zbO (zfl (srE k hk) zam n m A) (zrS w.heap.size n m (zeM (srE k hk) n A)) w):=by
 intro n
 induction n with
 | zero =>
  intro A gl ol c rs w hnm h1 h2 h3 hr hf;clear hr hf h1 h2 h3;unfold zbi;go_enter Tryz.func75,Tryz.ntmps75;go_wp2;go_ret;exact .inl ⟨trivial,_,rfl,⟨[],0,.inl ⟨rfl,rfl,rfl⟩,fun h=>absurd h (by omega),fun i hi=>absurd hi (by omega)⟩,zGA _ _ none⟩
 | succ n ih =>
  intro A gl ol c rs w hnm h1 h2 h3 hr hf;have hc0:w.cell? ⟨gl,ol,none⟩=some (rs 0):=h3.2 0 (by omega);obtain⟨g0,o0,cc0,hr0,hw1,hw2,hrow0⟩:=hr 0 (by omega);have hm':n+1+m=(n+m)+1:=by omega
  rw[hr0,hm'] at hc0;rw[hm'] at hw1 hrow0;have hsol:=fun(w1:World) (hg:w.grownBy w1 none)=>zvH hk (n+m) g0 o0 cc0 (A 0) w1 (by omega) (by omega) (hrow0.grown hg) hw1 hw2 (fun j hj=>hf 0 (by omega) j (by omega));have x:=zAv w k;have hW:w.grownBy (w.alloc (.cells #[.int .i64 k,.string (zae k),.string (zal k)] 64)) none:=zGA _ _ none;have hWs:(w.alloc (.cells #[.int .i64 k,.string (zae k),.string (zal k)] 64)).heap.size=w.heap.size+1:=by simp
  have xa:=hW.cell hc0 (by simp);have i1:¬ ((n:Int)+1=0):=by omega
  have i2:(0:Int)<(n:Int)+1:=by omega
  have HS:=zHd hsol;have HL:=zHd (zAI h1 (zAI h2 h3));have HR:=zHd hr;have HF:=zHd hf;have HN:=zHd (zAI hnm hm);have HX:=zHd (zAI x (zAI hW (zAI hWs xa)));clear hsol h1 h2 h3 hr hf hnm hm hr0 hw1 hw2 hrow0 x hW hWs xa hc0;unfold zbi at *;go_enter Tryz.func75,Tryz.ntmps75;go_upto_region 3 with(fail);obtain⟨⟨x0,x1,x2⟩,hW,hWs,xa⟩:=HX.out;generalize w.alloc (.cells #[.int .i64 k,.string (zae k),.string (zal k)] 64)=W at *;have d0:W.drew.cell? ⟨w.heap.size,0,none⟩=some (.int .i64 k):=x0;have d1:W.drew.cell? ⟨w.heap.size,1,none⟩=some (.string (zae k)):=x1;have d2:W.drew.cell? ⟨w.heap.size,2,none⟩=some (.string (zal k)):=x2;have da:W.drew.cell? ⟨gl,ol,none⟩=some (.slice (some ⟨g0,o0,none⟩) (n+m+1) cc0):=xa;have hgA:w.grownBy W.drew none:=zaa hW (zag W none);have hgB:w.grownBy (W.drew.alloc (.cells #[.int .i64 0,.string ⟨#[]⟩,.string ⟨#[]⟩,.slice none 0 0] 124)) none:=zaa hgA (zGA _ _ none);have hadb:gl≠w.heap.size+1:=by have:=HL.out.2.2.1;omega
  have hadw:∀ W5:World,W.drew.grownBy W5 none->gl≠W5.heap.size:=fun W5 h5=>by have:=HL.out.2.2.1;have:=h5.size;have:W.heap.size=w.heap.size+1:=hWs;simp at *;omega
  have hwsz:∀ W5:World,W.drew.grownBy W5 none->w.heap.size≠W5.heap.size:=fun W5 h5=>by have:=h5.size;have:W.heap.size=w.heap.size+1:=hWs;simp at *;omega
  have HADB:=zHd (zAI hadb (zAI hadw hwsz));clear hadb hadw hwsz
  have hnb:(W.drew.alloc (.cells #[.int .i64 0,.string ⟨#[]⟩,.string ⟨#[]⟩,.slice none 0 0] 124)).heap[w.heap.size+1]?=some (.cells #[.int .i64 0,.string ⟨#[]⟩,.string ⟨#[]⟩,.slice none 0 0] 124 (0,0)):=by
   rw[<- hWs];exact zaE W.drew (.cells #[.int .i64 0,.string ⟨#[]⟩,.string ⟨#[]⟩,.slice none 0 0] 124)
  have b0:(W.drew.alloc (.cells #[.int .i64 0,.string ⟨#[]⟩,.string ⟨#[]⟩,.slice none 0 0] 124)).cell? ⟨w.heap.size,0,none⟩=some (.int .i64 k):=(zGA W.drew _ none).cell d0 (by simp);have b1:(W.drew.alloc (.cells #[.int .i64 0,.string ⟨#[]⟩,.string ⟨#[]⟩,.slice none 0 0] 124)).cell? ⟨w.heap.size,1,none⟩=some (.string (zae k)):=(zGA W.drew _ none).cell d1 (by simp);have b2:(W.drew.alloc (.cells #[.int .i64 0,.string ⟨#[]⟩,.string ⟨#[]⟩,.slice none 0 0] 124)).cell? ⟨w.heap.size,2,none⟩=some (.string (zal k)):=(zGA W.drew _ none).cell d2 (by simp);have ba:(W.drew.alloc (.cells #[.int .i64 0,.string ⟨#[]⟩,.string ⟨#[]⟩,.slice none 0 0] 124)).cell? ⟨gl,ol,none⟩=some (.slice (some ⟨g0,o0,none⟩) (n+m+1) cc0):=(zGA W.drew _ none).cell da (by simp);have HGA:=zHd hgA;have HGB:=zHd hgB;have HNB:=zHd hnb;clear hgA hgB hnb hW x0 x1 x2 xa
  go_cut [5] from 11 to 15 (fun pv wx=>zyy hk (n+m) (A 0)/\∃ gf gs,pv=.pointer (some ⟨gf,0,none⟩)/\w.heap.size<gf/\w.heap.size<gs/\gs≠gf/\wx.heap[gf]?=some (.cells #[.int .i64 k,.string (zae k),.string (zal k),.slice (some ⟨gs,0,none⟩) (n+m) (n+m)] 124 (0,0))/\zaq wx gs 0 (n+m) (txs (zrQ hk (A 0)))/\W.grownBy wx none)
  case first =>
   go_region_held2 (fun W'=>W'.cell? ⟨w.heap.size,0,none⟩=some (.int .i64 k)/\W'.cell? ⟨w.heap.size,1,none⟩=some (.string (zae k))/\W'.cell? ⟨w.heap.size,2,none⟩=some (.string (zal k))/\W'.cell? ⟨gl,ol,none⟩=some (.slice (some ⟨g0,o0,none⟩) (n+m+1) cc0)) (first|exact⟨d0,d1,d2,da⟩|exact⟨b0,b1,b2,ba⟩|exact S3|exact S4|go_keep)
    (first
    | (go_at_call 131;refine(HS.out W.drew HGA.out).mono ?_;rintro e w5 (⟨hp,v,rfl,⟨gs,rfl,hgs,hr5⟩,hg5⟩|⟨hn,rfl,hg5⟩);rotate_left 1;(exact⟨rfl,.inr ⟨fun h=>hn ⟨h.1,h.2.1⟩,rfl,zaa HGA.out hg5⟩⟩);have s0:=hg5.cell d0 (by simp);have s1:=hg5.cell d1 (by simp);have s2:=hg5.cell d2 (by simp);have sa:=hg5.cell da (by simp);have hal:=zGA w5 (.cells #[.int .i64 0,.string ⟨#[]⟩,.string ⟨#[]⟩,.slice none 0 0] 124) none;have S3:=zAI (hal.cell s0 (by simp)) (zAI (hal.cell s1 (by simp)) (zAI (hal.cell s2 (by simp)) (hal.cell sa (by simp))));have S4:=zAI (zed (u0:=.int .i64 k) (u1:=.string (zae k)) (u2:=.string (zal k)) (u3:=.slice (some ⟨gs,0,none⟩) (n+m) (n+m)) (HADB.out.2.2 w5 hg5) S3.1) (zAI (zed (u0:=.int .i64 k) (u1:=.string (zae k)) (u2:=.string (zal k)) (u3:=.slice (some ⟨gs,0,none⟩) (n+m) (n+m)) (HADB.out.2.2 w5 hg5) S3.2.1) (zAI (zed (u0:=.int .i64 k) (u1:=.string (zae k)) (u2:=.string (zal k)) (u3:=.slice (some ⟨gs,0,none⟩) (n+m) (n+m)) (HADB.out.2.2 w5 hg5) S3.2.2.1) (zed (u0:=.int .i64 k) (u1:=.string (zae k)) (u2:=.string (zal k)) (u3:=.slice (some ⟨gs,0,none⟩) (n+m) (n+m)) (HADB.out.2.1 w5 hg5) S3.2.2.2)));have hx5:=zaE w5 (.cells #[.int .i64 0,.string ⟨#[]⟩,.string ⟨#[]⟩,.slice none 0 0] 124);have q0:=zqbw _ _ 0 _ _ (0,0) hx5;have q1:=zqbw _ _ 1 _ _ (0,0) hx5;have q2:=zqbw _ _ 2 _ _ (0,0) hx5;have q3:=zqbw _ _ 3 _ _ (0,0) hx5;have z0:=zqbx _ w5.heap.size 0 _ _ hx5;have z1:=zqbx _ w5.heap.size 1 _ _ hx5;have z2:=zqbx _ w5.heap.size 2 _ _ hx5;have z3:=zqbx _ w5.heap.size 3 _ _ hx5;have H5:=zHd (zAI hp (zAI hgs (zAI hr5 (zAI hg5 hx5))));clear hp hgs hr5 hg5 hx5;unfold zjW)
    | (go_at_call 131;refine(HS.out (W.drew.alloc (.cells #[.int .i64 0,.string ⟨#[]⟩,.string ⟨#[]⟩,.slice none 0 0] 124)) HGB.out).mono ?_;rintro e w5 (⟨hp,v,rfl,⟨gs,rfl,hgs,hr5⟩,hg5⟩|⟨hn,rfl,hg5⟩);rotate_left 1;(exact⟨rfl,.inr ⟨fun h=>hn ⟨h.1,h.2.1⟩,rfl,zaa HGB.out hg5⟩⟩);have s0:=hg5.cell b0 (by simp);have s1:=hg5.cell b1 (by simp);have s2:=hg5.cell b2 (by simp);have sa:=hg5.cell ba (by simp);have S4:=zAI (zed (u0:=.int .i64 k) (u1:=.string (zae k)) (u2:=.string (zal k)) (u3:=.slice (some ⟨gs,0,none⟩) (n+m) (n+m)) (g:=w.heap.size+1) (by simp) s0) (zAI (zed (u0:=.int .i64 k) (u1:=.string (zae k)) (u2:=.string (zal k)) (u3:=.slice (some ⟨gs,0,none⟩) (n+m) (n+m)) (g:=w.heap.size+1) (by simp) s1) (zAI (zed (u0:=.int .i64 k) (u1:=.string (zae k)) (u2:=.string (zal k)) (u3:=.slice (some ⟨gs,0,none⟩) (n+m) (n+m)) (g:=w.heap.size+1) (by simp) s2) (zed (u0:=.int .i64 k) (u1:=.string (zae k)) (u2:=.string (zal k)) (u3:=.slice (some ⟨gs,0,none⟩) (n+m) (n+m)) HADB.out.1 sa)));have hx5:=(hg5.block (w.heap.size+1) (zqad.1 HNB.out).1 (by simp)).trans HNB.out;have q0:=zqbw w5 _ 0 _ _ (0,0) hx5;have q1:=zqbw w5 _ 1 _ _ (0,0) hx5;have q2:=zqbw w5 _ 2 _ _ (0,0) hx5;have q3:=zqbw w5 _ 3 _ _ (0,0) hx5;have z0:=zqbx w5 _ 0 _ _ hx5;have z1:=zqbx w5 _ 1 _ _ hx5;have z2:=zqbx w5 _ 2 _ _ hx5;have z3:=zqbx w5 _ 3 _ _ hx5;have H5:=zHd (zAI hp (zAI hgs (zAI hr5 (zAI hg5 hx5))));clear hp hgs hr5 hg5 hx5;unfold zjW))
   ·have hsz:W.heap.size=w.heap.size+1:=hWs
    have hs5:=H5.out.2.2.2.1.size;have hgs:=H5.out.2.1;have hlt:=H5.out.2.2.1.1;have hgd:=H5.out.2.2.2.1;go_wp2_with (fail)
    go_meet
    case rel=>exact⟨H5.out.1,w5.heap.size,gs,rfl,by simp at hs5;omega,by simp at hgs;omega,by omega,zaE w5 _,H5.out.2.2.1.grown (zGA _ _ none),zaa (zaa (zag W none) hgd) (zGA _ _ none)⟩
   ·have hsz:W.heap.size=w.heap.size+1:=hWs
    have hgs:=H5.out.2.1;have hgd:=H5.out.2.2.2.1;go_wp2_with (fail)
    go_meet
    case rel=>exact⟨H5.out.1,w.heap.size+1,gs,rfl,by omega,by simp at hgs;omega,by simp at hgs;omega,zsY rfl H5.out.2.2.2.2,H5.out.2.2.1.grownB (zjZ _ _ _ _ _ _) (by simp at hgs;omega),zaj (zaa (zaa (zag W none) (zGA _ _ none)) hgd) (zjZ _ _ _ _ _ _) (by omega)⟩
  case rest =>
   obtain⟨hfst,gf,gs,rfl,hgf,hgs,hne,hbf,hrs,hgW⟩:=hcut;generalize wc=w3 at *;have hw3:w.grownBy w3 none:=zaa HX.out.2.1 hgW;have c0:=hgW.cell HX.out.1.1 (by simp);have c1:=hgW.cell HX.out.1.2.1 (by simp);have c2:=hgW.cell HX.out.1.2.2 (by simp);have e0:=zqbw w3 gf 0 _ _ (0,0) hbf;have e1:=zqbw w3 gf 1 _ _ (0,0) hbf;have e2:=zqbw w3 gf 2 _ _ (0,0) hbf;have e3:=zqbw w3 gf 3 _ _ (0,0) hbf;have hgfl:gf<w3.heap.size:=(zqad.1 hbf).1;have HB:=zHd (zAI hfst (zAI hgf (zAI hgs (zAI hne (zAI hbf (zAI hrs (zAI hw3 hgfl)))))));clear hfst hgf hgs hne hbf hrs hw3 hgW hgfl HNB HGA HGB HADB d0 d1 d2 da b0 b1 b2 ba hWs;obtain⟨A1,hA1⟩:∃ A1,(if c=1 then some (⟨gl,ol,none⟩:Addr) else some ⟨gl,ol+1,none⟩)=A1:=⟨_,rfl⟩
   have hl3:zaG w3 (.slice A1 n (c-1)) n (fun i=>rs (i+1)):=⟨A1,c-1,rfl,by have:=HL.out.1;omega,by have:=HL.out.2.1;omega,fun j hj=>by
    have hcn:¬ c=1:=(by have:=HL.out.1;omega);rw[if_neg hcn] at hA1;have hr3:=HL.out.2.2.grown HB.out.2.2.2.2.2.2.1;refine⟨_,hA1.symm,hr3.1,?_⟩;rw[zcl,Nat.add_assoc,Nat.add_comm 1 j];exact hr3.2 (j+1) (by omega)⟩
   have hmapc:=zjU 132 zrT #[zjW k gs 0 (n+m) (n+m)] #[] n (fun i=>rs (i+1)) (n+m) (fun i=>zdT (srE k hk) zam 1 (n+m) (fun j=>A (i+1) (j+1)) (fun _=>A (i+1) 0) (fun _=>zeh (srE k hk) A)) (fun i=>txs (zeL (srE k hk) A i)) (.slice A1 n (c-1)) w3.drew (by have:=HN.out;omega) (hl3.grown (zag _ none)) (fun i hi w' hw'=>by
    obtain⟨g1,o1,cc1,hr1,h1,h2,h3⟩:=HR.out (i+1) (by omega);rw[hm'] at h1 h3;have hg1:g1<w3.drew.heap.size:=zqba h3.1 HB.out.2.2.2.2.2.2.1.size;have hgw':w.grownBy w' none:=zaa (zaa HB.out.2.2.2.2.2.2.1 (zag _ none)) hw';have h:=zxp hk (n+m) g1 o1 cc1 gs 0 (n+m) (A (i+1)) (zrQ hk (A 0)) w' (by have:=HN.out;omega) (by have:=HN.out;omega) (h3.grown hgw') h1 h2 ((HB.out.2.2.2.2.2.1.grown (zag _ none)).grown hw') (zqab _) (by have:=HN.out;unfold maxLen;omega) (fun j hj=>HF.out (i+1) (by omega) j (by omega)) (fun j hj=>HB.out.1.2 j hj);show Calls Tryz.prog _ #[zjW k gs 0 (n+m) (n+m),rs (i+1)] w' _;rw[hr1,hm'];refine h.mono (fun e w2 h=>?_);rcases h with⟨hp,v,e1,⟨g,o,c,e2,q1,q2,q3,q4⟩,q5⟩|⟨hp,q⟩
    ·refine .inl ⟨hp,v,e1,⟨g,o,c,e2,q1,q2,?_,q4⟩,q5⟩
     rcases q3 with q3|q3
     ·left;omega
     ·right;exact q3
    ·exact .inr ⟨hp,q⟩)
   have helim:=fun(w5:World) (zs:List Value) (hrows:zfs w5 w3.drew.heap.size w3.drew.heap.size n (n+m) zs (fun i=>txs (zeL (srE k hk) A i))) (hp:∀ i,i<n->zdT (srE k hk) zam 1 (n+m) (fun j=>A (i+1) (j+1)) (fun _=>A (i+1) 0) (fun _=>zeh (srE k hk) A)) =>
    ih (zeL (srE k hk) A) w3.drew.heap.size 0 n (fun j=>zs.getD j (.slice none 0 0)) w5 (by have:=HN.out;omega) (zqab _) (by have:=HN.out;unfold maxLen;omega) hrows.2.1 (fun i hi=>by
     obtain⟨gi,o,c,h1,h2,h3,h4,h5⟩:=hrows.2.2 i hi;exact⟨gi,o,c,h1,h2,h3,h5⟩) (fun i hi j hj=>(hp i hi 0 (by omega) j hj).2)
   have hgd3:w.grownBy w3.drew none:=zaa HB.out.2.2.2.2.2.2.1 (zag _ none);have HM:=zHd hmapc;have HE:=zHd helim;have HG3:=zHd hgd3;clear hmapc hl3 helim ih hgd3;have d0:w3.drew.cell? ⟨w.heap.size,0,none⟩=some (.int .i64 k):=c0;have d1:w3.drew.cell? ⟨w.heap.size,1,none⟩=some (.string (zae k)):=c1;have d2:w3.drew.cell? ⟨w.heap.size,2,none⟩=some (.string (zal k)):=c2;have f0:w3.drew.cell? ⟨gf,0,none⟩=some (.int .i64 k):=e0;have f1:w3.drew.cell? ⟨gf,1,none⟩=some (.string (zae k)):=e1;have f2:w3.drew.cell? ⟨gf,2,none⟩=some (.string (zal k)):=e2;have f3:w3.drew.cell? ⟨gf,3,none⟩=some (.slice (some ⟨gs,0,none⟩) (n+m) (n+m)):=e3;clear c0 c1 c2 e0 e1 e2 e3;have j1:(1:Int)<=(n:Int)+1:=by omega
   have j2:(n:Int)+1<=(c:Int):=by have:=HL.out.1;omega
   have hmf := @zMF Tryz.prog;unfold zjW at HM;go_upto_region 4 with(fail)
   go_region_held2 (fun W'=>W'.cell? ⟨w.heap.size,0,none⟩=some (.int .i64 k)/\W'.cell? ⟨w.heap.size,1,none⟩=some (.string (zae k))/\W'.cell? ⟨w.heap.size,2,none⟩=some (.string (zal k))/\W'.cell? ⟨gf,0,none⟩=some (.int .i64 k)/\W'.cell? ⟨gf,1,none⟩=some (.string (zae k))/\W'.cell? ⟨gf,2,none⟩=some (.string (zal k))/\W'.cell? ⟨gf,3,none⟩=some (.slice (some ⟨gs,0,none⟩) (n+m) (n+m))) (first|exact⟨d0,d1,d2,f0,f1,f2,f3⟩|exact S5|exact S6|go_keep)
    (first
    | (go_at_call 78;refine HM.out.mono ?_;rintro e w5 (⟨hp,v,rfl,⟨zs,rfl,hzs⟩,hg5⟩|⟨hn,rfl,hg5⟩);rotate_left 1;(exact⟨rfl,.inr ⟨fun h=>hn h.2.2.1,rfl,zaa HG3.out hg5⟩⟩);have S5:=zAI (hg5.cell d0 (by simp)) (zAI (hg5.cell d1 (by simp)) (zAI (hg5.cell d2 (by simp)) (zAI (hg5.cell f0 (by simp)) (zAI (hg5.cell f1 (by simp)) (zAI (hg5.cell f2 (by simp)) (hg5.cell f3 (by simp)))))));have H5:=zHd (zAI hp (zAI hzs hg5));clear hp hzs hg5)
    | (go_at_call 75;refine(HE.out w5 zs H5.out.2.1 H5.out.1).mono ?_;rintro e w6 (⟨hp6,v6,rfl,⟨ys,gy,hres,hgy,hrows⟩,hg6⟩|⟨hn,rfl,hg6⟩);rotate_left 1;(exact⟨rfl,.inr ⟨fun h=>hn h.2.2.2.1,rfl,zaa (zaa HG3.out H5.out.2.2) hg6⟩⟩);obtain⟨R6,cr6,rfl⟩:=hres.shape;have S6:=zAI (hg6.cell S5.1 (by simp)) (zAI (hg6.cell S5.2.1 (by simp)) (zAI (hg6.cell S5.2.2.1 (by simp)) (zAI (hg6.cell S5.2.2.2.1 (by simp)) (zAI (hg6.cell S5.2.2.2.2.1 (by simp)) (zAI (hg6.cell S5.2.2.2.2.2.1 (by simp)) (hg6.cell S5.2.2.2.2.2.2 (by simp)))))));have H6:=zHd (zAI hp6 (zAI hres (zAI hgy (zAI hrows hg6))));clear hp6 hres hgy hrows hg6))
   all_goals
    have hgd6:w.grownBy w6.drew none:=zaa (zaa (zaa HG3.out H5.out.2.2) H6.out.2.2.2.2) (zag _ none);have hg36:w3.grownBy w6.drew none:=zaa (zaa (zaa (zag _ none) H5.out.2.2) H6.out.2.2.2.2) (zag _ none);have hrs6:zaq w6.drew gs 0 (n+m) (txs (zeh (srE k hk) A)):=HB.out.2.2.2.2.2.1.grown hg36
    have hrn6:zaq w6.drew gs n m (txs (fun J=>zeh (srE k hk) A (n+J))):=⟨hrs6.1,fun j hj=>by
     have:=hrs6.2 (n+j) (by omega);rw[zqat] at this;exact this⟩
    have hsum:=zoC hk n m gs n m (fun J=>zeh (srE k hk) A (n+J)) (zeh (srE k hk) A) (zeM (srE k hk) n (zeL (srE k hk) A)) (.slice (some ⟨gs,0,none⟩) n (n+m)) (.slice R6 n cr6) (fun j=>ys.getD j (.slice none 0 0)) w6.drew (by have:=HN.out;omega) (by have:=HN.out;omega)
     hrn6 (zqab _) (by have:=HN.out;unfold maxLen;omega) ((hrs6.head (m:=n) (by omega)).row (by omega) (by have:=HN.out;unfold maxLen;omega)) (fun j hj=>HB.out.1.2 j (by omega)) (fun j hj=>HB.out.1.2 (n+j) (by omega))
     ((H6.out.2.1.grown (zag _ none)).rowR) (fun i hi=>by
       obtain⟨gi,o,ci,h1,h2,h3,h4,h5⟩:=H6.out.2.2.2.1 i hi;show zaG _ (ys.getD i (.slice none 0 0)) _ _;rw[h1];exact(h5.grown (zag _ none)).row h2 h3) (fun i hi j hj=>zmF hk H6.out.1 i hi j hj)
    have HSUM:=zHd hsum;have HGD:=zHd hgd6;clear hsum hrs6 hrn6 hg36 hgd6;obtain⟨t0,t1,t2,_,_,_,t3⟩:=S6;have d6:w6.drew.cell? ⟨w.heap.size,0,none⟩=some (.int .i64 k):=t0;have d7:w6.drew.cell? ⟨w.heap.size,1,none⟩=some (.string (zae k)):=t1;have d8:w6.drew.cell? ⟨w.heap.size,2,none⟩=some (.string (zal k)):=t2;have d9:w6.drew.cell? ⟨gf,3,none⟩=some (.slice (some ⟨gs,0,none⟩) (n+m) (n+m)):=t3;have l1:¬ m=0:=(by have:=HN.out;omega);have l2:(n:Int)<=(n:Int)+(m:Int):=(by omega);have l3:(0:Int)<=(n:Int):=(by omega);have l4:n<=n+m:=(by omega);unfold zbi at HSUM;clear S5 d0 d1 d2 f0 f1 f2 f3 t0 t1 t2 t3 HM HE HG3 HL HR HX HS;go_upto_region 5 with(fail)
    go_region_held2 (fun W'=>W'.cell? ⟨w.heap.size,0,none⟩=some (.int .i64 k)/\W'.cell? ⟨w.heap.size,1,none⟩=some (.string (zae k))/\W'.cell? ⟨w.heap.size,2,none⟩=some (.string (zal k))/\W'.cell? ⟨gf,3,none⟩=some (.slice (some ⟨gs,0,none⟩) (n+m) (n+m))) (first|exact⟨d6,d7,d8,d9⟩|exact S7|go_keep)
     (first
     | (go_at_call 82;refine HSUM.out.mono ?_;rintro e w7 (⟨hp,v,rfl,⟨gv,ov,cv,rfl,hv1,hv2,hv3,hv4⟩,hg7⟩|⟨hn,rfl,hg7⟩);rotate_left 1;(exact⟨rfl,.inr ⟨fun h=>hn h.2.2.2.2,rfl,zaa HGD.out hg7⟩⟩);have S7:=zAI (hg7.cell d6 (by simp)) (zAI (hg7.cell d7 (by simp)) (zAI (hg7.cell d8 (by simp)) (hg7.cell d9 (by simp))));have H7:=zHd (zAI hp (zAI hv1 (zAI hv2 (zAI hv3 (zAI hv4 hg7)))));clear hp hv1 hv2 hv3 hv4 hg7))
    all_goals
     go_wp2_with (fail);have hal:=zGA w7 (.cells #[.slice (some ⟨gv,ov,none⟩) m cv] 33) none;have hres8:=(((H6.out.2.1.grown (zag _ none)).grown H7.out.2.2.2.2.2).grown hal)
     refine(zxs n gy w7.heap.size (.slice R6 n cr6) ys (.slice (some ⟨gv,ov,none⟩) m cv) 33 (w7.alloc (.cells #[.slice (some ⟨gv,ov,none⟩) m cv] 33)) (by have:=HN.out;omega) hres8 (fun h0=>by have:=(((H6.out.2.1.grown (zag _ none)).grown H7.out.2.2.2.2.2)).lt h0;omega) (zaE w7 _) rfl (fun z hz=>by
      obtain⟨i,hi,rfl⟩:=List.getElem_of_mem hz;obtain⟨gi,o,ci,h1,_⟩:=H6.out.2.2.2.1 i (by have:=H6.out.2.1.len;omega);rw[zqaa,zqac hi] at h1;simp at h1;rw[h1];rfl)).mono ?_
     rintro e w9 ⟨g',c',rfl,hown,hg9⟩;have H9:=zHd (zAI hown hg9);have HAL:=zHd hal;have HR8:=zHd hres8;clear hown hg9 hal hres8;go_wp2;go_ret;obtain⟨hown,hg9⟩:=H9.out;have hsz3:=HB.out.2.2.2.2.2.2.1.size;have hsz5:=H5.out.2.2.size;have hsz6:=H6.out.2.2.2.2.size;have hsz7:=H7.out.2.2.2.2.2.size;have hgd7:w.grownBy (w7.alloc (.cells #[.slice (some ⟨gv,ov,none⟩) m cv] 33)) none:=zaa (zaa HGD.out H7.out.2.2.2.2.2) HAL.out;have hgsl:gs<w3.heap.size:=HB.out.2.2.2.2.2.1.1;have hvl:gv<w7.heap.size:=H7.out.2.2.2.2.1.1;have h8s:(w7.alloc (.cells #[.slice (some ⟨gv,ov,none⟩) m cv] 33)).heap.size=w7.heap.size+1:=(by simp);have e3:w3.drew.heap.size=w3.heap.size:=rfl;have e6:w6.drew.heap.size=w6.heap.size:=rfl;have hv8:zaq (w7.alloc (.cells #[.slice (some ⟨gv,ov,none⟩) m cv] 33)) gv ov m (txs (zeM (srE k hk) (n+1) A 0)):=H7.out.2.2.2.2.1.grown HAL.out
     have hr8:∀ i,i<n->∃ gi o ci,ys.getD i (.slice none 0 0)=.slice (some ⟨gi,o,none⟩) m ci/\m<=ci/\ci<=maxLen/\gi≠gy/\zaq (w7.alloc (.cells #[.slice (some ⟨gv,ov,none⟩) m cv] 33)) gi o m (txs (zeM (srE k hk) (n+1) A (i+1)))/\gi<w6.heap.size:=fun i hi=>by
      obtain⟨gi,o,ci,h1,h2,h3,h4,h5⟩:=H6.out.2.2.2.1 i hi;exact⟨gi,o,ci,h1,h2,h3,h4,((h5.grown (zag _ none)).grown H7.out.2.2.2.2.2).grown HAL.out,h5.1⟩
     have hfits:zfl (srE k hk) zam (n+1) m A:=⟨HB.out.1.1,HB.out.1.2,H5.out.1,H6.out.1,H7.out.1⟩
     have hvg:0<n->gv≠gy:=fun h0=>by
      have h1:=H6.out.2.2.1 h0;have h2:=H6.out.2.1.lt h0;rcases H7.out.2.2.2.1 with h|h <;> omega
     rcases hg9 with⟨rfl,h0,hg9⟩|⟨hge,hg9⟩
     ·have h1:=H6.out.2.2.1 h0
      have hB:w.heap.size<=g':=(by omega);refine .inl ⟨hfits,_,rfl,⟨_,g',.inr ⟨by omega,c',rfl,hown⟩,fun _=>hB,fun i hi=>?_⟩,zaj hgd7 hg9 hB⟩;cases i with
      | zero=>exact⟨gv,ov,cv,rfl,H7.out.2.1,H7.out.2.2.1,hvg h0,hv8.grownB hg9 (hvg h0)⟩
      | succ i =>
       obtain⟨gi,o,ci,h1,h2,h3,h4,h5,h6⟩:=hr8 i (by omega);exact⟨gi,o,ci,h1,h2,h3,h4,h5.grownB hg9 h4⟩
     ·refine .inl ⟨hfits,_,rfl,⟨_,g',.inr ⟨by omega,c',rfl,hown⟩,fun _=>by omega,fun i hi=>?_⟩,zaa hgd7 hg9⟩
      cases i with
      | zero=>exact⟨gv,ov,cv,rfl,H7.out.2.1,H7.out.2.2.1,by omega,hv8.grown hg9⟩
      | succ i =>
       obtain⟨gi,o,ci,h1,h2,h3,h4,h5,h6⟩:=hr8 i (by omega);exact⟨gi,o,ci,h1,h2,h3,by omega,h5.grown hg9⟩
end
open Go.RowKit
section
variable {k:Int}
def zbv (w:World)(v:Value)(n m:Nat)(F:Nat->Nat->El k):Prop:=∃ rs:Nat->Value,zaG w v n rs/\∀ i,i<n->zjY w (rs i) m (F i)
theorem zbv.grown {w w':World}{v:Value}{n m:Nat}{F:Nat->Nat->El k}(h:zbv w v n m F)(hg:w.grownBy w' none):zbv w' v n m F:=by
 obtain⟨rs,h1,h2⟩:=h;exact⟨rs,h1.grown hg,fun i hi=>(h2 i hi).grown hg⟩
theorem zrS.mat {w':World}{B n m:Nat}{F:Nat->Nat->El k}{v:Value}(h:zrS B n m F v w'):zbv w' v n m F:=by
 obtain⟨zs,g,h1,h2,h3⟩:=h
 exact⟨_,h1.rowR,fun i hi=>by
  obtain⟨gi,o,ci,e1,e2,e3,e4,e5⟩:=h3 i hi;exact⟨gi,o,ci,e1,e2,e3,e5⟩⟩
theorem zfs.mat {w:World}{H g n m:Nat}{zs:List Value}{F:Nat->Nat->El k}(h:zfs w H g n m zs (fun i=>txs (F i)))(hn:n<=10000):zbv w (.slice (some ⟨g,0,none⟩) n n) n m F :=
 ⟨fun j=>zs.getD j (.slice none 0 0),h.2.1.row (zqab _) (by unfold maxLen;omega),fun i hi=>by
  obtain⟨gi,o,c,h1,h2,h3,h4,h5⟩:=h.2.2 i hi;exact⟨gi,o,c,h1,h2,h3,h5⟩⟩
theorem ztK:Enters 77:=enters_of Tryz.func77 (by kernel_rfl) rfl
theorem ztL:Enters 79:=enters_of Tryz.func79 (by kernel_rfl) rfl
theorem ztM:Enters 81:=enters_of Tryz.func81 (by kernel_rfl) rfl
theorem ztN:Enters 85:=enters_of Tryz.func85 (by kernel_rfl) rfl
theorem zHj (A b:Nat->Nat->El k)(n i j:Nat):(Value.string (if j<n then tx (A i j) else tx (b i (j-n))))=txs (zbQ A b n i) j:=by
 unfold txs zbQ;split <;> rfl
theorem zoL (hk:zad k)(f:Nat->El k)(κ:Nat->Nat):∀ t,(∀ s,s<t->zam (zcr hk f κ (s+1) (κ s)))->∀ d,zam (zcr hk f κ t d)
 | 0,_,d=>zcw hk
 | t+1,h,d=>by
  by_cases e:d=κ t
  ·subst e;exact h t (by omega)
  ·rw[zoD hk f κ t d e];exact zoL hk f κ t (fun s hs=>h s (by omega)) d
theorem zqm (hk:zad k){m:Nat}:∀ {s n:Nat} {A b:Nat->Nat->El k},n<=s->SolveFits (srE k hk) zam s n m A b->∀ i,i<n->∀ j,j<m->zam (solveF (srE k hk) s n A b i j)
 | 0,n,A,b,hn,h,i,hi,j,hj=>absurd hi (by omega)
 | s+1,n,A,b,hn,h,i,hi,j,hj=>by
  unfold solveF;unfold SolveFits at h
  by_cases hk2:(repR n A).length=n
  ·rw[if_pos hk2] at h ⊢
   exact zmF hk h i hi j hj
  ·rw[if_neg hk2] at h ⊢
   exact h.2.2.2 i hi j hj
structure zhx (w:World)(n m:Nat)(A b:Nat->Nat->El k)(av bv:Value):Prop where
 ma:zbv w av n n A
 mb:zbv w bv n m b
 fa:∀ i,i<n->∀ j,j<n->zam (A i j)
 fb:∀ i,i<n->∀ j,j<m->zam (b i j)
theorem zhx.grown {w w':World}{n m:Nat}{A b:Nat->Nat->El k}{av bv:Value}(h:zhx w n m A b av bv)(hg:w.grownBy w' none):zhx w' n m A b av bv:=⟨h.ma.grown hg,h.mb.grown hg,h.fa,h.fb⟩
def zmG (hk:zad k)(s n m:Nat)(A b:Nat->Nat->El k)(w:World)(e:Ending)(w':World):Prop:=zbO (SolveFits (srE k hk) zam s n m A b) (fun v w'=>zbv w' v n m (solveF (srE k hk) s n A b)) w e w'
theorem zrU (n m:Nat)(hnm:n+m<=10000)(hm:1<=m)(A b:Nat->Nat->El k)(av bv:Value)(w:World)(h:zhx w n m A b av bv) :
  Calls Tryz.prog 76 #[av,bv,.func (.func 77) #[] #[]] w fun e w'=>∃ zs,e=.returned (.slice (some ⟨w.heap.size,0,none⟩) n n)/\zfs w' w.heap.size w.heap.size n (n+m) zs (fun i=>txs (zbQ A b n i))/\w.grownBy w' none:=by
 obtain⟨ra,ha1,ha2⟩:=h.ma;obtain⟨rb,hb1,hb2⟩:=h.mb
 have hc:=ztF 77 ztK #[] #[] n n ra rb (n+m) (fun _=>True) (fun i=>txs (zbQ A b n i)) av bv w (by omega) ha1 hb1 (zqab _) (fun i hi w' hw'=>by
  have hj:=zxo n m (ra i) (rb i) (fun j=>tx (A i j)) (fun j=>tx (b i j)) w' (by omega) (by omega) (by omega) (by omega) ((ha2 i hi).grown hw').row ((hb2 i hi).grown hw').row;refine hj.mono (fun e w2 hq=>?_);obtain⟨g,c,rfl,h1,h2,h3,h4,h5⟩:=hq;refine .inl ⟨trivial,_,rfl,⟨g,0,c,rfl,h1,h2,.inr h3,h4.1,fun j hj=>(h4.2 j hj).trans ?_⟩,h5⟩;dsimp only;rw[zHj])
 refine hc.mono (fun e w2 hq=>?_);rcases hq with⟨_,v,rfl,⟨zs,rfl,hzs⟩,hg⟩|⟨hn,_⟩
 ·exact⟨zs,rfl,hzs,hg⟩
 ·exact absurd (fun _ _=>trivial) hn
theorem zqn (hk:zad k)(m:Nat)(hm:1<=m)(s n:Nat)(A b:Nat->Nat->El k)(av bv:Value)(w:World)(hns:n<=s+1)(hnm:n+m<=10000)(hin:zhx w n m A b av bv)
  (ih:∀ (K:Nat) (A b:Nat->Nat->El k) (av bv:Value) (w:World),K<n->zhx w K m A b av bv->Calls Tryz.prog 43 #[zbi k,av,bv] w (zmG hk s K m A b w)) :
  Calls Tryz.prog 43 #[zbi k,av,bv] w (zmG hk (s+1) n m A b w):=by
 obtain⟨ra,ha1,ha2⟩:=hin.ma;have hdist:=fun(w1:World) (hg:w.grownBy w1 none)=>zvG n n A ra av w1 (by omega) (by omega) (ha1.grown hg) (fun i hi=>(ha2 i hi).grown hg) hin.fa;obtain⟨Aa,ca,rfl,_,_,_⟩:=ha1;obtain⟨rb,⟨Ab,cb,rfl,_,_,_⟩,_⟩:=hin.mb;have hW:w.grownBy ((w.alloc (.cells #[.int .i64 k,.string (zae k),.string (zal k)] 64)).alloc (.cells #[.slice Ab n cb] 22)) none:=zaa (zGA _ _ none) (zGA _ _ none);have HD:=zHd hdist;have HI:=zHd hin;have HN:=zHd (zAI hns (zAI hnm hm));have HA:=zHd ha2;have HW:=zHd hW;clear hdist hin hns hnm hm ha2 hW;unfold zbi at *;go_enter Tryz.func43,Tryz.ntmps43;go_wp2_with fail;refine(HD.out _ HW.out).mono ?_;rintro e w1 ⟨rv,cv,rfl,hinv⟩;have hs:=zpj n A;have hrv:zaG w1 rv (repR n A).length (fun c=>((repR n A).map ra).getD c (.slice none 0 0)):=zsX hinv.own1 _;have hcv:zaG w1 cv (clsR n A).length (fun c=>((clsR n A).map (fun x=>Value.int .i64 ((x:Nat):Int))).getD c (.int .i64 0)):=zsX hinv.own2 _;have hg1:=hinv.gr;obtain⟨Ar,cr,rfl,hr1,hr2,hr3⟩:=hrv;obtain⟨Ac,cc,rfl,hc1,hc2,hc3⟩:=hcv;rw[hs.len] at hc1 hc3;have hclen:(clsR n A).length=n:=hs.len;obtain⟨K,hK⟩:∃ K,(repR n A).length=K:=⟨_,rfl⟩;rw[hK] at hr1 hr3;rw[hK,hclen];have H1:=zHd (zAI hs (zAI hK (zAI hg1 (zAI hr1 (zAI hr2 (zAI hr3 (zAI hc1 (zAI hc2 hc3))))))));clear hs hK hg1 hr1 hr2 hr3 hc1 hc2 hc3 hinv hclen;go_upto_region 2 with(fail);obtain⟨hs,hK,hg1,hr1,hr2,hr3,hc1,hc2,hc3⟩:=H1.out;have hsz1:w.heap.size+2<=w1.heap.size:=by have:=hg1.size;simpa using this
 have hal1:=zGA w1 (.cells #[.slice Ar K cr] 22) none;have hal2:=zGA (w1.alloc (.cells #[.slice Ar K cr] 22)) (.cells #[.slice Ac n cc] 51) none;have hg2:w.grownBy ((w1.alloc (.cells #[.slice Ar K cr] 22)).alloc (.cells #[.slice Ac n cc] 51)) none:=zaa (zaa (zaa HW.out hg1) hal1) hal2;have hW1:=zGA (w.alloc (.cells #[.int .i64 k,.string (zae k),.string (zal k)] 64)) (.cells #[.slice Ab n cb] 22) none
 have xc:zcR ((w1.alloc (.cells #[.slice Ar K cr] 22)).alloc (.cells #[.slice Ac n cc] 51)) w.heap.size k:=by
  have h:zcR (w.alloc (.cells #[.int .i64 k,.string (zae k),.string (zal k)] 64)) w.heap.size k:=⟨zao w _ _ rfl,zao w _ _ rfl,zao w _ _ rfl⟩;exact(((h.grown hW1).grown hg1).grown hal1).grown hal2
 have xb:((w1.alloc (.cells #[.slice Ar K cr] 22)).alloc (.cells #[.slice Ac n cc] 51)).cell? ⟨w.heap.size+1,0,none⟩=some (.slice Ab n cb):=by
  have h:=zao (w.alloc (.cells #[.int .i64 k,.string (zae k),.string (zal k)] 64)) #[.slice Ab n cb] 22 (j:=0) (u:=.slice Ab n cb) rfl;rw[show(w.alloc (.cells #[.int .i64 k,.string (zae k),.string (zal k)] 64)).heap.size=w.heap.size+1 by simp] at h;exact hal2.cell (hal1.cell (hg1.cell h (by simp)) (by simp)) (by simp)
 have xr:((w1.alloc (.cells #[.slice Ar K cr] 22)).alloc (.cells #[.slice Ac n cc] 51)).cell? ⟨w1.heap.size,0,none⟩=some (.slice Ar K cr):=hal2.cell (zao w1 _ _ rfl) (by simp)
 have xl:((w1.alloc (.cells #[.slice Ar K cr] 22)).alloc (.cells #[.slice Ac n cc] 51)).cell? ⟨w1.heap.size+1,0,none⟩=some (.slice Ac n cc):=by
  have h:=zao (w1.alloc (.cells #[.slice Ar K cr] 22)) #[.slice Ac n cc] 51 (j:=0) (u:=.slice Ac n cc) rfl;rw[show(w1.alloc (.cells #[.slice Ar K cr] 22)).heap.size=w1.heap.size+1 by simp] at h;exact h
 have hrows:zaG ((w1.alloc (.cells #[.slice Ar K cr] 22)).alloc (.cells #[.slice Ac n cc] 51)) (.slice Ar K cr) K (fun c=>ra ((repR n A).getD c 0)):=by
  have h:zaG w1 (.slice Ar K cr) K (fun c=>ra ((repR n A).getD c 0)):=⟨Ar,cr,rfl,hr1,hr2,fun j hj=>by
   obtain⟨ad,e1,e2,e3⟩:=hr3 j hj;refine⟨ad,e1,e2,e3.trans ?_⟩;dsimp only;rw[zqaa,zqaj,zqaa,zqac (by omega)];rfl⟩
  exact(h.grown hal1).grown hal2
 have hcls:zaG ((w1.alloc (.cells #[.slice Ar K cr] 22)).alloc (.cells #[.slice Ac n cc] 51)) (.slice Ac n cc) n (fun c=>.int .i64 (((clsR n A).getD c 0:Nat):Int)):=by
  have h:zaG w1 (.slice Ac n cc) n (fun c=>.int .i64 (((clsR n A).getD c 0:Nat):Int)):=⟨Ac,cc,rfl,hc1,hc2,fun j hj=>by
   obtain⟨ad,e1,e2,e3⟩:=hc3 j hj;refine⟨ad,e1,e2,e3.trans ?_⟩;dsimp only;rw[zqaa,zqaj,zqaa,zqac (by rw[hs.len];omega)];rfl⟩
  exact(h.grown hal1).grown hal2
 generalize hL:w1.heap.size=L at *;generalize ((w1.alloc (.cells #[.slice Ar K cr] 22)).alloc (.cells #[.slice Ac n cc] 51))=W2 at *;have HX:=zHd (zAI xc (zAI xb (zAI xr (zAI xl (zAI hrows (zAI hcls hg2))))));have HS:=zHd (zAI hs hK);have d0:=xc.1;have d1:=xc.2.1;have d2:=xc.2.2;clear hal1 hal2 hW1 hr1 hr2 hr3 hc1 hc2 hc3 H1 hg1 HD HW hL;clear hs hK hg2 xc hrows hcls
 by_cases hKn:K=n
 ·subst hKn
  have t1:((K:Int)==(K:Int))=true:=by simp
  have hcomb:=zrU K m HN.out.2.1 HN.out.2.2 A b (.slice Aa K ca) (.slice Ab K cb) W2.drew (HI.out.grown (zaa HX.out.2.2.2.2.2.2 (zag _ none)))
  have helim:=fun(w5:World) (zs:List Value) (hr:zfs w5 W2.heap.size W2.heap.size K (K+m) zs (fun i=>txs (zbQ A b K i))) =>
   ztJ hk m HN.out.2.2 K (zbQ A b K) W2.heap.size 0 K (fun j=>zs.getD j (.slice none 0 0)) w5 HN.out.2.1 (zqab _) (by have:=HN.out.2.1;unfold maxLen;omega) hr.2.1 (fun i hi=>by
    obtain⟨gi,o,c,h1,h2,h3,h4,h5⟩:=hr.2.2 i hi;exact⟨gi,o,c,h1,h2,h3,h5⟩) (fun i hi j hj=>by
    unfold zbQ;split
    ·exact HI.out.fa i hi j (by assumption)
    ·exact HI.out.fb i hi (j-K) (by omega))
  have HC:=zHd hcomb;have HE:=zHd helim;clear hcomb helim ih
  have hfit:SolveFits (srE k hk) zam (s+1) K m A b=zfl (srE k hk) zam K m (zbQ A b K):=by
   show(if (repR K A).length=K then _ else _)=_;rw[if_pos HS.out.2]
  have hval:solveF (srE k hk) (s+1) K A b=zeM (srE k hk) K (zbQ A b K):=by
   funext i J;show(if (repR K A).length=K then _ else _)=_;rw[if_pos HS.out.2]
  have HFV:=zHd (zAI hfit hval);clear hfit hval;unfold zbi at HE;have hgd:w.grownBy W2.drew none:=zaa HX.out.2.2.2.2.2.2 (zag _ none);have HG:=zHd hgd;clear hgd;have e0:W2.drew.cell? ⟨w.heap.size,0,none⟩=some (.int .i64 k):=d0;have e1:W2.drew.cell? ⟨w.heap.size,1,none⟩=some (.string (zae k)):=d1;have e2:W2.drew.cell? ⟨w.heap.size,2,none⟩=some (.string (zal k)):=d2;have e3:W2.drew.cell? ⟨w.heap.size+1,0,none⟩=some (.slice Ab K cb):=xb;go_upto_region 3 with(fail)
  go_region_held2 (fun W'=>W'.cell? ⟨w.heap.size,0,none⟩=some (.int .i64 k)/\W'.cell? ⟨w.heap.size,1,none⟩=some (.string (zae k))/\W'.cell? ⟨w.heap.size,2,none⟩=some (.string (zal k))/\W'.cell? ⟨w.heap.size+1,0,none⟩=some (.slice Ab K cb)) (first|exact⟨e0,e1,e2,e3⟩|exact S5|exact S6|go_keep)
   (first
   | (go_at_call 76;refine HC.out.mono ?_;rintro e w5 ⟨zs,rfl,hzs,hg5⟩;have S5:=zAI (hg5.cell e0 (by simp)) (zAI (hg5.cell e1 (by simp)) (zAI (hg5.cell e2 (by simp)) (hg5.cell e3 (by simp))));have H5:=zHd (zAI hzs hg5);clear hzs hg5)
   | (go_at_call 75;refine(HE.out w5 zs H5.out.1).mono ?_;rintro e w6 (⟨hp6,v6,rfl,hres,hg6⟩|⟨hn,rfl,hg6⟩);rotate_left 1;(exact⟨rfl,.inr ⟨fun h=>hn (HFV.out.1▸h),rfl,zaa (zaa HG.out H5.out.2) hg6⟩⟩);have S6:=zAI (hg6.cell S5.1 (by simp)) (zAI (hg6.cell S5.2.1 (by simp)) (zAI (hg6.cell S5.2.2.1 (by simp)) (hg6.cell S5.2.2.2 (by simp))));have H6:=zHd (zAI hp6 (zAI hres hg6));clear hp6 hres hg6))
  all_goals
   go_wp2;go_ret;exact .inl ⟨HFV.out.1▸H6.out.1,_,rfl,HFV.out.2▸H6.out.2.1.mat,zaa (zaa HG.out H5.out.2) H6.out.2.2⟩
 ·have t1:((K:Int)==(n:Int))=false:=by simp;omega
  have hKlt:K<n:=by have h1:=HS.out.1.le;have h2:=HS.out.2;omega
  have hκ:∀ j,j<n->(clsR n A).getD j 0<K:=fun j hj=>by have h:=(HS.out.1.cl j hj).1;rw[HS.out.2] at h;exact h
  have hρ:∀ c,c<K->(repR n A).getD c 0<n:=fun c hc=>HS.out.1.rl c (by rw[HS.out.2];exact hc);have hmf := @zMF Tryz.prog
  have hfit:SolveFits (srE k hk) zam (s+1) n m A b=((∀ c,c<K->znk (srE k hk) zam n (A ((repR n A).getD c 0)) (fun j=>(clsR n A).getD j 0))/\(∀ c,c<K->zdT (srE k hk) zam n m (fun _=>(srE k hk).zero) (A ((repR n A).getD c 0)) b) /\
    SolveFits (srE k hk) zam s K m (mrgA (srE k hk) n A) (mrgB (srE k hk) n A b)/\∀ i,i<n->∀ J,J<m->zam ((srE k hk).add (b i J) (solveF (srE k hk) s K (mrgA (srE k hk) n A) (mrgB (srE k hk) n A b) ((clsR n A).getD i 0) J))):=by
   show(if (repR n A).length=n then _ else _)=_;rw[HS.out.2,if_neg hKn]
  have hval:solveF (srE k hk) (s+1) n A b=fun i J=>(srE k hk).add (b i J) (solveF (srE k hk) s K (mrgA (srE k hk) n A) (mrgB (srE k hk) n A b) ((clsR n A).getD i 0) J):=by
   funext i J;show(if (repR n A).length=n then _ else _)=_;rw[HS.out.2,if_neg hKn]
  obtain⟨xc,_,xr2,xl2,hrows,hcls,hg2⟩:=HX.out
  have h1:=zjU 79 ztL #[] #[.pointer (some ⟨w.heap.size,0,none⟩),.pointer (some ⟨L+1,0,none⟩),.pointer (some ⟨L,0,none⟩)] K (fun c=>ra ((repR n A).getD c 0)) K
   (fun c=>znk (srE k hk) zam n (A ((repR n A).getD c 0)) (fun j=>(clsR n A).getD j 0)) (fun c=>txs (mrgA (srE k hk) n A c)) (.slice Ar K cr) W2 (by have:=HN.out.2.1;omega) hrows (fun c hc w' hw'=>by
    have hr:=(HA.out _ (hρ c hc)).grown (zaa hg2 hw');have h:=zAf hk (A ((repR n A).getD c 0)) (fun j=>(clsR n A).getD j 0) n K w.heap.size (L+1) L Ac Ar cc cr (ra ((repR n A).getD c 0)) w' (by have:=HN.out.2.1;omega) (by have:=HN.out.2.1;omega) hκ hr.row (HI.out.fa _ (hρ c hc)) (xc.grown hw') (hw'.cell xl2 (by simp)) (hw'.cell xr2 (by simp)) (hcls.grown hw');refine h.mono (fun e w3 h=>?_);rcases h with⟨hp,v,e1,⟨g,e2,q1,q2⟩,q3⟩|⟨hp,q⟩
    ·exact .inl ⟨hp,v,e1,⟨g,0,K,e2,zqab _,by have:=HN.out.2.1;unfold maxLen;omega,.inr q1,q2⟩,q3⟩
    ·exact .inr ⟨hp,q⟩)
  have h2:=fun(w3:World) (hg3:W2.grownBy w3 none)=>zjU 81 ztM #[] #[.pointer (some ⟨w.heap.size,0,none⟩),.pointer (some ⟨w.heap.size+1,0,none⟩)] K (fun c=>ra ((repR n A).getD c 0)) m
   (fun c=>zdT (srE k hk) zam n m (fun _=>(srE k hk).zero) (A ((repR n A).getD c 0)) b) (fun c=>txs (mrgB (srE k hk) n A b c)) (.slice Ar K cr) w3 (by have:=HN.out.2.1;omega) (hrows.grown hg3) (fun c hc w' hw'=>by
    have hgw:=zaa hg3 hw';have hr:=(HA.out _ (hρ c hc)).grown (zaa hg2 hgw);obtain⟨rb2,hb1,hb2⟩:=(HI.out.mb).grown (zaa hg2 hgw);have h:=zAh hk (A ((repR n A).getD c 0)) b n m w.heap.size (w.heap.size+1) Ab cb rb2 (ra ((repR n A).getD c 0)) w' (by omega) (by have:=HN.out.2.1;omega) (by have:=HN.out.2.1;omega) hr.row (HI.out.fa _ (hρ c hc)) (xc.grown hgw) (hgw.cell xb (by simp)) hb1 (fun i hi=>(hb2 i hi).row) HI.out.fb;refine h.mono (fun e w3 h=>?_);rcases h with⟨hp,v,e1,⟨g,o,c2,e2,q1,q2,q3,q4⟩,q5⟩|⟨hp,q⟩
    ·exact .inl ⟨hp,v,e1,⟨g,o,c2,e2,q1,q2,.inr q3,q4⟩,q5⟩
    ·exact .inr ⟨hp,q⟩)
  have h3:=fun(v1 v2:Value) (w4:World) (hm1:zbv w4 v1 K K (mrgA (srE k hk) n A)) (hm2:zbv w4 v2 K m (mrgB (srE k hk) n A b)) (hp1:∀ c,c<K->znk (srE k hk) zam n (A ((repR n A).getD c 0)) (fun j=>(clsR n A).getD j 0)) (hp2:∀ c,c<K->zdT (srE k hk) zam n m (fun _=>(srE k hk).zero) (A ((repR n A).getD c 0)) b) =>
   ih K (mrgA (srE k hk) n A) (mrgB (srE k hk) n A b) v1 v2 w4 hKlt ⟨hm1,hm2,fun i hi j hj=>zoL hk _ _ n (hp1 i hi) j,fun i hi j hj=>by
    obtain⟨n',rfl⟩:∃ n',n=n'+1:=⟨n-1,by omega⟩;exact(hp2 i hi n' (by omega) j hj).2⟩
  have h4:=fun(w6:World) (hg6:W2.grownBy w6 none) (gy:Nat) (Ay:Option Addr) (cy:Nat) (ys:Nat->Value) (hyc:w6.cell? ⟨gy,0,none⟩=some (.slice Ay K cy)) (hy:zaG w6 (.slice Ay K cy) K ys) (hyr:∀ d,d<K->zjY w6 (ys d) m (solveF (srE k hk) s K (mrgA (srE k hk) n A) (mrgB (srE k hk) n A b) d)) (hyf:∀ d,d<K->∀ j,j<m->zam (solveF (srE k hk) s K (mrgA (srE k hk) n A) (mrgB (srE k hk) n A b) d j)) =>
   (show ∃ rb2:Nat->Value,Calls Tryz.prog 84 #[.slice Ab n cb,.slice Ac n cc,.func (.func 85) #[] #[.pointer (some ⟨gy,0,none⟩),.pointer (some ⟨w.heap.size,0,none⟩)]] w6
     (zkZ (∀ i,i<n->∀ J,J<m->zam ((srE k hk).add (b i J) (solveF (srE k hk) s K (mrgA (srE k hk) n A) (mrgB (srE k hk) n A b) ((clsR n A).getD i 0) J))) n m (fun i=>txs (fun J=>(srE k hk).add (b i J) (solveF (srE k hk) s K (mrgA (srE k hk) n A) (mrgB (srE k hk) n A b) ((clsR n A).getD i 0) J))) w6) by
    obtain⟨rb2,hb1,hb2⟩:=(HI.out.mb).grown (zaa hg2 hg6);refine⟨rb2,zvg 85 ztN #[] #[.pointer (some ⟨gy,0,none⟩),.pointer (some ⟨w.heap.size,0,none⟩)] n n rb2 (fun c=>.int .i64 (((clsR n A).getD c 0:Nat):Int)) m _ _ (.slice Ab n cb) (.slice Ac n cc) w6 (by have:=HN.out.2.1;omega) hb1 (hcls.grown hg6) (zqab _) (fun i hi w' hw'=>?_)⟩;have h:=zAg hk (b i) (solveF (srE k hk) s K (mrgA (srE k hk) n A) (mrgB (srE k hk) n A b) ((clsR n A).getD i 0)) K m ((clsR n A).getD i 0) w.heap.size gy Ay cy ys (rb2 i) w' (by have:=HN.out.2.1;omega) (hκ i hi) ((hb2 i hi).grown hw').row (HI.out.fb i hi) ((xc.grown hg6).grown hw') (hw'.cell hyc (by simp)) (hy.grown hw') ((hyr _ (hκ i hi)).grown hw').row (hyf _ (hκ i hi));refine h.mono (fun e w3 h=>?_);rcases h with⟨hp,v,e1,⟨e2,q2⟩,q3⟩|⟨hp,q⟩
    ·exact .inl ⟨hp,v,e1,⟨w'.heap.size,0,m,e2,zqab _,by have:=HN.out.2.1;unfold maxLen;omega,.inr (zqab _),q2⟩,q3⟩
    ·exact .inr ⟨hp,q⟩)
  have Q1:=zHd h1;have Q2:=zHd h2;have Q3:=zHd h3;have Q4:=zHd h4;have HFV:=zHd (zAI hfit hval);have HG2:=zHd hg2;have HKL:=zHd hKlt;clear h1 h2 h3 h4 hfit hval ih hκ hρ hrows hcls xc xr2 xl2 hg2 hKlt hKn;go_wp2_with fail;refine Q1.out.mono ?_;rintro e w3 (⟨hp1,v1,rfl,⟨zs1,rfl,hzs1⟩,hg3⟩|⟨hn,rfl,hg3⟩);rotate_left 1
  ·exact⟨rfl,.inr ⟨fun h=>hn (HFV.out.1▸h).1,rfl,zaa HG2.out hg3⟩⟩
  have p0:=hg3.cell d0 (by simp);have p1:=hg3.cell d1 (by simp);have p2:=hg3.cell d2 (by simp);have pb:=hg3.cell xb (by simp);have pr:=hg3.cell xr (by simp);have pl:=hg3.cell xl (by simp);have H3:=zHd (zAI hp1 (zAI hzs1 hg3));clear hp1 hzs1 hg3 d0 d1 d2 xb xr xl Q1;go_wp2_with fail;refine(Q2.out w3 H3.out.2.2).mono ?_;rintro e w4 (⟨hp2,v2,rfl,⟨zs2,rfl,hzs2⟩,hg4⟩|⟨hn,rfl,hg4⟩);rotate_left 1
  ·exact⟨rfl,.inr ⟨fun h=>hn (HFV.out.1▸h).2.1,rfl,zaa (zaa HG2.out H3.out.2.2) hg4⟩⟩
  have q0:=hg4.cell p0 (by simp);have q1:=hg4.cell p1 (by simp);have q2:=hg4.cell p2 (by simp);have qb:=hg4.cell pb (by simp);have qr:=hg4.cell pr (by simp);have ql:=hg4.cell pl (by simp);have H4:=zHd (zAI hp2 (zAI hzs2 hg4));clear hp2 hzs2 hg4 p0 p1 p2 pb pr pl Q2;go_wp2_with fail;refine(Q3.out _ _ w4 ((H3.out.2.1.mat (by have:=HN.out.2.1;have:=HKL.out;omega)).grown H4.out.2.2) (H4.out.2.1.mat (by have:=HN.out.2.1;have:=HKL.out;omega)) H3.out.1 H4.out.1).mono ?_;rintro e w5 (⟨hp3,v3,rfl,hy,hg5⟩|⟨hn,rfl,hg5⟩);rotate_left 1
  ·exact⟨rfl,.inr ⟨fun h=>hn (HFV.out.1▸h).2.2.1,rfl,zaa (zaa (zaa HG2.out H3.out.2.2) H4.out.2.2) hg5⟩⟩
  obtain⟨ys,⟨Ay,cy,rfl,hy1,hy2,hy3⟩,hyr⟩:=hy;have r0:=hg5.cell q0 (by simp);have r1:=hg5.cell q1 (by simp);have r2:=hg5.cell q2 (by simp);have rb:=hg5.cell qb (by simp);have rl:=hg5.cell ql (by simp);have hal:=zGA w5 (.cells #[.slice Ay K cy] 22) none;have s0:=hal.cell rb (by simp);have s1:=hal.cell rl (by simp);have H5:=zHd (zAI hp3 (zAI hg5 hal));have hKs:K<=s:=by have:=HN.out.1;have:=HKL.out;omega
  obtain⟨rb2,hc4⟩:=Q4.out (w5.alloc (.cells #[.slice Ay K cy] 22)) (zaa (zaa (zaa H3.out.2.2 H4.out.2.2) hg5) hal) w5.heap.size Ay cy ys (zao w5 _ _ rfl) (zaG.grown ⟨Ay,cy,rfl,hy1,hy2,hy3⟩ hal) (fun d hd=>(hyr d hd).grown hal) (zqm hk hKs hp3);have HC4:=zHd hc4;clear hp3 hg5 hal hc4 hy1 hy2 hy3 hyr q0 q1 q2 qb qr ql Q3 Q4 hKs r0 r1 r2 rb rl;go_wp2_with fail;refine HC4.out.mono ?_;rintro e w7 (⟨hp4,v4,rfl,⟨zs4,rfl,hzs4⟩,hg7⟩|⟨hn,rfl,hg7⟩);rotate_left 1
  ·exact⟨rfl,.inr ⟨fun h=>hn (HFV.out.1▸h).2.2.2,rfl,zaa (zaa (zaa (zaa (zaa HG2.out H3.out.2.2) H4.out.2.2) H5.out.2.1) H5.out.2.2) hg7⟩⟩
  have H7:=zHd (zAI hp4 (zAI hzs4 hg7));clear hp4 hzs4 hg7;go_wp2;go_ret;refine .inl ⟨HFV.out.1▸⟨H3.out.1,H4.out.1,H5.out.1,H7.out.1⟩,_,rfl,?_,zaa (zaa (zaa (zaa (zaa HG2.out H3.out.2.2) H4.out.2.2) H5.out.2.1) H5.out.2.2) H7.out.2.2⟩;show zbv w7 (.slice (some ⟨w5.heap.size+1,0,none⟩) n n) n m (solveF (srE k hk) (s+1) n A b);rw[HFV.out.2,show w5.heap.size+1=(w5.alloc (.cells #[.slice Ay K cy] 22)).heap.size by simp];exact H7.out.2.1.mat (by have:=HN.out.2.1;omega)
theorem zjK (hk:zad k)(m:Nat)(hm:1<=m):∀ (s n:Nat) (A b:Nat->Nat->El k) (av bv:Value) (w:World),n<=s->n+m<=10000->zhx w n m A b av bv ->
  Calls Tryz.prog 43 #[zbi k,av,bv] w (zmG hk s n m A b w):=by
 intro s
 induction s with
 | zero =>
  intro n A b av bv w hns hnm hin;obtain rfl:n=0:=by omega
  refine(zqn hk m hm 0 0 A b av bv w (by omega) hnm hin (fun K _ _ _ _ _ h=>absurd h (by omega))).mono (fun e w' h=>?_);rcases h with⟨_,v,h1,⟨rs,h2,_⟩,h4⟩|⟨hn,_⟩
  ·exact .inl ⟨trivial,v,h1,⟨rs,h2,fun i hi=>absurd hi (by omega)⟩,h4⟩
  ·refine absurd ?_ hn
   unfold SolveFits;rw[if_pos (show(repR 0 A).length=0 from rfl)];trivial
 | succ s ih =>
  intro n A b av bv w hns hnm hin;exact zqn hk m hm s n A b av bv w hns hnm hin (fun K A b av bv w hK hin2=>ih K A b av bv w (by omega) (by omega) hin2)
end
open Go.RowKit
def zfT (P:Prop)(Q:Value->World->Prop)(z:Value)(w:World)(e:Ending)(w':World):Prop :=
 (P/\∃ v,e=.returned (.tuple #[v,.int .i64 0])/\Q v w'/\w.grownBy w' none)∨(¬ P/\e=.returned (.tuple #[z,.int .i64 2])/\w.grownBy w' none)
section
variable {WB:Nat}
theorem zxt (p:Addr)(x E:Int)(older:List PanicEntry)(w:World)(hc:w.cell? p=some (.int .i64 x))(hz:w.frozen? p=false) :
  CallsD Tryz.prog 72 #[.pointer (some p)] (.panicking ({ v:=.iface 24 (.int .i64 E),recovered:=false }::older)) w fun e u' w' =>
   e=.returned (.tuple #[])/\u'=.panicking ({ v:=.iface 24 (.int .i64 E),recovered:=true }::older)/\w'=w.setCell p (.int .i64 E):=by
 refine callsD_of_wpS Tryz.func72 rfl fun c₀ cs hu=>?_;apply wpS_seq;apply wpS_region;simp[wpOpsS,go_sem,recoverD,hu,Tryz.ntmps72,Exit.thenS];clear hu;obtain⟨fs,hfs⟩:∃ fs:List Frame,fs = { c₀ with mode:=.panicking ({ v:=.iface 24 (.int .i64 E),recovered:=true }::older) }::cs:=⟨_,rfl⟩;have HFS:=zHd hfs;rw[<- hfs];clear hfs;have h1:∀ w:World,(binOp .neq 20 (.iface 24 (.int .i64 E)) .nilIface).run Tryz.prog w=.ok (.bool true) w:=fun w=>run_neq_held_nil _ _ _ _ (by kernel_rfl);have h2:∀ w:World,(Instr.typeAssert (.iface 24 (.int .i64 E)) 20 24 false).run Tryz.prog w=.ok (.int .i64 E) w:=fun w=>by kernel_rfl
 refine wpS_of_wp ?_;go_wp2_with fail;clear h1 h2 hc hz;rw[HFS.out];exact⟨rfl,_,rfl,.tuple #[],by simp[results,Tryz.results72],rfl,rfl,rfl⟩
theorem zDU (p:Addr)(w:World) :
  CallsD Tryz.prog 72 #[.pointer (some p)] .returning w fun e u' w'=>e=.returned (.tuple #[])/\u'=.returning/\w'=w:=by
 refine callsD_of_wpS Tryz.func72 rfl fun c₀ cs hu=>?_;apply wpS_seq;apply wpS_region;simp[wpOpsS,go_sem,recoverD,hu,Tryz.ntmps72,Exit.thenS];refine wpS_of_wp ?_;go_wp2;cases c₀
 simp_all [bodyPostS,results,Tryz.results72]
theorem ztO (A:Option Addr)(n c:Nat)(P:Prop)(Q:Value->World->Prop)(hP:P)(w w2:World)(tmps:Array Value)(ht:tmps=#[tmps.getD 0 undef,tmps.getD 1 undef,(.slice A n c),.pointer (some ⟨w.heap.size,0,none⟩),tmps.getD 4 undef,tmps.getD 5 undef,tmps.getD 6 undef])
  (hq:Q (.slice A n c) w2) (hb:w2.heap[w.heap.size]?=some (.cells #[.int .i64 0] 24 (0,0))) (hg:w.grownBy w2 none) :
  Leaves Tryz.prog Tryz.f40 tmps (zfT P Q (.slice none 0 0) w) [{ target:=.fn (.func 72) #[.pointer (some ⟨w.heap.size,0,none⟩)],args:=#[] }] .returning w2:=by
 have hcell:=cell_of_one hb;refine leaves_cons (f:=72) (args:=#[.pointer (some ⟨w.heap.size,0,none⟩)]) (by simp) (by simp[go_sem]) ?_;refine(zDU ⟨w.heap.size,0,none⟩ _).mono ?_;rintro e u' w'' ⟨rfl,rfl,rfl⟩;rw[ht];refine⟨.tuple #[(.slice A n c),.int .i64 0],by simp[results,Tryz.results40,go_sem,hcell],.inl ⟨hP,_,rfl,hq,hg⟩⟩
theorem ztP (P:Prop)(Q:Value->World->Prop)(hP:¬ P)(w w2:World)(tmps:Array Value)(ht:tmps=#[tmps.getD 0 undef,tmps.getD 1 undef,(.slice none 0 0),.pointer (some ⟨w.heap.size,0,none⟩),tmps.getD 4 undef,tmps.getD 5 undef,tmps.getD 6 undef])
  (hb:w2.heap[w.heap.size]?=some (.cells #[.int .i64 0] 24 (0,0))) (hg:w.grownBy w2 none) :
  Leaves Tryz.prog Tryz.f40 tmps (zfT P Q (.slice none 0 0) w) [{ target:=.fn (.func 72) #[.pointer (some ⟨w.heap.size,0,none⟩)],args:=#[] }] (.panicking [{ v:=.iface 24 (.int .i64 2),recovered:=false }]) w2:=by
 have hcell:=cell_of_one (one_setCell (u:=.int .i64 2) hb);refine leaves_cons (f:=72) (args:=#[.pointer (some ⟨w.heap.size,0,none⟩)]) (by simp) (by simp[go_sem]) ?_;refine(zxt ⟨w.heap.size,0,none⟩ 0 2 [] _ (cell_of_one hb) (free_of_one hb)).mono ?_;rintro e u' w'' ⟨rfl,rfl,rfl⟩;rw[ht];refine⟨.tuple #[(.slice none 0 0),.int .i64 2],by simp[results,Tryz.results40,go_sem,hcell],.inr ⟨hP,rfl,?_⟩⟩;exact zaj hg (zac w2 ⟨w.heap.size,0,none⟩ _) (zqab _)
theorem zvI (F:Nat)(he:Enters F)(first cap:Array Value)(P:Prop)(Q:Value->World->Prop)(hmono:∀ v w1 w2 b,b<w1.heap.size->w1.grownBy w2 (some b)->b=WB->Q v w1->Q v w2)(w:World)(hWB:WB=w.heap.size)
  (h:Calls Tryz.prog F (first++cap) (w.alloc (.cells #[.int .i64 0] 24)) (zbO P (fun v w'=>(∃ A n c,v=(.slice A n c))/\Q v w') (w.alloc (.cells #[.int .i64 0] 24)))) :
  Calls Tryz.prog 40 #[.func (.func F) first cap] w (zfT P Q (.slice none 0 0) w):=by
 have hmf := @zMF Tryz.prog;have H:=zHd h;have HE:=zHd he;have HMO:=zHd hmono;clear h he hmono
 go_enter_defers Tryz.func40,Tryz.ntmps40
 go_wp2_with fail;rw[HE.out];refine H.out.mono ?_;rintro e w2 (⟨hp,v,rfl,⟨⟨A,n,c,rfl⟩,hq⟩,hg⟩|⟨hn,rfl,hg⟩)
 ·have hb:=alloc_old hg
  have hcell:=cell_of_one hb;have hfree:=free_of_one hb;have HB:=zHd hb;have HG:=zHd hg;have HQ:=zHd (zAI hp hq);clear hb hg H HE hq hp;go_wp2;exact ztO A n c P Q HQ.out.1 w _ _ rfl (HMO.out _ _ _ _ (zqad.1 HB.out).1 (zac w2 ⟨w.heap.size,0,none⟩ _) hWB.symm HQ.out.2) (one_setCell HB.out) (zaj (zaa (zGA _ _ none) HG.out) (zac w2 ⟨w.heap.size,0,none⟩ _) (zqab _))
 ·have hb:=alloc_old hg
  have HB:=zHd hb;have HG:=zHd hg;clear hb hg H HE;exact ztP P Q hn w _ _ rfl HB.out (zaa (zGA _ _ none) HG.out)
theorem zAw (p:Addr)(x E:Int)(older:List PanicEntry)(w:World)(hc:w.cell? p=some (.int .i64 x))(hz:w.frozen? p=false) :
  CallsD Tryz.prog 93 #[.pointer (some p)] (.panicking ({ v:=.iface 24 (.int .i64 E),recovered:=false }::older)) w fun e u' w' =>
   e=.returned (.tuple #[])/\u'=.panicking ({ v:=.iface 24 (.int .i64 E),recovered:=true }::older)/\w'=w.setCell p (.int .i64 E):=by
 refine callsD_of_wpS Tryz.func93 rfl fun c₀ cs hu=>?_;apply wpS_seq;apply wpS_region;simp[wpOpsS,go_sem,recoverD,hu,Tryz.ntmps93,Exit.thenS];clear hu;obtain⟨fs,hfs⟩:∃ fs:List Frame,fs = { c₀ with mode:=.panicking ({ v:=.iface 24 (.int .i64 E),recovered:=true }::older) }::cs:=⟨_,rfl⟩;have HFS:=zHd hfs;rw[<- hfs];clear hfs;have h1:∀ w:World,(binOp .neq 20 (.iface 24 (.int .i64 E)) .nilIface).run Tryz.prog w=.ok (.bool true) w:=fun w=>run_neq_held_nil _ _ _ _ (by kernel_rfl);have h2:∀ w:World,(Instr.typeAssert (.iface 24 (.int .i64 E)) 20 24 false).run Tryz.prog w=.ok (.int .i64 E) w:=fun w=>by kernel_rfl
 refine wpS_of_wp ?_;go_wp2_with fail;clear h1 h2 hc hz;rw[HFS.out];exact⟨rfl,_,rfl,.tuple #[],by simp[results,Tryz.results93],rfl,rfl,rfl⟩
theorem zHk (p:Addr)(w:World) :
  CallsD Tryz.prog 93 #[.pointer (some p)] .returning w fun e u' w'=>e=.returned (.tuple #[])/\u'=.returning/\w'=w:=by
 refine callsD_of_wpS Tryz.func93 rfl fun c₀ cs hu=>?_;apply wpS_seq;apply wpS_region;simp[wpOpsS,go_sem,recoverD,hu,Tryz.ntmps93,Exit.thenS];refine wpS_of_wp ?_;go_wp2;cases c₀
 simp_all [bodyPostS,results,Tryz.results93]
theorem zvJ (A:Option Addr)(n c:Nat)(P:Prop)(Q:Value->World->Prop)(hP:P)(w w2:World)(tmps:Array Value)(ht:tmps=#[tmps.getD 0 undef,tmps.getD 1 undef,(.slice A n c),.pointer (some ⟨w.heap.size,0,none⟩),tmps.getD 4 undef,tmps.getD 5 undef,tmps.getD 6 undef])
  (hq:Q (.slice A n c) w2) (hb:w2.heap[w.heap.size]?=some (.cells #[.int .i64 0] 24 (0,0))) (hg:w.grownBy w2 none) :
  Leaves Tryz.prog Tryz.f51 tmps (zfT P Q (.slice none 0 0) w) [{ target:=.fn (.func 93) #[.pointer (some ⟨w.heap.size,0,none⟩)],args:=#[] }] .returning w2:=by
 have hcell:=cell_of_one hb;refine leaves_cons (f:=93) (args:=#[.pointer (some ⟨w.heap.size,0,none⟩)]) (by simp) (by simp[go_sem]) ?_;refine(zHk ⟨w.heap.size,0,none⟩ _).mono ?_;rintro e u' w'' ⟨rfl,rfl,rfl⟩;rw[ht];refine⟨.tuple #[(.slice A n c),.int .i64 0],by simp[results,Tryz.results51,go_sem,hcell],.inl ⟨hP,_,rfl,hq,hg⟩⟩
theorem zvK (P:Prop)(Q:Value->World->Prop)(hP:¬ P)(w w2:World)(tmps:Array Value)(ht:tmps=#[tmps.getD 0 undef,tmps.getD 1 undef,(.slice none 0 0),.pointer (some ⟨w.heap.size,0,none⟩),tmps.getD 4 undef,tmps.getD 5 undef,tmps.getD 6 undef])
  (hb:w2.heap[w.heap.size]?=some (.cells #[.int .i64 0] 24 (0,0))) (hg:w.grownBy w2 none) :
  Leaves Tryz.prog Tryz.f51 tmps (zfT P Q (.slice none 0 0) w) [{ target:=.fn (.func 93) #[.pointer (some ⟨w.heap.size,0,none⟩)],args:=#[] }] (.panicking [{ v:=.iface 24 (.int .i64 2),recovered:=false }]) w2:=by
 have hcell:=cell_of_one (one_setCell (u:=.int .i64 2) hb);refine leaves_cons (f:=93) (args:=#[.pointer (some ⟨w.heap.size,0,none⟩)]) (by simp) (by simp[go_sem]) ?_;refine(zAw ⟨w.heap.size,0,none⟩ 0 2 [] _ (cell_of_one hb) (free_of_one hb)).mono ?_;rintro e u' w'' ⟨rfl,rfl,rfl⟩;rw[ht];refine⟨.tuple #[(.slice none 0 0),.int .i64 2],by simp[results,Tryz.results51,go_sem,hcell],.inr ⟨hP,rfl,?_⟩⟩;exact zaj hg (zac w2 ⟨w.heap.size,0,none⟩ _) (zqab _)
theorem zob (F:Nat)(he:Enters F)(first cap:Array Value)(P:Prop)(Q:Value->World->Prop)(hmono:∀ v w1 w2 b,b<w1.heap.size->w1.grownBy w2 (some b)->b=WB->Q v w1->Q v w2)(w:World)(hWB:WB=w.heap.size)
  (h:Calls Tryz.prog F (first++cap) (w.alloc (.cells #[.int .i64 0] 24)) (zbO P (fun v w'=>(∃ A n c,v=(.slice A n c))/\Q v w') (w.alloc (.cells #[.int .i64 0] 24)))) :
  Calls Tryz.prog 51 #[.func (.func F) first cap] w (zfT P Q (.slice none 0 0) w):=by
 have hmf := @zMF Tryz.prog;have H:=zHd h;have HE:=zHd he;have HMO:=zHd hmono;clear h he hmono
 go_enter_defers Tryz.func51,Tryz.ntmps51
 go_wp2_with fail;rw[HE.out];refine H.out.mono ?_;rintro e w2 (⟨hp,v,rfl,⟨⟨A,n,c,rfl⟩,hq⟩,hg⟩|⟨hn,rfl,hg⟩)
 ·have hb:=alloc_old hg
  have hcell:=cell_of_one hb;have hfree:=free_of_one hb;have HB:=zHd hb;have HG:=zHd hg;have HQ:=zHd (zAI hp hq);clear hb hg H HE hq hp;go_wp2;exact zvJ A n c P Q HQ.out.1 w _ _ rfl (HMO.out _ _ _ _ (zqad.1 HB.out).1 (zac w2 ⟨w.heap.size,0,none⟩ _) hWB.symm HQ.out.2) (one_setCell HB.out) (zaj (zaa (zGA _ _ none) HG.out) (zac w2 ⟨w.heap.size,0,none⟩ _) (zqab _))
 ·have hb:=alloc_old hg
  have HB:=zHd hb;have HG:=zHd hg;clear hb hg H HE;exact zvK P Q hn w _ _ rfl HB.out (zaa (zGA _ _ none) HG.out)
theorem zAx (p:Addr)(x E:Int)(older:List PanicEntry)(w:World)(hc:w.cell? p=some (.int .i64 x))(hz:w.frozen? p=false) :
  CallsD Tryz.prog 101 #[.pointer (some p)] (.panicking ({ v:=.iface 24 (.int .i64 E),recovered:=false }::older)) w fun e u' w' =>
   e=.returned (.tuple #[])/\u'=.panicking ({ v:=.iface 24 (.int .i64 E),recovered:=true }::older)/\w'=w.setCell p (.int .i64 E):=by
 refine callsD_of_wpS Tryz.func101 rfl fun c₀ cs hu=>?_;apply wpS_seq;apply wpS_region;simp[wpOpsS,go_sem,recoverD,hu,Tryz.ntmps101,Exit.thenS];clear hu;obtain⟨fs,hfs⟩:∃ fs:List Frame,fs = { c₀ with mode:=.panicking ({ v:=.iface 24 (.int .i64 E),recovered:=true }::older) }::cs:=⟨_,rfl⟩;have HFS:=zHd hfs;rw[<- hfs];clear hfs;have h1:∀ w:World,(binOp .neq 20 (.iface 24 (.int .i64 E)) .nilIface).run Tryz.prog w=.ok (.bool true) w:=fun w=>run_neq_held_nil _ _ _ _ (by kernel_rfl);have h2:∀ w:World,(Instr.typeAssert (.iface 24 (.int .i64 E)) 20 24 false).run Tryz.prog w=.ok (.int .i64 E) w:=fun w=>by kernel_rfl
 refine wpS_of_wp ?_;go_wp2_with fail;clear h1 h2 hc hz;rw[HFS.out];exact⟨rfl,_,rfl,.tuple #[],by simp[results,Tryz.results101],rfl,rfl,rfl⟩
theorem zHl (p:Addr)(w:World) :
  CallsD Tryz.prog 101 #[.pointer (some p)] .returning w fun e u' w'=>e=.returned (.tuple #[])/\u'=.returning/\w'=w:=by
 refine callsD_of_wpS Tryz.func101 rfl fun c₀ cs hu=>?_;apply wpS_seq;apply wpS_region;simp[wpOpsS,go_sem,recoverD,hu,Tryz.ntmps101,Exit.thenS];refine wpS_of_wp ?_;go_wp2;cases c₀
 simp_all [bodyPostS,results,Tryz.results101]
theorem zvL (s:ByteArray)(P:Prop)(Q:Value->World->Prop)(hP:P)(w w2:World)(tmps:Array Value)(ht:tmps=#[tmps.getD 0 undef,tmps.getD 1 undef,(.string s),.pointer (some ⟨w.heap.size,0,none⟩),tmps.getD 4 undef,tmps.getD 5 undef,tmps.getD 6 undef])
  (hq:Q (.string s) w2) (hb:w2.heap[w.heap.size]?=some (.cells #[.int .i64 0] 24 (0,0))) (hg:w.grownBy w2 none) :
  Leaves Tryz.prog Tryz.f57 tmps (zfT P Q (.string ⟨#[]⟩) w) [{ target:=.fn (.func 101) #[.pointer (some ⟨w.heap.size,0,none⟩)],args:=#[] }] .returning w2:=by
 have hcell:=cell_of_one hb;refine leaves_cons (f:=101) (args:=#[.pointer (some ⟨w.heap.size,0,none⟩)]) (by simp) (by simp[go_sem]) ?_;refine(zHl ⟨w.heap.size,0,none⟩ _).mono ?_;rintro e u' w'' ⟨rfl,rfl,rfl⟩;rw[ht];refine⟨.tuple #[(.string s),.int .i64 0],by simp[results,Tryz.results57,go_sem,hcell],.inl ⟨hP,_,rfl,hq,hg⟩⟩
theorem zvM (P:Prop)(Q:Value->World->Prop)(hP:¬ P)(w w2:World)(tmps:Array Value)(ht:tmps=#[tmps.getD 0 undef,tmps.getD 1 undef,(.string ⟨#[]⟩),.pointer (some ⟨w.heap.size,0,none⟩),tmps.getD 4 undef,tmps.getD 5 undef,tmps.getD 6 undef])
  (hb:w2.heap[w.heap.size]?=some (.cells #[.int .i64 0] 24 (0,0))) (hg:w.grownBy w2 none) :
  Leaves Tryz.prog Tryz.f57 tmps (zfT P Q (.string ⟨#[]⟩) w) [{ target:=.fn (.func 101) #[.pointer (some ⟨w.heap.size,0,none⟩)],args:=#[] }] (.panicking [{ v:=.iface 24 (.int .i64 2),recovered:=false }]) w2:=by
 have hcell:=cell_of_one (one_setCell (u:=.int .i64 2) hb);refine leaves_cons (f:=101) (args:=#[.pointer (some ⟨w.heap.size,0,none⟩)]) (by simp) (by simp[go_sem]) ?_;refine(zAx ⟨w.heap.size,0,none⟩ 0 2 [] _ (cell_of_one hb) (free_of_one hb)).mono ?_;rintro e u' w'' ⟨rfl,rfl,rfl⟩;rw[ht];refine⟨.tuple #[(.string ⟨#[]⟩),.int .i64 2],by simp[results,Tryz.results57,go_sem,hcell],.inr ⟨hP,rfl,?_⟩⟩;exact zaj hg (zac w2 ⟨w.heap.size,0,none⟩ _) (zqab _)
theorem zxu (F:Nat)(he:Enters F)(first cap:Array Value)(P:Prop)(Q:Value->World->Prop)(hmono:∀ v w1 w2 b,b<w1.heap.size->w1.grownBy w2 (some b)->b=WB->Q v w1->Q v w2)(w:World)(hWB:WB=w.heap.size)
  (h:Calls Tryz.prog F (first++cap) (w.alloc (.cells #[.int .i64 0] 24)) (zbO P (fun v w'=>(∃ s,v=(.string s))/\Q v w') (w.alloc (.cells #[.int .i64 0] 24)))) :
  Calls Tryz.prog 57 #[.func (.func F) first cap] w (zfT P Q (.string ⟨#[]⟩) w):=by
 have hmf := @zMF Tryz.prog;have H:=zHd h;have HE:=zHd he;have HMO:=zHd hmono;clear h he hmono
 go_enter_defers Tryz.func57,Tryz.ntmps57
 go_wp2_with fail;rw[HE.out];refine H.out.mono ?_;rintro e w2 (⟨hp,v,rfl,⟨⟨s,rfl⟩,hq⟩,hg⟩|⟨hn,rfl,hg⟩)
 ·have hb:=alloc_old hg
  have hcell:=cell_of_one hb;have hfree:=free_of_one hb;have HB:=zHd hb;have HG:=zHd hg;have HQ:=zHd (zAI hp hq);clear hb hg H HE hq hp;go_wp2;exact zvL s P Q HQ.out.1 w _ _ rfl (HMO.out _ _ _ _ (zqad.1 HB.out).1 (zac w2 ⟨w.heap.size,0,none⟩ _) hWB.symm HQ.out.2) (one_setCell HB.out) (zaj (zaa (zGA _ _ none) HG.out) (zac w2 ⟨w.heap.size,0,none⟩ _) (zqab _))
 ·have hb:=alloc_old hg
  have HB:=zHd hb;have HG:=zHd hg;clear hb hg H HE;exact zvM P Q hn w _ _ rfl HB.out (zaa (zGA _ _ none) HG.out)
end
open Go.RowKit
section
variable {k:Int}
theorem zqo {w:World}{ad:Addr}{v:Value}(h:w.cell? ad=some v):ad=⟨ad.block,ad.off,none⟩:=by
 obtain⟨b,o,s⟩:=ad;unfold World.cell? at h;split at h
 ·cases s with
  | none=>rfl
  | some p=>simp at h
 ·cases h
theorem zaG.toG {w:World}{v:Value}{m:Nat}{f:Nat->El k}(h:zaG w v m (txs f))(hm:1<=m):zjY w v m f:=by
 obtain⟨A,c,rfl,h1,h2,h3⟩:=h;obtain⟨ad,rfl,hb,hc⟩:=h3 0 (by omega);rw[zsM] at hc;have e:=zqo hc;refine⟨ad.block,ad.off,c,by rw[<- e],h1,h2,hb,fun j hj=>?_⟩;obtain⟨_,e2,_,hcj⟩:=h3 j hj;cases e2;rw[<- zcl,<- e];exact hcj
theorem zqp {w:World}{b:Nat}{z:Int}{T:TypeId}(hb:w.heap[b]?=some (.cells #[.int .i64 z] T (0,0))){ad:Addr}{v:Value}(h:w.cell? ad=some v)(hv:∀ y,v ≠ .int .i64 y):ad.block≠b:=by
 intro e;have e2:=zqo h;rw[e2,e] at h;rw[zqbw w b ad.off _ _ (0,0) hb] at h;obtain⟨h1,h2⟩:=zqad.1 h;have:ad.off=0:=by simpa using h1
 simp[this] at h2;exact hv z h2.symm
def zoM (w:World)(v:Value)(n m:Nat)(F:Nat->Nat->El k)(b:Nat):Prop :=
 ∃ rs:Nat->Value,(∃ A cap,v=.slice A n cap/\n<=cap/\cap<=maxLen/\∀ j,j<n->∃ ad,A=some ad/\ad.block<w.heap.size/\ad.block≠b/\w.cell? (ad.add j)=some (rs j)) /\
  ∀ i,i<n->∃ g o c,rs i=.slice (some ⟨g,o,none⟩) m c/\m<=c/\c<=maxLen/\g≠b/\zaq w g o m (txs (F i))
theorem zoM.mat {w:World}{v:Value}{n m:Nat}{F:Nat->Nat->El k}{b:Nat}(h:zoM w v n m F b):zbv w v n m F:=by
 obtain⟨rs,⟨A,cap,h1,h2,h3,h4⟩,h5⟩:=h;refine⟨rs,⟨A,cap,h1,h2,h3,fun j hj=>?_⟩,fun i hi=>?_⟩
 ·obtain⟨ad,e1,e2,_,e3⟩:=h4 j hj
  exact⟨ad,e1,e2,e3⟩
 ·obtain⟨g,o,c,e1,e2,e3,_,e4⟩:=h5 i hi
  exact⟨g,o,c,e1,e2,e3,e4⟩
theorem zoM.kept {w w':World}{v:Value}{n m:Nat}{F:Nat->Nat->El k}{b:Nat}(h:zoM w v n m F b)(hg:w.grownBy w' (some b)):zoM w' v n m F b:=by
 obtain⟨rs,⟨A,cap,h1,h2,h3,h4⟩,h5⟩:=h;refine⟨rs,⟨A,cap,h1,h2,h3,fun j hj=>?_⟩,fun i hi=>?_⟩
 ·obtain⟨ad,e1,e2,e0,e3⟩:=h4 j hj
  exact⟨ad,e1,zqba e2 hg.size,e0,(zaD (ad:=ad.add j) (by rw[zau];exact hg.block _ e2 (by simpa using e0))).trans e3⟩
 ·obtain⟨g,o,c,e1,e2,e3,e0,e4⟩:=h5 i hi
  exact⟨g,o,c,e1,e2,e3,e0,e4.grownB hg e0⟩
theorem zbv.other {w:World}{v:Value}{n m:Nat}{F:Nat->Nat->El k}{b:Nat}(h:zbv w v n m F)(hm:0<n->1<=m){z:Int}{T:TypeId}(hb:w.heap[b]?=some (.cells #[.int .i64 z] T (0,0))):zoM w v n m F b:=by
 obtain⟨rs,⟨A,cap,h1,h2,h3,h4⟩,h5⟩:=h;refine⟨rs,⟨A,cap,h1,h2,h3,fun j hj=>?_⟩,fun i hi=>?_⟩
 ·obtain⟨ad,e1,e2,e3⟩:=h4 j hj
  obtain⟨g,o,c,e4,_⟩:=h5 j hj;refine⟨ad,e1,e2,?_,e3⟩;rw[<- zau ad j];exact zqp hb e3 (fun y=>by rw[e4];simp)
 ·obtain⟨g,o,c,e1,e2,e3,e4⟩:=h5 i hi
  exact⟨g,o,c,e1,e2,e3,zqp (ad:=⟨g,o+0,none⟩) hb (e4.2 0 (hm (by omega))) (fun y=>by unfold txs;simp),e4⟩
theorem zbv.none {w:World}{v:Value}{m m':Nat}{F F':Nat->Nat->El k}(h:zbv w v 0 m F):zbv w v 0 m' F':=by
 obtain⟨rs,h1,_⟩:=h;exact⟨rs,h1,fun i hi=>absurd hi (by omega)⟩
theorem zbv.shape {w:World}{v:Value}{n m:Nat}{F:Nat->Nat->El k}(h:zbv w v n m F):∃ A c,v=.slice A n c:=by
 obtain⟨rs,⟨A,c,e,_⟩,_⟩:=h;exact⟨A,c,e⟩
theorem zbv.congr {w:World}{v:Value}{n m:Nat}{F F':Nat->Nat->El k}(h:zbv w v n m F)(e:∀ i,i<n->∀ j,j<m->F i j=F' i j):zbv w v n m F':=by
 obtain⟨rs,h1,h2⟩:=h;refine⟨rs,h1,fun i hi=>?_⟩;obtain⟨g,o,c,e1,e2,e3,e4⟩:=h2 i hi;refine⟨g,o,c,e1,e2,e3,e4.1,fun j hj=>(e4.2 j hj).trans ?_⟩;unfold txs;rw[e i hi j hj]
end
open Go.RowKit
section
variable {k:Int}
theorem zvN:Enters 41:=enters_of Tryz.func41 (by kernel_rfl) rfl
theorem zHm (hk:zad k){g n:Nat}{zs:List Value}{w:World}(hn:n<=10000)(hl:zs.length=n)(h1:zaq w g 0 n (fun j=>zs.getD j (.slice none 0 0)))(h2:zli hk g n zs w):zbv w (.slice (some ⟨g,0,none⟩) n n) n n (idm (srE k hk)) :=
 ⟨_,h1.row (zqab _) (by unfold maxLen;omega),fun i hi=>by
  obtain⟨gi,e1,e2,e3⟩:=h2 i (by omega);exact⟨gi,0,n,e1,zqab _,by unfold maxLen;omega,e3⟩⟩
theorem zJt (hk:zad k)(i j:Nat):zam (idm (srE k hk) i j):=by
 unfold idm;split
 ·exact zrM hk
 ·exact zcw hk
theorem zAy (hk:zad k)(n:Nat)(A:Nat->Nat->El k)(av bv:Value)(w:World)(hn:n<=60)(ha:zbv w av n n A)(hb:zbv w bv n n (idm (srE k hk)))(hf:∀ i,i<n->∀ j,j<n->zam (A i j)) :
  Calls Tryz.prog 43 #[zbi k,av,bv] w (zbO (SolveFits (srE k hk) zam n n n A (idm (srE k hk))) (fun v w'=>zbv w' v n n (stM (srE k hk) A n)) w):=by
 by_cases h0:n=0
 ·subst h0
  refine(zjK hk 1 (zqab _) 0 0 A (idm (srE k hk)) av bv w (zqab _) (by omega) ⟨ha,hb.none,fun i hi=>absurd hi (by omega),fun i hi=>absurd hi (by omega)⟩).mono (fun e w' h=>?_);rcases h with⟨_,v,h1,h2,h4⟩|⟨hn,_⟩
  ·exact .inl ⟨trivial,v,h1,h2.none,h4⟩
  ·exact absurd trivial hn
 ·refine(zjK hk n (by omega) n n A (idm (srE k hk)) av bv w (zqab _) (by omega) ⟨ha,hb,hf,fun i _ j _=>zJt hk i j⟩).mono (fun e w' h=>?_)
  rcases h with⟨hp,v,h1,h2,h4⟩|h
  ·refine .inl ⟨hp,v,h1,h2.congr (fun i hi j hj=>?_),h4⟩
   rw[zgv _ n n A _ (zqab _) i j hi,zFl _ A i hj]
  ·exact .inr h
theorem zDV (hk:zad k)(n gk ga ca:Nat)(Aa:Option Addr)(A:Nat->Nat->El k)(w:World)(hn:n<=60)(hkc:w.cell? ⟨gk,0,none⟩=some (.int .i64 k))(hac:w.cell? ⟨ga,0,none⟩=some (.slice Aa n ca))(ha:zbv w (.slice Aa n ca) n n A)(hf:∀ i,i<n->∀ j,j<n->zam (A i j)) :
  Calls Tryz.prog 41 #[.pointer (some ⟨gk,0,none⟩),.pointer (some ⟨ga,0,none⟩)] w (zbO (SolveFits (srE k hk) zam n n n A (idm (srE k hk))) (fun v w'=>zbv w' v n n (stM (srE k hk) A n)) w):=by
 have hof:=fun w'=>znA k w';have hun:=fun w'=>zGP hk n w' (by omega);have hso:=fun(bv:Value) (w':World) (hg:w.grownBy w' none) (hb:zbv w' bv n n (idm (srE k hk)))=>zAy hk n A (.slice Aa n ca) bv w' hn (ha.grown hg) hb hf;have HO:=zHd hof;have HU:=zHd hun;have HS:=zHd hso;have HN:=zHd hn;clear hof hun hso hf ha hn;unfold zbi at *;go_enter Tryz.func41,Tryz.ntmps41;go_wp2_with fail;refine(HO.out _).mono ?_;rintro e w1 ⟨rfl,hg1⟩;have k1:=hg1.cell hkc (by simp);have a1:=hg1.cell hac (by simp);have HG1:=zHd hg1;clear hg1 hkc hac;go_upto_region 2 with(fail);have hal:=zGA w1 (.cells #[.int .i64 k,.string (zae k),.string (zal k)] 64) none;have x0:=zao w1 #[.int .i64 k,.string (zae k),.string (zal k)] 64 (j:=0) rfl;have x1:=zao w1 #[.int .i64 k,.string (zae k),.string (zal k)] 64 (j:=1) rfl;have x2:=zao w1 #[.int .i64 k,.string (zae k),.string (zal k)] 64 (j:=2) rfl;have a2:=hal.cell a1 (by simp);have hg2:=zaa HG1.out hal;generalize w1.alloc (.cells #[.int .i64 k,.string (zae k),.string (zal k)] 64)=W at *;have d0:W.drew.cell? ⟨w1.heap.size,0,none⟩=some (.int .i64 k):=x0;have d1:W.drew.cell? ⟨w1.heap.size,1,none⟩=some (.string (zae k)):=x1;have d2:W.drew.cell? ⟨w1.heap.size,2,none⟩=some (.string (zal k)):=x2;have da:W.drew.cell? ⟨ga,0,none⟩=some (.slice Aa n ca):=a2;have HG:=zHd (zaa hg2 (zag W none));clear x0 x1 x2 a1 a2 k1 hal hg2
 go_region_held2 (fun W'=>W'.cell? ⟨w1.heap.size,0,none⟩=some (.int .i64 k)/\W'.cell? ⟨w1.heap.size,1,none⟩=some (.string (zae k))/\W'.cell? ⟨w1.heap.size,2,none⟩=some (.string (zal k))/\W'.cell? ⟨ga,0,none⟩=some (.slice Aa n ca)) (first|exact⟨d0,d1,d2,da⟩|exact S5|exact S6|go_keep)
  (first
  | (go_at_call 44;refine(HU.out W.drew).mono ?_;rintro e w5 ⟨g,zs,rfl,hgs,hzl,hra,hru,hg5⟩;have S5:=zAI (hg5.cell d0 (by simp)) (zAI (hg5.cell d1 (by simp)) (zAI (hg5.cell d2 (by simp)) (hg5.cell da (by simp))));have H5:=zHd (zAI (zHm hk (by have:=HN.out;omega) hzl hra hru) (zaa HG.out hg5));clear hgs hzl hra hru hg5)
  | (go_at_call 43;refine(HS.out _ w5 H5.out.2 H5.out.1).mono ?_;rintro e w6 (⟨hp6,v6,rfl,hres,hg6⟩|⟨hn,rfl,hg6⟩);rotate_left 1;(exact⟨rfl,.inr ⟨hn,rfl,zaa H5.out.2 hg6⟩⟩);have S6:=zAI (hg6.cell S5.1 (by simp)) (zAI (hg6.cell S5.2.1 (by simp)) (zAI (hg6.cell S5.2.2.1 (by simp)) (hg6.cell S5.2.2.2 (by simp))));have H6:=zHd (zAI hp6 (zAI hres (zaa H5.out.2 hg6)));clear hp6 hres hg6))
 all_goals
  go_wp2;go_ret;exact .inl ⟨H6.out.1,_,rfl,H6.out.2.1,H6.out.2.2⟩
theorem zHn (hk:zad k){n:Nat}{G:Nat->Nat->ByteArray}(h:∀ i j,i<n->j<n->∃ v,Val k (G i j) v):∃ A:Nat->Nat->El k,∀ i,i<n->∀ j,j<n->G i j=tx (A i j)/\zam (A i j):=by
 have h1:∀ i j,∃ v:El k,i<n->j<n->G i j=tx v/\zam v:=fun i j=>by
  by_cases h2:i<n/\j<n
  ·obtain⟨v,hv⟩:=h i j h2.1 h2.2
   refine⟨⟨v,hv.has⟩,fun _ _=>⟨hv.e.text,?_⟩⟩;have e:=hv.e;show Fits v;rcases v with(_|_)|x
   ·trivial
   ·trivial
   ·exact e.short
  ·exact⟨(srE k hk).zero,fun h3 h4=>absurd ⟨h3,h4⟩ h2⟩
 exact⟨fun i j=>Classical.choose (h1 i j),fun i hi j hj=>Classical.choose_spec (h1 i j) hi hj⟩
def zjg (k:Int)(n:Nat)(ln:Nat->Nat)(G:Nat->Nat->ByteArray)(w:World)(e:Ending)(w':World):Prop :=
 w.grownBy w' none/\((¬ zjf k n ln G/\e=.returned (.tuple #[.slice none 0 0,.int .i64 1]))∨(zjf k n ln G/\60<n/\e=.returned (.tuple #[.slice none 0 0,.int .i64 2])) ∨
  (n<=60/\(∀ i,i<n->ln i=n)/\∃ (hk:zad k) (A:Nat->Nat->El k),(∀ i,i<n->∀ j,j<n->G i j=tx (A i j)/\zam (A i j)) /\
   ((SolveFits (srE k hk) zam n n n A (idm (srE k hk))/\∃ v,e=.returned (.tuple #[v,.int .i64 0])/\zbv w' v n n (stM (srE k hk) A n))∨(¬ SolveFits (srE k hk) zam n n n A (idm (srE k hk))/\e=.returned (.tuple #[.slice none 0 0,.int .i64 2])))))
theorem zcx.mat (hk:zad k){w:World}{v:Value}{n:Nat}{ln:Nat->Nat}{G:Nat->Nat->ByteArray}{A:Nat->Nat->El k}(h:zcx w v n ln G)(hl:∀ i,i<n->ln i=n)(hA:∀ i,i<n->∀ j,j<n->G i j=tx (A i j)/\zam (A i j)):zbv w v n n A:=by
 obtain⟨rs,h1,h2⟩:=h;refine⟨rs,h1,fun i hi=>?_⟩;have h3:=h2 i hi;rw[hl i hi] at h3;refine zaG.toG ?_ (by omega);obtain⟨Ai,c,e1,e2,e3,e4⟩:=h3;refine⟨Ai,c,e1,e2,e3,fun j hj=>?_⟩;obtain⟨ad,q1,q2,q3⟩:=e4 j hj;refine⟨ad,q1,q2,q3.trans ?_⟩;unfold txs;rw[<- (hA i hi j hj).1]
theorem zjh (k:Int)(n:Nat)(ln:Nat->Nat)(G:Nat->Nat->ByteArray)(av:Value)(w:World)(hn:n<=10000)(ha:zcx w av n ln G)(hs:∀ i j,(G i j).size<=maxLen) :
  Calls Tryz.prog 12 #[.int .i64 k,av] w (zjg k n ln G w):=by
 have hW:w.grownBy ((w.alloc (.cells #[.int .i64 k] 3)).alloc (.cells #[av] 22)) none:=zaa (zGA _ _ none) (zGA _ _ none);have him:=zvB k n ln G av _ hn (ha.grown hW) hs
 have hav:∃ Aa ca,av=.slice Aa n ca:=by
  obtain⟨rs,⟨Aa,ca,e,_⟩,_⟩:=ha;exact⟨Aa,ca,e⟩
 obtain⟨Aa,ca,rfl⟩:=hav;have HI:=zHd him;have HA:=zHd ha;have HW:=zHd hW;clear him ha hW hs;have hk1:((w.alloc (.cells #[.int .i64 k] 3)).alloc (.cells #[.slice Aa n ca] 22)).cell? ⟨w.heap.size,0,none⟩=some (.int .i64 k):=(zGA _ _ none).cell (zao w #[.int .i64 k] _ rfl) (by simp)
 have ha1:((w.alloc (.cells #[.int .i64 k] 3)).alloc (.cells #[.slice Aa n ca] 22)).cell? ⟨w.heap.size+1,0,none⟩=some (.slice Aa n ca):=by
  have h:=zao (w.alloc (.cells #[.int .i64 k] 3)) #[.slice Aa n ca] 22 (j:=0) (u:=.slice Aa n ca) rfl;rw[show(w.alloc (.cells #[.int .i64 k] 3)).heap.size=w.heap.size+1 by simp] at h;exact h
 have HX:=zHd (zAI hk1 ha1);have hmf := @zMF Tryz.prog;clear hk1 ha1;go_enter Tryz.func12,Tryz.ntmps12;go_wp2_with fail;refine HI.out.mono ?_;rintro e w1 ⟨b,rfl,hb,hg1⟩;have k1:=hg1.cell HX.out.1 (by simp);have a1:=hg1.cell HX.out.2 (by simp);have hgw:w.grownBy w1 none:=zaa HW.out hg1;have HB:=zHd hb;have HG:=zHd hgw;clear hb hg1 hgw HI HX HW;cases b
 ·go_wp2
  refine zqby (v:=.tuple #[.slice none 0 0,.int .i64 1]) (by simp[results,Tryz.results12,go_sem]) rfl ⟨HG.out,.inl ⟨fun h=>?_,rfl⟩⟩;have:=HB.out.2 h;cases this
 ·have hm:=HB.out.1 rfl
  by_cases h60:60<n
  ·have t1:decide (60<n)=true:=by simpa using h60
   have t2:decide ((60:Int)<(n:Int))=true:=by simp;omega
   have t3:(60:Int)<(n:Int):=by omega
   have HM:=zHd (zAI hm h60);clear hm h60;go_wp2;exact zqby (v:=.tuple #[.slice none 0 0,.int .i64 2]) (by simp[results,Tryz.results12,go_sem]) rfl ⟨HG.out,.inr (.inl ⟨HM.out.1,HM.out.2,rfl⟩)⟩
  ·have t1:decide (60<n)=false:=by simpa using h60
   have t2:decide ((60:Int)<(n:Int))=false:=by simp;omega
   have t3:¬ (60:Int)<(n:Int):=by omega
   obtain⟨hk,hl,hv⟩:=hm;obtain⟨A,hA⟩:=zHn hk hv;have hmat:=(HA.out.grown HG.out).mat hk hl hA;have hal:=zGA w1 (.cells #[.int .i64 0] 24) none;have hst:=zDV hk n w.heap.size (w.heap.size+1) ca Aa A (w1.alloc (.cells #[.int .i64 0] 24)) (by omega) (hal.cell k1 (by simp)) (hal.cell a1 (by simp)) (hmat.grown hal) (fun i hi j hj=>(hA i hi j hj).2)
   have hat:=zvI (WB:=w1.heap.size) 41 zvN #[] #[.pointer (some ⟨w.heap.size,0,none⟩),.pointer (some ⟨w.heap.size+1,0,none⟩)] (SolveFits (srE k hk) zam n n n A (idm (srE k hk))) (fun v w'=>zoM w' v n n (stM (srE k hk) A n) w1.heap.size)
    (fun v wa wb b hb hg e hq=>by subst e;exact hq.kept hg) w1 rfl (hst.mono (fun e w' h=>by
     rcases h with⟨hp,v,h1,h2,h4⟩|h
     ·obtain⟨A1,c1,e1⟩:=h2.shape
      exact .inl ⟨hp,v,h1,⟨⟨A1,_,c1,e1⟩,h2.other (fun h=>h) ((h4.block w1.heap.size (by simp) (by simp)).trans (zaE w1 _))⟩,h4⟩
     ·exact .inr h))
   have HT:=zHd hat;have HF:=zHd (zAI h60 (zAI hl hA));clear hat hst hal hmat hA hl hv h60;go_wp2_with fail;refine HT.out.mono ?_;rintro e w2 (⟨hp,v,rfl,hq,hg2⟩|⟨hn2,rfl,hg2⟩)
   ·have H2:=zHd (zAI hp (zAI hq.mat (zaa HG.out hg2)))
    clear hp hq hg2;go_wp2;exact zqby (v:=.tuple #[v,.int .i64 0]) (by simp[results,Tryz.results12,go_sem]) rfl ⟨H2.out.2.2,.inr (.inr ⟨by have:=HF.out.1;omega,HF.out.2.1,hk,A,HF.out.2.2,.inl ⟨H2.out.1,v,rfl,H2.out.2.1⟩⟩)⟩
   ·have H2:=zHd (zAI hn2 (zaa HG.out hg2))
    clear hn2 hg2;go_wp2;exact zqby (v:=.tuple #[.slice none 0 0,.int .i64 2]) (by simp[results,Tryz.results12,go_sem]) rfl ⟨H2.out.2,.inr (.inr ⟨by have:=HF.out.1;omega,HF.out.2.1,hk,A,HF.out.2.2,.inr ⟨H2.out.1,rfl⟩⟩)⟩
end
end Go.Proofs.YtaogepcaoogpgaaGreatDoor
