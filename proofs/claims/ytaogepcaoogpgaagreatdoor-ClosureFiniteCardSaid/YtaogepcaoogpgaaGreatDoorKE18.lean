/- WE70 WE71 WE72 WE74 -/
import Derived.Test.YtaogepcaoogpgaaGreatDoorKE17
set_option linter.unusedVariables false
set_option linter.unusedSimpArgs false
set_option maxRecDepth 100000
set_option maxHeartbeats 16000000
namespace Go.Proofs.YtaogepcaoogpgaaGreatDoor
open Go.RowKit
def zet (w:World)(v:Value)(n:Nat)(zs:List Value)(g:Nat):Prop:=(n=0∧v = .slice none 0 0∧zs=[])∨(0<n∧∃ c,v = .slice (some ⟨g,0,none⟩) n c∧Own7 w g n c zs)
theorem zuF (n g vb:Nat)(v:Value)(zs:List Value)(u:Value)(TB:TypeId)(w:World)(hn:n≤10000)(hr:zet w v n zs g)(hne:0<n→vb≠g)(hv:w.heap[vb]? = some (.cells #[u] TB (0,0)))(h1:u.oneCell'=true)(hz:∀ z∈zs,z.oneCell'=true) :
  Calls Tryz.prog 133 #[v,.int .i64 0,.slice (some ⟨vb,0,none⟩) 1 1] w (zls n g u zs w):=by
 have hvc:w.cell? ⟨vb,0,none⟩=some u:=cell_of_row w vb 0 _ _ (0,0) hv;rcases hr with⟨rfl,rfl,rfl⟩|⟨h0,c,rfl,hown⟩
 ·refine(zuE vb u w hvc h1).mono (fun e w' h => ?_)
  obtain⟨g',c',h2,h3,⟨_,h4,_⟩|h4⟩:=h
  ·omega
  ·exact⟨g',c',h2,h3,.inr h4⟩
 ·have:=hown.le
  by_cases hc:n+1≤c
  ·exact zsY n c g vb zs u TB w h0 hn hc hown (hne h0) hv h1 hz
  ·exact zsZ n c g vb zs u w h0 hn (by omega) hown hvc (Array.getElem?_eq_some_iff.1 hv).1 h1 hz
section
variable {k:Int}
def zpq (B n m:Nat)(F:Nat→Nat→El k)(v:Value)(w':World):Prop :=
 ∃ zs g,zet w' v n zs g∧(0<n→B≤g)∧∀ i,i<n→∃ gi o ci,zs.getD i (.slice none 0 0) = .slice (some ⟨gi,o,none⟩) m ci∧m≤ci∧ci≤maxLen∧gi≠g∧zam w' gi o m (txs (F i))
theorem zet.len {w:World}{v:Value}{n:Nat}{zs:List Value}{g:Nat}(h:zet w v n zs g):zs.length=n:=by
 rcases h with⟨rfl,_,rfl⟩|⟨_,c,_,ho⟩
 ·rfl
 ·exact ho.len
theorem zet.grown {w w':World}{v:Value}{n:Nat}{zs:List Value}{g:Nat}(h:zet w v n zs g)(hg:w.grownBy w' none):zet w' v n zs g:=by
 rcases h with h|⟨h0,c,e,ho⟩
 ·exact .inl h
 ·exact .inr ⟨h0,c,e,ho.grown hg⟩
theorem zet.lt {w:World}{v:Value}{n:Nat}{zs:List Value}{g:Nat}(h:zet w v n zs g)(hn:0<n):g<w.heap.size:=by
 rcases h with⟨rfl,_,rfl⟩|⟨_,c,_,ho⟩
 ·omega
 ·exact ho.lt
theorem zet.rowR {w:World}{v:Value}{n:Nat}{zs:List Value}{g:Nat}(h:zet w v n zs g):RowR w v n (fun j=>zs.getD j (.slice none 0 0)):=by
 rcases h with⟨rfl,rfl,rfl⟩|⟨h0,c,rfl,ho⟩
 ·exact⟨none,0,rfl,Nat.le_refl _,by unfold maxLen;omega,fun j hj=>absurd hj (by omega)⟩
 ·exact ho.rowAt.row ho.le ho.max
theorem zet.shape {w:World}{v:Value}{n:Nat}{zs:List Value}{g:Nat}(h:zet w v n zs g):∃ R cr,v = .slice R n cr:=by
 rcases h with⟨rfl,rfl,rfl⟩|⟨h0,c,rfl,ho⟩
 ·exact⟨_,_,rfl⟩
 ·exact⟨_,_,rfl⟩
theorem zpr:Enters 132:=enters_of Tryz.func132 (by kernel_rfl) rfl
def zGP (w:World)(g:Nat)(k:Int):Prop:=w.cell? ⟨g,0,none⟩=some (.int .i64 k)∧w.cell? ⟨g,1,none⟩=some (.string (zaf k))∧w.cell? ⟨g,2,none⟩=some (.string (oneT k))
theorem zxC (w:World)(k:Int):zGP (w.alloc (.cells #[.int .i64 k,.string (zaf k),.string (oneT k)] 64)) w.heap.size k:=⟨zak w _ _ rfl,zak w _ _ rfl,zak w _ _ rfl⟩
theorem zhN {w:World}{g o:Nat}{u v:Value}{ad:Addr}(hb:ad.block≠g)(h:w.cell? ad=some v):(w.setCell ⟨g,o,none⟩ u).cell? ad=some v:=(zac w ⟨g,o,none⟩ u).cell h (by simpa using hb)
theorem zcT {w:World}{g:Nat}{u0 u1 u2 u3 v:Value}{ad:Addr}(hb:ad.block≠g)(h:w.cell? ad=some v):((((w.setCell ⟨g,0,none⟩ u0).setCell ⟨g,1,none⟩ u1).setCell ⟨g,2,none⟩ u2).setCell ⟨g,3,none⟩ u3).cell? ad=some v :=
 zhN hb (zhN hb (zhN hb (zhN hb h)))
theorem zqq {w:World}{g:Nat}{u0 u1 u2 u3:Value}{c:Array Value}{T:TypeId}(hc:c.size=4)(h:w.heap[g]? = some (.cells c T (0,0))):((((w.setCell ⟨g,0,none⟩ u0).setCell ⟨g,1,none⟩ u1).setCell ⟨g,2,none⟩ u2).setCell ⟨g,3,none⟩ u3).heap[g]? = some (.cells #[u0,u1,u2,u3] T (0,0)):=by
 rw[heap_setCell_same _ g 3 _ _ u3 (heap_setCell_same _ g 2 _ _ u2 (heap_setCell_same _ g 1 _ _ u1 (heap_setCell_same w g 0 _ _ u0 h)))]
 congr 2
 apply Array.toList_inj.1
 simp only[Array.toList_setIfInBounds];obtain⟨l⟩:=c
 match l,hc with
 | [a,b,c,d],_=>rfl
theorem zhW (w:World)(g:Nat)(u0 u1 u2 u3:Value):w.grownBy ((((w.setCell ⟨g,0,none⟩ u0).setCell ⟨g,1,none⟩ u1).setCell ⟨g,2,none⟩ u2).setCell ⟨g,3,none⟩ u3) (some g) :=
 zaa (zaa (zaa (zac _ _ _) (zac _ _ _)) (zac _ _ _)) (zac _ _ _)
theorem zkv (hk:zad k){m:Nat}:∀ {n:Nat} {A:Nat→Nat→El k},zdN (srE k hk) FitE n m A→∀ i,i<n→∀ j,j<m→FitE (zdr (srE k hk) n A i j)
 | 0,_,_,i,hi,_,_=>absurd hi (by omega)
 | n+1,A,h,0,_,j,hj=>by
  cases n with
  | zero =>
   show FitE (zaN (srE k hk) (fun J=>fstR (srE k hk) A (0+J)) (fstR (srE k hk) A) (zdr (srE k hk) 0 (putR (srE k hk) A)) 0 j);rw[zhV];exact h.2.1 (0+j) (by omega)
  | succ n=>exact(h.2.2.2.2 n (by omega) j hj).2
 | n+1,A,h,i+1,hi,j,hj=>zkv hk h.2.2.2.1 i (by omega) j hj
theorem zqY (hk:zad k)(m:Nat)(hm:1≤m):∀ (n:Nat) (A:Nat→Nat→El k) (gl ol c:Nat) (rs:Nat→Value) (w:World),n+m≤10000→n≤c→c≤maxLen→zam w gl ol n rs→(∀ i,i<n→RowG w (rs i) (n+m) (A i))→(∀ i,i<n→∀ j,j<n+m→FitE (A i j)) →
  Calls Tryz.prog 75 #[calV k,.slice (some ⟨gl,ol,none⟩) n c] w (zbn (zdN (srE k hk) FitE n m A) (zpq w.heap.size n m (zdr (srE k hk) n A)) w):=by
 intro n
 induction n with
 | zero =>
  intro A gl ol c rs w hnm h1 h2 h3 hr hf;clear hr hf h1 h2 h3;unfold calV;go_enter Tryz.func75,Tryz.ntmps75;go_wp2;go_ret;exact .inl ⟨trivial,_,rfl,⟨[],0,.inl ⟨rfl,rfl,rfl⟩,fun h=>absurd h (by omega),fun i hi=>absurd hi (by omega)⟩,zGA _ _ none⟩
 | succ n ih =>
  intro A gl ol c rs w hnm h1 h2 h3 hr hf;have hc0:w.cell? ⟨gl,ol,none⟩=some (rs 0):=h3.2 0 (by omega);obtain⟨g0,o0,cc0,hr0,hw1,hw2,hrow0⟩:=hr 0 (by omega);have hm':n+1+m=(n+m)+1:=by omega
  rw[hr0,hm'] at hc0;rw[hm'] at hw1 hrow0;have hsol:=fun(w1:World) (hg:w.grownBy w1 none)=>zsN hk (n+m) g0 o0 cc0 (A 0) w1 (by omega) (by omega) (hrow0.grown hg) hw1 hw2 (fun j hj=>hf 0 (by omega) j (by omega));have x:=zxC w k;have hW:w.grownBy (w.alloc (.cells #[.int .i64 k,.string (zaf k),.string (oneT k)] 64)) none:=zGA _ _ none;have hWs:(w.alloc (.cells #[.int .i64 k,.string (zaf k),.string (oneT k)] 64)).heap.size=w.heap.size+1:=by simp
  have xa:=hW.cell hc0 (by simp);have i1:¬ ((n:Int)+1=0):=by omega
  have i2:(0:Int)<(n:Int)+1:=by omega
  have HS:=zHd hsol;have HL:=zHd (zAI h1 (zAI h2 h3));have HR:=zHd hr;have HF:=zHd hf;have HN:=zHd (zAI hnm hm);have HX:=zHd (zAI x (zAI hW (zAI hWs xa)));clear hsol h1 h2 h3 hr hf hnm hm hr0 hw1 hw2 hrow0 x hW hWs xa hc0;unfold calV at *;go_enter Tryz.func75,Tryz.ntmps75;go_upto_region 3 with(fail)
  obtain⟨⟨x0,x1,x2⟩,hW,hWs,xa⟩:=HX.out;generalize w.alloc (.cells #[.int .i64 k,.string (zaf k),.string (oneT k)] 64)=W at *;have d0:W.drew.cell? ⟨w.heap.size,0,none⟩=some (.int .i64 k):=x0;have d1:W.drew.cell? ⟨w.heap.size,1,none⟩=some (.string (zaf k)):=x1;have d2:W.drew.cell? ⟨w.heap.size,2,none⟩=some (.string (oneT k)):=x2;have da:W.drew.cell? ⟨gl,ol,none⟩=some (.slice (some ⟨g0,o0,none⟩) (n+m+1) cc0):=xa;have hgA:w.grownBy W.drew none:=zaa hW (zae W none);have hgB:w.grownBy (W.drew.alloc (.cells #[.int .i64 0,.string ⟨#[]⟩,.string ⟨#[]⟩,.slice none 0 0] 124)) none:=zaa hgA (zGA _ _ none);have hadb:gl≠w.heap.size+1:=by have:=HL.out.2.2.1;omega
  have hadw:∀ W5:World,W.drew.grownBy W5 none→gl≠W5.heap.size:=fun W5 h5=>by have:=HL.out.2.2.1;have:=h5.size;have:W.heap.size=w.heap.size+1:=hWs;simp at *;omega
  have hwsz:∀ W5:World,W.drew.grownBy W5 none→w.heap.size≠W5.heap.size:=fun W5 h5=>by have:=h5.size;have:W.heap.size=w.heap.size+1:=hWs;simp at *;omega
  have HADB:=zHd (zAI hadb (zAI hadw hwsz));clear hadb hadw hwsz
  have hnb:(W.drew.alloc (.cells #[.int .i64 0,.string ⟨#[]⟩,.string ⟨#[]⟩,.slice none 0 0] 124)).heap[w.heap.size+1]? = some (.cells #[.int .i64 0,.string ⟨#[]⟩,.string ⟨#[]⟩,.slice none 0 0] 124 (0,0)):=by
   rw[← hWs];exact zau W.drew (.cells #[.int .i64 0,.string ⟨#[]⟩,.string ⟨#[]⟩,.slice none 0 0] 124)
  have b0:(W.drew.alloc (.cells #[.int .i64 0,.string ⟨#[]⟩,.string ⟨#[]⟩,.slice none 0 0] 124)).cell? ⟨w.heap.size,0,none⟩=some (.int .i64 k):=(zGA W.drew _ none).cell d0 (by simp);have b1:(W.drew.alloc (.cells #[.int .i64 0,.string ⟨#[]⟩,.string ⟨#[]⟩,.slice none 0 0] 124)).cell? ⟨w.heap.size,1,none⟩=some (.string (zaf k)):=(zGA W.drew _ none).cell d1 (by simp);have b2:(W.drew.alloc (.cells #[.int .i64 0,.string ⟨#[]⟩,.string ⟨#[]⟩,.slice none 0 0] 124)).cell? ⟨w.heap.size,2,none⟩=some (.string (oneT k)):=(zGA W.drew _ none).cell d2 (by simp);have ba:(W.drew.alloc (.cells #[.int .i64 0,.string ⟨#[]⟩,.string ⟨#[]⟩,.slice none 0 0] 124)).cell? ⟨gl,ol,none⟩=some (.slice (some ⟨g0,o0,none⟩) (n+m+1) cc0):=(zGA W.drew _ none).cell da (by simp);have HGA:=zHd hgA;have HGB:=zHd hgB;have HNB:=zHd hnb;clear hgA hgB hnb hW x0 x1 x2 xa
  go_cut [5] from 11 to 15 (fun pv wx=>zvJ hk (n+m) (A 0)∧∃ gf gs,pv = .pointer (some ⟨gf,0,none⟩)∧w.heap.size<gf∧w.heap.size<gs∧gs≠gf∧wx.heap[gf]? = some (.cells #[.int .i64 k,.string (zaf k),.string (oneT k),.slice (some ⟨gs,0,none⟩) (n+m) (n+m)] 124 (0,0))∧zam wx gs 0 (n+m) (txs (fstF hk (A 0)))∧W.grownBy wx none)
  case first =>
   go_region_held2 (fun W'=>W'.cell? ⟨w.heap.size,0,none⟩=some (.int .i64 k)∧W'.cell? ⟨w.heap.size,1,none⟩=some (.string (zaf k))∧W'.cell? ⟨w.heap.size,2,none⟩=some (.string (oneT k))∧W'.cell? ⟨gl,ol,none⟩=some (.slice (some ⟨g0,o0,none⟩) (n+m+1) cc0)) (first|exact⟨d0,d1,d2,da⟩|exact⟨b0,b1,b2,ba⟩|exact S3|exact S4|go_keep)
    (first
    | (go_at_call 131;refine(HS.out W.drew HGA.out).mono ?_;rintro e w5 (⟨hp,v,rfl,⟨gs,rfl,hgs,hr5⟩,hg5⟩|⟨hn,rfl,hg5⟩);rotate_left 1;(exact⟨rfl,.inr ⟨fun h=>hn ⟨h.1,h.2.1⟩,rfl,zaa HGA.out hg5⟩⟩);have s0:=hg5.cell d0 (by simp);have s1:=hg5.cell d1 (by simp);have s2:=hg5.cell d2 (by simp);have sa:=hg5.cell da (by simp);have hal:=zGA w5 (.cells #[.int .i64 0,.string ⟨#[]⟩,.string ⟨#[]⟩,.slice none 0 0] 124) none;have S3:=zAI (hal.cell s0 (by simp)) (zAI (hal.cell s1 (by simp)) (zAI (hal.cell s2 (by simp)) (hal.cell sa (by simp))));have S4:=zAI (zcT (u0 := .int .i64 k) (u1 := .string (zaf k)) (u2 := .string (oneT k)) (u3 := .slice (some ⟨gs,0,none⟩) (n+m) (n+m)) (HADB.out.2.2 w5 hg5) S3.1) (zAI (zcT (u0 := .int .i64 k) (u1 := .string (zaf k)) (u2 := .string (oneT k)) (u3 := .slice (some ⟨gs,0,none⟩) (n+m) (n+m)) (HADB.out.2.2 w5 hg5) S3.2.1) (zAI (zcT (u0 := .int .i64 k) (u1 := .string (zaf k)) (u2 := .string (oneT k)) (u3 := .slice (some ⟨gs,0,none⟩) (n+m) (n+m)) (HADB.out.2.2 w5 hg5) S3.2.2.1) (zcT (u0 := .int .i64 k) (u1 := .string (zaf k)) (u2 := .string (oneT k)) (u3 := .slice (some ⟨gs,0,none⟩) (n+m) (n+m)) (HADB.out.2.1 w5 hg5) S3.2.2.2)));have hx5:=zau w5 (.cells #[.int .i64 0,.string ⟨#[]⟩,.string ⟨#[]⟩,.slice none 0 0] 124);have q0:=cell_of_row _ _ 0 _ _ (0,0) hx5;have q1:=cell_of_row _ _ 1 _ _ (0,0) hx5;have q2:=cell_of_row _ _ 2 _ _ (0,0) hx5;have q3:=cell_of_row _ _ 3 _ _ (0,0) hx5;have z0:=frozen_of_row _ w5.heap.size 0 _ _ hx5;have z1:=frozen_of_row _ w5.heap.size 1 _ _ hx5;have z2:=frozen_of_row _ w5.heap.size 2 _ _ hx5;have z3:=frozen_of_row _ w5.heap.size 3 _ _ hx5;have H5:=zHd (zAI hp (zAI hgs (zAI hr5 (zAI hg5 hx5))));clear hp hgs hr5 hg5 hx5;unfold solV)
    | (go_at_call 131;refine(HS.out (W.drew.alloc (.cells #[.int .i64 0,.string ⟨#[]⟩,.string ⟨#[]⟩,.slice none 0 0] 124)) HGB.out).mono ?_;rintro e w5 (⟨hp,v,rfl,⟨gs,rfl,hgs,hr5⟩,hg5⟩|⟨hn,rfl,hg5⟩);rotate_left 1;(exact⟨rfl,.inr ⟨fun h=>hn ⟨h.1,h.2.1⟩,rfl,zaa HGB.out hg5⟩⟩);have s0:=hg5.cell b0 (by simp);have s1:=hg5.cell b1 (by simp);have s2:=hg5.cell b2 (by simp);have sa:=hg5.cell ba (by simp);have S4:=zAI (zcT (u0 := .int .i64 k) (u1 := .string (zaf k)) (u2 := .string (oneT k)) (u3 := .slice (some ⟨gs,0,none⟩) (n+m) (n+m)) (g:=w.heap.size+1) (by simp) s0) (zAI (zcT (u0 := .int .i64 k) (u1 := .string (zaf k)) (u2 := .string (oneT k)) (u3 := .slice (some ⟨gs,0,none⟩) (n+m) (n+m)) (g:=w.heap.size+1) (by simp) s1) (zAI (zcT (u0 := .int .i64 k) (u1 := .string (zaf k)) (u2 := .string (oneT k)) (u3 := .slice (some ⟨gs,0,none⟩) (n+m) (n+m)) (g:=w.heap.size+1) (by simp) s2) (zcT (u0 := .int .i64 k) (u1 := .string (zaf k)) (u2 := .string (oneT k)) (u3 := .slice (some ⟨gs,0,none⟩) (n+m) (n+m)) HADB.out.1 sa)));have hx5:=(hg5.block (w.heap.size+1) (Array.getElem?_eq_some_iff.1 HNB.out).1 (by simp)).trans HNB.out;have q0:=cell_of_row w5 _ 0 _ _ (0,0) hx5;have q1:=cell_of_row w5 _ 1 _ _ (0,0) hx5;have q2:=cell_of_row w5 _ 2 _ _ (0,0) hx5;have q3:=cell_of_row w5 _ 3 _ _ (0,0) hx5;have z0:=frozen_of_row w5 _ 0 _ _ hx5;have z1:=frozen_of_row w5 _ 1 _ _ hx5;have z2:=frozen_of_row w5 _ 2 _ _ hx5;have z3:=frozen_of_row w5 _ 3 _ _ hx5;have H5:=zHd (zAI hp (zAI hgs (zAI hr5 (zAI hg5 hx5))));clear hp hgs hr5 hg5 hx5;unfold solV))
   ·have hsz:W.heap.size=w.heap.size+1:=hWs
    have hs5:=H5.out.2.2.2.1.size;have hgs:=H5.out.2.1;have hlt:=H5.out.2.2.1.1;have hgd:=H5.out.2.2.2.1;go_wp2_with (fail)
    go_meet
    case rel=>exact⟨H5.out.1,w5.heap.size,gs,rfl,by simp at hs5;omega,by simp at hgs;omega,by omega,zau w5 _,H5.out.2.2.1.grown (zGA _ _ none),zaa (zaa (zae W none) hgd) (zGA _ _ none)⟩
   ·have hsz:W.heap.size=w.heap.size+1:=hWs
    have hgs:=H5.out.2.1;have hgd:=H5.out.2.2.2.1;go_wp2_with (fail)
    go_meet
    case rel=>exact⟨H5.out.1,w.heap.size+1,gs,rfl,by omega,by simp at hgs;omega,by simp at hgs;omega,zqq rfl H5.out.2.2.2.2,H5.out.2.2.1.grownB (zhW _ _ _ _ _ _) (by simp at hgs;omega),zai (zaa (zaa (zae W none) (zGA _ _ none)) hgd) (zhW _ _ _ _ _ _) (by omega)⟩
  case rest =>
   obtain⟨hfst,gf,gs,rfl,hgf,hgs,hne,hbf,hrs,hgW⟩:=hcut;generalize wc=w3 at *;have hw3:w.grownBy w3 none:=zaa HX.out.2.1 hgW;have c0:=hgW.cell HX.out.1.1 (by simp);have c1:=hgW.cell HX.out.1.2.1 (by simp);have c2:=hgW.cell HX.out.1.2.2 (by simp);have e0:=cell_of_row w3 gf 0 _ _ (0,0) hbf;have e1:=cell_of_row w3 gf 1 _ _ (0,0) hbf;have e2:=cell_of_row w3 gf 2 _ _ (0,0) hbf;have e3:=cell_of_row w3 gf 3 _ _ (0,0) hbf;have hgfl:gf<w3.heap.size:=(Array.getElem?_eq_some_iff.1 hbf).1;have HB:=zHd (zAI hfst (zAI hgf (zAI hgs (zAI hne (zAI hbf (zAI hrs (zAI hw3 hgfl)))))));clear hfst hgf hgs hne hbf hrs hw3 hgW hgfl HNB HGA HGB HADB d0 d1 d2 da b0 b1 b2 ba hWs;obtain⟨A1,hA1⟩:∃ A1,(if c=1 then some (⟨gl,ol,none⟩:Addr) else some ⟨gl,ol+1,none⟩)=A1:=⟨_,rfl⟩
   have hl3:RowR w3 (.slice A1 n (c - 1)) n (fun i=>rs (i+1)):=⟨A1,c - 1,rfl,by have:=HL.out.1;omega,by have:=HL.out.2.1;omega,fun j hj=>by
    have hcn:¬ c=1:=by have:=HL.out.1;omega
    rw[if_neg hcn] at hA1;have hr3:=HL.out.2.2.grown HB.out.2.2.2.2.2.2.1;refine⟨_,hA1.symm,hr3.1,?_⟩;rw[zbA,Nat.add_assoc,Nat.add_comm 1 j];exact hr3.2 (j+1) (by omega)⟩
   have hmapc:=zhU 132 zpr #[solV k gs 0 (n+m) (n+m)] #[] n (fun i=>rs (i+1)) (n+m) (fun i=>zcL (srE k hk) FitE 1 (n+m) (fun j=>A (i+1) (j+1)) (fun _=>A (i+1) 0) (fun _=>fstR (srE k hk) A)) (fun i=>txs (putR (srE k hk) A i)) (.slice A1 n (c - 1)) w3.drew (by have:=HN.out;omega) (hl3.grown (zae _ none)) (fun i hi w' hw'=>by
    obtain⟨g1,o1,cc1,hr1,h1,h2,h3⟩:=HR.out (i+1) (by omega);rw[hm'] at h1 h3;have hg1:g1<w3.drew.heap.size:=Nat.lt_of_lt_of_le h3.1 HB.out.2.2.2.2.2.2.1.size;have hgw':w.grownBy w' none:=zaa (zaa HB.out.2.2.2.2.2.2.1 (zae _ none)) hw';have h:=zuA hk (n+m) g1 o1 cc1 gs 0 (n+m) (A (i+1)) (fstF hk (A 0)) w' (by have:=HN.out;omega) (by have:=HN.out;omega) (h3.grown hgw') h1 h2 ((HB.out.2.2.2.2.2.1.grown (zae _ none)).grown hw') (Nat.le_refl _) (by have:=HN.out;unfold maxLen;omega) (fun j hj=>HF.out (i+1) (by omega) j (by omega)) (fun j hj=>HB.out.1.2 j hj);show Calls Tryz.prog _ #[solV k gs 0 (n+m) (n+m),rs (i+1)] w' _;rw[hr1,hm'];refine h.mono (fun e w2 h => ?_);rcases h with⟨hp,v,e1,⟨g,o,c,e2,q1,q2,q3,q4⟩,q5⟩|⟨hp,q⟩
    ·refine .inl ⟨hp,v,e1,⟨g,o,c,e2,q1,q2,?_,q4⟩,q5⟩
     rcases q3 with q3|q3
     ·left;omega
     ·right;exact q3
    ·exact .inr ⟨hp,q⟩)
   have helim:=fun(w5:World) (zs:List Value) (hrows:zdU w5 w3.drew.heap.size w3.drew.heap.size n (n+m) zs (fun i=>txs (putR (srE k hk) A i))) (hp:∀ i,i<n→zcL (srE k hk) FitE 1 (n+m) (fun j=>A (i+1) (j+1)) (fun _=>A (i+1) 0) (fun _=>fstR (srE k hk) A)) =>
    ih (putR (srE k hk) A) w3.drew.heap.size 0 n (fun j=>zs.getD j (.slice none 0 0)) w5 (by have:=HN.out;omega) (Nat.le_refl _) (by have:=HN.out;unfold maxLen;omega) hrows.2.1 (fun i hi=>by
     obtain⟨gi,o,c,h1,h2,h3,h4,h5⟩:=hrows.2.2 i hi;exact⟨gi,o,c,h1,h2,h3,h5⟩) (fun i hi j hj=>(hp i hi 0 (by omega) j hj).2)
   have hgd3:w.grownBy w3.drew none:=zaa HB.out.2.2.2.2.2.2.1 (zae _ none);have HM:=zHd hmapc;have HE:=zHd helim;have HG3:=zHd hgd3;clear hmapc hl3 helim ih hgd3;have d0:w3.drew.cell? ⟨w.heap.size,0,none⟩=some (.int .i64 k):=c0;have d1:w3.drew.cell? ⟨w.heap.size,1,none⟩=some (.string (zaf k)):=c1;have d2:w3.drew.cell? ⟨w.heap.size,2,none⟩=some (.string (oneT k)):=c2;have f0:w3.drew.cell? ⟨gf,0,none⟩=some (.int .i64 k):=e0;have f1:w3.drew.cell? ⟨gf,1,none⟩=some (.string (zaf k)):=e1;have f2:w3.drew.cell? ⟨gf,2,none⟩=some (.string (oneT k)):=e2;have f3:w3.drew.cell? ⟨gf,3,none⟩=some (.slice (some ⟨gs,0,none⟩) (n+m) (n+m)):=e3;clear c0 c1 c2 e0 e1 e2 e3;have j1:(1:Int)≤(n:Int)+1:=by omega
   have j2:(n:Int)+1≤(c:Int):=by have:=HL.out.1;omega
   have hmf:∀ (fn:Fn) (first cap:Array Value) (w:World),(Instr.makeFunc fn first cap).run Tryz.prog w = .ok (.func fn first cap) w:=fun _ _ _ _=>rfl;unfold solV at HM;go_upto_region 4 with(fail)
   go_region_held2 (fun W'=>W'.cell? ⟨w.heap.size,0,none⟩=some (.int .i64 k)∧W'.cell? ⟨w.heap.size,1,none⟩=some (.string (zaf k))∧W'.cell? ⟨w.heap.size,2,none⟩=some (.string (oneT k))∧W'.cell? ⟨gf,0,none⟩=some (.int .i64 k)∧W'.cell? ⟨gf,1,none⟩=some (.string (zaf k))∧W'.cell? ⟨gf,2,none⟩=some (.string (oneT k))∧W'.cell? ⟨gf,3,none⟩=some (.slice (some ⟨gs,0,none⟩) (n+m) (n+m))) (first|exact⟨d0,d1,d2,f0,f1,f2,f3⟩|exact S5|exact S6|go_keep)
    (first
    | (go_at_call 78;refine HM.out.mono ?_;rintro e w5 (⟨hp,v,rfl,⟨zs,rfl,hzs⟩,hg5⟩|⟨hn,rfl,hg5⟩);rotate_left 1;(exact⟨rfl,.inr ⟨fun h=>hn h.2.2.1,rfl,zaa HG3.out hg5⟩⟩);have S5:=zAI (hg5.cell d0 (by simp)) (zAI (hg5.cell d1 (by simp)) (zAI (hg5.cell d2 (by simp)) (zAI (hg5.cell f0 (by simp)) (zAI (hg5.cell f1 (by simp)) (zAI (hg5.cell f2 (by simp)) (hg5.cell f3 (by simp)))))));have H5:=zHd (zAI hp (zAI hzs hg5));clear hp hzs hg5)
    | (go_at_call 75;refine(HE.out w5 zs H5.out.2.1 H5.out.1).mono ?_;rintro e w6 (⟨hp6,v6,rfl,⟨ys,gy,hres,hgy,hrows⟩,hg6⟩|⟨hn,rfl,hg6⟩);rotate_left 1;(exact⟨rfl,.inr ⟨fun h=>hn h.2.2.2.1,rfl,zaa (zaa HG3.out H5.out.2.2) hg6⟩⟩);obtain⟨R6,cr6,rfl⟩:=hres.shape;have S6:=zAI (hg6.cell S5.1 (by simp)) (zAI (hg6.cell S5.2.1 (by simp)) (zAI (hg6.cell S5.2.2.1 (by simp)) (zAI (hg6.cell S5.2.2.2.1 (by simp)) (zAI (hg6.cell S5.2.2.2.2.1 (by simp)) (zAI (hg6.cell S5.2.2.2.2.2.1 (by simp)) (hg6.cell S5.2.2.2.2.2.2 (by simp)))))));have H6:=zHd (zAI hp6 (zAI hres (zAI hgy (zAI hrows hg6))));clear hp6 hres hgy hrows hg6))
   all_goals
    have hgd6:w.grownBy w6.drew none:=zaa (zaa (zaa HG3.out H5.out.2.2) H6.out.2.2.2.2) (zae _ none);have hg36:w3.grownBy w6.drew none:=zaa (zaa (zaa (zae _ none) H5.out.2.2) H6.out.2.2.2.2) (zae _ none);have hrs6:zam w6.drew gs 0 (n+m) (txs (fstR (srE k hk) A)):=HB.out.2.2.2.2.2.1.grown hg36
    have hrn6:zam w6.drew gs n m (txs (fun J=>fstR (srE k hk) A (n+J))):=⟨hrs6.1,fun j hj=>by
     have:=hrs6.2 (n+j) (by omega);rw[Nat.zero_add] at this;exact this⟩
    have hsum:=zmk hk n m gs n m (fun J=>fstR (srE k hk) A (n+J)) (fstR (srE k hk) A) (zdr (srE k hk) n (putR (srE k hk) A)) (.slice (some ⟨gs,0,none⟩) n (n+m)) (.slice R6 n cr6) (fun j=>ys.getD j (.slice none 0 0)) w6.drew (by have:=HN.out;omega) (by have:=HN.out;omega)
     hrn6 (Nat.le_refl _) (by have:=HN.out;unfold maxLen;omega) ((hrs6.head (m:=n) (by omega)).row (by omega) (by have:=HN.out;unfold maxLen;omega)) (fun j hj=>HB.out.1.2 j (by omega)) (fun j hj=>HB.out.1.2 (n+j) (by omega))
     ((H6.out.2.1.grown (zae _ none)).rowR) (fun i hi=>by
       obtain⟨gi,o,ci,h1,h2,h3,h4,h5⟩:=H6.out.2.2.2.1 i hi;show RowR _ (ys.getD i (.slice none 0 0)) _ _;rw[h1];exact(h5.grown (zae _ none)).row h2 h3) (fun i hi j hj=>zkv hk H6.out.1 i hi j hj)
    have HSUM:=zHd hsum;have HGD:=zHd hgd6;clear hsum hrs6 hrn6 hg36 hgd6;obtain⟨t0,t1,t2,_,_,_,t3⟩:=S6;have d6:w6.drew.cell? ⟨w.heap.size,0,none⟩=some (.int .i64 k):=t0;have d7:w6.drew.cell? ⟨w.heap.size,1,none⟩=some (.string (zaf k)):=t1;have d8:w6.drew.cell? ⟨w.heap.size,2,none⟩=some (.string (oneT k)):=t2;have d9:w6.drew.cell? ⟨gf,3,none⟩=some (.slice (some ⟨gs,0,none⟩) (n+m) (n+m)):=t3;have l1:¬ m=0:=by have:=HN.out;omega
    have l2:(n:Int)≤(n:Int)+(m:Int):=by omega
    have l3:(0:Int)≤(n:Int):=by omega
    have l4:n≤n+m:=by omega
    unfold calV at HSUM;clear S5 d0 d1 d2 f0 f1 f2 f3 t0 t1 t2 t3 HM HE HG3 HL HR HX HS;go_upto_region 5 with(fail)
    go_region_held2 (fun W'=>W'.cell? ⟨w.heap.size,0,none⟩=some (.int .i64 k)∧W'.cell? ⟨w.heap.size,1,none⟩=some (.string (zaf k))∧W'.cell? ⟨w.heap.size,2,none⟩=some (.string (oneT k))∧W'.cell? ⟨gf,3,none⟩=some (.slice (some ⟨gs,0,none⟩) (n+m) (n+m))) (first|exact⟨d6,d7,d8,d9⟩|exact S7|go_keep)
     (first
     | (go_at_call 82;refine HSUM.out.mono ?_;rintro e w7 (⟨hp,v,rfl,⟨gv,ov,cv,rfl,hv1,hv2,hv3,hv4⟩,hg7⟩|⟨hn,rfl,hg7⟩);rotate_left 1;(exact⟨rfl,.inr ⟨fun h=>hn h.2.2.2.2,rfl,zaa HGD.out hg7⟩⟩);have S7:=zAI (hg7.cell d6 (by simp)) (zAI (hg7.cell d7 (by simp)) (zAI (hg7.cell d8 (by simp)) (hg7.cell d9 (by simp))));have H7:=zHd (zAI hp (zAI hv1 (zAI hv2 (zAI hv3 (zAI hv4 hg7)))));clear hp hv1 hv2 hv3 hv4 hg7))
    all_goals
     go_wp2_with (fail);have hal:=zGA w7 (.cells #[.slice (some ⟨gv,ov,none⟩) m cv] 33) none;have hres8:=(((H6.out.2.1.grown (zae _ none)).grown H7.out.2.2.2.2.2).grown hal)
     refine(zuF n gy w7.heap.size (.slice R6 n cr6) ys (.slice (some ⟨gv,ov,none⟩) m cv) 33 (w7.alloc (.cells #[.slice (some ⟨gv,ov,none⟩) m cv] 33)) (by have:=HN.out;omega) hres8 (fun h0=>by have:=(((H6.out.2.1.grown (zae _ none)).grown H7.out.2.2.2.2.2)).lt h0;omega) (zau w7 _) rfl (fun z hz=>by
      obtain⟨i,hi,rfl⟩:=List.getElem_of_mem hz;obtain⟨gi,o,ci,h1,_⟩:=H6.out.2.2.2.1 i (by have:=H6.out.2.1.len;omega);rw[List.getD_eq_getElem?_getD,List.getElem?_eq_getElem hi] at h1;simp at h1;rw[h1];rfl)).mono ?_
     rintro e w9 ⟨g',c',rfl,hown,hg9⟩;have H9:=zHd (zAI hown hg9);have HAL:=zHd hal;have HR8:=zHd hres8;clear hown hg9 hal hres8;go_wp2;go_ret;obtain⟨hown,hg9⟩:=H9.out;have hsz3:=HB.out.2.2.2.2.2.2.1.size;have hsz5:=H5.out.2.2.size;have hsz6:=H6.out.2.2.2.2.size;have hsz7:=H7.out.2.2.2.2.2.size;have hgd7:w.grownBy (w7.alloc (.cells #[.slice (some ⟨gv,ov,none⟩) m cv] 33)) none:=zaa (zaa HGD.out H7.out.2.2.2.2.2) HAL.out;have hgsl:gs<w3.heap.size:=HB.out.2.2.2.2.2.1.1;have hvl:gv<w7.heap.size:=H7.out.2.2.2.2.1.1;have h8s:(w7.alloc (.cells #[.slice (some ⟨gv,ov,none⟩) m cv] 33)).heap.size=w7.heap.size+1:=by simp
     have e3:w3.drew.heap.size=w3.heap.size:=rfl;have e6:w6.drew.heap.size=w6.heap.size:=rfl;have hv8:zam (w7.alloc (.cells #[.slice (some ⟨gv,ov,none⟩) m cv] 33)) gv ov m (txs (zdr (srE k hk) (n+1) A 0)):=H7.out.2.2.2.2.1.grown HAL.out
     have hr8:∀ i,i<n→∃ gi o ci,ys.getD i (.slice none 0 0) = .slice (some ⟨gi,o,none⟩) m ci∧m≤ci∧ci≤maxLen∧gi≠gy∧zam (w7.alloc (.cells #[.slice (some ⟨gv,ov,none⟩) m cv] 33)) gi o m (txs (zdr (srE k hk) (n+1) A (i+1)))∧gi<w6.heap.size:=fun i hi=>by
      obtain⟨gi,o,ci,h1,h2,h3,h4,h5⟩:=H6.out.2.2.2.1 i hi;exact⟨gi,o,ci,h1,h2,h3,h4,((h5.grown (zae _ none)).grown H7.out.2.2.2.2.2).grown HAL.out,h5.1⟩
     have hfits:zdN (srE k hk) FitE (n+1) m A:=⟨HB.out.1.1,HB.out.1.2,H5.out.1,H6.out.1,H7.out.1⟩
     have hvg:0<n→gv≠gy:=fun h0=>by
      have h1:=H6.out.2.2.1 h0;have h2:=H6.out.2.1.lt h0;rcases H7.out.2.2.2.1 with h|h <;> omega
     rcases hg9 with⟨rfl,h0,hg9⟩|⟨hge,hg9⟩
     ·have h1:=H6.out.2.2.1 h0
      have hB:w.heap.size≤g':=by omega
      refine .inl ⟨hfits,_,rfl,⟨_,g',.inr ⟨by omega,c',rfl,hown⟩,fun _=>hB,fun i hi => ?_⟩,zai hgd7 hg9 hB⟩;cases i with
      | zero=>exact⟨gv,ov,cv,rfl,H7.out.2.1,H7.out.2.2.1,hvg h0,hv8.grownB hg9 (hvg h0)⟩
      | succ i =>
       obtain⟨gi,o,ci,h1,h2,h3,h4,h5,h6⟩:=hr8 i (by omega);exact⟨gi,o,ci,h1,h2,h3,h4,h5.grownB hg9 h4⟩
     ·refine .inl ⟨hfits,_,rfl,⟨_,g',.inr ⟨by omega,c',rfl,hown⟩,fun _=>by omega,fun i hi => ?_⟩,zaa hgd7 hg9⟩
      cases i with
      | zero=>exact⟨gv,ov,cv,rfl,H7.out.2.1,H7.out.2.2.1,by omega,hv8.grown hg9⟩
      | succ i =>
       obtain⟨gi,o,ci,h1,h2,h3,h4,h5,h6⟩:=hr8 i (by omega);exact⟨gi,o,ci,h1,h2,h3,by omega,h5.grown hg9⟩
end
open Go.RowKit
section
variable {k:Int}
def MatV (w:World)(v:Value)(n m:Nat)(F:Nat→Nat→El k):Prop:=∃ rs:Nat→Value,RowR w v n rs∧∀ i,i<n→RowG w (rs i) m (F i)
theorem MatV.grown {w w':World}{v:Value}{n m:Nat}{F:Nat→Nat→El k}(h:MatV w v n m F)(hg:w.grownBy w' none):MatV w' v n m F:=by
 obtain⟨rs,h1,h2⟩:=h;exact⟨rs,h1.grown hg,fun i hi=>(h2 i hi).grown hg⟩
theorem zpq.mat {w':World}{B n m:Nat}{F:Nat→Nat→El k}{v:Value}(h:zpq B n m F v w'):MatV w' v n m F:=by
 obtain⟨zs,g,h1,h2,h3⟩:=h
 exact⟨_,h1.rowR,fun i hi=>by
  obtain⟨gi,o,ci,e1,e2,e3,e4,e5⟩:=h3 i hi;exact⟨gi,o,ci,e1,e2,e3,e5⟩⟩
theorem zdU.mat {w:World}{H g n m:Nat}{zs:List Value}{F:Nat→Nat→El k}(h:zdU w H g n m zs (fun i=>txs (F i)))(hn:n≤10000):MatV w (.slice (some ⟨g,0,none⟩) n n) n m F :=
 ⟨fun j=>zs.getD j (.slice none 0 0),h.2.1.row (Nat.le_refl _) (by unfold maxLen;omega),fun i hi=>by
  obtain⟨gi,o,c,h1,h2,h3,h4,h5⟩:=h.2.2 i hi;exact⟨gi,o,c,h1,h2,h3,h5⟩⟩
theorem zqZ:Enters 77:=enters_of Tryz.func77 (by kernel_rfl) rfl
theorem zra:Enters 79:=enters_of Tryz.func79 (by kernel_rfl) rfl
theorem zrb:Enters 81:=enters_of Tryz.func81 (by kernel_rfl) rfl
theorem zrc:Enters 85:=enters_of Tryz.func85 (by kernel_rfl) rfl
theorem zDC (A b:Nat→Nat→El k)(n i j:Nat):(Value.string (if j<n then tx (A i j) else tx (b i (j - n))))=txs (augM A b n i) j:=by
 unfold txs augM
 split <;> rfl
theorem zmv (hk:zad k)(f:Nat→El k)(κ:Nat→Nat):∀ t,(∀ s,s<t→FitE (mrgP hk f κ (s+1) (κ s)))→∀ d,FitE (mrgP hk f κ t d)
 | 0,_,d=>zbR hk
 | t+1,h,d=>by
  by_cases e:d=κ t
  ·subst e;exact h t (by omega)
  ·rw[zml hk f κ t d e];exact zmv hk f κ t (fun s hs=>h s (by omega)) d
theorem zjk (hk:zad k){m:Nat}:∀ {s n:Nat} {A b:Nat→Nat→El k},n≤s→SolveFits (srE k hk) FitE s n m A b→∀ i,i<n→∀ j,j<m→FitE (solveF (srE k hk) s n A b i j)
 | 0,n,A,b,hn,h,i,hi,j,hj=>absurd hi (by omega)
 | s+1,n,A,b,hn,h,i,hi,j,hj=>by
  unfold solveF;unfold SolveFits at h
  by_cases hk2:(repR n A).length=n
  ·rw[if_pos hk2] at h ⊢
   exact zkv hk h i hi j hj
  ·rw[if_neg hk2] at h ⊢
   exact h.2.2.2 i hi j hj
structure zfI (w:World)(n m:Nat)(A b:Nat→Nat→El k)(av bv:Value):Prop where
 ma:MatV w av n n A
 mb:MatV w bv n m b
 fa:∀ i,i<n→∀ j,j<n→FitE (A i j)
 fb:∀ i,i<n→∀ j,j<m→FitE (b i j)
theorem zfI.grown {w w':World}{n m:Nat}{A b:Nat→Nat→El k}{av bv:Value}(h:zfI w n m A b av bv)(hg:w.grownBy w' none):zfI w' n m A b av bv:=⟨h.ma.grown hg,h.mb.grown hg,h.fa,h.fb⟩
def zkw (hk:zad k)(s n m:Nat)(A b:Nat→Nat→El k)(w:World)(e:Ending)(w':World):Prop:=zbn (SolveFits (srE k hk) FitE s n m A b) (fun v w'=>MatV w' v n m (solveF (srE k hk) s n A b)) w e w'
theorem zps (n m:Nat)(hnm:n+m≤10000)(hm:1≤m)(A b:Nat→Nat→El k)(av bv:Value)(w:World)(h:zfI w n m A b av bv) :
  Calls Tryz.prog 76 #[av,bv,.func (.func 77) #[] #[]] w fun e w'=>∃ zs,e = .returned (.slice (some ⟨w.heap.size,0,none⟩) n n)∧zdU w' w.heap.size w.heap.size n (n+m) zs (fun i=>txs (augM A b n i))∧w.grownBy w' none:=by
 obtain⟨ra,ha1,ha2⟩:=h.ma;obtain⟨rb,hb1,hb2⟩:=h.mb
 have hc:=zqT 77 zqZ #[] #[] n n ra rb (n+m) (fun _=>True) (fun i=>txs (augM A b n i)) av bv w (by omega) ha1 hb1 (Nat.le_refl _) (fun i hi w' hw'=>by
  have hj:=zuC n m (ra i) (rb i) (fun j=>tx (A i j)) (fun j=>tx (b i j)) w' (by omega) (by omega) (by omega) (by omega) ((ha2 i hi).grown hw').row ((hb2 i hi).grown hw').row;refine hj.mono (fun e w2 hq => ?_);obtain⟨g,c,rfl,h1,h2,h3,h4,h5⟩:=hq;refine .inl ⟨trivial,_,rfl,⟨g,0,c,rfl,h1,h2,.inr h3,h4.1,fun j hj=>(h4.2 j hj).trans ?_⟩,h5⟩
  dsimp only
  rw[zDC])
 refine hc.mono (fun e w2 hq => ?_);rcases hq with⟨_,v,rfl,⟨zs,rfl,hzs⟩,hg⟩|⟨hn,_⟩
 ·exact⟨zs,rfl,hzs,hg⟩
 ·exact absurd (fun _ _=>trivial) hn
theorem znO (hk:zad k)(m:Nat)(hm:1≤m)(s n:Nat)(A b:Nat→Nat→El k)(av bv:Value)(w:World)(hns:n≤s+1)(hnm:n+m≤10000)(hin:zfI w n m A b av bv)
  (ih:∀ (K:Nat) (A b:Nat→Nat→El k) (av bv:Value) (w:World),K<n→zfI w K m A b av bv→Calls Tryz.prog 43 #[calV k,av,bv] w (zkw hk s K m A b w)) :
  Calls Tryz.prog 43 #[calV k,av,bv] w (zkw hk (s+1) n m A b w):=by
 obtain⟨ra,ha1,ha2⟩:=hin.ma;have hdist:=fun(w1:World) (hg:w.grownBy w1 none)=>zth n n A ra av w1 (by omega) (by omega) (ha1.grown hg) (fun i hi=>(ha2 i hi).grown hg) hin.fa;obtain⟨Aa,ca,rfl,_,_,_⟩:=ha1;obtain⟨rb,⟨Ab,cb,rfl,_,_,_⟩,_⟩:=hin.mb;have hW:w.grownBy ((w.alloc (.cells #[.int .i64 k,.string (zaf k),.string (oneT k)] 64)).alloc (.cells #[.slice Ab n cb] 22)) none:=zaa (zGA _ _ none) (zGA _ _ none);have HD:=zHd hdist;have HI:=zHd hin;have HN:=zHd (zAI hns (zAI hnm hm));have HA:=zHd ha2;have HW:=zHd hW;clear hdist hin hns hnm hm ha2 hW;unfold calV at *;go_enter Tryz.func43,Tryz.ntmps43;go_wp2_with fail;refine(HD.out _ HW.out).mono ?_;rintro e w1 ⟨rv,cv,rfl,hinv⟩;have hs:=zmK n A;have hrv:RowR w1 rv (repR n A).length (fun c=>((repR n A).map ra).getD c (.slice none 0 0)):=zqm hinv.own1 _;have hcv:RowR w1 cv (clsR n A).length (fun c=>((clsR n A).map (fun x=>Value.int .i64 ((x:Nat):Int))).getD c (.int .i64 0)):=zqm hinv.own2 _;have hg1:=hinv.gr;obtain⟨Ar,cr,rfl,hr1,hr2,hr3⟩:=hrv;obtain⟨Ac,cc,rfl,hc1,hc2,hc3⟩:=hcv;rw[hs.len] at hc1 hc3;have hclen:(clsR n A).length=n:=hs.len;obtain⟨K,hK⟩:∃ K,(repR n A).length=K:=⟨_,rfl⟩;rw[hK] at hr1 hr3;rw[hK,hclen];have H1:=zHd (zAI hs (zAI hK (zAI hg1 (zAI hr1 (zAI hr2 (zAI hr3 (zAI hc1 (zAI hc2 hc3))))))));clear hs hK hg1 hr1 hr2 hr3 hc1 hc2 hc3 hinv hclen;go_upto_region 2 with(fail);obtain⟨hs,hK,hg1,hr1,hr2,hr3,hc1,hc2,hc3⟩:=H1.out;have hsz1:w.heap.size+2≤w1.heap.size:=by have:=hg1.size;simpa using this
 have hal1:=zGA w1 (.cells #[.slice Ar K cr] 22) none;have hal2:=zGA (w1.alloc (.cells #[.slice Ar K cr] 22)) (.cells #[.slice Ac n cc] 51) none;have hg2:w.grownBy ((w1.alloc (.cells #[.slice Ar K cr] 22)).alloc (.cells #[.slice Ac n cc] 51)) none:=zaa (zaa (zaa HW.out hg1) hal1) hal2;have hW1:=zGA (w.alloc (.cells #[.int .i64 k,.string (zaf k),.string (oneT k)] 64)) (.cells #[.slice Ab n cb] 22) none
 have xc:zca ((w1.alloc (.cells #[.slice Ar K cr] 22)).alloc (.cells #[.slice Ac n cc] 51)) w.heap.size k:=by
  have h:zca (w.alloc (.cells #[.int .i64 k,.string (zaf k),.string (oneT k)] 64)) w.heap.size k:=⟨zak w _ _ rfl,zak w _ _ rfl,zak w _ _ rfl⟩;exact(((h.grown hW1).grown hg1).grown hal1).grown hal2
 have xb:((w1.alloc (.cells #[.slice Ar K cr] 22)).alloc (.cells #[.slice Ac n cc] 51)).cell? ⟨w.heap.size+1,0,none⟩=some (.slice Ab n cb):=by
  have h:=zak (w.alloc (.cells #[.int .i64 k,.string (zaf k),.string (oneT k)] 64)) #[.slice Ab n cb] 22 (j:=0) (u := .slice Ab n cb) rfl;rw[show(w.alloc (.cells #[.int .i64 k,.string (zaf k),.string (oneT k)] 64)).heap.size=w.heap.size+1 by simp] at h;exact hal2.cell (hal1.cell (hg1.cell h (by simp)) (by simp)) (by simp)
 have xr:((w1.alloc (.cells #[.slice Ar K cr] 22)).alloc (.cells #[.slice Ac n cc] 51)).cell? ⟨w1.heap.size,0,none⟩=some (.slice Ar K cr):=hal2.cell (zak w1 _ _ rfl) (by simp)
 have xl:((w1.alloc (.cells #[.slice Ar K cr] 22)).alloc (.cells #[.slice Ac n cc] 51)).cell? ⟨w1.heap.size+1,0,none⟩=some (.slice Ac n cc):=by
  have h:=zak (w1.alloc (.cells #[.slice Ar K cr] 22)) #[.slice Ac n cc] 51 (j:=0) (u := .slice Ac n cc) rfl;rw[show(w1.alloc (.cells #[.slice Ar K cr] 22)).heap.size=w1.heap.size+1 by simp] at h;exact h
 have hrows:RowR ((w1.alloc (.cells #[.slice Ar K cr] 22)).alloc (.cells #[.slice Ac n cc] 51)) (.slice Ar K cr) K (fun c=>ra ((repR n A).getD c 0)):=by
  have h:RowR w1 (.slice Ar K cr) K (fun c=>ra ((repR n A).getD c 0)):=⟨Ar,cr,rfl,hr1,hr2,fun j hj=>by
   obtain⟨ad,e1,e2,e3⟩:=hr3 j hj;refine⟨ad,e1,e2,e3.trans ?_⟩
   dsimp only
   rw[List.getD_eq_getElem?_getD,List.getElem?_map,List.getD_eq_getElem?_getD,List.getElem?_eq_getElem (by omega)]
   rfl⟩
  exact(h.grown hal1).grown hal2
 have hcls:RowR ((w1.alloc (.cells #[.slice Ar K cr] 22)).alloc (.cells #[.slice Ac n cc] 51)) (.slice Ac n cc) n (fun c => .int .i64 (((clsR n A).getD c 0:Nat):Int)):=by
  have h:RowR w1 (.slice Ac n cc) n (fun c => .int .i64 (((clsR n A).getD c 0:Nat):Int)):=⟨Ac,cc,rfl,hc1,hc2,fun j hj=>by
   obtain⟨ad,e1,e2,e3⟩:=hc3 j hj;refine⟨ad,e1,e2,e3.trans ?_⟩
   dsimp only
   rw[List.getD_eq_getElem?_getD,List.getElem?_map,List.getD_eq_getElem?_getD,List.getElem?_eq_getElem (by rw[hs.len];omega)]
   rfl⟩
  exact(h.grown hal1).grown hal2
 generalize hL:w1.heap.size=L at *;generalize ((w1.alloc (.cells #[.slice Ar K cr] 22)).alloc (.cells #[.slice Ac n cc] 51))=W2 at *;have HX:=zHd (zAI xc (zAI xb (zAI xr (zAI xl (zAI hrows (zAI hcls hg2))))));have HS:=zHd (zAI hs hK);have d0:=xc.1;have d1:=xc.2.1;have d2:=xc.2.2;clear hal1 hal2 hW1 hr1 hr2 hr3 hc1 hc2 hc3 H1 hg1 HD HW hL;clear hs hK hg2 xc hrows hcls
 by_cases hKn:K=n
 ·subst hKn
  have t1:((K:Int) == (K:Int))=true:=by simp
  have hcomb:=zps K m HN.out.2.1 HN.out.2.2 A b (.slice Aa K ca) (.slice Ab K cb) W2.drew (HI.out.grown (zaa HX.out.2.2.2.2.2.2 (zae _ none)))
  have helim:=fun(w5:World) (zs:List Value) (hr:zdU w5 W2.heap.size W2.heap.size K (K+m) zs (fun i=>txs (augM A b K i))) =>
   zqY hk m HN.out.2.2 K (augM A b K) W2.heap.size 0 K (fun j=>zs.getD j (.slice none 0 0)) w5 HN.out.2.1 (Nat.le_refl _) (by have:=HN.out.2.1;unfold maxLen;omega) hr.2.1 (fun i hi=>by
    obtain⟨gi,o,c,h1,h2,h3,h4,h5⟩:=hr.2.2 i hi;exact⟨gi,o,c,h1,h2,h3,h5⟩) (fun i hi j hj=>by
    unfold augM
    split
    ·exact HI.out.fa i hi j (by assumption)
    ·exact HI.out.fb i hi (j - K) (by omega))
  have HC:=zHd hcomb;have HE:=zHd helim;clear hcomb helim ih
  have hfit:SolveFits (srE k hk) FitE (s+1) K m A b=zdN (srE k hk) FitE K m (augM A b K):=by
   show(if (repR K A).length=K then _ else _)=_;rw[if_pos HS.out.2]
  have hval:solveF (srE k hk) (s+1) K A b=zdr (srE k hk) K (augM A b K):=by
   funext i J
   show(if (repR K A).length=K then _ else _)=_;rw[if_pos HS.out.2]
  have HFV:=zHd (zAI hfit hval);clear hfit hval;unfold calV at HE;have hgd:w.grownBy W2.drew none:=zaa HX.out.2.2.2.2.2.2 (zae _ none);have HG:=zHd hgd;clear hgd;have e0:W2.drew.cell? ⟨w.heap.size,0,none⟩=some (.int .i64 k):=d0;have e1:W2.drew.cell? ⟨w.heap.size,1,none⟩=some (.string (zaf k)):=d1;have e2:W2.drew.cell? ⟨w.heap.size,2,none⟩=some (.string (oneT k)):=d2;have e3:W2.drew.cell? ⟨w.heap.size+1,0,none⟩=some (.slice Ab K cb):=xb;go_upto_region 3 with(fail)
  go_region_held2 (fun W'=>W'.cell? ⟨w.heap.size,0,none⟩=some (.int .i64 k)∧W'.cell? ⟨w.heap.size,1,none⟩=some (.string (zaf k))∧W'.cell? ⟨w.heap.size,2,none⟩=some (.string (oneT k))∧W'.cell? ⟨w.heap.size+1,0,none⟩=some (.slice Ab K cb)) (first|exact⟨e0,e1,e2,e3⟩|exact S5|exact S6|go_keep)
   (first
   | (go_at_call 76;refine HC.out.mono ?_;rintro e w5 ⟨zs,rfl,hzs,hg5⟩;have S5:=zAI (hg5.cell e0 (by simp)) (zAI (hg5.cell e1 (by simp)) (zAI (hg5.cell e2 (by simp)) (hg5.cell e3 (by simp))));have H5:=zHd (zAI hzs hg5);clear hzs hg5)
   | (go_at_call 75;refine(HE.out w5 zs H5.out.1).mono ?_;rintro e w6 (⟨hp6,v6,rfl,hres,hg6⟩|⟨hn,rfl,hg6⟩);rotate_left 1;(exact⟨rfl,.inr ⟨fun h=>hn (HFV.out.1 ▸ h),rfl,zaa (zaa HG.out H5.out.2) hg6⟩⟩);have S6:=zAI (hg6.cell S5.1 (by simp)) (zAI (hg6.cell S5.2.1 (by simp)) (zAI (hg6.cell S5.2.2.1 (by simp)) (hg6.cell S5.2.2.2 (by simp))));have H6:=zHd (zAI hp6 (zAI hres hg6));clear hp6 hres hg6))
  all_goals
   go_wp2;go_ret;exact .inl ⟨HFV.out.1 ▸ H6.out.1,_,rfl,HFV.out.2 ▸ H6.out.2.1.mat,zaa (zaa HG.out H5.out.2) H6.out.2.2⟩
 ·have t1:((K:Int) == (n:Int))=false:=by simp;omega
  have hKlt:K<n:=by have h1:=HS.out.1.le;have h2:=HS.out.2;omega
  have hκ:∀ j,j<n→(clsR n A).getD j 0<K:=fun j hj=>by have h:=(HS.out.1.cl j hj).1;rw[HS.out.2] at h;exact h
  have hρ:∀ c,c<K→(repR n A).getD c 0<n:=fun c hc=>HS.out.1.rl c (by rw[HS.out.2];exact hc);have hmf:∀ (fn:Fn) (first cap:Array Value) (w:World),(Instr.makeFunc fn first cap).run Tryz.prog w = .ok (.func fn first cap) w:=fun _ _ _ _=>rfl
  have hfit:SolveFits (srE k hk) FitE (s+1) n m A b=((∀ c,c<K→zkW (srE k hk) FitE n (A ((repR n A).getD c 0)) (fun j=>(clsR n A).getD j 0))∧(∀ c,c<K→zcL (srE k hk) FitE n m (fun _=>(srE k hk).zero) (A ((repR n A).getD c 0)) b) ∧
    SolveFits (srE k hk) FitE s K m (mrgA (srE k hk) n A) (mrgB (srE k hk) n A b)∧∀ i,i<n→∀ J,J<m→FitE ((srE k hk).add (b i J) (solveF (srE k hk) s K (mrgA (srE k hk) n A) (mrgB (srE k hk) n A b) ((clsR n A).getD i 0) J))):=by
   show(if (repR n A).length=n then _ else _)=_;rw[HS.out.2,if_neg hKn]
  have hval:solveF (srE k hk) (s+1) n A b=fun i J=>(srE k hk).add (b i J) (solveF (srE k hk) s K (mrgA (srE k hk) n A) (mrgB (srE k hk) n A b) ((clsR n A).getD i 0) J):=by
   funext i J
   show(if (repR n A).length=n then _ else _)=_;rw[HS.out.2,if_neg hKn]
  obtain⟨xc,_,xr2,xl2,hrows,hcls,hg2⟩:=HX.out
  have h1:=zhU 79 zra #[] #[.pointer (some ⟨w.heap.size,0,none⟩),.pointer (some ⟨L+1,0,none⟩),.pointer (some ⟨L,0,none⟩)] K (fun c=>ra ((repR n A).getD c 0)) K
   (fun c=>zkW (srE k hk) FitE n (A ((repR n A).getD c 0)) (fun j=>(clsR n A).getD j 0)) (fun c=>txs (mrgA (srE k hk) n A c)) (.slice Ar K cr) W2 (by have:=HN.out.2.1;omega) hrows (fun c hc w' hw'=>by
    have hr:=(HA.out _ (hρ c hc)).grown (zaa hg2 hw');have h:=zxl hk (A ((repR n A).getD c 0)) (fun j=>(clsR n A).getD j 0) n K w.heap.size (L+1) L Ac Ar cc cr (ra ((repR n A).getD c 0)) w' (by have:=HN.out.2.1;omega) (by have:=HN.out.2.1;omega) hκ hr.row (HI.out.fa _ (hρ c hc)) (xc.grown hw') (hw'.cell xl2 (by simp)) (hw'.cell xr2 (by simp)) (hcls.grown hw');refine h.mono (fun e w3 h => ?_);rcases h with⟨hp,v,e1,⟨g,e2,q1,q2⟩,q3⟩|⟨hp,q⟩
    ·exact .inl ⟨hp,v,e1,⟨g,0,K,e2,Nat.le_refl _,by have:=HN.out.2.1;unfold maxLen;omega,.inr q1,q2⟩,q3⟩
    ·exact .inr ⟨hp,q⟩)
  have h2:=fun(w3:World) (hg3:W2.grownBy w3 none)=>zhU 81 zrb #[] #[.pointer (some ⟨w.heap.size,0,none⟩),.pointer (some ⟨w.heap.size+1,0,none⟩)] K (fun c=>ra ((repR n A).getD c 0)) m
   (fun c=>zcL (srE k hk) FitE n m (fun _=>(srE k hk).zero) (A ((repR n A).getD c 0)) b) (fun c=>txs (mrgB (srE k hk) n A b c)) (.slice Ar K cr) w3 (by have:=HN.out.2.1;omega) (hrows.grown hg3) (fun c hc w' hw'=>by
    have hgw:=zaa hg3 hw';have hr:=(HA.out _ (hρ c hc)).grown (zaa hg2 hgw);obtain⟨rb2,hb1,hb2⟩:=(HI.out.mb).grown (zaa hg2 hgw);have h:=zxn hk (A ((repR n A).getD c 0)) b n m w.heap.size (w.heap.size+1) Ab cb rb2 (ra ((repR n A).getD c 0)) w' (by omega) (by have:=HN.out.2.1;omega) (by have:=HN.out.2.1;omega) hr.row (HI.out.fa _ (hρ c hc)) (xc.grown hgw) (hgw.cell xb (by simp)) hb1 (fun i hi=>(hb2 i hi).row) HI.out.fb;refine h.mono (fun e w3 h => ?_);rcases h with⟨hp,v,e1,⟨g,o,c2,e2,q1,q2,q3,q4⟩,q5⟩|⟨hp,q⟩
    ·exact .inl ⟨hp,v,e1,⟨g,o,c2,e2,q1,q2,.inr q3,q4⟩,q5⟩
    ·exact .inr ⟨hp,q⟩)
  have h3:=fun(v1 v2:Value) (w4:World) (hm1:MatV w4 v1 K K (mrgA (srE k hk) n A)) (hm2:MatV w4 v2 K m (mrgB (srE k hk) n A b)) (hp1:∀ c,c<K→zkW (srE k hk) FitE n (A ((repR n A).getD c 0)) (fun j=>(clsR n A).getD j 0)) (hp2:∀ c,c<K→zcL (srE k hk) FitE n m (fun _=>(srE k hk).zero) (A ((repR n A).getD c 0)) b) =>
   ih K (mrgA (srE k hk) n A) (mrgB (srE k hk) n A b) v1 v2 w4 hKlt ⟨hm1,hm2,fun i hi j hj=>zmv hk _ _ n (hp1 i hi) j,fun i hi j hj=>by
    obtain⟨n',rfl⟩:∃ n',n=n'+1:=⟨n - 1,by omega⟩;exact(hp2 i hi n' (by omega) j hj).2⟩
  have h4:=fun(w6:World) (hg6:W2.grownBy w6 none) (gy:Nat) (Ay:Option Addr) (cy:Nat) (ys:Nat→Value) (hyc:w6.cell? ⟨gy,0,none⟩=some (.slice Ay K cy)) (hy:RowR w6 (.slice Ay K cy) K ys) (hyr:∀ d,d<K→RowG w6 (ys d) m (solveF (srE k hk) s K (mrgA (srE k hk) n A) (mrgB (srE k hk) n A b) d)) (hyf:∀ d,d<K→∀ j,j<m→FitE (solveF (srE k hk) s K (mrgA (srE k hk) n A) (mrgB (srE k hk) n A b) d j)) =>
   (show ∃ rb2:Nat→Value,Calls Tryz.prog 84 #[.slice Ab n cb,.slice Ac n cc,.func (.func 85) #[] #[.pointer (some ⟨gy,0,none⟩),.pointer (some ⟨w.heap.size,0,none⟩)]] w6
     (ziT (∀ i,i<n→∀ J,J<m→FitE ((srE k hk).add (b i J) (solveF (srE k hk) s K (mrgA (srE k hk) n A) (mrgB (srE k hk) n A b) ((clsR n A).getD i 0) J))) n m (fun i=>txs (fun J=>(srE k hk).add (b i J) (solveF (srE k hk) s K (mrgA (srE k hk) n A) (mrgB (srE k hk) n A b) ((clsR n A).getD i 0) J))) w6) by
    obtain⟨rb2,hb1,hb2⟩:=(HI.out.mb).grown (zaa hg2 hg6);refine⟨rb2,zsy 85 zrc #[] #[.pointer (some ⟨gy,0,none⟩),.pointer (some ⟨w.heap.size,0,none⟩)] n n rb2 (fun c => .int .i64 (((clsR n A).getD c 0:Nat):Int)) m _ _ (.slice Ab n cb) (.slice Ac n cc) w6 (by have:=HN.out.2.1;omega) hb1 (hcls.grown hg6) (Nat.le_refl _) (fun i hi w' hw' => ?_)⟩;have h:=zxm hk (b i) (solveF (srE k hk) s K (mrgA (srE k hk) n A) (mrgB (srE k hk) n A b) ((clsR n A).getD i 0)) K m ((clsR n A).getD i 0) w.heap.size gy Ay cy ys (rb2 i) w' (by have:=HN.out.2.1;omega) (hκ i hi) ((hb2 i hi).grown hw').row (HI.out.fb i hi) ((xc.grown hg6).grown hw') (hw'.cell hyc (by simp)) (hy.grown hw') ((hyr _ (hκ i hi)).grown hw').row (hyf _ (hκ i hi));refine h.mono (fun e w3 h => ?_);rcases h with⟨hp,v,e1,⟨e2,q2⟩,q3⟩|⟨hp,q⟩
    ·exact .inl ⟨hp,v,e1,⟨w'.heap.size,0,m,e2,Nat.le_refl _,by have:=HN.out.2.1;unfold maxLen;omega,.inr (Nat.le_refl _),q2⟩,q3⟩
    ·exact .inr ⟨hp,q⟩)
  have Q1:=zHd h1;have Q2:=zHd h2;have Q3:=zHd h3;have Q4:=zHd h4;have HFV:=zHd (zAI hfit hval);have HG2:=zHd hg2;have HKL:=zHd hKlt;clear h1 h2 h3 h4 hfit hval ih hκ hρ hrows hcls xc xr2 xl2 hg2 hKlt hKn;go_wp2_with fail;refine Q1.out.mono ?_;rintro e w3 (⟨hp1,v1,rfl,⟨zs1,rfl,hzs1⟩,hg3⟩|⟨hn,rfl,hg3⟩);rotate_left 1
  ·exact⟨rfl,.inr ⟨fun h=>hn (HFV.out.1 ▸ h).1,rfl,zaa HG2.out hg3⟩⟩
  have p0:=hg3.cell d0 (by simp);have p1:=hg3.cell d1 (by simp);have p2:=hg3.cell d2 (by simp);have pb:=hg3.cell xb (by simp);have pr:=hg3.cell xr (by simp);have pl:=hg3.cell xl (by simp);have H3:=zHd (zAI hp1 (zAI hzs1 hg3));clear hp1 hzs1 hg3 d0 d1 d2 xb xr xl Q1;go_wp2_with fail;refine(Q2.out w3 H3.out.2.2).mono ?_;rintro e w4 (⟨hp2,v2,rfl,⟨zs2,rfl,hzs2⟩,hg4⟩|⟨hn,rfl,hg4⟩);rotate_left 1
  ·exact⟨rfl,.inr ⟨fun h=>hn (HFV.out.1 ▸ h).2.1,rfl,zaa (zaa HG2.out H3.out.2.2) hg4⟩⟩
  have q0:=hg4.cell p0 (by simp);have q1:=hg4.cell p1 (by simp);have q2:=hg4.cell p2 (by simp);have qb:=hg4.cell pb (by simp);have qr:=hg4.cell pr (by simp);have ql:=hg4.cell pl (by simp);have H4:=zHd (zAI hp2 (zAI hzs2 hg4));clear hp2 hzs2 hg4 p0 p1 p2 pb pr pl Q2;go_wp2_with fail;refine(Q3.out _ _ w4 ((H3.out.2.1.mat (by have:=HN.out.2.1;have:=HKL.out;omega)).grown H4.out.2.2) (H4.out.2.1.mat (by have:=HN.out.2.1;have:=HKL.out;omega)) H3.out.1 H4.out.1).mono ?_;rintro e w5 (⟨hp3,v3,rfl,hy,hg5⟩|⟨hn,rfl,hg5⟩);rotate_left 1
  ·exact⟨rfl,.inr ⟨fun h=>hn (HFV.out.1 ▸ h).2.2.1,rfl,zaa (zaa (zaa HG2.out H3.out.2.2) H4.out.2.2) hg5⟩⟩
  obtain⟨ys,⟨Ay,cy,rfl,hy1,hy2,hy3⟩,hyr⟩:=hy;have r0:=hg5.cell q0 (by simp);have r1:=hg5.cell q1 (by simp);have r2:=hg5.cell q2 (by simp);have rb:=hg5.cell qb (by simp);have rl:=hg5.cell ql (by simp);have hal:=zGA w5 (.cells #[.slice Ay K cy] 22) none;have s0:=hal.cell rb (by simp);have s1:=hal.cell rl (by simp);have H5:=zHd (zAI hp3 (zAI hg5 hal));have hKs:K≤s:=by have:=HN.out.1;have:=HKL.out;omega
  obtain⟨rb2,hc4⟩:=Q4.out (w5.alloc (.cells #[.slice Ay K cy] 22)) (zaa (zaa (zaa H3.out.2.2 H4.out.2.2) hg5) hal) w5.heap.size Ay cy ys (zak w5 _ _ rfl) (RowR.grown ⟨Ay,cy,rfl,hy1,hy2,hy3⟩ hal) (fun d hd=>(hyr d hd).grown hal) (zjk hk hKs hp3);have HC4:=zHd hc4;clear hp3 hg5 hal hc4 hy1 hy2 hy3 hyr q0 q1 q2 qb qr ql Q3 Q4 hKs r0 r1 r2 rb rl;go_wp2_with fail;refine HC4.out.mono ?_;rintro e w7 (⟨hp4,v4,rfl,⟨zs4,rfl,hzs4⟩,hg7⟩|⟨hn,rfl,hg7⟩);rotate_left 1
  ·exact⟨rfl,.inr ⟨fun h=>hn (HFV.out.1 ▸ h).2.2.2,rfl,zaa (zaa (zaa (zaa (zaa HG2.out H3.out.2.2) H4.out.2.2) H5.out.2.1) H5.out.2.2) hg7⟩⟩
  have H7:=zHd (zAI hp4 (zAI hzs4 hg7));clear hp4 hzs4 hg7;go_wp2;go_ret;refine .inl ⟨HFV.out.1 ▸ ⟨H3.out.1,H4.out.1,H5.out.1,H7.out.1⟩,_,rfl,?_,zaa (zaa (zaa (zaa (zaa HG2.out H3.out.2.2) H4.out.2.2) H5.out.2.1) H5.out.2.2) H7.out.2.2⟩;show MatV w7 (.slice (some ⟨w5.heap.size+1,0,none⟩) n n) n m (solveF (srE k hk) (s+1) n A b);rw[HFV.out.2,show w5.heap.size+1=(w5.alloc (.cells #[.slice Ay K cy] 22)).heap.size by simp];exact H7.out.2.1.mat (by have:=HN.out.2.1;omega)
theorem zhO (hk:zad k)(m:Nat)(hm:1≤m):∀ (s n:Nat) (A b:Nat→Nat→El k) (av bv:Value) (w:World),n≤s→n+m≤10000→zfI w n m A b av bv →
  Calls Tryz.prog 43 #[calV k,av,bv] w (zkw hk s n m A b w):=by
 intro s
 induction s with
 | zero =>
  intro n A b av bv w hns hnm hin;obtain rfl:n=0:=by omega
  refine(znO hk m hm 0 0 A b av bv w (by omega) hnm hin (fun K _ _ _ _ _ h=>absurd h (by omega))).mono (fun e w' h => ?_);rcases h with⟨_,v,h1,⟨rs,h2,_⟩,h4⟩|⟨hn,_⟩
  ·exact .inl ⟨trivial,v,h1,⟨rs,h2,fun i hi=>absurd hi (by omega)⟩,h4⟩
  ·refine absurd ?_ hn
   unfold SolveFits;rw[if_pos (show(repR 0 A).length=0 from rfl)]
   trivial
 | succ s ih =>
  intro n A b av bv w hns hnm hin;exact znO hk m hm s n A b av bv w hns hnm hin (fun K A b av bv w hK hin2=>ih K A b av bv w (by omega) (by omega) hin2)
end
open Go.RowKit
section
variable {k:Int}
theorem zjl {w:World}{ad:Addr}{v:Value}(h:w.cell? ad=some v):ad=⟨ad.block,ad.off,none⟩:=by
 obtain⟨b,o,s⟩:=ad;unfold World.cell? at h
 split at h
 ·cases s with
  | none=>rfl
  | some p=>simp at h
 ·cases h
theorem RowR.toG {w:World}{v:Value}{m:Nat}{f:Nat→El k}(h:RowR w v m (txs f))(hm:1≤m):RowG w v m f:=by
 obtain⟨A,c,rfl,h1,h2,h3⟩:=h;obtain⟨ad,rfl,hb,hc⟩:=h3 0 (by omega);rw[zqc] at hc;have e:=zjl hc;refine⟨ad.block,ad.off,c,by rw[← e],h1,h2,hb,fun j hj => ?_⟩;obtain⟨_,e2,_,hcj⟩:=h3 j hj;cases e2;rw[← zbA,← e];exact hcj
theorem znP {w:World}{b:Nat}{z:Int}{T:TypeId}(hb:w.heap[b]? = some (.cells #[.int .i64 z] T (0,0))){ad:Addr}{v:Value}(h:w.cell? ad=some v)(hv:∀ y,v ≠ .int .i64 y):ad.block≠b:=by
 intro e;have e2:=zjl h;rw[e2,e] at h;rw[cell_of_row w b ad.off _ _ (0,0) hb] at h;obtain⟨h1,h2⟩:=Array.getElem?_eq_some_iff.1 h;have:ad.off=0:=by simpa using h1
 simp[this] at h2;exact hv z h2.symm
def MatX (w:World)(v:Value)(n m:Nat)(F:Nat→Nat→El k)(b:Nat):Prop :=
 ∃ rs:Nat→Value,(∃ A cap,v = .slice A n cap∧n≤cap∧cap≤maxLen∧∀ j,j<n→∃ ad,A=some ad∧ad.block<w.heap.size∧ad.block≠b∧w.cell? (ad.add j)=some (rs j)) ∧
  ∀ i,i<n→∃ g o c,rs i = .slice (some ⟨g,o,none⟩) m c∧m≤c∧c≤maxLen∧g≠b∧zam w g o m (txs (F i))
theorem MatX.mat {w:World}{v:Value}{n m:Nat}{F:Nat→Nat→El k}{b:Nat}(h:MatX w v n m F b):MatV w v n m F:=by
 obtain⟨rs,⟨A,cap,h1,h2,h3,h4⟩,h5⟩:=h;refine⟨rs,⟨A,cap,h1,h2,h3,fun j hj => ?_⟩,fun i hi => ?_⟩
 ·obtain⟨ad,e1,e2,_,e3⟩:=h4 j hj
  exact⟨ad,e1,e2,e3⟩
 ·obtain⟨g,o,c,e1,e2,e3,_,e4⟩:=h5 i hi
  exact⟨g,o,c,e1,e2,e3,e4⟩
theorem MatX.kept {w w':World}{v:Value}{n m:Nat}{F:Nat→Nat→El k}{b:Nat}(h:MatX w v n m F b)(hg:w.grownBy w' (some b)):MatX w' v n m F b:=by
 obtain⟨rs,⟨A,cap,h1,h2,h3,h4⟩,h5⟩:=h;refine⟨rs,⟨A,cap,h1,h2,h3,fun j hj => ?_⟩,fun i hi => ?_⟩
 ·obtain⟨ad,e1,e2,e0,e3⟩:=h4 j hj
  exact⟨ad,e1,Nat.lt_of_lt_of_le e2 hg.size,e0,(zap (ad:=ad.add j) (by rw[zaj];exact hg.block _ e2 (by simpa using e0))).trans e3⟩
 ·obtain⟨g,o,c,e1,e2,e3,e0,e4⟩:=h5 i hi
  exact⟨g,o,c,e1,e2,e3,e0,e4.grownB hg e0⟩
theorem MatV.other {w:World}{v:Value}{n m:Nat}{F:Nat→Nat→El k}{b:Nat}(h:MatV w v n m F)(hm:0<n→1≤m){z:Int}{T:TypeId}(hb:w.heap[b]? = some (.cells #[.int .i64 z] T (0,0))):MatX w v n m F b:=by
 obtain⟨rs,⟨A,cap,h1,h2,h3,h4⟩,h5⟩:=h;refine⟨rs,⟨A,cap,h1,h2,h3,fun j hj => ?_⟩,fun i hi => ?_⟩
 ·obtain⟨ad,e1,e2,e3⟩:=h4 j hj
  obtain⟨g,o,c,e4,_⟩:=h5 j hj;refine⟨ad,e1,e2,?_,e3⟩;rw[← zaj ad j];exact znP hb e3 (fun y=>by rw[e4];simp)
 ·obtain⟨g,o,c,e1,e2,e3,e4⟩:=h5 i hi
  exact⟨g,o,c,e1,e2,e3,znP (ad:=⟨g,o+0,none⟩) hb (e4.2 0 (hm (by omega))) (fun y=>by unfold txs;simp),e4⟩
theorem MatV.none {w:World}{v:Value}{m m':Nat}{F F':Nat→Nat→El k}(h:MatV w v 0 m F):MatV w v 0 m' F':=by
 obtain⟨rs,h1,_⟩:=h;exact⟨rs,h1,fun i hi=>absurd hi (by omega)⟩
theorem MatV.shape {w:World}{v:Value}{n m:Nat}{F:Nat→Nat→El k}(h:MatV w v n m F):∃ A c,v = .slice A n c:=by
 obtain⟨rs,⟨A,c,e,_⟩,_⟩:=h;exact⟨A,c,e⟩
theorem MatV.congr {w:World}{v:Value}{n m:Nat}{F F':Nat→Nat→El k}(h:MatV w v n m F)(e:∀ i,i<n→∀ j,j<m→F i j=F' i j):MatV w v n m F':=by
 obtain⟨rs,h1,h2⟩:=h;refine⟨rs,h1,fun i hi => ?_⟩;obtain⟨g,o,c,e1,e2,e3,e4⟩:=h2 i hi;refine⟨g,o,c,e1,e2,e3,e4.1,fun j hj=>(e4.2 j hj).trans ?_⟩;unfold txs;rw[e i hi j hj]
end
open Go.RowKit
section
variable {k:Int}
theorem ztk:Enters 41:=enters_of Tryz.func41 (by kernel_rfl) rfl
theorem zDD (hk:zad k){g n:Nat}{zs:List Value}{w:World}(hn:n≤10000)(hl:zs.length=n)(h1:zam w g 0 n (fun j=>zs.getD j (.slice none 0 0)))(h2:zja hk g n zs w):MatV w (.slice (some ⟨g,0,none⟩) n n) n n (idm (srE k hk)) :=
 ⟨_,h1.row (Nat.le_refl _) (by unfold maxLen;omega),fun i hi=>by
  obtain⟨gi,e1,e2,e3⟩:=h2 i (by omega);exact⟨gi,0,n,e1,Nat.le_refl _,by unfold maxLen;omega,e3⟩⟩
theorem zFH (hk:zad k)(i j:Nat):FitE (idm (srE k hk) i j):=by
 unfold idm
 split
 ·exact zlm hk
 ·exact zbR hk
theorem zxD (hk:zad k)(n:Nat)(A:Nat→Nat→El k)(av bv:Value)(w:World)(hn:n≤60)(ha:MatV w av n n A)(hb:MatV w bv n n (idm (srE k hk)))(hf:∀ i,i<n→∀ j,j<n→FitE (A i j)) :
  Calls Tryz.prog 43 #[calV k,av,bv] w (zbn (SolveFits (srE k hk) FitE n n n A (idm (srE k hk))) (fun v w'=>MatV w' v n n (stM (srE k hk) A n)) w):=by
 by_cases h0:n=0
 ·subst h0
  refine(zhO hk 1 (Nat.le_refl _) 0 0 A (idm (srE k hk)) av bv w (Nat.le_refl _) (by omega) ⟨ha,hb.none,fun i hi=>absurd hi (by omega),fun i hi=>absurd hi (by omega)⟩).mono (fun e w' h => ?_);rcases h with⟨_,v,h1,h2,h4⟩|⟨hn,_⟩
  ·exact .inl ⟨trivial,v,h1,h2.none,h4⟩
  ·exact absurd trivial hn
 ·refine(zhO hk n (by omega) n n A (idm (srE k hk)) av bv w (Nat.le_refl _) (by omega) ⟨ha,hb,hf,fun i _ j _=>zFH hk i j⟩).mono (fun e w' h => ?_)
  rcases h with⟨hp,v,h1,h2,h4⟩|h
  ·refine .inl ⟨hp,v,h1,h2.congr (fun i hi j hj => ?_),h4⟩
   rw[zdO _ n n A _ (Nat.le_refl _) i j hi,zrA _ A i hj]
  ·exact .inr h
theorem zAN (hk:zad k)(n gk ga ca:Nat)(Aa:Option Addr)(A:Nat→Nat→El k)(w:World)(hn:n≤60)(hkc:w.cell? ⟨gk,0,none⟩=some (.int .i64 k))(hac:w.cell? ⟨ga,0,none⟩=some (.slice Aa n ca))(ha:MatV w (.slice Aa n ca) n n A)(hf:∀ i,i<n→∀ j,j<n→FitE (A i j)) :
  Calls Tryz.prog 41 #[.pointer (some ⟨gk,0,none⟩),.pointer (some ⟨ga,0,none⟩)] w (zbn (SolveFits (srE k hk) FitE n n n A (idm (srE k hk))) (fun v w'=>MatV w' v n n (stM (srE k hk) A n)) w):=by
 have hof:=fun w'=>zln k w';have hun:=fun w'=>zDo hk n w' (by omega);have hso:=fun(bv:Value) (w':World) (hg:w.grownBy w' none) (hb:MatV w' bv n n (idm (srE k hk)))=>zxD hk n A (.slice Aa n ca) bv w' hn (ha.grown hg) hb hf;have HO:=zHd hof;have HU:=zHd hun;have HS:=zHd hso;have HN:=zHd hn;clear hof hun hso hf ha hn;unfold calV at *;go_enter Tryz.func41,Tryz.ntmps41;go_wp2_with fail;refine(HO.out _).mono ?_;rintro e w1 ⟨rfl,hg1⟩;have k1:=hg1.cell hkc (by simp);have a1:=hg1.cell hac (by simp);have HG1:=zHd hg1;clear hg1 hkc hac;go_upto_region 2 with(fail)
 have hal:=zGA w1 (.cells #[.int .i64 k,.string (zaf k),.string (oneT k)] 64) none;have x0:=zak w1 #[.int .i64 k,.string (zaf k),.string (oneT k)] 64 (j:=0) rfl;have x1:=zak w1 #[.int .i64 k,.string (zaf k),.string (oneT k)] 64 (j:=1) rfl;have x2:=zak w1 #[.int .i64 k,.string (zaf k),.string (oneT k)] 64 (j:=2) rfl;have a2:=hal.cell a1 (by simp);have hg2:=zaa HG1.out hal;generalize w1.alloc (.cells #[.int .i64 k,.string (zaf k),.string (oneT k)] 64)=W at *;have d0:W.drew.cell? ⟨w1.heap.size,0,none⟩=some (.int .i64 k):=x0;have d1:W.drew.cell? ⟨w1.heap.size,1,none⟩=some (.string (zaf k)):=x1;have d2:W.drew.cell? ⟨w1.heap.size,2,none⟩=some (.string (oneT k)):=x2;have da:W.drew.cell? ⟨ga,0,none⟩=some (.slice Aa n ca):=a2;have HG:=zHd (zaa hg2 (zae W none));clear x0 x1 x2 a1 a2 k1 hal hg2
 go_region_held2 (fun W'=>W'.cell? ⟨w1.heap.size,0,none⟩=some (.int .i64 k)∧W'.cell? ⟨w1.heap.size,1,none⟩=some (.string (zaf k))∧W'.cell? ⟨w1.heap.size,2,none⟩=some (.string (oneT k))∧W'.cell? ⟨ga,0,none⟩=some (.slice Aa n ca)) (first|exact⟨d0,d1,d2,da⟩|exact S5|exact S6|go_keep)
  (first
  | (go_at_call 44;refine(HU.out W.drew).mono ?_;rintro e w5 ⟨g,zs,rfl,hgs,hzl,hra,hru,hg5⟩;have S5:=zAI (hg5.cell d0 (by simp)) (zAI (hg5.cell d1 (by simp)) (zAI (hg5.cell d2 (by simp)) (hg5.cell da (by simp))));have H5:=zHd (zAI (zDD hk (by have:=HN.out;omega) hzl hra hru) (zaa HG.out hg5));clear hgs hzl hra hru hg5)
  | (go_at_call 43;refine(HS.out _ w5 H5.out.2 H5.out.1).mono ?_;rintro e w6 (⟨hp6,v6,rfl,hres,hg6⟩|⟨hn,rfl,hg6⟩);rotate_left 1;(exact⟨rfl,.inr ⟨hn,rfl,zaa H5.out.2 hg6⟩⟩);have S6:=zAI (hg6.cell S5.1 (by simp)) (zAI (hg6.cell S5.2.1 (by simp)) (zAI (hg6.cell S5.2.2.1 (by simp)) (hg6.cell S5.2.2.2 (by simp))));have H6:=zHd (zAI hp6 (zAI hres (zaa H5.out.2 hg6)));clear hp6 hres hg6))
 all_goals
  go_wp2;go_ret;exact .inl ⟨H6.out.1,_,rfl,H6.out.2.1,H6.out.2.2⟩
theorem zDE (hk:zad k){n:Nat}{G:Nat→Nat→ByteArray}(h:∀ i j,i<n→j<n→∃ v,Val k (G i j) v):∃ A:Nat→Nat→El k,∀ i,i<n→∀ j,j<n→G i j=tx (A i j)∧FitE (A i j):=by
 have h1:∀ i j,∃ v:El k,i<n→j<n→G i j=tx v∧FitE v:=fun i j=>by
  by_cases h2:i<n∧j<n
  ·obtain⟨v,hv⟩:=h i j h2.1 h2.2
   refine⟨⟨v,hv.has⟩,fun _ _=>⟨hv.e.text,?_⟩⟩;have e:=hv.e;show Fits v;rcases v with(_|_)|x
   ·trivial
   ·trivial
   ·exact e.short
  ·exact⟨(srE k hk).zero,fun h3 h4=>absurd ⟨h3,h4⟩ h2⟩
 exact⟨fun i j=>Classical.choose (h1 i j),fun i hi j hj=>Classical.choose_spec (h1 i j) hi hj⟩
def zfJ (k:Int)(n:Nat)(ln:Nat→Nat)(G:Nat→Nat→ByteArray)(w:World)(e:Ending)(w':World):Prop :=
 w.grownBy w' none∧((¬ zfr k n ln G∧e = .returned (.tuple #[.slice none 0 0,.int .i64 1]))∨(zfr k n ln G∧60<n∧e = .returned (.tuple #[.slice none 0 0,.int .i64 2])) ∨
  (n≤60∧(∀ i,i<n→ln i=n)∧∃ (hk:zad k) (A:Nat→Nat→El k),(∀ i,i<n→∀ j,j<n→G i j=tx (A i j)∧FitE (A i j)) ∧
   ((SolveFits (srE k hk) FitE n n n A (idm (srE k hk))∧∃ v,e = .returned (.tuple #[v,.int .i64 0])∧MatV w' v n n (stM (srE k hk) A n))∨(¬ SolveFits (srE k hk) FitE n n n A (idm (srE k hk))∧e = .returned (.tuple #[.slice none 0 0,.int .i64 2])))))
theorem MatA.mat (hk:zad k){w:World}{v:Value}{n:Nat}{ln:Nat→Nat}{G:Nat→Nat→ByteArray}{A:Nat→Nat→El k}(h:MatA w v n ln G)(hl:∀ i,i<n→ln i=n)(hA:∀ i,i<n→∀ j,j<n→G i j=tx (A i j)∧FitE (A i j)):MatV w v n n A:=by
 obtain⟨rs,h1,h2⟩:=h;refine⟨rs,h1,fun i hi => ?_⟩;have h3:=h2 i hi;rw[hl i hi] at h3;refine RowR.toG ?_ (by omega);obtain⟨Ai,c,e1,e2,e3,e4⟩:=h3;refine⟨Ai,c,e1,e2,e3,fun j hj => ?_⟩;obtain⟨ad,q1,q2,q3⟩:=e4 j hj;refine⟨ad,q1,q2,q3.trans ?_⟩;unfold txs;rw[← (hA i hi j hj).1]
theorem zjm (k:Int)(n:Nat)(ln:Nat→Nat)(G:Nat→Nat→ByteArray)(av:Value)(w:World)(hn:n≤10000)(ha:MatA w av n ln G)(hs:∀ i j,(G i j).size≤maxLen) :
  Calls Tryz.prog 12 #[.int .i64 k,av] w (zfJ k n ln G w):=by
 have hW:w.grownBy ((w.alloc (.cells #[.int .i64 k] 3)).alloc (.cells #[av] 22)) none:=zaa (zGA _ _ none) (zGA _ _ none);have him:=zsX k n ln G av _ hn (ha.grown hW) hs
 have hav:∃ Aa ca,av = .slice Aa n ca:=by
  obtain⟨rs,⟨Aa,ca,e,_⟩,_⟩:=ha;exact⟨Aa,ca,e⟩
 obtain⟨Aa,ca,rfl⟩:=hav;have HI:=zHd him;have HA:=zHd ha;have HW:=zHd hW;clear him ha hW hs;have hk1:((w.alloc (.cells #[.int .i64 k] 3)).alloc (.cells #[.slice Aa n ca] 22)).cell? ⟨w.heap.size,0,none⟩=some (.int .i64 k):=(zGA _ _ none).cell (zak w #[.int .i64 k] _ rfl) (by simp)
 have ha1:((w.alloc (.cells #[.int .i64 k] 3)).alloc (.cells #[.slice Aa n ca] 22)).cell? ⟨w.heap.size+1,0,none⟩=some (.slice Aa n ca):=by
  have h:=zak (w.alloc (.cells #[.int .i64 k] 3)) #[.slice Aa n ca] 22 (j:=0) (u := .slice Aa n ca) rfl;rw[show(w.alloc (.cells #[.int .i64 k] 3)).heap.size=w.heap.size+1 by simp] at h;exact h
 have HX:=zHd (zAI hk1 ha1);have hmf:∀ (fn:Fn) (first cap:Array Value) (w:World),(Instr.makeFunc fn first cap).run Tryz.prog w = .ok (.func fn first cap) w:=fun _ _ _ _=>rfl;clear hk1 ha1;go_enter Tryz.func12,Tryz.ntmps12;go_wp2_with fail;refine HI.out.mono ?_;rintro e w1 ⟨b,rfl,hb,hg1⟩;have k1:=hg1.cell HX.out.1 (by simp);have a1:=hg1.cell HX.out.2 (by simp);have hgw:w.grownBy w1 none:=zaa HW.out hg1;have HB:=zHd hb;have HG:=zHd hgw;clear hb hg1 hgw HI HX HW;cases b
 ·go_wp2
  refine bodyPost_ret (v := .tuple #[.slice none 0 0,.int .i64 1]) (by simp[results,Tryz.results12,go_sem]) rfl ⟨HG.out,.inl ⟨fun h => ?_,rfl⟩⟩;have:=HB.out.2 h;cases this
 ·have hm:=HB.out.1 rfl
  by_cases h60:60<n
  ·have t1:decide (60<n)=true:=by simpa using h60
   have t2:decide ((60:Int)<(n:Int))=true:=by simp;omega
   have t3:(60:Int)<(n:Int):=by omega
   have HM:=zHd (zAI hm h60);clear hm h60;go_wp2;exact bodyPost_ret (v := .tuple #[.slice none 0 0,.int .i64 2]) (by simp[results,Tryz.results12,go_sem]) rfl ⟨HG.out,.inr (.inl ⟨HM.out.1,HM.out.2,rfl⟩)⟩
  ·have t1:decide (60<n)=false:=by simpa using h60
   have t2:decide ((60:Int)<(n:Int))=false:=by simp;omega
   have t3:¬ (60:Int)<(n:Int):=by omega
   obtain⟨hk,hl,hv⟩:=hm;obtain⟨A,hA⟩:=zDE hk hv;have hmat:=(HA.out.grown HG.out).mat hk hl hA;have hal:=zGA w1 (.cells #[.int .i64 0] 24) none;have hst:=zAN hk n w.heap.size (w.heap.size+1) ca Aa A (w1.alloc (.cells #[.int .i64 0] 24)) (by omega) (hal.cell k1 (by simp)) (hal.cell a1 (by simp)) (hmat.grown hal) (fun i hi j hj=>(hA i hi j hj).2)
   have hat:=zsI (WB:=w1.heap.size) 41 ztk #[] #[.pointer (some ⟨w.heap.size,0,none⟩),.pointer (some ⟨w.heap.size+1,0,none⟩)] (SolveFits (srE k hk) FitE n n n A (idm (srE k hk))) (fun v w'=>MatX w' v n n (stM (srE k hk) A n) w1.heap.size)
    (fun v wa wb b hb hg e hq=>by subst e;exact hq.kept hg) w1 rfl (hst.mono (fun e w' h=>by
     rcases h with⟨hp,v,h1,h2,h4⟩|h
     ·obtain⟨A1,c1,e1⟩:=h2.shape
      exact .inl ⟨hp,v,h1,⟨⟨A1,_,c1,e1⟩,h2.other (fun h=>h) ((h4.block w1.heap.size (by simp) (by simp)).trans (zau w1 _))⟩,h4⟩
     ·exact .inr h))
   have HT:=zHd hat;have HF:=zHd (zAI h60 (zAI hl hA));clear hat hst hal hmat hA hl hv h60;go_wp2_with fail;refine HT.out.mono ?_;rintro e w2 (⟨hp,v,rfl,hq,hg2⟩|⟨hn2,rfl,hg2⟩)
   ·have H2:=zHd (zAI hp (zAI hq.mat (zaa HG.out hg2)))
    clear hp hq hg2;go_wp2;exact bodyPost_ret (v := .tuple #[v,.int .i64 0]) (by simp[results,Tryz.results12,go_sem]) rfl ⟨H2.out.2.2,.inr (.inr ⟨by have:=HF.out.1;omega,HF.out.2.1,hk,A,HF.out.2.2,.inl ⟨H2.out.1,v,rfl,H2.out.2.1⟩⟩)⟩
   ·have H2:=zHd (zAI hn2 (zaa HG.out hg2))
    clear hn2 hg2;go_wp2;exact bodyPost_ret (v := .tuple #[.slice none 0 0,.int .i64 2]) (by simp[results,Tryz.results12,go_sem]) rfl ⟨H2.out.2,.inr (.inr ⟨by have:=HF.out.1;omega,HF.out.2.1,hk,A,HF.out.2.2,.inr ⟨H2.out.1,rfl⟩⟩)⟩
end
open Go.RowKit
structure StsR (w:World)(l:List zah)(us:List Value)(A:Option Addr)(c:Nat):Prop where
 len:us.length=l.length
 at_:∀ i,i<l.length→∃ ad s u,A=some ad∧ad.block<w.heap.size∧l[i]? = some s∧us[i]? = some u∧zgO w (ad.add (i * 2)) s.fin u∧zct w u s.arcs
theorem ziv {w:World}{v:Value}{l:List zah}(h:StSl w v l):∃ A c us,v = .slice A l.length c∧StsR w l us A c:=by
 obtain⟨A,c,us,e,hl,hr,ha⟩:=h
 exact⟨A,c,us,e,hl,fun i hi=>by
  obtain⟨ad,s,u,h1,h2,h3,h4,h5⟩:=zqe hr hl hi;exact⟨ad,s,u,h1,h2,h3,h4,h5,ha i s u h3 h4⟩⟩
theorem zbX {w w':World}(h:w.grownBy w' none):Below w.heap.size w w':=⟨h.os,h.tape,h.output,h.size,fun i hi=>h.block i hi (by simp)⟩
theorem StsR.grown {w w':World}{l:List zah}{us:List Value}{A:Option Addr}{c:Nat}(h:StsR w l us A c)(hg:w.grownBy w' none):StsR w' l us A c :=
 ⟨h.len,fun i hi=>by
  obtain⟨ad,s,u,h1,h2,h3,h4,h5,h6⟩:=h.at_ i hi;exact⟨ad,s,u,h1,Nat.lt_of_lt_of_le h2 hg.size,h3,h4,h5.below (zbX hg) (by rw[zaj];exact h2),h6.below (zbX hg)⟩⟩
def zAO (P:Prop)(n m:Nat)(A:Nat→Nat→Value)(w:World)(e:Ending)(w':World):Prop :=
 zbn P (fun v w'=>∃ zs:List Value,v = .slice (some ⟨w.heap.size,0,none⟩) n n∧zdU w' w.heap.size w.heap.size n m zs A∧w'.heap[w.heap.size]? = some (.cells zs.toArray 33 (0,0))) w e w'
theorem zgr (F:Nat)(he:Enters F)(first cap:Array Value)(l:List zah)(us:List Value)(Ad:Option Addr)(c:Nat)(m:Nat)(P:Nat→Prop)(A:Nat→Nat→Value)(w:World)(hn:l.length≤10000)(hl:StsR w l us Ad c)
  (hF:∀ i s u,l[i]? = some s→us[i]? = some u→∀ w',w.grownBy w' none→zct w' u s.arcs→Calls Tryz.prog F (first++#[.agg #[.string s.fin,u]]++cap) w' (ziS (P i) w.heap.size m (A i) w')) :
  Calls Tryz.prog 94 #[.slice Ad l.length c,.func (.func F) first cap] w (zAO (∀ i,i<l.length→P i) l.length m A w):=by
 obtain⟨i0,hi,hz0,hz1,hz2⟩:=info_parts zcF;obtain⟨n,hne⟩:∃ n,l.length=n:=⟨_,rfl⟩;have HNE:=zHd hne;rw[hne] at hn ⊢;have HE:=zHd he;have HF:=zHd hF;have HL:=zHd hl;have HN:=zHd hn;clear he hF hl hn hne;go_enter Tryz.func94,Tryz.ntmps94;go_wp2_with (at_make;refine wpList_make_full _ rfl _ _ 22 rfl w.heap.size 33 i0 (.slice none 0 0) 1 Tryz.underlying22 hi hz0 hz1 _ _ _ _ n rfl rfl ?c0 ?c1 ?c2 (by have:=HN.out;unfold maxLen;omega) (Nat.le_refl _) ?_)
 case c0=>omega
 case c1=>omega
 case c2=>have:=HN.out;first|omega|(rw[hz2];omega)
 intro w1 hown hgr;have hfill:=zaq.start hown hgr;have HW:=zHd hfill;clear hown hgr hfill;go_wp2
 go_loopw [13] (fun iv wr=>∃ zs:List Value,iv = .int .i64 (zs.length:Int)∧zaq 33 (.slice none 0 0) n zs w wr∧∀ i,i<zs.length→∃ gi off c,zs.getD i (.slice none 0 0) = .slice (some ⟨gi,off,none⟩) m c∧m≤c∧c≤maxLen∧gi≠w.heap.size∧zam wr gi off m (A i)∧P i) (fun iv _=>n - (intOf iv).toNat)
 case atStart=>exact⟨[],rfl,HW.out,fun i hi=>absurd hi (by simp)⟩
 case round =>
  obtain⟨zs,rfl,hfill,hrows⟩:=hrel;obtain⟨k,hzk⟩:∃ k,zs.length=k:=⟨_,rfl⟩;have hle:=hfill.le
  by_cases hk:k<n
  ·have hgw:=hfill.gr
   obtain⟨ad,s,u,rfl,hb,hs,hu,⟨hc0,hc1⟩,has⟩:=(HL.out.grown hgw).at_ k (by rw[HNE.out];exact hk);have t1:decide (k<n)=true:=by simpa using hk
   have t1':decide ((k:Int)<(n:Int))=true:=by simpa using hk
   have hik:(k:Int)<(n:Int):=by omega
   have n1:IntKind.i64.wrap ((k:Int)+1)=(k:Int)+1:=by have:=HN.out;rw[IntKind.wrap_i64];omega
   have hcall:=HF.out k s u hs hu (wr.alloc (.cells #[.string s.fin,u] 57)) (zaa hgw (zGA _ _ none)) (has.below (zbX (zGA _ _ none)));obtain⟨Au,cu,hue,_⟩:=has;rw[hue] at hc1 hcall;have HFL:=zHd hfill;have HK:=zHd (zAI hk (zAI hzk hle));have HCALL:=zHd hcall;have HR:=zHd hrows;rw[hzk];clear hrows hgw hs hu hcall;clear hfill hk hle hzk hb;go_wp2_with fail;rw[HE.out];rw[show first.push (Value.agg #[.string s.fin,.slice Au s.arcs.length cu])++cap=first++#[.agg #[.string s.fin,.slice Au s.arcs.length cu]]++cap by simp];refine HCALL.out.mono ?_;rintro e w' (⟨hpk,v,rfl,⟨g,off,c2,rfl,hm1,hm2,hgl,hrow⟩,hg0⟩|⟨hnp,rfl,hg0⟩)
   ·have hg:=zaa (zGA wr (.cells #[.string s.fin,.slice Au s.arcs.length cu] 57) none) hg0
    have hgl2:g<w.heap.size∨wr.heap.size≤g:=by
     rcases hgl with h|h
     ·exact .inl h
     ·right;simp at h;omega
    have HPK:=zHd hpk;clear hpk hg0 hgl;have hf2:=HFL.out.grown hg;have hcl:=hf2.cell (by rw[HK.out.2.1];exact HK.out.1);have hfr:=hf2.free k;rw[HK.out.2.1] at hcl;have HF2:=zHd hf2;have HG:=zHd hg;have HROW:=zHd (zAI hm1 (zAI hm2 (zAI hgl2 hrow)));clear hf2 hg hm1 hm2 hgl2 hrow;go_wp2;obtain⟨hk,hzk,hle⟩:=HK.out;have hput:=HF2.out.put (by rw[hzk];exact hk) (.slice (some ⟨g,off,none⟩) m c2);rw[hzk] at hput;obtain⟨hm1,hm2,hgl,hrow⟩:=HROW.out
    have hne:g≠w.heap.size:=by
     rcases hgl with h|h
     ·omega
     ·have:=(Array.getElem?_eq_some_iff.1 HFL.out.row).1;omega
    refine⟨⟨zs++[.slice (some ⟨g,off,none⟩) m c2],by simp[hzk],hput,fun i hi => ?_⟩,by simp[intOf];omega⟩
    by_cases hik2:i<zs.length
    ·obtain⟨gi,oi,ci,e1,e2,e3,e4,e5,e6⟩:=HR.out i hik2
     refine⟨gi,oi,ci,?_,e2,e3,e4,(e5.grown HG.out).grownB (zac _ _ _) e4,e6⟩;rw[List.getD_eq_getElem?_getD,List.getElem?_append_left hik2,← List.getD_eq_getElem?_getD];exact e1
    ·have hi2:i=k:=by simp at hi;omega
     subst hi2;refine⟨g,off,c2,?_,hm1,hm2,hne,hrow.grownB (zac _ _ _) hne,HPK.out⟩;rw[List.getD_eq_getElem?_getD,List.getElem?_append_right (by omega),hzk,Nat.sub_self]
     rfl
   ·go_wp2
    exact⟨rfl,.inr ⟨fun h=>hnp (h k HK.out.1),rfl,zaa (zaa HFL.out.gr (zGA _ _ none)) hg0⟩⟩
  ·have hkn:k=n:=by omega
   subst hkn;have t1:decide (k<k)=false:=by simp
   have t1':decide ((k:Int)<(k:Int))=false:=by simp
   have HFL:=zHd hfill;have HK:=zHd hzk;have HR:=zHd hrows;rw[hzk];clear hrows;clear hfill hk hle hzk;go_wp2;go_ret;have hzk:=HK.out;exact .inl ⟨fun i hi=>by obtain⟨_,_,_,_,_,_,_,_,h⟩:=HR.out i (by omega);exact h,_,rfl,⟨zs,rfl,⟨hzk,HFL.out.rowAt hzk,fun i hi=>(by obtain⟨gi,oi,ci,e1,e2,e3,e4,e5,e6⟩:=HR.out i (by omega);exact⟨gi,oi,ci,e1,e2,e3,e4,e5⟩)⟩,(by have h:=HFL.out.row;rw[hzk,Nat.sub_self,List.replicate_zero,List.append_nil] at h;exact h)⟩,HFL.out.gr⟩
open Go.RowKit
section
variable {k:Int}
theorem zAP (hk:zad k)(a:ByteArray):∃ x:El k,∀ v,Val k a v→x.1=v:=by
 by_cases h:∃ v,Val k a v
 ·obtain⟨v,hv⟩:=h
  exact⟨⟨v,hv.has⟩,fun u hu=>hv.e.uniq hu.e⟩
 ·exact⟨(srE k hk).zero,fun v hv=>absurd ⟨v,hv⟩ h⟩
noncomputable def vE (hk:zad k)(a:ByteArray):El k:=Classical.choose (zAP hk a)
theorem zxE (hk:zad k){a:ByteArray}{v:Ext}(h:Val k a v):(vE hk a).1=v:=Classical.choose_spec (zAP hk a) v h
theorem zlu (hk:zad k){a:ByteArray}(h:∃ v,Val k a v):a=tx (vE hk a)∧FitE (vE hk a):=by
 obtain⟨v,hv⟩:=h;have e:=zxE hk hv;refine⟨by unfold tx;rw[e];exact hv.e.text,?_⟩;show Fits (vE hk a).1;rw[e];have e2:=hv.e;rcases v with(_|_)|x
 ·trivial
 ·trivial
 ·exact e2.short
def arcK (l:List MArc)(j:Nat):Nat:=(l[j]?.map (fun a=>a.t.toNat)).getD 0
noncomputable def arcF (hk:zad k)(l:List MArc)(j:Nat):El k:=(l[j]?.map (fun a=>vE hk a.w)).getD (srE k hk).zero
theorem zpt {l:List MArc}{j:Nat}{a:MArc}(h:l[j]? = some a):arcK l j=a.t.toNat:=by unfold arcK;rw[h];rfl
theorem zpu (hk:zad k){l:List MArc}{j:Nat}{a:MArc}(h:l[j]? = some a):arcF hk l j=vE hk a.w:=by unfold arcF;rw[h];rfl
def ztl (k:Int)(n:Nat)(l:List MArc):Prop:=∀ a∈l,0≤a.t∧a.t<(n:Int)∧∃ v,Val k a.w v
theorem zxF (hk:zad k)(n gc gm cs:Nat)(fin:ByteArray)(u:Value)(l:List MArc)(As:Option Addr)(w:World)(hn:n≤10000)(hl:l.length≤30000)(hok:ztl k n l)(hu:zct w u l)(hcal:zca w gc k)(hst:w.cell? ⟨gm,3,none⟩=some (.slice As n cs)) :
  Calls Tryz.prog 143 #[.agg #[.string fin,u],.pointer (some ⟨gc,0,none⟩),.pointer (some ⟨gm,0,none⟩)] w (zbn (∀ s,s<l.length→FitE (mrgP hk (arcF hk l) (arcK l) (s+1) (arcK l s))) (fun v w'=>∃ g,v = .slice (some ⟨g,0,none⟩) n n∧w.heap.size≤g∧zam w' g 0 n (txs (mrgP hk (arcF hk l) (arcK l) l.length))) w):=by
 have hz:=fun w'=>zeX k n w' hn;obtain⟨Au,cu,rfl,hr⟩:=hu;obtain⟨c0,c1,c2⟩:=hcal;obtain⟨q,hq⟩:∃ q,l.length=q:=⟨_,rfl⟩;have HQ:=zHd hq;rw[hq];have hr2:=hr;rw[hq] at hr2 hl;have HZ:=zHd hz;have HU:=zHd hr2;have HO:=zHd hok;have HN:=zHd (zAI hn hl);have HC:=zHd (zAI c0 (zAI c1 c2));have hW:=zGA w (.cells #[.string fin,.slice Au q cu] 57) none;have d0:=hW.cell c0 (by simp);have d1:=hW.cell c1 (by simp);have d2:=hW.cell c2 (by simp);have ds:=hW.cell hst (by simp);have b1:=zak w #[.string fin,.slice Au q cu] 57 (j:=1) rfl;have HW:=zHd hW;clear hz hr hr2 hok hn hl c0 c1 c2 hst hq hW;unfold calV at *;go_enter Tryz.func143,Tryz.ntmps143;go_wp2_with fail;refine(HZ.out _).mono ?_;rintro e w1 ⟨g,rfl,hgW,hrow,hg1⟩;have x0:=hg1.cell d0 (by simp);have x1:=hg1.cell d1 (by simp);have x2:=hg1.cell d2 (by simp);have xb:=hg1.cell b1 (by simp);have hgb:w.heap.size+1≤g:=by simpa using hgW
 have hgc:gc<w.heap.size:=by
  have:=HC.out.1;unfold World.cell? at this
  dsimp only at this
  by_cases h:gc<w.heap.size
  ·exact h
  ·rw[Array.getElem?_eq_none (by omega)] at this;simp at this
 have hinv:zhg hk (arcF hk l) (arcK l) q n g w 0 w1:=⟨Nat.zero_le _,zaa HW.out hg1,by omega,by rw[zqb];exact hrow,fun s hs=>absurd hs (by omega),fun d=>zbR hk⟩;have HI:=zHd hinv;have HX:=zHd (zAI x0 (zAI x1 (zAI x2 (zAI hgb hgc))));clear hgW hrow hg1 x0 x1 x2 hinv hgb hgc d0 d1 d2 ds b1 HC;go_wp2
 go_loopw [16] (fun iv wr=>∃ t:Nat,iv = .int .i64 (t:Int)∧zhg hk (arcF hk l) (arcK l) q n g w t wr∧wr.cell? ⟨gc,0,none⟩=some (.int .i64 k)∧wr.cell? ⟨gc,1,none⟩=some (.string (zaf k))∧wr.cell? ⟨gc,2,none⟩=some (.string (oneT k))) (fun iv _=>q - (intOf iv).toNat)
 case atStart=>exact⟨0,rfl,HI.out,HX.out.1,HX.out.2.1,HX.out.2.2.1⟩
 case round =>
  obtain⟨t,rfl,hinv,y0,y1,y2⟩:=hrel
  by_cases ht:t<q
  ·have hrd:=(HU.out.below (zbX hinv.gr)).more (zbX hinv.gr).size
   rw[← HQ.out] at hrd;obtain⟨ad,a,rfl,hbl,hla,⟨a0,a1,a2,a3⟩⟩:=zit hrd (by rw[HQ.out];exact ht);obtain⟨ht0,htn,hwv⟩:=HO.out a (List.mem_of_getElem? hla);obtain⟨hwt,hwf⟩:=zlu hk hwv;obtain⟨κ,hκ⟩:∃ κ:Nat,a.t=(κ:Int):=⟨a.t.toNat,by omega⟩;have hκ2:arcK l t=κ:=by rw[zpt hla,hκ];rfl
   have hκn:κ<n:=by omega
   have hcall:=fun w'=>zhI hk (hinv.now (arcK l t)) (show FitE (arcF hk l t) by rw[zpu hk hla];exact hwf) w';rw[← zvH,hκ2] at hcall;have hft:tx (arcF hk l t)=a.w:=by rw[zpu hk hla];exact hwt.symm
   rw[hft] at hcall;rw[hκ] at a3
   have r1:wr.cell? ⟨g,κ,none⟩=some (.string (tx (mrgP hk (arcF hk l) (arcK l) t κ))):=by
    rw[cell_of_row wr g κ _ _ (0,0) hinv.row,List.getElem?_toArray,zdV hk _ _ t hκn]
   have t1:decide (t<q)=true:=by simpa using ht
   have t1':decide ((t:Int)<(q:Int))=true:=by simpa using ht
   have hit:(t:Int)<(q:Int):=by omega
   have i1:(κ:Int)<(n:Int):=by omega
   have i2:(0:Int)≤(κ:Int):=by omega
   have n1:IntKind.i64.wrap ((t:Int)+1)=(t:Int)+1:=by have:=HN.out.2;rw[IntKind.wrap_i64];omega
   have hgl:g<wr.heap.size:=(Array.getElem?_eq_some_iff.1 hinv.row).1;have hne1:¬ gc=g:=by have:=HX.out.2.2.2;omega
   have hne2:¬ g=gc:=by have:=HX.out.2.2.2;omega
   have hne3:¬ wr.heap.size=g:=by omega
   have hne4:¬ g=wr.heap.size:=by omega
   have HI2:=zHd hinv;have HCALL:=zHd hcall;have HT:=zHd (zAI ht (zAI hκ2 hκn));clear hinv hcall ht hbl hla ht0 htn hwv hwt hwf hκ hκ2 hκn hft hrd hgl;unfold calV at HCALL;go_upto_region 5 with(fail)
   have hal:=zGA wr (.cells #[.int .i64 a.i,.int .i64 a.o,.string a.w,.int .i64 (κ:Int)] 59) none;have u2:=zak wr #[.int .i64 a.i,.int .i64 a.o,.string a.w,.int .i64 (κ:Int)] 59 (j:=2) rfl;have u3:=zak wr #[.int .i64 a.i,.int .i64 a.o,.string a.w,.int .i64 (κ:Int)] 59 (j:=3) rfl;have v0:=hal.cell y0 (by simp);have v1:=hal.cell y1 (by simp);have v2:=hal.cell y2 (by simp);have vr:=hal.cell r1 (by simp);have hrowU:=(hal.block g (Array.getElem?_eq_some_iff.1 HI2.out.row).1 (by simp)).trans HI2.out.row;generalize wr.alloc (.cells #[.int .i64 a.i,.int .i64 a.o,.string a.w,.int .i64 (κ:Int)] 59)=U at *;have e2:U.drew.cell? ⟨wr.heap.size,2,none⟩=some (.string a.w):=u2;have e3:U.drew.cell? ⟨wr.heap.size,3,none⟩=some (.int .i64 (κ:Int)):=u3;have d0:U.drew.cell? ⟨gc,0,none⟩=some (.int .i64 k):=v0;have d1:U.drew.cell? ⟨gc,1,none⟩=some (.string (zaf k)):=v1;have d2:U.drew.cell? ⟨gc,2,none⟩=some (.string (oneT k)):=v2;have dr:U.drew.cell? ⟨g,κ,none⟩=some (.string (tx (mrgP hk (arcF hk l) (arcK l) t κ))):=vr;have HUW:=zHd (zaa hal (zae U none));have HROW:=zHd (show U.drew.heap[g]? = _ from hrowU);clear hal u2 u3 v0 v1 v2 vr hrowU y0 y1 y2 r1 a0 a1 a2 a3;refine zde (e:=14) (n:=14) (fun W':World=>W'.cell? ⟨wr.heap.size,2,none⟩=some (.string a.w)∧W'.cell? ⟨wr.heap.size,3,none⟩=some (.int .i64 (κ:Int))∧W'.cell? ⟨gc,0,none⟩=some (.int .i64 k)∧W'.cell? ⟨gc,1,none⟩=some (.string (zaf k))∧W'.cell? ⟨gc,2,none⟩=some (.string (oneT k))∧W'.cell? ⟨g,κ,none⟩=some (.string (tx (mrgP hk (arcF hk l) (arcK l) t κ)))) (by kernel_rfl) (by kernel_rfl) rfl ?_;have hS0:(fun W':World=>W'.cell? ⟨wr.heap.size,2,none⟩=some (.string a.w)∧W'.cell? ⟨wr.heap.size,3,none⟩=some (.int .i64 (κ:Int))∧W'.cell? ⟨gc,0,none⟩=some (.int .i64 k)∧W'.cell? ⟨gc,1,none⟩=some (.string (zaf k))∧W'.cell? ⟨gc,2,none⟩=some (.string (oneT k))∧W'.cell? ⟨g,κ,none⟩=some (.string (tx (mrgP hk (arcF hk l) (arcK l) t κ)))) U.drew:=⟨e2,e3,d0,d1,d2,dr⟩;refine zTk 0 (.slice (some ⟨g,0,none⟩) n n) rfl hS0 ?_
   (try simp only[zA1,zA2,zA3,Act.put,zA4,zA5,zA6])
   refine zTk 1 (.pointer (some ⟨wr.heap.size,3,none⟩)) rfl hS0 ?_
   (try simp only[zA1,zA2,zA3,Act.put,zA4,zA5,zA6])
   refine zTk 2 (.int .i64 (κ:Int)) rfl hS0 ?_
   (try simp only[zA1,zA2,zA3,Act.put,zA4,zA5,zA6])
   refine zTk 3 (.pointer (some ⟨gc,0,none⟩)) rfl hS0 ?_
   (try simp only[zA1,zA2,zA3,Act.put,zA4,zA5,zA6])
   refine zTk 4 (.agg #[.int .i64 k,.string (zaf k),.string (oneT k)]) rfl hS0 ?_
   (try simp only[zA1,zA2,zA3,Act.put,zA4,zA5,zA6])
   refine zTk 5 (.slice (some ⟨g,0,none⟩) n n) rfl hS0 ?_
   (try simp only[zA1,zA2,zA3,Act.put,zA4,zA5,zA6])
   refine zTk 6 (.pointer (some ⟨wr.heap.size,3,none⟩)) rfl hS0 ?_
   (try simp only[zA1,zA2,zA3,Act.put,zA4,zA5,zA6])
   refine zTk 7 (.int .i64 (κ:Int)) rfl hS0 ?_
   (try simp only[zA1,zA2,zA3,Act.put,zA4,zA5,zA6])
   refine zTk 8 (.pointer (some ⟨g,κ,none⟩)) rfl hS0 ?_
   (try simp only[zA1,zA2,zA3,Act.put,zA4,zA5,zA6])
   refine zTk 9 (.string (tx (mrgP hk (arcF hk l) (arcK l) t κ))) rfl hS0 ?_
   (try simp only[zA1,zA2,zA3,Act.put,zA4,zA5,zA6])
   refine zTk 10 (.pointer (some ⟨wr.heap.size,2,none⟩)) rfl hS0 ?_
   (try simp only[zA1,zA2,zA3,Act.put,zA4,zA5,zA6])
   refine zTk 11 (.string a.w) rfl hS0 ?_
   (try simp only[zA1,zA2,zA3,Act.put,zA4,zA5,zA6])
   refine wpAnyH_ready (rs:=[12]) (by kernel_rfl) (by simp) ?_;refine AllReadyH.cons rfl (fun K hK => ?_) AllReadyH.nil
   go_simp
   refine(HCALL.out _).mono ?_;rintro e w5 (⟨hp,rfl,hg5⟩|⟨hn,rfl,hg5⟩);rotate_left 1
   ·exact⟨rfl,.inr ⟨fun h=>hn (HT.out.2.1 ▸ h t HT.out.1),rfl,zaa (zaa HI2.out.gr HUW.out) hg5⟩⟩
   have s0:=hg5.cell d0 (by simp);have s1:=hg5.cell d1 (by simp);have s2:=hg5.cell d2 (by simp);have hr5:=(hg5.block g (Array.getElem?_eq_some_iff.1 HROW.out).1 (by simp)).trans HROW.out;have z0:=frozen_of_row w5 g κ _ _ hr5;have q0:=cell_of_row w5 g κ _ _ (0,0) hr5;rw[List.getElem?_toArray,zdV hk _ _ t HT.out.2.2] at q0;refine hK.out _ _ (⟨hg5.cell e2 (by simp),hg5.cell e3 (by simp),s0,s1,s2,q0⟩) (fun hHeld => ?_);have H5:=zHd (zAI hp (zAI hg5 hr5));clear hp hg5 hr5 hS0 hK K;refine zTk 13 (.pointer (some ⟨g,κ,none⟩)) rfl hHeld ?_
   (try simp only[zA1,zA2,zA3,Act.put,zA4,zA5,zA6])
   clear hHeld;refine wpAnyH_done (by kernel_rfl) ?_ _;refine zeg (by rfl) (fun K hK => ?_)
   go_simp
   refine hK _ _ ?_;go_wp2;obtain⟨hp,hg5,hr5⟩:=H5.out;have hnx:=HI2.out.next HT.out.1 (by rw[HT.out.2.1];exact HT.out.2.2) (zaa HUW.out hg5) hr5 (by rw[HT.out.2.1];exact hp);rw[HT.out.2.1] at hnx;exact⟨⟨t+1,by simp,hnx,zba hne1 s0,zba hne1 s1,zba hne1 s2⟩,by have:=HT.out.1;simp[intOf];omega⟩
  ·have hte:t=q:=by have:=hinv.le;omega
   subst hte;have t1:decide (t<t)=false:=by simp
   have t1':decide ((t:Int)<(t:Int))=false:=by simp
   have HI2:=zHd hinv;clear hinv ht;go_wp2;go_ret;refine .inl ⟨HI2.out.fit,_,rfl,⟨g,rfl,HI2.out.hg,(Array.getElem?_eq_some_iff.1 HI2.out.row).1,fun d hd => ?_⟩,HI2.out.gr⟩;rw[Nat.zero_add,cell_of_row wr g d _ _ (0,0) HI2.out.row,List.getElem?_toArray,zdV hk _ _ t hd]
   rfl
end
end Go.Proofs.YtaogepcaoogpgaaGreatDoor
