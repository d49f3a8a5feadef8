/- Part. -/
import Derived.Test.YtiblmbpfcmcccaaGreatDoorKX08
import Derived.Shelf.Spec.SlicesInsertGrow
import Derived.Deep.RegionHeld2
set_option linter.unusedVariables false
set_option linter.defProp false
set_option linter.unusedSimpArgs false
set_option maxRecDepth 100000
set_option maxHeartbeats 16000000
namespace Go.Proofs.YtiblmbpfcmcccaaGreatDoor
open Go.Proofs.Tryz
open Go.RowKit
def zBn {m:zaj}(h:headB m=false):zcY m.kind=false∨(zcY m.kind=true/\m.states.length<1)∨(zcY m.kind=true/\¬ m.states.length<1/\3000<m.states.length)∨(zcY m.kind=true/\¬ m.states.length<1/\¬ 3000<m.states.length/\m.start<0) ∨
  (zcY m.kind=true/\¬ m.states.length<1/\¬ 3000<m.states.length/\¬ m.start<0/\(m.states.length:Int)<=m.start)∨(zcY m.kind=true/\¬ m.states.length<1/\¬ 3000<m.states.length/\¬ m.start<0/\¬ (m.states.length:Int)<=m.start/\wgtB m.kind m.lead=false):=by
 unfold headB at h;cases hk:zcY m.kind;exact .inl rfl;rw[hk] at h;refine .inr ?_
 by_cases h1:m.states.length<1
 exact .inl ⟨rfl,h1⟩
 by_cases h2:3000<m.states.length
 ·exact .inr (.inl ⟨rfl,h1,h2⟩)
 by_cases h3:m.start<0
 ·exact .inr (.inr (.inl ⟨rfl,h1,h2,h3⟩))
 by_cases h4:(m.states.length:Int)<=m.start
 ·exact .inr (.inr (.inr (.inl ⟨rfl,h1,h2,h3,h4⟩)))
 refine .inr (.inr (.inr (.inr ⟨rfl,h1,h2,h3,h4,?_⟩)));rw[decide_eq_true (by omega:1<=m.states.length/\m.states.length<=3000/\0<=m.start/\m.start<(m.states.length:Int))] at h;simpa using h
def zEL {k:Int}{n:Nat}{a:zaI}(h:arcB k n a=false):a.i<0∨(¬ a.i<0/\500<a.i)∨(¬ a.i<0/\¬ 500<a.i/\a.o<0)∨(¬ a.i<0/\¬ 500<a.i/\¬ a.o<0/\500<a.o)∨(¬ a.i<0/\¬ 500<a.i/\¬ a.o<0/\¬ 500<a.o/\a.t<0) ∨
  (¬ a.i<0/\¬ 500<a.i/\¬ a.o<0/\¬ 500<a.o/\¬ a.t<0/\(n:Int)<=a.t)∨(¬ a.i<0/\¬ 500<a.i/\¬ a.o<0/\¬ 500<a.o/\¬ a.t<0/\¬ (n:Int)<=a.t/\wgtB k a.w=false):=by
 unfold arcB at h
 by_cases hc:0<=a.i/\a.i<=500/\0<=a.o/\a.o<=500/\0<=a.t/\a.t<(n:Int)
 ·rw[decide_eq_true hc] at h
  simp only[Bool.true_and] at h;rw[h];simp;omega
 omega
def zwr {w:World}{v:Value}{m:zaj}(hv:zbJ w v m)(hf:zdD m)(h:headB m=false) :
  Calls prog 9 #[v] w (zab (.bool false) w):=by
 obtain⟨u,rfl,A,cap,us,rfl,hul,hr,ha⟩:=hv;obtain⟨x0,x1,x2,x3⟩:=(zas.new w m (.slice A m.states.length cap)).cells;have hk:=ztE m.kind;unfold RK at hk;have hw:=zku (k:=m.kind) hf.lead;unfold VB at hw;have hg:w.grownBy (w.alloc (.cells #[.int .i64 m.kind,.int .i64 m.start,.string m.lead,.slice A m.states.length cap] 24)) none:=zGA _ _ _;rcases zBn h with h1|⟨h1,h2⟩|⟨h1,h2,h3⟩|⟨h1,h2,h3,h4⟩|⟨h1,h2,h3,h4,h5⟩|⟨h1,h2,h3,h4,h5,h6⟩
 all_goals rw[h1] at hk
 ·clear hw hr ha h h1
  exact zQbi
 iterate 4
  ·clear hw hr ha h h1
   exact zQbi
 rw[h6] at hw;clear hr ha h h1 h6;go_enter func9,ntmps9;go_wp2_with (go_at_call 29;refine(hk _).mono ?_;rintro e w' ⟨rfl,rfl⟩);refine(hw _).mono ?_;rintro e w1 ⟨rfl,hg1⟩;go_wp2;go_ret;exact⟨rfl,zaa hg hg1⟩
open Go.RowKit
def zsH (w:World)(a:zaI):zkc (w.alloc (.cells #[.int .i64 a.i,.int .i64 a.o,.string a.w,.int .i64 a.t] 45)) ⟨w.heap.size,0,none⟩ a:=by
 have zW:(w.alloc (.cells #[.int .i64 a.i,.int .i64 a.o,.string a.w,.int .i64 a.t] 45)).heap[w.heap.size]?=some (.cells #[.int .i64 a.i,.int .i64 a.o,.string a.w,.int .i64 a.t] 45 (0,0)):=by
  exact zQaV
 exact⟨by rw[zqbw _ w.heap.size 0 _ _ (0,0) zW];rfl,by show World.cell? _ ⟨w.heap.size,0+1,none⟩=_;rw[zqbw _ w.heap.size 1 _ _ (0,0) zW];rfl,by show World.cell? _ ⟨w.heap.size,0+2,none⟩=_;rw[zqbw _ w.heap.size 2 _ _ (0,0) zW];rfl,by show World.cell? _ ⟨w.heap.size,0+3,none⟩=_;rw[zqbw _ w.heap.size 3 _ _ (0,0) zW];rfl⟩
def zrc {m:zaj}{k:Nat}{s:zah}(hs:m.states[k]?=some s)(h:stB6 m.kind m.states.length s=false):validB m=false:=by
 cases hv:validB m;rfl;rw[zfM hv hs] at h;cases h
def zIg {m:zaj}{k:Nat}(hk:k<=m.states.length)(h:30000<zap (m.states.take k)):validB m=false:=by
 cases hv:validB m;rfl;have:=ziT hv;have:=ziS m.states hk;omega
def zuw {k:Int}{n:Nat}{s:zah}{j:Nat}{a:zaI}(hj:s.arcs[j]?=some a)(h:arcB k n a=false):stB6 k n s=false:=by
 cases hs:stB6 k n s;rfl;rw[(zfq hs).2 a (zqak hj)] at h;cases h
noncomputable def badF (k:Int)(q:Nat)(f:ByteArray):Bool:=decide (30000<q) || !finB k f
structure VOut (w W wr:World)(m:zaj)(k:Nat):Prop where
 hk:k<=m.states.length
 hn:zap (m.states.take k)<=30000
 hs:∀ (j:Nat) (s:zah),j<k->m.states[j]?=some s->stB6 m.kind m.states.length s=true
 hg:W.grownBy wr none
def zfr {w:World}{v:Value}{m:zaj}(hv:zbJ w v m)(hf:zdD m) :
  Calls prog 9 #[v] w (zab (.bool (validB m)) w):=by
 cases hH:headB m
 ·rw[show validB m=false by unfold validB;rw[hH];rfl]
  exact zwr hv hf hH
 obtain⟨hk1,hl1,hl2,hst1,hst2,hlw⟩:=zep hH;obtain⟨u,rfl,hst0⟩:=hv;have HST:=zHd hst0;obtain⟨A,cap,us,rfl,hul,hr,ha⟩:=hst0;have hbx:=zas.new w m (.slice A m.states.length cap);have hk:=ztE m.kind;unfold RK at hk;rw[hk1] at hk;have hw:=zku (k:=m.kind) hf.lead;unfold VB at hw;rw[hlw] at hw;have hwt:=fun(f:ByteArray) (h:f.size<=maxLen)=>zku (k:=m.kind) h;unfold VB at hwt;have HWT:=zHd hwt;have HF:=zHd hf;have HH:=zHd hH;have hg:w.grownBy (w.alloc (.cells #[.int .i64 m.kind,.int .i64 m.start,.string m.lead,.slice A m.states.length cap] 24)) none:=zGA _ _ _;obtain⟨x0,x1,x2,x3⟩:=hbx.cells;have HBX:=zHd hbx;have HG:=zHd hg;have f1:¬ m.states.length<1:=by omega
 have f2:¬ 3000<m.states.length:=by omega
 have f3:¬ m.start<0:=by omega
 have f4:¬ (m.states.length:Int)<=m.start:=by omega
 clear hwt hbx hg hr ha hul hf hH hk1 hlw hl1 hst1 hst2;go_enter func9,ntmps9;go_wp2_with (go_at_call 29;refine(hk _).mono ?_;rintro e w' ⟨rfl,rfl⟩);refine(hw _).mono ?_;rintro e w1 ⟨rfl,hg1⟩;have HG1:=zHd hg1;clear hk hw hg1 x0 x1 x2 x3;generalize hW:w.alloc (.cells #[.int .i64 m.kind,.int .i64 m.start,.string m.lead,.slice A m.states.length cap] 24)=W at *;clear hW;go_wp2
 go_loopw [3,4] (fun n i wr=>∃ k:Nat,i=.int .i64 k/\n=.int .i64 (zap (m.states.take k):Int)/\VOut w W wr m k) (fun _ i _=>m.states.length-(intOf i).toNat)
 case atStart=>exact⟨0,rfl,rfl,⟨by omega,by simp[zap],fun j s hj=>by omega,HG1.out⟩⟩
 case round =>
  obtain⟨k,rfl,rfl,ho⟩:=hrel;have hk:=ho.hk;have hnk:=ho.hn;have HO:=zHd ho;have hbxr:=(HBX.out.grown ho.hg).cells;obtain⟨x0,x1,x2,x3⟩:=hbxr;clear ho
  by_cases hlt:k<m.states.length
  ·obtain⟨A',cap',us',hA',hul,hr,ha⟩:=HST.out.grown (zaa HG.out HO.out.hg)
   injection hA' with h1 h2 h3
   subst h1;obtain⟨ad,s,us1,hA,hadb,hs,hu,hc⟩:=zkd hr hul hlt;subst hA;obtain⟨B,cb,hB,hra⟩:=ha k s us1 hs hu;subst hB;obtain⟨y0,y1⟩:=hc;have hsm:=zqak hs;have hfin:=HF.out.fin s hsm;have hal:=HF.out.arcs s hsm;have hts:=zcA hs;have hnx:zap (m.states.take (k+1))=zap (m.states.take k)+s.arcs.length:=by rw[hts,zhs]
   have n1:(k:Int)<(m.states.length:Int):=by omega
   have n2:IntKind.i64.wrap ((k:Int)+1)=(k:Int)+1:=by rw[zqah];omega
   have n3:IntKind.i64.wrap ((zap (m.states.take k):Int)+(s.arcs.length:Int))=(zap (m.states.take (k+1)):Int):=by rw[zqah];omega
   have hnew:zas wr w.heap.size m (.slice (some ad) m.states.length cap):=HBX.out.grown HO.out.hg;generalize hq:zap (m.states.take (k+1))=q at *;have HQ:=zHd hq;have HS:=zHd hs;have HRA:=zHd hra;clear hs hu hts hnx hr ha h2 h3 hq hra hsm hul hnew;have hgs:wr.grownBy (wr.alloc (.cells #[.string s.fin,.slice B s.arcs.length cb] 40)) none:=zGA _ _ _
   have hst2:zfp (wr.alloc (.cells #[.string s.fin,.slice B s.arcs.length cb] 40)) ⟨wr.heap.size,0,none⟩ s.fin (.slice B s.arcs.length cb):=by
    have zW:(wr.alloc (.cells #[.string s.fin,.slice B s.arcs.length cb] 40)).heap[wr.heap.size]?=some (.cells #[.string s.fin,.slice B s.arcs.length cb] 40 (0,0)):=by
     show(wr.heap.push _)[wr.heap.size]?=_;rw[zqaz]
    exact⟨by rw[zqbw _ wr.heap.size 0 _ _ (0,0) zW];rfl,by show World.cell? _ ⟨wr.heap.size,0+1,none⟩=_;rw[zqbw _ wr.heap.size 1 _ _ (0,0) zW];rfl⟩
   have HGS:=zHd hgs;have HS2:=zHd hst2;clear hgs hst2;go_upto_region 9 with(fail);have hsz2:wr.heap.size<(wr.alloc (.cells #[.string s.fin,.slice B s.arcs.length cb] 40)).heap.size:=by simp
   generalize hW2:wr.alloc (.cells #[.string s.fin,.slice B s.arcs.length cb] 40)=W2 at *;clear hW2;obtain⟨z0,z1⟩:=HS2.out;have hbx2:=(HBX.out.grown (zaa HO.out.hg HGS.out)).cells;obtain⟨x0,x1,x2,x3⟩:=hbx2
   go_cut [76] from 62 to 76 (fun b wx=>b=.bool (badF m.kind q s.fin)/\W2.grownBy wx none)
   case first =>
    by_cases hq3:30000<q
    ·have hb:badF m.kind q s.fin=true:=by unfold badF;simp[hq3]
     have HB:=zHd hb;clear hb;go_wp2
     go_meet
     case rel=>exact⟨by rw[HB.out],zae _ _⟩
    by_cases hf0:s.fin.size=0
    ·have hb:badF m.kind q s.fin=false:=by unfold badF finB;simp[hq3,hf0]
     have HB:=zHd hb;clear hb;have b1:(s.fin.toList==[])=true:=(by rw[Lib.toList_data,beq_iff_eq,<- List.length_eq_zero_iff,zqbs];exact hf0);have b2:(s.fin.toList != [])=false:=zla b1;go_wp2
     go_meet
     case rel=>exact⟨by rw[HB.out,show decide ((30000:Int)<(q:Int))=false by simp;omega],zae _ _⟩
    have b1:(s.fin.toList==[])=false:=by
     cases h:(s.fin.toList==[]);rfl;exact zQbb
    have b2:(s.fin.toList != [])=true:=zfK b1;have hb:badF m.kind q s.fin = !wgtB m.kind s.fin:=(by unfold badF finB;simp[hq3,hf0]);have HB:=zHd hb;clear hb;have hwf:=HWT.out s.fin hfin;cases hwb:wgtB m.kind s.fin
    all_goals
     rw[hwb] at hwf HB;go_wp2_with fail;refine(hwf _).mono ?_;rintro e w4 ⟨rfl,hg4⟩;go_wp2
     go_meet
     case rel=>exact⟨by rw[HB.out];first|rfl|(rw[show decide ((30000:Int)<(q:Int))=false by simp;omega];rfl),hg4⟩
   case rest =>
    obtain⟨rfl,hg5⟩:=hcut;have HG5:=zHd (zaa HGS.out hg5);clear x0 x1 x2 x3 z0 z1 y0 y1;have S5:=HS2.out.grown hg5 hsz2;cases hbad:badF m.kind q s.fin
    ·have hfb:finB m.kind s.fin=true:=by
      unfold badF at hbad;have:=(Bool.or_eq_false_iff.1 hbad).2;simpa using this
     have hq3:q<=30000:=by
      unfold badF at hbad;have:=(Bool.or_eq_false_iff.1 hbad).1;simpa using this
     have HFB:=zHd hfb;have S5:=zHd S5;have hg50:=zaa HO.out.hg HG5.out;have HG50:=zHd hg50;have hal2:s.arcs.length<=30000:=(by have:=zni (l:=m.states.take (k+1)) (s:=s) (by rw[zcA HS.out];simp);rw[HQ.out] at this;omega);clear hfb hbad hg50 hg5 HGS HS2 hsz2;generalize wr=w4 at *;generalize wc=w5 at *
     have hsz5:w4.heap.size<w5.heap.size:=by
      have:=S5.out.c0;unfold World.cell? at this;rcases Nat.lt_or_ge w4.heap.size w5.heap.size with h|h
      exact h;rw[Array.getElem?_eq_none h] at this;simp at this
     obtain⟨z0,z1⟩:=S5.out;go_wp2;clear z0 z1
     go_loopw [6] (fun i wr=>∃ j:Nat,i=.int .i64 j/\j<=s.arcs.length/\(∀ (i:Nat) (a:zaI),i<j->s.arcs[i]?=some a->arcB m.kind m.states.length a=true)/\w5.grownBy wr none) (fun i _=>s.arcs.length-(intOf i).toNat)
     case atStart=>exact⟨0,rfl,by omega,fun i a hi=>by omega,zae _ _⟩
     case round =>
      obtain⟨j,rfl,hj,hall,hg6⟩:=hrel;have HALL:=zHd hall;have HG6:=zHd hg6;have hS6:=S5.out.grown hg6 hsz5;have HS6:=zHd hS6;obtain⟨z0,z1⟩:=hS6;clear hall hg6
      by_cases hjl:j<s.arcs.length
      ·obtain⟨ad2,a,hB,hab,haj,hat⟩:=zgV HRA.out hjl
       subst hB;obtain⟨y0,y1,y2,y3⟩:=(hat.grown HG5.out (by rw[zcN];exact hab)).grown HG6.out (by have:=HG5.out.size;rw[zcN];omega);have n1:(j:Int)<(s.arcs.length:Int):=(by omega);have n2:IntKind.i64.wrap ((j:Int)+1)=(j:Int)+1:=(by rw[zqah];omega);have haw:=HF.out.w s (zqak HS.out) a (zqak haj);have HAJ:=zHd haj;simp only[zqat] at z1;clear hat haj;go_upto_region 15 with(fail);have hg7:wr.grownBy (wr.alloc (.cells #[.int .i64 a.i,.int .i64 a.o,.string a.w,.int .i64 a.t] 45)) none:=zGA _ _ _;have hA7:=zsH wr a;generalize hW3:wr.alloc (.cells #[.int .i64 a.i,.int .i64 a.o,.string a.w,.int .i64 a.t] 45)=W3 at *;clear hW3 y0 y1 y2 y3 z0 z1;obtain⟨y0,y1,y2,y3⟩:=hA7;simp only[zqat] at y1 y2 y3;have HG7:=zHd hg7;have hbx7:=(HBX.out.grown (zaa HG50.out (zaa HG6.out HG7.out))).cells;obtain⟨x0,x1,x2,x3⟩:=hbx7;have hwa:=HWT.out a.w haw;clear hg7
       go_cut [127] from 89 to 127 (fun b wx=>b=.bool (!arcB m.kind m.states.length a)/\W3.grownBy wx none)
       case first =>
        cases hAB:arcB m.kind m.states.length a
        ·have HB:=zHd hAB
         rcases zEL hAB with h1|⟨h1,h2⟩|⟨h1,h2,h3⟩|⟨h1,h2,h3,h4⟩|⟨h1,h2,h3,h4,h5⟩|⟨h1,h2,h3,h4,h5,h6⟩|⟨h1,h2,h3,h4,h5,h6,h7⟩
         iterate 6
          ·clear hwa hAB
           go_wp2
           go_meet
           case rel=>exact⟨by rw[HB.out];first|rfl|simp[*],zae _ _⟩
         rw[h7] at hwa;clear h7 hAB;go_wp2_with fail;refine(hwa _).mono ?_;rintro e w8 ⟨rfl,hg8⟩;go_wp2
         go_meet
         case rel=>exact⟨by rw[HB.out];first|rfl|simp[*],hg8⟩
        have HB:=zHd hAB;obtain⟨h1,h2,h3,h4,h5,h6,h7⟩:=zgW hAB;rw[h7] at hwa;have g1:¬ a.i<0:=(by omega);have g2:¬ 500<a.i:=(by omega);have g3:¬ a.o<0:=(by omega);have g4:¬ 500<a.o:=(by omega);have g5:¬ a.t<0:=(by omega);have g6:¬ (m.states.length:Int)<=a.t:=(by omega);clear h1 h2 h3 h4 h5 h6 h7 hAB;go_wp2_with fail;refine(hwa _).mono ?_;rintro e w8 ⟨rfl,hg8⟩;go_wp2
        go_meet
        case rel=>exact⟨by rw[HB.out];first|rfl|simp[*],hg8⟩
       case rest =>
        obtain⟨rfl,hg8⟩:=hcut;have HG8:=zHd (zaa HG6.out (zaa HG7.out hg8));clear hg8 x0 x1 x2 x3 y0 y1 y2 y3 hwa HG7;cases hAB:arcB m.kind m.states.length a
        ·have hno:validB m=false:=zrc HS.out (zuw HAJ.out hAB)
         have HNO:=zHd hno;clear hno hAB;go_wp2;go_ret;exact⟨by rw[HNO.out];rfl,zaa HG.out (zaa HG50.out HG8.out)⟩
        have HALL2:Hid (∀ (i:Nat) (a:zaI),i<j+1->s.arcs[i]?=some a->arcB m.kind m.states.length a=true):=zHd (fun i' a' hi' ha'=>by
         by_cases e:i'=j
         subst e;rw[HAJ.out] at ha';cases ha';exact hAB;exact HALL.out i' a' (by omega) ha')
        clear hAB;go_wp2
        go_roundw
        case rel=>exact⟨j+1,by go_num,by omega,HALL2.out,HG8.out⟩
        case measure=>simp[intOf];omega
      have n1:¬ (j:Int)<(s.arcs.length:Int):=by omega
      have hsB:stB6 m.kind m.states.length s=true:=by
       unfold stB6;rw[HFB.out];simp only[Bool.true_and,List.all_eq_true];intro a ha;obtain⟨i',hi'⟩:=List.mem_iff_getElem?.1 ha;exact HALL.out i' a (by have:=(zqae.1 hi').1;omega) hi'
      have HO2:Hid (VOut w W wr m (k+1)):=zHd ⟨by omega,by rw[HQ.out];exact hq3,fun j' s' hj' hs'=>by
       by_cases e:j'=k
       subst e;rw[HS.out] at hs';cases hs';exact hsB;exact HO.out.hs j' s' (by omega) hs',zaa HG50.out HG6.out⟩
      clear hsB;simp only[zqat] at z1;go_wp2
      go_roundw
      case rel=>exact⟨k+1,by go_num,by rw[HQ.out],HO2.out⟩
      case measure=>simp[intOf];omega
    have hno:validB m=false:=by
     unfold badF at hbad;rcases Bool.or_eq_true_iff.1 hbad with h|h
     exact zIg (k:=k+1) (by omega) (by rw[HQ.out];simpa using h);refine zrc HS.out ?_;unfold stB6;rw[show finB m.kind s.fin=false by simpa using h];rfl
    have HNO:=zHd hno;clear hno hbad S5;go_wp2;go_ret;exact⟨by rw[HNO.out];rfl,zaa HG.out (zaa HO.out.hg HG5.out)⟩
  have n1:¬ (k:Int)<(m.states.length:Int):=by omega
  have hyes:validB m=true:=by
   have h1:=HO.out.hn;rw[zqaf (by omega)] at h1;unfold validB;rw[HH.out];simp only[Bool.true_and,zqbb,zqca,List.all_eq_true];refine⟨h1,fun s hs=>?_⟩;obtain⟨j,hj⟩:=List.mem_iff_getElem?.1 hs;exact HO.out.hs j s (by have:=(zqae.1 hj).1;omega) hj
  have HY:=zHd hyes;clear hyes;go_wp2;go_ret;exact⟨by rw[HY.out];rfl,zaa HG.out HO.out.hg⟩
open Go.RowKit
structure zht (w:World)(g n c:Nat)(zs:List Value):Prop where
 len:zs.length=n
 le:n<=c
 max:c<=maxLen
 row:∃ sp:List Value,n+sp.length=c/\w.heap[g]?=some (.cells (zs++sp).toArray 27 (0,0))
def zht.lt {w:World}{g n c:Nat}{zs:List Value}(h:zht w g n c zs):g<w.heap.size:=by
 obtain⟨sp,_,h⟩:=h.row;exact(zqad.1 h).1
def zht.keep {w w':World}{g n c:Nat}{zs:List Value}(h:zht w g n c zs)(hb:w'.heap[g]?=w.heap[g]?):zht w' g n c zs:=by
 obtain⟨sp,h1,h2⟩:=h.row;exact⟨h.len,h.le,h.max,sp,h1,hb.trans h2⟩
def zht.grown {w w':World}{g n c:Nat}{zs:List Value}(h:zht w g n c zs)(hg:w.grownBy w' none):zht w' g n c zs:=h.keep (hg.block g h.lt (by simp))
def zht.rowAt {w:World}{g n c:Nat}{zs:List Value}(h:zht w g n c zs):zar w g 0 n (fun j=>zs.getD j (.slice none 0 0)):=by
 refine⟨h.lt,fun j hj=>?_⟩;obtain⟨sp,h1,h2⟩:=h.row;have hl:=h.len;rw[zqat,zqbw w g j _ _ (0,0) h2,zqap,zqal (by omega)];dsimp only;rw[zqaa,zqac (by omega)];rfl
def zoq (n g:Nat)(u:Value)(zs:List Value)(w:World)(e:Ending)(w':World):Prop :=
 ∃ g' c',e=.returned (.slice (some ⟨g',0,none⟩) (n+1) c')/\zht w' g' (n+1) c' (u::zs)/\((g'=g/\0<n/\w.grownBy w' (some g))∨(w.heap.size<=g'/\w.grownBy w' none))
def ztG:∃ i0:TypeInfo,prog.info? 27=some i0/\i0.zero=some (.slice none 0 0)/\i0.size=1/\i0.bytes=24:=info_parts zfb
def zyl (vb:Nat)(u:Value)(w:World)(hv:w.cell? ⟨vb,0,none⟩=some u)(h1:u.oneCell'=true) :
  Calls prog 102 #[.slice none 0 0,.int .i64 0,.slice (some ⟨vb,0,none⟩) 1 1] w (zoq 0 0 u [] w):=by
 obtain⟨i0,hi0,hz0,hzs,hzb⟩:=ztG
 have hsrc:Src prog i0.size 41 (.slice (some ⟨vb,0,none⟩) 1 1) 1 [u] w:=by
  rw[hzs]
  exact Src.ofSlice w underlying41 ⟨vb,0,none⟩ 1 1 [u] rfl (fun j x hj=>by
   obtain⟨hj1,rfl⟩:=zqae.1 hj;obtain rfl:j=0:=by simpa using hj1
   exact hv) (fun x hx=>by rw[zqbk.1 hx];exact h1)
 have hold:(Builtin.firstCells i0.size 0 (.slice none 0 0)).run prog w.drew=.ok ([]:List Value).toArray w.drew:=by
  rw[hzs];exact run_firstCells_none w.drew 1 0 0 0
 obtain⟨G,hG⟩:∃ G,G=grownCap w (0+1) 0 27:=⟨_,rfl⟩
 have hrun:∀ ty,(Builtin.append_ #[41,41] ty #[.slice none 0 0,.slice (some ⟨vb,0,none⟩) 1 1]).run prog w=.ok (.slice (some ⟨w.heap.size,0,none⟩) (0+1) G) (w.drew.alloc (.cells (([]++[u]:List Value).toArray++Builtin.zeroCells (Value.slice none 0 0).cells (G-(0+1))) 27)):=fun ty=>by
  rw[hG];exact run_append_grow_src w 41 41 ty 27 i0 _ underlying41 hi0 hz0 none 0 0 [] hold _ 1 [u] hsrc (by omega) (by omega) (by rw[hzb];exact growslice_fits (by omega) (by omega))
 have hGn:1<=G:=by rw[hG];exact grownCap_ge w _ _ _
 have hG63:G<=maxLen:=by
  rw[hG];exact grownCap_le_maxLen w (0+1) 0 27 (by unfold maxLen;omega)
 clear hG hsrc hold;have HG:=zHd (zAI hGn hG63);clear hGn hG63;go_enter func102,ntmps102;go_wp2_with (at_builtin;refine Lib.wpList_append_run _ rfl _ _ _ _ rfl _ _ rfl rfl _ _ (hrun _) ?_);go_ret;obtain⟨hGn,hG63⟩:=HG.out;refine⟨_,G,rfl,⟨rfl,hGn,hG63,List.replicate (G-1) (.slice none 0 0),by simp;omega,?_⟩,.inr ⟨zqab _,zaa (zaf w none) (zGA _ _ none)⟩⟩;show(w.drew.alloc _).heap[w.drew.heap.size]?=_;rw[zaG];congr 2;apply Array.toList_inj.1;show((#[u]++Builtin.zeroCells #[Value.slice none 0 0] (G-1)):Array Value).toList=_;rw[Array.toList_append,zeM]
def zEM (w:World)(g off dLen dCap sLen sCap:Nat)(ad:Addr)(cur cs:List Value)(T:TypeId)(hg:w.heap[g]?=some (.cells cur.toArray T (0,0)))(hn:cs.length=Nat.min sLen dLen)
  (hsrc:∀ j v,cs[j]?=some v->w.cell? (ad.add j)=some v) (zf:off+cs.length<=cur.length) (h1:∀ v∈cs,v.oneCell'=true) :
  ∃ w',(∀ ty,(Builtin.copy_ #[41,41] ty #[.slice (some ⟨g,off,none⟩) dLen dCap,.slice (some ad) sLen sCap]).run prog w=.ok (goInt cs.length) w')/\w'.heap[g]?=some (.cells (splice cur off cs).toArray T (0,0))/\w.grownBy w' (some g):=by
 have hrun:=fun ty=>run_copy_row (P:=prog) w 41 41 ty 27 g off dLen dCap ad sLen sCap cur.toArray T cs underlying41 (by kernel_rfl) hg hn hsrc (by simpa using zf) h1;exact zQbf
def zrd {w:World}{g:Nat}{cur:List Value}{T:TypeId}(h:w.heap[g]?=some (.cells cur.toArray T (0,0))){j:Nat}{v:Value}(hj:cur[j]?=some v):w.cell? ⟨g,j,none⟩=some v:=by
 rw[zqbw w g j _ _ (0,0) h,zqap,hj]
def zEN {w:World}{g:Nat}{cur:Array Value}{T:TypeId}(h:w.heap[g]?=some (.cells cur T (0,0))):w.shape? g=some (T,cur.size):=by unfold World.shape?;rw[h]
def zoQ {w:World}{g k:Nat}{cur:Array Value}{T:TypeId}(h:w.heap[g]?=some (.cells cur T (0,0))):w.frozen? ⟨g,k,none⟩=false:=zqbx w g k _ _ h
def zws (n c g vb:Nat)(zs:List Value)(u:Value)(TB:TypeId)(w:World)(hn0:0<n)(hn:n<=10000)(hc:n+1<=c)(zO:zht w g n c zs)(hne:vb≠g)(hv:w.heap[vb]?=some (.cells #[u] TB (0,0)))(h1:u.oneCell'=true)(hz:∀ z∈zs,z.oneCell'=true) :
  Calls prog 102 #[.slice (some ⟨g,0,none⟩) n c,.int .i64 0,.slice (some ⟨vb,0,none⟩) 1 1] w (zoq n g u zs w):=by
 obtain⟨sp,hsp,zW⟩:=zO.row;have zN:=zO.len;have hmax:=zO.max
 obtain⟨s0,sp',rfl⟩:∃ s0 sp',sp=s0::sp':=by
  cases sp with
  | nil=>simp at hsp;omega
  | cons a b=>exact⟨a,b,rfl⟩
 have hvc:w.cell? ⟨vb,0,none⟩=some u:=zqbw w vb 0 _ _ (0,0) hv
 have hov:∀ lb cb,(callFunc 149 #[.slice (some ⟨vb,0,none⟩) 1 1,.slice (some ⟨g,1,none⟩) lb cb]).run prog w=.ok (.value (.bool false)) w:=fun lb cb=>by
  rw[run_callFunc_extern func149 (by kernel_rfl) (by kernel_rfl) (by kernel_rfl) (e:=Extern.SlicesOverlaps.overlaps #[41,41] #[4]) (by kernel_rfl),
   Lib.run_overlaps_apart w 41 4 27 underlying41 1 sizeOf27 ⟨vb,0,none⟩ ⟨g,1,none⟩ 1 1 lb cb hne TB 27 1 (zs++s0::sp').toArray.size (zEN hv) (zEN zW) (by simp) (zoQ hv) (zoQ hv)]
  rfl
 have hrowd:w.drew.heap[g]?=some (.cells (zs++s0::sp').toArray 27 (0,0)):=zW
 obtain⟨w1,hc1,hr1,hg1⟩:=zEM w.drew g 1 n (c-1) (n+1) c ⟨g,0,none⟩ (zs++s0::sp') zs 27 hrowd (by rw[zN];exact(Nat.min_eq_right (by omega)).symm) (fun j v hj=>by
  rw[zcn,zqat];exact zrd hrowd (by rw[zqal (zqae.1 hj).1,hj])) (by simp;omega) hz
 have hspl:splice (zs++s0::sp') 1 zs=((zs++s0::sp').take 1)++zs++sp':=by
  unfold splice;rw[zqbj];congr 2;rw[List.drop_append,List.drop_eq_nil_of_le (by omega),show 1+zs.length-zs.length=1 by omega];rfl
 rw[hspl] at hr1;have hv1:w1.cell? ⟨vb,0,none⟩=some u:=hg1.cell (show w.drew.cell? _=_ from hvc) (by simpa using hne)
 obtain⟨w2,hc2,hr2,hg2⟩:=zEM w1 g 0 (n+1) c 1 1 ⟨vb,0,none⟩ _ [u] 27 hr1 (by show 1=Nat.min 1 (n+1);exact(Nat.min_eq_left (by omega)).symm) (fun j v hj=>by
  obtain⟨hj1,rfl⟩:=zqae.1 hj;obtain rfl:j=0:=by simpa using hj1
  rw[zcn];exact hv1) (by simp;omega) (fun x hx=>by rw[zqbk.1 hx];exact h1)
 have hspl2:splice (((zs++s0::sp').take 1)++zs++sp') 0 [u]=(u::zs)++sp':=by
  obtain⟨z0,zr,rfl⟩:∃ z0 zr,zs=z0::zr:=by
   cases zs with
   | nil=>simp at zN;omega
   | cons a b=>exact⟨a,b,rfl⟩
  unfold splice;simp
 rw[hspl2] at hr2;have hnz:¬ (n:Int)=0:=by omega
 have hnz2:¬ n=0:=by omega
 have hi1:(n:Int)+1<=(c:Int):=by omega
 have hi2:¬ (c:Int)<(n:Int)+1:=by omega
 have hi3:¬ c=1:=by omega
 have hi4:(1:Int)<=(n:Int)+1:=by omega
 have hi5:(0:Int)<=(n:Int)+1:=by omega
 have hi6:¬ (n+1=1):=by omega
 have hi7:¬ (c=0):=by omega
 have hw2:IntKind.i64.wrap 1=1:=by decide
 have hw1:IntKind.i64.wrap ((n:Int)+1)=(n:Int)+1:=by rw[zqah];omega
 have HP:=zHd (zAI hr2 (zAI hg1 (zAI hg2 (zAI hsp (zAI zN (zAI hc hmax))))));have HC1:=zHd hc1;have HC2:=zHd hc2;clear hspl hspl2 hr1 hr2 hg1 hg2 zW hrowd zO hv hvc hv1 hsp zN hmax hc1 hc2 hn0 hn hc hz;go_enter func102,ntmps102;have mixed:prog.follows .mixedOrders=true:=by kernel_rfl
 go_wp2_with (simp only[hov])
 go_region_law_o (refine step_copy_runI rfl _ _ 41 41 rfl _ _ (by simp[Act.eval,Act.put]) (by simp[Act.eval,Act.put]) (HC1.out _) ?_)
 have hc2:=HC2.out 3;go_wp2;go_ret;obtain⟨hr2,hg1,hg2,hsp,zN,hc,hmax⟩:=HP.out;exact⟨g,c,rfl,⟨by simp[zN],hc,hmax,sp',by simp at hsp;omega,hr2⟩,.inl ⟨rfl,by omega,(zaa (zaf w _) (zaa hg1 hg2))⟩⟩
def zEO (W:World)(g off dLen dCap sLen sCap:Nat)(ad:Addr)(cur cs:List Value)(hg:W.heap[g]?=some (.cells cur.toArray 27 (0,0)))(hn:cs.length=Nat.min sLen dLen)
  (hsrc:∀ j v,cs[j]?=some v->W.cell? (ad.add j)=some v) (zf:off+cs.length<=cur.length) (h1:∀ v∈cs,v.oneCell'=true) :
  (∀ ty,(Builtin.copy_ #[41,41] ty #[.slice (some ⟨g,off,none⟩) dLen dCap,.slice (some ad) sLen sCap]).run prog W=.ok (goInt cs.length) (W.setRow g (splice cur off cs).toArray)):=fun ty=>by
 have hrun:=run_copy_row (P:=prog) W 41 41 ty 27 g off dLen dCap ad sLen sCap cur.toArray 27 cs underlying41 (by kernel_rfl) hg hn hsrc (by simpa using zf) h1;rw[hrun];simp[splice]
def zmn (W:World)(g:Nat)(row:Array Value):W.grownBy (W.setRow g row) (some g):=⟨rfl,rfl,rfl,by simp,fun k _ hk=>setRow_other W g k _ (fun e=>hk (by rw[e]))⟩
def zwt (n c g vb:Nat)(zs:List Value)(u:Value)(w:World)(hn0:0<n)(hn:n<=10000)(hc:c<n+1)(zO:zht w g n c zs)(hv:w.cell? ⟨vb,0,none⟩=some u)(hvb:vb<w.heap.size)(h1:u.oneCell'=true)(hz:∀ z∈zs,z.oneCell'=true) :
  Calls prog 102 #[.slice (some ⟨g,0,none⟩) n c,.int .i64 0,.slice (some ⟨vb,0,none⟩) 1 1] w (zoq n g u zs w):=by
 obtain⟨i0,hi0,hz0,hzs,hzb⟩:=ztG;obtain⟨sp,hsp,zW⟩:=zO.row;have zN:=zO.len;have hle:=zO.le;have hlt:=zO.lt;obtain rfl:c=n:=by omega
 have hold:(Builtin.firstCells i0.size 0 (.slice (some ⟨g,0,none⟩) 0 c)).run prog w.drew=.ok ([]:List Value).toArray w.drew:=by
  rw[hzs];exact run_firstCells_some w.drew 1 0 ⟨g,0,none⟩ 0 c [] rfl (fun j v hj=>by simp at hj)
 obtain⟨G,hG⟩:∃ G,G=grownCap w (c+1) c 27:=⟨_,rfl⟩;have hGn:c+1<=G:=by rw[hG];exact grownCap_ge w _ _ _
 have hG63:G<=maxLen:=by
  rw[hG];exact grownCap_le_maxLen w (c+1) c 27 (by unfold maxLen;omega)
 have hrz:∀ ty,(Builtin.append_ #[41,3] ty #[.slice (some ⟨g,0,none⟩) 0 c,.int .i64 ((c:Int)+1)]).run prog w =
   .ok (.slice (some ⟨w.heap.size,0,none⟩) (c+1) G) (w.drew.alloc (.cells (List.replicate G (.slice none 0 0)).toArray 27)):=fun ty=>by
  have h:=Lib.run_append_grow_zeros w 41 3 ty 27 i0 _ .i64 .i64 underlying41 underlying3 hi0 hz0 (some ⟨g,0,none⟩) 0 c [] hold (c+1) (by omega) (by omega) (by omega) (by omega) (by rw[hzb];omega) (by rw[hzb,zqat];exact growslice_fits (by omega) (by omega));rw[zqat,<- hG] at h;rw[show(c:Int)+1=((c+1:Nat):Int) by omega,h];congr 3;apply Array.toList_inj.1;show((#[]++Builtin.zeroCells #[Value.slice none 0 0] (c+1)++Builtin.zeroCells #[Value.slice none 0 0] (G-(c+1))):Array Value).toList=_;exact zQcd
 have hrA:∀ W:World,W.heap=(w.drew.alloc (.cells (List.replicate G (.slice none 0 0)).toArray 27)).heap->W.heap[w.heap.size]?=some (.cells (List.replicate G (.slice none 0 0):List Value).toArray 27 (0,0)):=fun W hW=>by
  rw[hW];exact zaG w.drew _
 have hold2:∀ W:World,W.heap=(w.drew.alloc (.cells (List.replicate G (.slice none 0 0)).toArray 27)).heap->∀ b j,b<w.heap.size->W.cell? ⟨b,j,none⟩=w.cell? ⟨b,j,none⟩:=fun W hW b j hb=>by
  refine zaL (ad:=⟨b,j,none⟩) ?_;rw[hW];exact(zGA w.drew _ none).block b hb (by simp)
 have hcA:∀ W:World,W.heap=(w.drew.alloc (.cells (List.replicate G (.slice none 0 0)).toArray 27)).heap->∀ ty,(Builtin.copy_ #[41,41] ty #[.slice (some ⟨w.heap.size,0,none⟩) (c+1) G,.slice (some ⟨vb,0,none⟩) 1 1]).run prog W=.ok (goInt 1) (W.setRow w.heap.size (u::List.replicate (G-1) (.slice none 0 0)).toArray):=fun W hW ty=>by
  have h:=zEO W w.heap.size 0 (c+1) G 1 1 ⟨vb,0,none⟩ (List.replicate G (.slice none 0 0)) [u] (hrA W hW) (by show 1=Nat.min 1 (c+1);exact(Nat.min_eq_left (by omega)).symm) (fun j v hj=>by
   obtain⟨hj1,rfl⟩:=zqae.1 hj;obtain rfl:j=0:=by simpa using hj1
   rw[zcn,hold2 W hW vb _ hvb];exact hv) (by simp;omega) (fun x hx=>by rw[zqbk.1 hx];exact h1) ty
  rw[h]
  have e:splice (List.replicate G (.slice none 0 0)) 0 [u]=u::List.replicate (G-1) (.slice none 0 0):=by
   unfold splice;simp
  rw[e];rfl
 have hcB:∀ W V:World,V.heap=(w.drew.alloc (.cells (List.replicate G (.slice none 0 0)).toArray 27)).heap->W.heap=(V.setRow w.heap.size (u::List.replicate (G-1) (.slice none 0 0)).toArray).heap->∀ ty,(Builtin.copy_ #[41,41] ty #[.slice (some ⟨w.heap.size,1,none⟩) c (G-1),.slice (some ⟨g,0,none⟩) c c]).run prog W=.ok (goInt c) (W.setRow w.heap.size (u::(zs++List.replicate (G-(c+1)) (.slice none 0 0))).toArray):=fun W V hV hW ty=>by
  have hr:W.heap[w.heap.size]?=some (.cells (u::List.replicate (G-1) (.slice none 0 0)).toArray 27 (0,0)):=by
   rw[hW,setRow_heap V w.heap.size _ _ 27 _ (hrA V hV)]
  have h:=zEO W w.heap.size 1 c (G-1) c c ⟨g,0,none⟩ (u::List.replicate (G-1) (.slice none 0 0)) zs hr (by rw[zN];exact(Nat.min_self c).symm) (fun j v hj=>by
   rw[zcn,zqat];have e1:W.cell? ⟨g,j,none⟩=V.cell? ⟨g,j,none⟩:=zaL (ad:=⟨g,j,none⟩) (by rw[hW];exact setRow_other V w.heap.size g _ (by show g≠w.heap.size;omega));rw[e1,hold2 V hV g j hlt];exact zrd zW (by rw[zqal (zqae.1 hj).1,hj])) (by simp;omega) hz ty
  rw[h,zN]
  have e:splice (u::List.replicate (G-1) (.slice none 0 0)) 1 zs=u::(zs++List.replicate (G-(c+1)) (.slice none 0 0)):=by
   unfold splice;simp[zN];rw[show 1+c=c+1 by omega,List.drop_succ_cons,List.drop_replicate,show G-1-c=G-(c+1) by omega]
  rw[e]
 obtain⟨ROW,hROW⟩:∃ ROW:Array Value,ROW=(List.replicate G (.slice none 0 0):List Value).toArray:=⟨_,rfl⟩;rw[<- hROW] at hrz;have hnz:¬ (c:Int)=0:=by omega
 have hnz2:¬ c=0:=by omega
 have hi1:(c:Int)<(c:Int)+1:=by omega
 have hi2:(0:Int)<=(c:Int)+1:=by omega
 have hi4:(1:Int)<=(c:Int)+1:=by omega
 have hi5:¬ G=0:=by omega
 have hi6:¬ G=1:=by omega
 have hw2:IntKind.i64.wrap 1=1:=by decide
 have hi7:(1:Int)<=((c+1:Nat):Int):=by omega
 have mixed:prog.follows .mixedOrders=true:=by kernel_rfl
 have hw1:IntKind.i64.wrap ((c:Int)+1)=(c:Int)+1:=by rw[zqah];omega
 have HP:=zHd (zAI hGn (zAI hG63 (zAI zN hlt)));have HA:=zHd hcA;have HB:=zHd hcB;have HR:=zHd hrA;have HRW:=zHd hROW;clear hold hG hrA hold2 hcA hcB hROW zO zW hle hlt hsp hz hv;go_enter func102,ntmps102;have hca1:=HA.out (w.drew.alloc (.cells ROW 27)) (by rw[HRW.out]) 3;have hca2:=HA.out ((w.alloc (.cells ROW 27)).drew) (by rw[HRW.out];rfl) 3
 go_wp2_with (first
  | (at_builtin;refine Lib.wpList_append_run _ rfl _ _ _ _ rfl _ _ rfl rfl _ _ (hrz _) ?_))
 have hcb1:=HB.out (((w.alloc (.cells ROW 27)).drew.setRow w.heap.size (u::List.replicate (G-1) (.slice none 0 0)).toArray).drew) (w.drew.alloc (.cells ROW 27)) (by rw[HRW.out]) rfl 3
 go_region_law_o (refine step_copy_runI rfl _ _ 41 41 rfl (.slice (some ⟨w.heap.size,1,none⟩) c (G-1)) (.slice (some ⟨g,0,none⟩) c c) (by simp[Act.eval,Act.put]) (by simp[Act.eval,Act.put]) hcb1 ?_)
 go_wp2;go_ret;obtain⟨hGn,hG63,zN,hlt⟩:=HP.out;have hr:=HR.out (w.drew.alloc (.cells ROW 27)) (by rw[HRW.out]);refine⟨_,G,rfl,⟨by simp[zN],hGn,hG63,List.replicate (G-(c+1)) (.slice none 0 0),by simp;omega,?_⟩,.inr ⟨zqab _,?_⟩⟩
 ·have hr2:((w.alloc (.cells ROW 27)).drew).heap[w.heap.size]?=some (.cells (List.replicate G (.slice none 0 0)).toArray 27 (0,0)):=hr
  have hr3:=setRow_heap ((w.alloc (.cells ROW 27)).drew) w.heap.size _ (u::List.replicate (G-1) (.slice none 0 0)).toArray 27 _ hr2;exact setRow_heap (((w.alloc (.cells ROW 27)).drew.setRow w.heap.size (u::List.replicate (G-1) (.slice none 0 0)).toArray).drew) w.heap.size _ _ 27 _ hr3
 refine zak (zaa (zak (zaa (zGA w _ none) (zaf _ none)) (zmn _ _ _) (zqab _)) (zaf _ none)) (zmn _ _ _) (zqab _)
open Go.RowKit Go.Maps
instance:LawfulBEq ByteArray where
 eq_of_beq {a b} h:=ByteArray.ext (eq_of_beq (α:=Array UInt8) h)
 rfl {a}:=beq_self_eq_true (α:=Array UInt8) a.data
def zor:Keyed prog 9:=string_keyed underlying9
def zIh (w:World):(zeroValue 3).run prog w=.ok (.int .i64 0) w:=by kernel_rfl
def zEP (w:World):(zeroValue 4).run prog w=.ok (.bool false) w:=by kernel_rfl
def znk (s:ByteArray):Lit:=.string s.data.toList
def zpy {s t:ByteArray}(h:znk s=znk t):s=t:=by
 unfold znk at h;injection h with h
 exact ByteArray.ext (Array.toList_inj.1 h)
def zpz (s:ByteArray):WideAt.IsKeyLit (znk s):=trivial
def zos {s:ByteArray}(h:s.size<=maxLen):keyOf prog 9 (.string s)=some (znk s):=WideMaps.keyOf_string_mk underlying9 h
structure zMo (w:World)(b n:Nat)(f:ByteArray->Bool)(D:DataW Unit):Prop where
 owns:w.ownsMap prog 9 (plainElem prog 4) b n D
 at_:∀ s,D.atKey (znk s) (.lit (.bool false))=.lit (.bool (f s))
def Marks (w:World)(b n:Nat)(f:ByteArray->Bool):Prop:=∃ D,zMo w b n f D
def Marks.made (w:World):Marks (w.alloc (.map #[] 0)) w.heap.size 0 (fun _=>false):=⟨.map [],⟨World.ownsMap_made w _ _ _,fun s=>rfl⟩⟩
def Marks.kept {w w':World}{b n:Nat}{f:ByteArray->Bool}{row:Option Nat}(h:Marks w b n f)(hg:w.grownBy w' row)(hne:some b≠row):Marks w' b n f:=by
 obtain⟨D,h1,h2⟩:=h;exact⟨D,h1.kept hg hne,h2⟩
def zMp:prog.underlying 4=some .bool:=underlying4
def zux {v:Value}{x:DataW Unit}{ps:List MemPlace}(h:plainElem prog 4 v=some (x,ps)):∃ c,v=.bool c/\x=.lit (.bool c):=by
 unfold plainElem at h;rw[zMp] at h;cases v <;> simp at h;exact⟨_,rfl,h.1.symm⟩
def Marks.look {w:World}{b n:Nat}{f:ByteArray->Bool}(h:Marks w b n f){s:ByteArray}(hs:s.size<=maxLen) :
  (Instr.lookup 90 (.map (some b)) (.string s) false).run prog w=.ok (.bool (f s)) w:=by
 obtain⟨D,h1,h2⟩:=h;obtain⟨v,ps,hrun,hv⟩:=h1.lookup zor underlying90 (zEP _) (plainElem_bool underlying4 false) (zos hs);obtain⟨c,rfl,hc⟩:=zux hv;rw[h2 s] at hc;simp only[DataW.lit.injEq,Lit.bool.injEq] at hc;rw[hrun,hc]
def Marks.store {w:World}{b n:Nat}{f:ByteArray->Bool}(h:Marks w b n f){s:ByteArray}(hs:s.size<=maxLen)(hn:n<maxLen) :
  ∃ w',(Instr.mapUpdate 90 (.map (some b)) (.string s) (.bool true)).run prog w=.ok () w'/\Marks w' b (n+1) (fun t=>if t=s then true else f t)/\w.grownBy w' (some b):=by
 obtain⟨D,h1,h2⟩:=h;obtain⟨w',hrun,zO,hg⟩:=h1.update zor underlying90 hn (zos hs) (plainElem_bool underlying4 true);have hD:IsMap D:=h1.isMap;refine⟨w',hrun,⟨_,zO,fun t=>?_⟩,hg⟩
 by_cases ht:t=s
 ·subst ht
  rw[atKey_put_same hD (zpz t),if_pos rfl]
 rw[atKey_put_other (fun e=>ht (zpy e)),h2 t,if_neg ht]
def zkv (L:List ByteArray)(s:ByteArray):Nat:=(L.findIdx? (fun t=>decide (t=s))).getD 0
structure NumD (w:World)(b:Nat)(L:List ByteArray)(D:DataW Unit):Prop where
 owns:w.ownsMap prog 9 (plainElem prog 3) b L.length D
 at_:∀ s,D.atKey (znk s) (.lit (.int .i64 0))=.lit (.int .i64 (zkv L s:Int))
 has_:∀ s,Maps.has D (znk s)=decide (s∈L)
def zgk (w:World)(b:Nat)(L:List ByteArray):Prop:=∃ D,NumD w b L D
def zgk.made (w:World):zgk (w.alloc (.map #[] 0)) w.heap.size []:=⟨.map [],⟨World.ownsMap_made w _ _ _,fun s=>rfl,fun s=>rfl⟩⟩
def zgk.kept {w w':World}{b:Nat}{L:List ByteArray}{row:Option Nat}(h:zgk w b L)(hg:w.grownBy w' row)(hne:some b≠row):zgk w' b L:=by
 exact zQcf
def zgk.lt {w:World}{b:Nat}{L:List ByteArray}(h:zgk w b L):b<w.heap.size:=by
 obtain⟨D,h1,h2,h3⟩:=h;exact h1.lt
def zgk.look_ok {w:World}{b:Nat}{L:List ByteArray}(h:zgk w b L){s:ByteArray}(hs:s.size<=maxLen) :
  (Instr.lookup 115 (.map (some b)) (.string s) true).run prog w=.ok (.tuple #[.int .i64 (zkv L s:Int),.bool (decide (s∈L))]) w:=by
 obtain⟨D,h1,h2,h3⟩:=h;obtain⟨v,ps,hrun,hv⟩:=h1.look_ok zor underlying115 (zIh _) (plainElem_int underlying3 (by decide)) (zos hs);obtain⟨c,rfl,hc,_⟩:=plainElem_int_inv underlying3 hv;rw[h2 s] at hc;simp only[Prod.mk.injEq,DataW.lit.injEq,Lit.int.injEq,true_and,and_true] at hc;rw[hrun,h3 s,hc.1]
def zIi {L:List ByteArray}{s:ByteArray}(h:s ∉ L):zkv (L++[s]) s=L.length:=by
 unfold zkv;rw[List.findIdx?_append,List.findIdx?_eq_none_iff.2 (fun x hx=>by simp;rintro rfl;exact h hx)];simp
def zBo {L:List ByteArray}{s t:ByteArray}(h:t≠s):zkv (L++[s]) t=zkv L t:=by
 unfold zkv;rw[List.findIdx?_append];have:[s].findIdx? (fun x=>decide (x=t))=none:=by simp[Ne.symm h]
 rw[this];simp
def zgk.store {w:World}{b:Nat}{L:List ByteArray}(h:zgk w b L){s:ByteArray}(hs:s.size<=maxLen)(hn:s ∉ L)(hl:L.length<maxLen) :
  ∃ w',(Instr.mapUpdate 115 (.map (some b)) (.string s) (.int .i64 ((L.length:Nat):Int))).run prog w=.ok () w'/\zgk w' b (L++[s])/\w.grownBy w' (some b):=by
 obtain⟨D,h1,h2,h3⟩:=h
 have hw:(Lit.int .i64 ((L.length:Nat):Int)).wf=true:=by
  unfold maxLen at hl;exact WalkArith.wf_i64 (by omega)
 obtain⟨w',hrun,zO,hg⟩:=h1.update zor underlying115 hl (zos hs) (plainElem_int underlying3 hw);have hD:IsMap D:=h1.isMap;refine⟨w',hrun,⟨_,⟨by rw[zqag];exact zO,fun t=>?_,fun t=>?_⟩⟩,hg⟩
 ·by_cases ht:t=s
  ·subst ht
   rw[atKey_put_same hD (zpz t),zIi hn]
  rw[atKey_put_other (fun e=>ht (zpy e)),h2 t,zBo ht]
 by_cases ht:t=s
 ·subst ht
  rw[has_put_same hD (zpz t)];simp
 rw[has_put_other (fun e=>ht (zpy e)),h3 t];simp[ht]
def zfu (w:World)(v:Value)(n:Nat)(ln:Nat->Nat)(G:Nat->Nat->ByteArray):Prop :=
 ∃ rs:Nat->Value,zaK w v n rs/\∀ i,i<n->zaK w (rs i) (ln i) (fun j=>.string (G i j))
def zfu.grown {w w':World}{v:Value}{n:Nat}{ln:Nat->Nat}{G:Nat->Nat->ByteArray}(h:zfu w v n ln G)(hg:w.grownBy w' none):zfu w' v n ln G:=by
 exact zQbO
def zre (k:Int)(n:Nat)(ln:Nat->Nat)(G:Nat->Nat->ByteArray):Prop:=zad k/\(∀ i,i<n->ln i=n)/\∀ i j,i<n->j<n->∃ v,Val k (G i j) v
def zdk (P:Prop)(w:World)(e:Ending)(w':World):Prop:=∃ b:Bool,e=.returned (.bool b)/\(b=true↔P)/\w.grownBy w' none
def zdk.yes {P:Prop}{w w':World}(h:P)(hg:w.grownBy w' none):zdk P w (.returned (.bool true)) w':=⟨true,rfl,⟨fun _=>h,fun _=>rfl⟩,hg⟩
def zdk.no {P:Prop}{w w':World}(h:¬ P)(hg:w.grownBy w' none):zdk P w (.returned (.bool false)) w':=⟨false,rfl,⟨fun e=>by simp at e,fun e=>absurd e h⟩,hg⟩
def zIj {k:Int}(hk:zad k):Val k (zal k) (srE k hk).one.1:=⟨zsC hk,(srE k hk).one.2⟩
def zIk {k:Int}(hk:¬ zad k)(a:ByteArray):zqI k a:=fun v _=>by
 unfold zad at hk;have h1:¬ k=1:=fun h=>hk (.inl h);have h2:¬ k=2:=fun h=>hk (.inr (.inl h));have h3:¬ k=3:=fun h=>hk (.inr (.inr h));rcases v with(_|_)|x <;> simp[zaq,zcY,h1,h2,h3]
def zEQ (k:Int):(zal k).size<=maxLen:=by
 unfold zal maxLen;split;decide;split <;> decide
structure zwu (k:Int)(n:Nat)(G:Nat->Nat->ByteArray)(w:World)(b i j:Nat)(wr:World):Prop where
 gr:w.grownBy wr none
 hb:w.heap.size<=b
 map:∃ f,Marks wr b (i*n+j) f/\∀ s,f s=true->∃ v,Val k s v
 ok:∀ x y,(x<i/\y<n)∨(x=i/\y<j)->∃ v,Val k (G x y) v
def zwv (k:Int)(n:Nat)(ln:Nat->Nat)(G:Nat->Nat->ByteArray)(av:Value)(w:World)(hn:n<=10000)(ha:zfu w av n ln G)(hs:∀ i j,(G i j).size<=maxLen) :
  Calls prog 38 #[.int .i64 k,av] w (zdk (zre k n ln G) w):=by
 obtain⟨rs,⟨A,c,rfl,ha1,ha2,ha3⟩,hr⟩:=ha;have HA:=zHd ha3;have HR:=zHd hr;have HN:=zHd hn;have HS:=zHd hs
 have hend:∀ w':World,∃ b:Bool,(b=true↔zad k)/\Calls prog 65 #[.int .i64 k,.string (zal k)] w' (zab (.bool b) w'):=fun w'=>by
  by_cases hk:zad k
  exact⟨true,by simp[hk],zqW (zIj hk) w'⟩;exact⟨false,by simp[hk],ztz (zIk hk _) (zEQ k) w'⟩
 have hone:=fun w'=>zpt k w';have hmm:∀ w:World,(Instr.makeMap 90 none).run prog w=.ok (.map (some w.heap.size)) (w.alloc (.map #[] 0)):=fun w=>run_makeMap _ w;have HE:=zHd hend;have HO:=zHd hone;clear ha1 ha2 ha3 hr hn hs hend hone;go_enter func38,ntmps38;go_wp2
 go_loopw [14] (fun iv wr=>∃ i:Nat,i<=n/\iv=.int .i64 (i:Int)/\w=wr/\∀ x,x<i->ln x=n) (fun iv _=>n-(intOf iv).toNat)
 case atStart=>exact⟨0,zqaw _,rfl,rfl,fun x hx=>absurd hx (by omega)⟩
 case round =>
  obtain⟨i,hi,rfl,rfl,hl⟩:=hrel
  by_cases hin:i<n
  ·obtain⟨ad,rfl,hb,hc⟩:=HA.out i hin
   obtain⟨Ai,ci,hre,_⟩:=HR.out i hin;rw[hre] at hc;have t1:decide (i<n)=true:=by simpa using hin
   have t1':decide ((i:Int)<(n:Int))=true:=by simpa using hin
   have hit:(i:Int)<(n:Int):=by omega
   have n1:IntKind.i64.wrap ((i:Int)+1)=(i:Int)+1:=by have:=HN.out;rw[zqah];omega
   by_cases he:ln i=n
   ·have t2:((ln i:Int)==(n:Int))=true:=by simp[he]
    have t3:((ln i:Int) != (n:Int))=false:=(by simp[he]);have HI:=zHd (zAI hin (zAI hl he));clear hi hl hb hre hin he;go_wp2;refine⟨⟨i+1,HI.out.1,by simp,by first|rfl|trivial,fun x hx=>?_⟩,by have:=HI.out.1;simp[intOf];omega⟩
    by_cases e:x<i
    exact HI.out.2.1 x e;rw[show x=i by omega];exact HI.out.2.2
   have t2:((ln i:Int)==(n:Int))=false:=by simp;omega
   have t3:((ln i:Int) != (n:Int))=true:=(by simp[bne];omega);have HI:=zHd (zAI hin he);clear hi hl hb hre hin he;go_wp2;go_ret;exact zdk.no (fun h=>HI.out.2 (h.2.1 i HI.out.1)) (World.grownBy.refl _ _)
  obtain rfl:i=n:=by omega
  have t1:decide (i<i)=false:=by simp
  have t1':decide ((i:Int)<(i:Int))=false:=by simp
  have HL:=zHd hl;clear hi hin hl;go_wp2;have h0:zwu k i G w w.heap.size 0 0 (w.alloc (.map #[] 0)):=⟨zGA _ _ none,zqab _,⟨fun _=>false,by simpa using Marks.made w,fun s h=>by simp at h⟩,fun x y h=>by omega⟩;have H0:=zHd h0;clear h0
  go_loopw [27] (fun iv wr=>∃ x:Nat,x<=i/\iv=.int .i64 (x:Int)/\zwu k i G w w.heap.size x 0 wr) (fun iv _=>i-(intOf iv).toNat)
  case atStart=>exact⟨0,zqaw _,rfl,H0.out⟩
  case round =>
   obtain⟨x,hx,rfl,zI⟩:=hrel
   by_cases hxi:x<i
   ·obtain⟨ad,rfl,hb,hc⟩:=HA.out x hxi
    obtain⟨Ai,ci,hre,hi1,hi2,hi3⟩:=HR.out x hxi;rw[hre] at hc;have hc2:wr.cell? (ad.add x)=some (.slice Ai (ln x) ci):=(zaL (ad:=ad.add x) (by rw[zaw];exact zI.gr.block ad.block hb (by simp))).trans hc;rw[HL.out x hxi] at hc2 hi3;have t1:decide (x<i)=true:=(by simpa using hxi);have t1':decide ((x:Int)<(i:Int))=true:=(by simpa using hxi);have hit:(x:Int)<(i:Int):=(by omega);have n1:IntKind.i64.wrap ((x:Int)+1)=(x:Int)+1:=(by have:=HN.out;rw[zqah];omega);have HI:=zHd (zAI hxi zI);have H3:=zHd hi3;clear hx hb hc hre hi1 hi2 hi3 hxi zI;go_wp2;generalize wr=wq at *
    go_loopw [33] (fun jv wr=>∃ y:Nat,y<=i/\jv=.int .i64 (y:Int)/\zwu k i G w w.heap.size x y wr) (fun jv _=>i-(intOf jv).toNat)
    case atStart=>exact⟨0,zqaw _,rfl,HI.out.2⟩
    case round =>
     obtain⟨y,hy,rfl,zI⟩:=hrel
     by_cases hyi:y<i
     ·obtain⟨ay,rfl,hby,hcy⟩:=H3.out y hyi
      have hcy2:wr.cell? (ay.add y)=some (.string (G x y)):=(zaL (ad:=ay.add y) (by rw[zaw];exact zI.gr.block ay.block hby (by simp))).trans hcy;obtain⟨f,hm,hf⟩:=zI.map;have hlook:=hm.look (HS.out x y);have u1:decide (y<i)=true:=(by simpa using hyi);have u1':decide ((y:Int)<(i:Int))=true:=(by simpa using hyi);have hiy:(y:Int)<(i:Int):=(by omega);have n2:IntKind.i64.wrap ((y:Int)+1)=(y:Int)+1:=by have:=HN.out;rw[zqah];omega
      have hnn:x*i+y<maxLen:=by
       have h1:=HI.out.1;have h2:=HN.out;have h3:x*i<=10000*10000:=Nat.mul_le_mul (by omega) h2;unfold maxLen;omega
      have HV:=zHd (zAI hyi zI);have HM:=zHd (zAI hm (zAI hf hnn));clear hy hyi zI hby hcy hm hf hnn;cases hfy:f (G x y)
      ·rw[hfy] at hlook
       rcases zDL k (G x y) with⟨v,hv⟩|hnv
       ·have zC:=fun w'=>zqW hv w'
        have HC:=zHd zC;have HVV:=zHd hv;clear zC hv;go_wp2_with fail;refine(HC.out _).mono ?_;rintro e w5 ⟨rfl,hg5⟩;obtain⟨hm,hf,hnn⟩:=HM.out;obtain⟨w6,hst,hm6,hg6⟩:=(hm.kept hg5 (by simp)).store (HS.out x y) hnn;have H6:=zHd (zAI hm6 (zAI hg5 hg6));have HF:=zHd hf;clear hm hf hnn hm6 hg5 hg6;go_wp2;obtain⟨hm6,hg5,hg6⟩:=H6.out;refine⟨⟨y+1,HV.out.1,by simp,zak (zaa HV.out.2.gr hg5) hg6 (zqab _),zqab _,⟨_,hm6,fun s hs=>?_⟩,fun a b hab=>?_⟩,by have:=HV.out.1;simp[intOf];omega⟩
        ·by_cases e:s=G x y
         ·exact⟨_,e▸HVV.out⟩
         simp[e] at hs;exact HF.out s hs
        by_cases e:a=x/\b=y
        ·rw[e.1,e.2];exact⟨_,HVV.out⟩
        exact HV.out.2.ok a b (by omega)
       have zC:=fun w'=>ztz hnv (HS.out x y) w';have HC:=zHd zC;have HVV:=zHd hnv;clear zC hnv;go_wp2_with fail;refine(HC.out _).mono ?_;rintro e w5 ⟨rfl,hg5⟩;have HG:=zHd hg5;clear hg5;go_wp2;go_ret;refine zdk.no (fun h=>?_) (zaa HV.out.2.gr HG.out);obtain⟨v,hv⟩:=h.2.2 x y HI.out.1 HV.out.1;have:=HVV.out v hv.e;rw[hv.has] at this;cases this
      rw[hfy] at hlook;obtain⟨hm,hf,hnn⟩:=HM.out;obtain⟨w6,hst,hm6,hg6⟩:=hm.store (HS.out x y) hnn;have H6:=zHd (zAI hm6 (zAI hg6 (hf _ hfy)));have HF:=zHd hf;clear hm hf hnn hm6 hg6;go_wp2;obtain⟨hm6,hg6,hvv⟩:=H6.out;refine⟨⟨y+1,HV.out.1,by simp,zak HV.out.2.gr hg6 (zqab _),zqab _,⟨_,hm6,fun s hs=>?_⟩,fun a b hab=>?_⟩,by have:=HV.out.1;simp[intOf];omega⟩
      ·by_cases e:s=G x y
       ·rw[e];exact hvv
       simp[e] at hs;exact HF.out s hs
      by_cases e:a=x/\b=y
      ·rw[e.1,e.2];exact hvv
      exact HV.out.2.ok a b (by omega)
     obtain rfl:y=i:=by omega
     have u1:decide (y<y)=false:=(by simp);have u1':decide ((y:Int)<(y:Int))=false:=(by simp);have HV:=zHd zI;clear hy hyi zI;go_wp2;have hx1:=HI.out.1;refine⟨⟨x+1,hx1,by simp,HV.out.gr,zqab _,?_,fun a b hab=>HV.out.ok a b (by omega)⟩,by simp[intOf];omega⟩;obtain⟨f,hm,hf⟩:=HV.out.map;exact⟨f,by rw[Nat.add_mul,Nat.one_mul,Nat.add_zero];exact hm,hf⟩
   obtain rfl:x=i:=by omega
   have t1:decide (x<x)=false:=(by simp);have t1':decide ((x:Int)<(x:Int))=false:=(by simp);have HI:=zHd zI;clear hx hxi zI;go_wp2_with fail;refine(HO.out _).mono ?_;rintro e w5 ⟨rfl,hg5⟩;obtain⟨b,hbk,zC⟩:=HE.out w5;have HC:=zHd zC;have HB:=zHd hbk;have HG:=zHd hg5;clear zC hbk hg5;go_wp2_with fail;refine HC.out.mono ?_;rintro e w6 ⟨rfl,hg6⟩;have HG6:=zHd hg6;clear hg6;go_wp2;go_ret;refine⟨b,rfl,HB.out.trans ⟨fun h=>⟨h,HL.out,fun a b ha hb=>HI.out.ok a b (.inl ⟨ha,hb⟩)⟩,fun h=>h.1⟩,zaa (zaa HI.out.gr HG.out) HG6.out⟩
open Go.RowKit
def znl:Enters 104:=enters_of func104 (by kernel_rfl) rfl
def zrf:Enters 148:=enters_of func148 (by kernel_rfl) rfl
def zoR {α:Type}(S:Sr α)(row f:Nat->α)(R:Nat->Nat->α)(t j:Nat):S.add (zbk S row f R t j) (S.mul (f t) (R t j))=zbk S row f R (t+1) j:=by
 unfold zbk;rw[S.add_assoc];rfl
def zkw {α:Type}(S:Sr α)(row f:Nat->α)(R:Nat->Nat->α)(j:Nat):zbk S row f R 0 j=row j:=S.add_zero _
section
variable {k:Int}
def txs (f:Nat->El k)(j:Nat):Value:=.string (tx (f j))
def zKz (hk:zad k)(n m:Nat)(row f:Nat->El k)(R:Nat->Nat->El k)(g0:Nat)(w:World)(e:Ending)(w':World):Prop :=
 zbQ (zeh (srE k hk) zam n m row f R) (fun v w'=>∃ g o c,v=.slice (some ⟨g,o,none⟩) m c/\m<=c/\c<=maxLen/\(g=g0∨w.heap.size<=g)/\zar w' g o m (txs (zbk (srE k hk) row f R n))) w e w'
structure zit (hk:zad k)(n m:Nat)(row f:Nat->El k)(R:Nat->Nat->El k)(g0:Nat)(w:World)(t:Nat)(rv:Value)(wr:World):Prop where
 le:t<=n
 gr:w.grownBy wr none
 rv:∃ g o c,rv=.slice (some ⟨g,o,none⟩) m c/\m<=c/\c<=maxLen/\(g=g0∨w.heap.size<=g)/\zar wr g o m (txs (zbk (srE k hk) row f R t))
 fit:zeh (srE k hk) zam t m row f R
 now:∀ j,j<m->zam (zbk (srE k hk) row f R t j)
def zit.skip {hk:zad k}{n m:Nat}{row f:Nat->El k}{R:Nat->Nat->El k}{g0:Nat}{w:World}{t:Nat}{rv:Value}{wr:World}(h:zit hk n m row f R g0 w t rv wr)(ht:t<n)(hz:f t=(srE k hk).zero):zit hk n m row f R g0 w (t+1) rv wr:=by
 have e:∀ j,zbk (srE k hk) row f R (t+1) j=zbk (srE k hk) row f R t j:=fun j=>by rw[<- zoR,hz,(srE k hk).zero_mul,(srE k hk).add_zero]
 have e2:zbk (srE k hk) row f R (t+1)=zbk (srE k hk) row f R t:=funext e;refine⟨ht,h.gr,by rw[e2];exact h.rv,fun s hs j hj=>?_,fun j hj=>by rw[e];exact h.now j hj⟩
 by_cases hst:s<t
 exact h.fit s hst j hj;obtain rfl:s=t:=by omega
 exact⟨by rw[hz,(srE k hk).zero_mul];exact zce hk,by rw[e];exact h.now j hj⟩
def zit.next {hk:zad k}{n m:Nat}{row f:Nat->El k}{R:Nat->Nat->El k}{g0:Nat}{w:World}{t:Nat}{rv:Value}{wr w':World}(h:zit hk n m row f R g0 w t rv wr)(ht:t<n)(hm:m<=maxLen)(hp:∀ j,j<m->zam ((srE k hk).mul (f t) (R t j))/\zam (zbk (srE k hk) row f R (t+1) j))
  {H:Nat} (hH:w.heap.size<=H) (hr:zar w' H 0 m (fun i=>.string (tx (zbk (srE k hk) row f R (t+1) i)))) (hg:wr.grownBy w' none):zit hk n m row f R g0 w (t+1) (.slice (some ⟨H,0,none⟩) m m) w':=by
 refine⟨ht,zaa h.gr hg,⟨H,0,m,rfl,zqab _,hm,.inr hH,hr⟩,fun s hs j hj=>?_,fun j hj=>(hp j hj).2⟩
 by_cases hst:s<t
 exact h.fit s hst j hj;obtain rfl:s=t:=by omega
 exact hp j hj
def zpA (hk:zad k)(n m g0 off c0:Nat)(row f:Nat->El k)(R:Nat->Nat->El k)(fv Rv:Value)(rs:Nat->Value)(w:World)(hm:m<=10000)(hn:n<=10000)
  (zW:zar w g0 off m (txs row)) (hc1:m<=c0) (hc2:c0<=maxLen) (hf:zaK w fv n (txs f)) (hff:∀ j,j<n->zam (f j)) (hrf:∀ j,j<m->zam (row j))
  (hR:zaK w Rv n rs) (hRs:∀ i,i<n->zaK w (rs i) m (txs (R i))) (hRf:∀ i,i<n->∀ j,j<m->zam (R i j)) :
  Calls prog 76 #[zbl k,.slice (some ⟨g0,off,none⟩) m c0,fv,Rv] w (zKz hk n m row f R g0 w):=by
 have hmf := @zMF prog;obtain⟨Af,cf,rfl,hf1,hf2,hf3⟩:=hf;obtain⟨AR,cR,rfl,hR1,hR2,hR3⟩:=hR
 have hcomb:=fun(t:Nat) (ht:t<n) (g o c:Nat) (w1:World) (hw:w.grownBy w1 none) (h1:m<=c) (h2:c<=maxLen) (hrw:zar w1 g o m (txs (zbk (srE k hk) row f R t))) (zf:∀ j,j<m->zam (zbk (srE k hk) row f R t j)) =>
  zmk 104 znl #[zpu k (tx (f t))] #[] m m (txs (zbk (srE k hk) row f R t)) (txs (R t)) (fun j=>zam ((srE k hk).mul (f t) (R t j))/\zam (zbk (srE k hk) row f R (t+1) j)) (fun j=>tx (zbk (srE k hk) row f R (t+1) j))
   (.slice (some ⟨g,o,none⟩) m c) (rs t) w1 hm (hrw.row h1 h2) ((hRs t ht).grown hw) (zqab m) (fun i hi w' _=>by
    have h:=zqY hk (hff t ht) (hRf t ht i hi) (zf i hi) w';rw[zoR] at h;exact h)
 have HC:=zHd hcomb;have HF:=zHd hf3;have HR:=zHd hR3;have HFF:=zHd hff;have HN:=zHd hn
 have h0:zit hk n m row f R g0 w 0 (.slice (some ⟨g0,off,none⟩) m c0) w:=⟨zqaw _,zae _ _,⟨g0,off,c0,rfl,hc1,hc2,.inl rfl,by
  have e:zbk (srE k hk) row f R 0=row:=funext fun j=>zkw _ _ _ _ _;rw[e];exact zW⟩,fun t ht=>absurd ht (by omega),fun j hj=>by rw[zkw];exact hrf j hj⟩
 have H0:=zHd h0;clear hcomb hf1 hf2 hf3 hR1 hR2 hR3 hff hrf hRs hRf zW hc1 hc2 hm hn h0;unfold zbl;go_enter func76,ntmps76;go_wp2;have x0:=zan w #[.int .i64 k,.string (zag k),.string (zal k)] 57 (j:=0) rfl;have x1:=zan w #[.int .i64 k,.string (zag k),.string (zal k)] 57 (j:=1) rfl;have x2:=zan w #[.int .i64 k,.string (zag k),.string (zal k)] 57 (j:=2) rfl;have hW:w.grownBy (w.alloc (.cells #[.int .i64 k,.string (zag k),.string (zal k)] 57)) none:=zGA _ _ none;have hbs:w.heap.size<(w.alloc (.cells #[.int .i64 k,.string (zag k),.string (zal k)] 57)).heap.size:=by simp
 generalize w.alloc (.cells #[.int .i64 k,.string (zag k),.string (zal k)] 57)=W at *;have HX:=zHd (zAI x0 (zAI x1 (zAI x2 (zAI hW hbs))));clear x0 x1 x2 hW hbs
 go_loopw [1,13] (fun rv iv wr=>∃ t:Nat,iv=.int .i64 (t:Int)/\zit hk n m row f R g0 w t rv wr/\W.grownBy wr none) (fun _ iv _=>n-(intOf iv).toNat)
 case atStart=>exact⟨0,rfl,⟨H0.out.le,HX.out.2.2.2.1,by
  obtain⟨g,o,c,h1,h2,h3,h4,h5⟩:=H0.out.rv;exact⟨g,o,c,h1,h2,h3,h4,h5.grown HX.out.2.2.2.1⟩,H0.out.fit,H0.out.now⟩,zae _ _⟩
 case round =>
  obtain⟨t,rfl,zI,hWr⟩:=hrel
  by_cases ht:t<n
  ·obtain⟨adf,rfl,hbf,hcf⟩:=HF.out t ht
   obtain⟨adR,rfl,hbR,hcR⟩:=HR.out t ht;have cf1:wr.cell? (adf.add t)=some (.string (tx (f t))):=(zaL (ad:=adf.add t) (by rw[zaw];exact zI.gr.block adf.block hbf (by simp))).trans hcf;have cR1:wr.cell? (adR.add t)=some (rs t):=(zaL (ad:=adR.add t) (by rw[zaw];exact zI.gr.block adR.block hbR (by simp))).trans hcR;obtain⟨x0,x1,x2,hW,hbs⟩:=HX.out;have y0:=hWr.cell x0 (by simp);have y1:=hWr.cell x1 (by simp);have y2:=hWr.cell x2 (by simp);obtain⟨g,o,c,rfl,hmc,hcm,hgg,hrw⟩:=zI.rv;have t1:decide (t<n)=true:=by simpa using ht
   have t1':decide ((t:Int)<(n:Int))=true:=by simpa using ht
   have hit:(t:Int)<(n:Int):=by omega
   have n1:IntKind.i64.wrap ((t:Int)+1)=(t:Int)+1:=by have:=HN.out;rw[zqah];omega
   have HI:=zHd zI;have HRW:=zHd (zAI hmc (zAI hcm hrw));have HT:=zHd (zAI ht hWr);clear zI hmc hcm hgg hrw ht hWr hbf hcf hbR hcR x0 x1 x2 hW hbs;rcases zdn (tx (f t)) (zag k) with⟨f1,e1⟩|⟨f1,e1⟩
   ·have f2:((tx (f t)).toList != (zag k).toList)=false:=by simp[bne,f1]
    have hz:=zfd hk (HFF.out t HT.out.1) e1;have HZ:=zHd hz;clear hz e1;go_wp2;exact⟨⟨t+1,by simp,HI.out.skip HT.out.1 HZ.out,HT.out.2⟩,by have:=HT.out.1;simp[intOf];omega⟩
   have f2:((tx (f t)).toList != (zag k).toList)=true:=by simp[bne,f1]
   clear e1;go_upto_region 5 with(fail);have zC:=HC.out t HT.out.1 g o c wr.drew (zaa HI.out.gr (zaf wr none)) HRW.out.1 HRW.out.2.1 (HRW.out.2.2.grown (zaf wr none)) HI.out.now;unfold zpu at zC;have cRd:wr.drew.cell? (adR.add t)=some (rs t):=cR1;have yd0:wr.drew.cell? ⟨w.heap.size,0,none⟩=some (.int .i64 k):=y0;have yd1:wr.drew.cell? ⟨w.heap.size,1,none⟩=some (.string (zag k)):=y1;have yd2:wr.drew.cell? ⟨w.heap.size,2,none⟩=some (.string (zal k)):=y2;have hHs:w.heap.size<=wr.drew.heap.size:=HI.out.gr.size;have hgd:w.grownBy wr.drew none:=zaa HI.out.gr (zaf wr none);have hWd:W.grownBy wr.drew none:=zaa HT.out.2 (zaf wr none);have hgdd:wr.grownBy wr.drew none:=zaf wr none;have HCALL:=zHd zC;have HD:=zHd (zAI hHs (zAI hgd (zAI hWd hgdd)));clear zC hHs hgd hWd hgdd
   go_region_with (go_at_call 79;refine HCALL.out.mono ?_;rintro e w6 (⟨hp,v,rfl,⟨rfl,hr6⟩,hg6⟩|⟨hn,rfl,hg6⟩);rotate_left 1;(go_wp2;exact⟨rfl,.inr ⟨fun h=>hn (fun i hi=>h t HT.out.1 i hi),rfl,zaa HD.out.2.1 hg6⟩⟩);have HP6:=zHd (zAI hp (zAI hr6 hg6));clear hp hr6 hg6)
   all_goals
    go_wp2;obtain⟨hp,hr6,hg6⟩:=HP6.out;exact⟨⟨t+1,by simp,HI.out.next HT.out.1 (zqam HRW.out.1 HRW.out.2.1) hp HD.out.1 hr6 (zaa HD.out.2.2.2 hg6),zaa HD.out.2.2.1 hg6⟩,by have:=HT.out.1;simp[intOf];omega⟩
  have hte:t=n:=by have:=zI.le;omega
  subst hte;have t1:decide (t<t)=false:=by simp
  have t1':decide ((t:Int)<(t:Int))=false:=by simp
  obtain⟨g,o,c,rfl,hmc,hcm,hgg,hrw⟩:=zI.rv;have HI:=zHd zI;have HRW:=zHd (zAI hmc (zAI hcm (zAI hgg hrw)));clear zI hmc hcm hgg hrw ht;go_wp2;go_ret;obtain⟨hmc,hcm,hgg,hrw⟩:=HRW.out;exact .inl ⟨HI.out.fit,_,rfl,⟨g,o,c,rfl,hmc,hcm,hgg,hrw⟩,HI.out.gr⟩
end
open Go.RowKit
open Go.Lib (decDigits nDigits)
def ztH:∀ (xs ys:List (List UInt8)),xs.length=ys.length->(∀ x∈xs,(32:UInt8) ∉ x)->(∀ y∈ys,(32:UInt8) ∉ y)->Lib.join xs [32]=Lib.join ys [32]->xs=ys
 | [],[],_,_,_,_=>rfl
 | [],_::_,h,_,_,_=>by simp at h
 | _::_,[],h,_,_,_=>by simp at h
 | [x],[y],_,_,_,h=>by rw[Lib.join_one,Lib.join_one] at h;rw[h]
 | [x],_::_::_,h,_,_,_=>by simp at h
 | _::_::_,[y],h,_,_,_=>by simp at h
 | x::x2::xr,y::y2::yr,h,hx,hy,e=>by
  have e1:∀ (a b:List UInt8) (r:List (List UInt8)),Lib.join (a::b::r) [32]=a++32::Lib.join (b::r) [32]:=fun a b r=>by
   rw[Lib.join_cons,Lib.join_cons];unfold Lib.joinTail;simp
  rw[e1,e1] at e;have hxn:(32:UInt8) ∉ x:=hx x (by simp);have hyn:(32:UInt8) ∉ y:=hy y (by simp)
  have hsplit:∀ (a b p q:List UInt8),(32:UInt8) ∉ a->(32:UInt8) ∉ b->a++32::p=b++32::q->a=b/\p=q:=by
   intro a
   induction a with
   | nil =>
    intro b p q ha hb h;cases b with
    | nil=>simp at h;exact⟨rfl,h⟩
    | cons c r=>simp at h;exact absurd (by rw[<- h.1];simp) hb
   | cons c r ih =>
    intro b p q ha hb h;cases b with
    | nil=>simp at h;exact absurd (by rw[h.1];simp) ha
    | cons d s =>
     simp at h;obtain⟨h1,h2⟩:=ih s p q (fun hm=>ha (zqao _ hm)) (fun hm=>hb (zqao _ hm)) h.2;exact⟨by rw[h.1,h1],h2⟩
  obtain⟨h1,h2⟩:=hsplit x y _ _ hxn hyn e;rw[h1,ztH (x2::xr) (y2::yr) (by simpa using h) (fun a ha=>hx a (zqao _ ha)) (fun a ha=>hy a (zqao _ ha)) h2]
def znm (n:Nat):(32:UInt8) ∉ decDigits n:=fun h=>by
 have:=List.all_eq_true.1 (ziW n) 32 h
 revert this
 decide
def znn (v:Ext):(32:UInt8) ∉ (zsv v).data.toList:=by
 rcases v with(_|_)|x;decide;decide;show(32:UInt8) ∉ zhc x;unfold zhc;intro h;rcases zqbo.1 h with h|h
 ·split at h
  ·revert h;decide
  cases h
 rcases zqbo.1 h with h|h
 ·exact znm _ h
 split at h
 ·cases h
 rcases List.mem_cons.1 h with h|h
 ·revert h;decide
 exact znm _ h
def zER {v:Ext}(h:Fits v):(zsv v).data.toList.length<=810:=by
 rcases v with(_|_)|x;decide;decide;show(zhc x).length<=810;obtain⟨h1,h2⟩:=h;unfold zhc;rw[zqag,zqag];have e1:(if x.num<0 then [45] else ([]:List UInt8)).length<=1:=by split <;> simp
 have e2:(if x.den=1 then ([]:List UInt8) else 47::decDigits x.den).length<=401:=by
  split;simp;rw[zqbu,Lib.decDigits_length];omega
 rw[Lib.decDigits_length];omega
def zES:∀ (xs:List (List UInt8)),(∀ x∈xs,x.length<=810)->(Lib.join xs [32]).length<=811*xs.length
 | [],_=>by simp[Lib.join_nil]
 | x::r,h=>by
  rw[Lib.join_cons,zqag];have h1:=h x (by simp)
  have h2:(Lib.joinTail [32] r).length<=811*r.length:=by
   have hr:∀ y∈r,y.length<=810:=fun y hy=>h y (zqao _ hy);clear h h1;unfold Lib.joinTail
   induction r with
   | nil=>simp
   | cons y s ih =>
    have:=ih (fun z hz=>hr z (zqao _ hz));have:=hr y (by simp);simp at *;omega
  rw[zqbu];omega
section
variable {k:Int}
def zcR (m:Nat)(f:Nat->El k):ByteArray:=⟨(Lib.join (((List.range m).map (fun j=>tx (f j))).map (·.data.toList)) [32]).toArray⟩
def zIl {m:Nat}{f g:Nat->El k}(hf:∀ j,j<m->zam (f j))(hg:∀ j,j<m->zam (g j))(h:zcR m f=zcR m g):∀ j,j<m->f j=g j:=by
 unfold zcR at h;have h1:=zqbz (fun b:ByteArray=>b.data.toList) h
 have h2:=ztH _ _ (by simp) (fun x hx=>by
  obtain⟨b,hb,rfl⟩:=zqbf.1 hx;obtain⟨j,_,rfl⟩:=zqbf.1 hb;exact znn _) (fun x hx=>by
  obtain⟨b,hb,rfl⟩:=zqbf.1 hx;obtain⟨j,_,rfl⟩:=zqbf.1 hb;exact znn _) h1
 intro j hj;have h3:=zqbz (fun l:List (List UInt8)=>l[j]?) h2;simp[hj] at h3;exact zds (hf j hj) (hg j hj) (ByteArray.ext h3)
def ztI {m:Nat}{f:Nat->El k}(hf:∀ j,j<m->zam (f j)):(Lib.join (((List.range m).map (fun j=>tx (f j))).map (·.data.toList)) [32]).length<=811*m:=by
 have:=zES (((List.range m).map (fun j=>tx (f j))).map (·.data.toList)) (fun x hx=>by
  obtain⟨b,hb,rfl⟩:=zqbf.1 hx;obtain⟨j,hj,rfl⟩:=zqbf.1 hb;exact zER (hf j (List.mem_range.1 hj)))
 simpa using this
def zww {m:Nat}{A:Nat->Nat->El k}{i:Nat}{n:Nat}(hA:∀ i,i<n->∀ j,j<m->zam (A i j))(hi:i<n):∀ {R:List Nat},(∀ x∈R,x<n)->(R.map (fun x=>zcR m (A x))).findIdx? (fun t=>decide (t=zcR m (A i)))=R.findIdx? (fun x=>eqR m A x i):=by
 intro R hR;rw[List.findIdx?_map]
 induction R with
 | nil=>rfl
 | cons x r ih =>
  have hx:(fun t=>decide (t=zcR m (A i))) (zcR m (A x))=eqR m A x i:=by
   rw[Bool.eq_iff_iff];constructor
   ·intro h
    exact zhE.2 (zIl (hA x (hR x (by simp))) (hA i hi) (of_decide_eq_true h))
   intro h;have:=zhE.1 h;refine decide_eq_true ?_;unfold zcR;rw[show(List.range m).map (fun j=>tx (A x j))=(List.range m).map (fun j=>tx (A i j)) from List.map_congr_left (fun j hj=>by rw[this j (List.mem_range.1 hj)])]
  rw[List.findIdx?_cons,List.findIdx?_cons,ih (fun y hy=>hR y (zqao _ hy))];show(if (fun t=>decide (t=zcR m (A i))) (zcR m (A x))=true then _ else _)=_;rw[hx]
def zrg (eq:Nat->Nat->Bool)(i:Nat):zaQ eq (i+1)=match (zaQ eq i).1.findIdx? (fun j=>eq j i) with
  | some k=>((zaQ eq i).1,(zaQ eq i).2++[k])
  | none=>((zaQ eq i).1++[i],(zaQ eq i).2++[(zaQ eq i).1.length]):=rfl
def zBp {m:Nat}{A:Nat->Nat->El k}{i n:Nat}(hA:∀ i,i<n->∀ j,j<m->zam (A i j))(hi:i<n)(h:zcR m (A i)∈(zaQ (eqR m A) i).1.map (fun x=>zcR m (A x))) :
  (zaQ (eqR m A) (i+1)).1=(zaQ (eqR m A) i).1/\(zaQ (eqR m A) (i+1)).2=(zaQ (eqR m A) i).2++[zkv ((zaQ (eqR m A) i).1.map (fun x=>zcR m (A x))) (zcR m (A i))]:=by
 have hs:=zkM (eq:=eqR m A) (fun i=>zhE.2 (fun _ _=>rfl)) i
 have hR:∀ x∈(zaQ (eqR m A) i).1,x<n:=fun x hx=>by
  exact zQbo
 have hf:=zww hA hi hR;unfold zkv;rw[hf]
 have hne:(zaQ (eqR m A) i).1.findIdx? (fun x=>eqR m A x i)≠none:=by
  rw[<- hf];intro hn;have:=List.findIdx?_eq_none_iff.1 hn _ h;simp at this
 obtain⟨q,hq⟩:=Option.ne_none_iff_exists'.1 hne;rw[zrg,hq];exact⟨rfl,rfl⟩
def zIm {m:Nat}{A:Nat->Nat->El k}{i n:Nat}(hA:∀ i,i<n->∀ j,j<m->zam (A i j))(hi:i<n)(h:zcR m (A i) ∉ (zaQ (eqR m A) i).1.map (fun x=>zcR m (A x))) :
  (zaQ (eqR m A) (i+1)).1=(zaQ (eqR m A) i).1++[i]/\(zaQ (eqR m A) (i+1)).2=(zaQ (eqR m A) i).2++[(zaQ (eqR m A) i).1.length]:=by
 have hs:=zkM (eq:=eqR m A) (fun i=>zhE.2 (fun _ _=>rfl)) i
 have hR:∀ x∈(zaQ (eqR m A) i).1,x<n:=fun x hx=>by
  exact zQbo
 have hf:=zww hA hi hR
 have hne:(zaQ (eqR m A) i).1.findIdx? (fun x=>eqR m A x i)=none:=by
  rw[<- hf];exact List.findIdx?_eq_none_iff.2 (fun x hx=>by simp;rintro rfl;exact h hx)
 rw[zrg,hne];exact⟨rfl,rfl⟩
def zkx (w:World)(v:Value)(m:Nat)(f:Nat->El k):Prop:=∃ g o c,v=.slice (some ⟨g,o,none⟩) m c/\m<=c/\c<=maxLen/\zar w g o m (txs f)
def zkx.grown {w w':World}{v:Value}{m:Nat}{f:Nat->El k}(h:zkx w v m f)(hg:w.grownBy w' none):zkx w' v m f:=by
 obtain⟨g,o,c,h1,h2,h3,h4⟩:=h;exact⟨g,o,c,h1,h2,h3,h4.grown hg⟩
def zkx.row {w:World}{v:Value}{m:Nat}{f:Nat->El k}(h:zkx w v m f):zaK w v m (txs f):=by
 obtain⟨g,o,c,rfl,h2,h3,h4⟩:=h;exact h4.row h2 h3
structure zfs (m n:Nat)(A:Nat->Nat->El k)(rs:Nat->Value)(w:World)(i:Nat)(rv cv:Value)(wr:World):Prop where
 le:i<=n
 gr:w.grownBy wr none
 nums:zgk wr w.heap.size ((zaQ (eqR m A) i).1.map (fun x=>zcR m (A x)))
 own1:wr.ownsRow (w.heap.size+1) 27 1 rv (zaQ (eqR m A) i).1.length ((zaQ (eqR m A) i).1.map rs)
 own2:wr.ownsRow (w.heap.size+1) 3 1 cv (zaQ (eqR m A) i).2.length ((zaQ (eqR m A) i).2.map (fun x=>.int .i64 ((x:Nat):Int)))
 dis:rv.ownBlock=none∨cv.ownBlock=none∨rv.ownBlock≠cv.ownBlock
def zET:∃ i0:TypeInfo,prog.info? 27=some i0/\i0.zero=some (.slice none 0 0)/\i0.size=1/\i0.bytes=24:=info_parts zfb
def zEU:(prog.info? 3).map (fun i=>(i.zero,i.size,i.bytes))=some (some (.int .i64 0),1,8):=by kernel_rfl
def ztJ {w:World}{B n:Nat}{T:TypeId}{v:Value}{xs:List Value}(h:w.ownsRow B T 1 v n xs)(z:Value):zaK w v n (fun j=>xs.getD j z):=by
 obtain⟨hl,⟨rfl,rfl⟩|⟨g,c,cur,rfl,hb,hg,h1,h2,hs,ht⟩⟩:=h;exact⟨none,0,rfl,zqab _,by unfold maxLen;omega,fun j hj=>absurd hj (by omega)⟩;refine⟨_,c,rfl,h1,h2,fun j hj=>⟨_,rfl,(zqad.1 hg).1,?_⟩⟩;rw[zcn,zqat,zqbw w g j _ _ (0,0) hg,<- Array.getElem?_toList];exact zQbB
def zwx {w w':World}(h:Below w.heap.size w w'):w.grownBy w' none:=⟨h.os,h.tape,h.output,h.size,fun i hi _=>h.block i hi⟩
def zfs.start (m n:Nat)(A:Nat->Nat->El k)(rs:Nat->Value)(w:World):zfs m n A rs w 0 (.slice none 0 0) (.slice none 0 0) (w.alloc (.map #[] 0)) :=
 ⟨zqaw _,zGA _ _ none,zgk.made w,⟨rfl,.inl ⟨rfl,rfl⟩⟩,⟨rfl,.inl ⟨rfl,rfl⟩⟩,.inl rfl⟩
def zfs.near {m n:Nat}{A:Nat->Nat->El k}{rs:Nat->Value}{w:World}{i:Nat}{rv cv:Value}{wr w':World}(h:zfs m n A rs w i rv cv wr)(hg:wr.grownBy w' none):zfs m n A rs w i rv cv w' :=
 ⟨h.le,zaa h.gr hg,h.nums.kept hg (by simp),h.own1.kept hg (by cases rv.ownBlock <;> simp),h.own2.kept hg (by cases cv.ownBlock <;> simp),h.dis⟩
def zlO {w w1 w2:World}{B n:Nat}{T:TypeId}{v:Value}{xs:List Value}(h:w1.ownsRow B T 1 v n xs)(hB:w.heap.size<=B)(h1:w.grownBy w1 none)(h2:w1.grownBy w2 v.ownBlock):w.grownBy w2 none:=by
 rcases h.2 with⟨rfl,_⟩|⟨g,c,cur,rfl,hb,_⟩;exact zaa h1 h2;exact zak h1 h2 (by show w.heap.size<=g;omega)
def zEV {a b:Option Nat}(h:a=none∨b=none∨a≠b):b=none∨b≠a:=by
 rcases h with h|h|h
 ·subst h
  cases b <;> simp
 exact .inl h;exact .inr (Ne.symm h)
def zpB {W:World}{B:Nat}{T:TypeId}{n:Nat}{xs:List Value}{v x v':Value}{H:Nat}(h:v.ownBlock=none∨x.ownBlock=none∨v.ownBlock≠x.ownBlock)(hx:W.ownsRow B T 1 x n xs)(hH:W.heap.size<=H)
  (hat:v'.ownBlock=v.ownBlock∨v'.ownBlock=some H):v'.ownBlock=none∨x.ownBlock=none∨v'.ownBlock≠x.ownBlock:=by
 rcases hat with e1|e1;rw[e1];exact h;rw[e1];refine .inr ?_;cases hb:x.ownBlock with
 | none=>exact .inl rfl
 | some g =>
  refine .inr ?_;have:=(hx.lt g hb).2;simp;omega
def zfs.row {m n:Nat}{A:Nat->Nat->El k}{rs:Nat->Value}{w:World}{i:Nat}{rv cv:Value}{wr:World}(h:zfs m n A rs w i rv cv wr){w5 w6:World}{o:Obj}{rv':Value}
  (hst:zgk w5 w.heap.size ((zaQ (eqR m A) i).1.map (fun x=>zcR m (A x))++[zcR m (A i)])) (hg5:wr.grownBy w5 (some w.heap.size))
  (zO:w6.ownsRow (w.heap.size+1) 27 1 rv' ((zaQ (eqR m A) i).1.length+1) ((zaQ (eqR m A) i).1.map rs++[rs i])) (hg6:(w5.alloc o).grownBy w6 rv.ownBlock) (hat:rv'.ownBlock=rv.ownBlock∨rv'.ownBlock=some (w5.alloc o).heap.size) :
  w.grownBy w6 none/\zgk w6 w.heap.size ((zaQ (eqR m A) i).1.map (fun x=>zcR m (A x))++[zcR m (A i)]) /\
   w6.ownsRow (w.heap.size+1) 3 1 cv (zaQ (eqR m A) i).2.length ((zaQ (eqR m A) i).2.map (fun x=>.int .i64 ((x:Nat):Int)))/\(rv'.ownBlock=none∨cv.ownBlock=none∨rv'.ownBlock≠cv.ownBlock):=by
 have hne:∀ {T:TypeId} {v:Value} {n:Nat} {xs:List Value},wr.ownsRow (w.heap.size+1) T 1 v n xs->v.ownBlock=none∨v.ownBlock≠some w.heap.size:=fun {T v n xs} hv=>by
  cases hb:v.ownBlock with
  | none=>exact .inl rfl
  | some g=>have:=(hv.lt g hb).1;right;simp;omega
 have o1:=(h.own1.kept hg5 (hne h.own1)).alloc o;have o2:=(h.own2.kept hg5 (hne h.own2)).alloc o;have hgw:w.grownBy (w5.alloc o) none:=zaa (zak h.gr hg5 (zqab _)) (zGA _ _ none);refine⟨zlO o1 (by omega) hgw hg6,(hst.kept (zGA _ o none) (by simp)).kept hg6 ?_,o2.kept hg6 (zEV h.dis),zpB h.dis o2 (zqab _) hat⟩;cases hb:rv.ownBlock with
 | none=>simp
 | some g=>have:=(h.own1.lt g hb).1;simp;omega
def zwy (n m:Nat)(A:Nat->Nat->El k)(rs:Nat->Value)(av:Value)(w:World)(hn:n<=10000)(hm:m<=10000)(ha:zaK w av n rs)(hr:∀ i,i<n->zkx w (rs i) m (A i))(hA:∀ i,i<n->∀ j,j<m->zam (A i j)) :
  Calls prog 68 #[av] w fun e w'=>∃ rv cv,e=.returned (.tuple #[rv,cv])/\zfs m n A rs w n rv cv w':=by
 obtain⟨Ad,c,rfl,ha1,ha2,ha3⟩:=ha;obtain⟨i0,hi,hz0,hz1,hz2⟩:=zET;obtain⟨i1,hj,hy0,hy1,hy2⟩:=info_parts zEU
 have hjoin:∀ i,i<n->∀ w',w.grownBy w' none->Calls prog 99 #[rs i,.string ⟨#[32]⟩] w' fun e w2=>e=.returned (.string (zcR m (A i)))/\w'.grownBy w2 none:=fun i hi w' hg=>by
  obtain⟨g,o,c,e,h1,h2,h3⟩:=(hr i hi).grown hg;rw[e]
  have h:=Tryz.sh_Join g o c ((List.range m).map (fun j=>tx (A i j))) ⟨#[32]⟩ w' (fun j x hx=>by
   obtain⟨hj1,rfl⟩:=zqae.1 hx;simp at hj1;rw[h3.2 j hj1];simp[txs]) h3.1 (by simp;omega) (by simpa using h1) (by
   have:=ztI (m:=m) (hA i hi);show(Lib.join _ [32]).length<=_;omega)
  rw[show((List.range m).map (fun j=>tx (A i j))).length=m by simp] at h;exact h.mono (fun e w2 ⟨h1,h2⟩=>⟨h1,zwx h2⟩)
 have hmm:∀ w:World,(Instr.makeMap 115 none).run prog w=.ok (.map (some w.heap.size)) (w.alloc (.map #[] 0)):=fun w=>run_makeMap _ w;have HA:=zHd ha3;have HJ:=zHd hjoin;have HN:=zHd (zAI hn hm);have HF:=zHd hA
 have hre:∀ i,i<n->∃ g o c,rs i=.slice (some ⟨g,o,none⟩) m c:=fun i hi=>by
  obtain⟨g,o,c,e,_⟩:=hr i hi;exact⟨g,o,c,e⟩
 have HRE:=zHd hre;clear ha1 ha2 ha3 hr hA hn hm hjoin hre;go_enter func68,ntmps68;go_wp2
 go_loopw [2,3,13] (fun rv cv iv wr=>∃ i:Nat,iv=.int .i64 (i:Int)/\zfs m n A rs w i rv cv wr) (fun _ _ iv _=>n-(intOf iv).toNat)
 case atStart=>exact⟨0,rfl,zfs.start m n A rs w⟩
 case round =>
  obtain⟨i,rfl,zI⟩:=hrel
  by_cases hin:i<n
  ·obtain⟨ad,rfl,hb,hc⟩:=HA.out i hin
   have hc2:wr.cell? (ad.add i)=some (rs i):=(zaL (ad:=ad.add i) (by rw[zaw];exact zI.gr.block ad.block hb (by simp))).trans hc;have t1:decide (i<n)=true:=by simpa using hin
   have t1':decide ((i:Int)<(n:Int))=true:=by simpa using hin
   have hit:(i:Int)<(n:Int):=by omega
   have n1:IntKind.i64.wrap ((i:Int)+1)=(i:Int)+1:=by have:=HN.out;rw[zqah];omega
   obtain⟨g3,o3,c3,hrs3⟩:=HRE.out i hin;have zC:=HJ.out i hin wr zI.gr;rw[hrs3] at hc2 zC;have HI:=zHd (zAI hin zI);have HCALL:=zHd zC;have HRS:=zHd hrs3;clear hin zI hb hc zC hrs3;go_wp2_with fail;refine HCALL.out.mono ?_;rintro e w1 ⟨rfl,hg1⟩;have hinv1:=HI.out.2.near hg1
   have hsz:(zcR m (A i)).size<=maxLen:=by
    have h1:=ztI (m:=m) (HF.out i HI.out.1);have h2:=HN.out;show(zcR m (A i)).data.size<=maxLen;unfold zcR maxLen;simp only[List.size_toArray];omega
   have hlook:=hinv1.nums.look_ok hsz;have hs:=zkM (eq:=eqR m A) (fun i=>zhE.2 (fun _ _=>rfl)) i
   by_cases zm:zcR m (A i)∈(zaQ (eqR m A) i).1.map (fun x=>zcR m (A x))
   ·obtain⟨q1,q2⟩:=zBp HF.out HI.out.1 zm
    rw[decide_eq_true zm] at hlook;obtain⟨z,hzz⟩:∃ z,z=zkv ((zaQ (eqR m A) i).1.map (fun x=>zcR m (A x))) (zcR m (A i)):=⟨_,rfl⟩;rw[<- hzz] at hlook q2;have hown2:=hinv1.own2;have H1:=zHd (zAI hinv1 (zAI q1 q2));have HS:=zHd hs;clear hinv1 q1 q2 hg1 zm hzz hs hsz;go_wp2_with (at_builtin;refine wpList_append_own_at _ rfl _ _ 64 rfl (w.heap.size+1) 3 i1 (.int .i64 0) 1 8 underlying64 hj hy0 hy1 hy2 rfl (by decide) _ _ _ rfl (hown2.alloc _) ⟨w1.heap.size,0,none⟩ 1 1 [.int .i64 ((z:Nat):Int)] rfl rfl ?c1 ?c2 ?c3 ?c4 ?c5 ?_)
    case c1 =>
     intro j u hu;obtain⟨hj1,rfl⟩:=zqae.1 hu;obtain rfl:j=0:=by simpa using hj1
     exact zan _ _ _ rfl
    case c2=>intro u hu;rw[zqbk.1 hu];rfl
    case c3=>have:=HS.out.len;have:=HN.out;have:=HI.out.1;unfold maxLen;omega
    case c4=>have:=HS.out.len;have:=HN.out;have:=HI.out.1;omega
    case c5=>have:=H1.out.1.gr.size;have:=H1.out.1.nums.lt;simp;omega
    intro v' w5 zo zG _ hat;have H5:=zHd (zAI zo (zAI zG (zAI hown2 hat)));clear zo zG hown2 hat;go_wp2;obtain⟨hinv1,q1,q2⟩:=H1.out;obtain⟨zo,zG,hown2,hat⟩:=H5.out;have hgw:w.grownBy w5 none:=zlO (hown2.alloc _) (by omega) (zaa hinv1.gr (zGA _ _ none)) zG;refine⟨⟨i+1,by simp,HI.out.1,hgw,?_,?_,?_,?_⟩,by have:=HI.out.1;simp[intOf];omega⟩
    ·rw[q1]
     refine(hinv1.nums.kept (zGA _ _ none) (by simp)).kept zG ?_;cases hb:u3.ownBlock with
     | none=>simp
     | some g=>have:=(hown2.lt g hb).1;simp;omega
    ·rw[q1]
     refine(hinv1.own1.alloc _).kept zG ?_;rcases hinv1.dis with h|h|h
     exact .inl h
     ·rw[h];cases u2.ownBlock <;> simp
     exact .inr h
    rw[q2,zqag,List.map_append];exact zo;rcases zpB (v:=u3) (x:=u2) (v':=v') (by rcases hinv1.dis with h|h|h;exact .inr (.inl h);exact .inl h;exact .inr (.inr (Ne.symm h))) (hinv1.own1.alloc (.cells #[.int .i64 ((z:Nat):Int)] 3)) (by simp) hat with h|h|h
    ·exact .inr (.inl h)
    exact .inl h;exact .inr (.inr (Ne.symm h))
   obtain⟨q1,q2⟩:=zIm HF.out HI.out.1 zm;rw[zqcb zm] at hlook;obtain⟨w2,hst,hm2,hg2⟩:=hinv1.nums.store hsz zm (by rw[zqbn];have:=hs.le;have:=HI.out.1;have:=HN.out;unfold maxLen;omega);rw[zqbn] at hst;have hown1:=hinv1.own1
   have hne1:u2.ownBlock=none∨u2.ownBlock≠some w.heap.size:=by
    cases hb:u2.ownBlock with
    | none=>exact .inl rfl
    | some g=>have:=(hown1.lt g hb).1;right;simp;omega
   have hown1':=hown1.kept hg2 hne1
   obtain⟨A0,c0,hrl⟩:∃ A0 c0,u2=.slice A0 (zaQ (eqR m A) i).1.length c0:=by
    rcases hown1.2 with⟨e,e2⟩|⟨g,c,cur,e,_⟩;exact⟨_,_,by rw[e,e2]⟩;exact⟨_,_,e⟩
   have hKn:(zaQ (eqR m A) i).1.length<=10000:=(by have:=hs.le;have:=HI.out.1;have:=HN.out.1;omega);have hCn:(zaQ (eqR m A) i).2.length<=10000:=(by have:=hs.len;have:=HI.out.1;have:=HN.out.1;omega);have hbase1:w.heap.size+1<=w2.heap.size:=(by have:=hm2.lt;omega);have hrowF:=fun(w6:World) (rv':Value) h1 h2 h3=>hinv1.row (w5:=w2) (w6:=w6) (o:=.cells #[.slice (some ⟨g3,o3,none⟩) m c3] 27) (rv':=rv') hm2 hg2 h1 h2 h3;rw[HRS.out] at hrowF;have H1:=zHd (zAI q1 q2);have HS:=zHd hs;have HRF:=zHd hrowF;have HK:=zHd (zAI hKn (zAI hCn hbase1));have HG12:=zHd hg2;obtain⟨K,hKe⟩:∃ K,K=(zaQ (eqR m A) i).1.length:=⟨_,rfl⟩;have HKE:=zHd hKe;rw[<- hKe] at hst hrl hown1';subst hrl;clear hinv1 q1 q2 hg1 zm hs hsz hm2 hg2 hown1 hne1 hrowF hKn hCn hbase1 hKe;go_wp2_with (at_builtin;refine wpList_append_own_at _ rfl _ _ 41 rfl (w.heap.size+1) 27 i0 (.slice none 0 0) 1 24 underlying41 hi hz0 hz1 hz2 rfl (by decide) _ _ _ rfl (hown1'.alloc _) ⟨w2.heap.size,0,none⟩ 1 1 [.slice (some ⟨g3,o3,none⟩) m c3] rfl rfl ?c1 ?c2 ?c3 ?c4 ?c5 ?_)
   case c1 =>
    intro j u hu;obtain⟨hj1,rfl⟩:=zqae.1 hu;obtain rfl:j=0:=by simpa using hj1
    exact zan _ _ _ rfl
   case c2=>intro u hu;rw[zqbk.1 hu];rfl
   case c3=>have:=HK.out.1;have:=HKE.out;unfold maxLen;omega
   case c4=>have:=HK.out.1;have:=HKE.out;omega
   case c5=>have:=HK.out.2.2;simp;omega
   intro v' w5 zo zG _ hat;rw[HKE.out] at zo;obtain⟨hgw,hnum,hown2,hdis⟩:=HRF.out w5 v' zo zG (by simpa using hat);have hsz5:w.heap.size+1<=w5.heap.size:=(by have:=hnum.lt;omega);have H5:=zHd (zAI zo (zAI hgw (zAI hnum hdis)));have H52:=zHd hown2;have HSZ:=zHd hsz5;clear zo zG hown2 hat hgw hnum hdis hsz5 hown1';go_wp2_with (at_builtin;refine wpList_append_own_at _ rfl _ _ 64 rfl (w.heap.size+1) 3 i1 (.int .i64 0) 1 8 underlying64 hj hy0 hy1 hy2 rfl (by decide) _ _ _ rfl (H52.out.alloc _) ⟨w5.heap.size,0,none⟩ 1 1 [.int .i64 ((K:Nat):Int)] rfl rfl ?d1 ?d2 ?d3 ?d4 ?d5 ?_)
   case d1 =>
    intro j u hu;obtain⟨hj1,rfl⟩:=zqae.1 hu;obtain rfl:j=0:=by simpa using hj1
    exact zan _ _ _ rfl
   case d2=>intro u hu;rw[zqbk.1 hu];rfl
   case d3=>have:=HK.out.2.1;unfold maxLen;omega
   case d4=>have:=HK.out.2.1;omega
   case d5=>have:=HSZ.out;simp;omega
   intro v2 w6 zj zg _ hat6;have H6:=zHd (zAI zj (zAI zg hat6));clear zj zg hat6;go_wp2;obtain⟨q1,q2⟩:=H1.out;obtain⟨hown1,hgw,hnum,hdis⟩:=H5.out;obtain⟨zj,zg,hat6⟩:=H6.out;have hgw6:w.grownBy w6 none:=zlO (H52.out.alloc _) (by omega) (zaa hgw (zGA _ _ none)) zg;refine⟨⟨i+1,by simp,HI.out.1,hgw6,?_,?_,?_,?_⟩,by have:=HI.out.1;simp[intOf];omega⟩
   ·rw[q1,List.map_append]
    refine(hnum.kept (zGA _ _ none) (by simp)).kept zg ?_;cases hb:u3.ownBlock with
    | none=>simp
    | some g=>have:=(H52.out.lt g hb).1;simp;omega
   ·rw[q1,zqag,List.map_append]
    show w6.ownsRow _ _ 1 v' _ (_++[rs i]);rw[HRS.out];refine(hown1.alloc _).kept zg ?_;rcases hdis with h|h|h
    exact .inl h
    ·rw[h];cases v'.ownBlock <;> simp
    exact .inr h
   rw[q2,zqag,List.map_append,<- HKE.out];exact zj;rcases zpB (v:=u3) (x:=v') (v':=v2) (by rcases hdis with h|h|h;exact .inr (.inl h);exact .inl h;exact .inr (.inr (Ne.symm h))) (hown1.alloc (.cells #[.int .i64 ((K:Nat):Int)] 3)) (by simp) hat6 with h|h|h
   ·exact .inr (.inl h)
   exact .inl h;exact .inr (.inr (Ne.symm h))
  have hle:=zI.le;obtain rfl:i=n:=by omega
  have t1:decide (i<i)=false:=by simp
  have t1':decide ((i:Int)<(i:Int))=false:=by simp
  have HI:=zHd zI;clear zI hin hle;go_wp2;exact zqby (v:=.tuple #[u2,u3]) (by simp[results,results68,go_sem]) rfl ⟨_,_,rfl,HI.out⟩
end
open Go.RowKit
section
variable {k:Int}
def zcq (hk:zad k)(f:Nat->El k)(κ:Nat->Nat)(t d:Nat):El k:=sm (srE k hk) t (fun j=>if κ j=d then f j else (srE k hk).zero)
def zsI (hk:zad k)(f:Nat->El k)(κ:Nat->Nat)(t:Nat):zcq hk f κ (t+1) (κ t)=(srE k hk).add (zcq hk f κ t (κ t)) (f t):=by
 show(srE k hk).add (zcq hk f κ t (κ t)) (if κ t=κ t then f t else (srE k hk).zero)=_;rw[if_pos rfl]
def zlP (hk:zad k)(f:Nat->El k)(κ:Nat->Nat)(t d:Nat)(h:d≠κ t):zcq hk f κ (t+1) d=zcq hk f κ t d:=by
 show(srE k hk).add (zcq hk f κ t d) (if κ t=d then f t else (srE k hk).zero)=_;rw[if_neg (Ne.symm h),(srE k hk).add_zero]
def ziH (hk:zad k)(f:Nat->El k)(κ:Nat->Nat)(K t:Nat):List Value:=(List.range K).map (fun d=>.string (tx (zcq hk f κ t d)))
def zfN (hk:zad k)(f:Nat->El k)(κ:Nat->Nat){K d:Nat}(t:Nat)(h:d<K):(ziH hk f κ K t)[d]?=some (.string (tx (zcq hk f κ t d))):=by
 unfold ziH;rw[zqaj,zqbe h];rfl
def ztK (hk:zad k)(f:Nat->El k)(κ:Nat->Nat)(K:Nat):ziH hk f κ K 0=List.replicate K (.string (zag k)):=by
 unfold ziH;apply List.ext_getElem?;intro d;rw[zqaj,zqbg]
 by_cases h:d<K
 rw[zqbe h,if_pos h,<- zdj hk];rfl;rw[if_neg h,zqas (by simpa using h)];rfl
def zIn (hk:zad k)(f:Nat->El k)(κ:Nat->Nat)(K t:Nat)(h:κ t<K):(ziH hk f κ K t).set (κ t) (.string (tx (zcq hk f κ (t+1) (κ t))))=ziH hk f κ K (t+1):=by
 apply List.ext_getElem?;intro d;rw[List.getElem?_set]
 by_cases hd:d<K
 ·rw[zfN hk f κ (t+1) hd]
  by_cases e:κ t=d
  ·subst e
   rw[if_pos rfl,if_pos (by unfold ziH;simpa using hd)]
  rw[if_neg e,zfN hk f κ t hd,zlP hk f κ t d (Ne.symm e)]
 rw[zqas (l:=ziH hk f κ K (t+1)) (by unfold ziH;simpa using hd)];rw[if_neg (by omega),zqas (by unfold ziH;simpa using hd)]
structure zjA (hk:zad k)(f:Nat->El k)(κ:Nat->Nat)(n K g:Nat)(w:World)(t:Nat)(wr:World):Prop where
 le:t<=n
 gr:w.grownBy wr none
 hg:w.heap.size<=g
 row:wr.heap[g]?=some (.cells (ziH hk f κ K t).toArray 9 (0,0))
 fit:∀ s,s<t->zam (zcq hk f κ (s+1) (κ s))
 now:∀ d,zam (zcq hk f κ t d)
def zjA.next {hk:zad k}{f:Nat->El k}{κ:Nat->Nat}{n K g:Nat}{w wr w5:World}{t:Nat}(h:zjA hk f κ n K g w t wr)(ht:t<n)(hκ:κ t<K)(hg:wr.grownBy w5 none)(hr:w5.heap[g]?=some (.cells (ziH hk f κ K t).toArray 9 (0,0)))
  (hp:zam (zcq hk f κ (t+1) (κ t))):zjA hk f κ n K g w (t+1) (w5.setCell ⟨g,κ t,none⟩ (.string (tx (zcq hk f κ (t+1) (κ t))))):=by
 refine⟨ht,zak (zaa h.gr hg) (zac _ _ _) h.hg,h.hg,?_,fun s hs=>?_,fun d=>?_⟩
 ·rw[heap_setCell_same w5 g (κ t) _ _ _ hr]
  congr 2;rw[List.setIfInBounds_toArray,zIn hk f κ K t hκ]
 ·by_cases e:s<t
  ·exact h.fit s e
  obtain rfl:s=t:=by omega
  exact hp
 by_cases e:d=κ t
 ·subst e;exact hp
 rw[zlP hk f κ t d e];exact h.now d
def zbc {w:World}{b g o j:Nat}{u v:Value}(hb:b≠g)(h:w.cell? ⟨b,j,none⟩=some v):(w.setCell ⟨g,o,none⟩ u).cell? ⟨b,j,none⟩=some v:=((zac w ⟨g,o,none⟩ u).cell h (by simpa using hb))
def zBq (hk:zad k)(f:Nat->El k)(κ:Nat->Nat)(n K:Nat)(fv cv:Value)(w:World)(hn:n<=10000)(hK:K<=10000)(hκ:∀ j,j<n->κ j<K)(hf:zaK w fv n (fun j=>Value.string (tx (f j))))(hff:∀ j,j<n->zam (f j))
  (hc:zaK w cv n (fun j=>.int .i64 ((κ j:Nat):Int))) :
  Calls prog 74 #[zbl k,fv,cv,.int .i64 (K:Int)] w (zbQ (∀ s,s<n->zam (zcq hk f κ (s+1) (κ s))) (fun v w'=>∃ g,v=.slice (some ⟨g,0,none⟩) K K/\w.heap.size<=g/\zar w' g 0 K (fun d=>.string (tx (zcq hk f κ n d)))) w):=by
 obtain⟨Af,cf,rfl,hf1,hf2,hf3⟩:=hf;obtain⟨Ac,cc,rfl,hc1,hc2,hc3⟩:=hc;have hz:=fun w'=>zgU k K w' hK;have HZ:=zHd hz;have HF:=zHd hf3;have HC:=zHd hc3;have HFF:=zHd hff;have HN:=zHd (zAI hn (zAI hK hκ));clear hz hf1 hf2 hf3 hc1 hc2 hc3 hff hn hK hκ;unfold zbl at *;go_enter func74,ntmps74;go_wp2_with fail;refine(HZ.out _).mono ?_;rintro e w1 ⟨g,rfl,hgW,zW,hg1⟩;have x0:=hg1.cell (zan w #[.int .i64 k,.string (zag k),.string (zal k)] 57 (j:=0) rfl) (by simp);have x1:=hg1.cell (zan w #[.int .i64 k,.string (zag k),.string (zal k)] 57 (j:=1) rfl) (by simp);have x2:=hg1.cell (zan w #[.int .i64 k,.string (zag k),.string (zal k)] 57 (j:=2) rfl) (by simp);have hW:w.grownBy w1 none:=zaa (zGA _ _ none) hg1;have hgb:w.heap.size+1<=g:=by simpa using hgW
 have zI:zjA hk f κ n K g w 0 w1:=⟨zqaw _,hW,by omega,by rw[ztK];exact zW,fun s hs=>absurd hs (by omega),fun d=>zce hk⟩;have HI:=zHd zI;have HX:=zHd (zAI x0 (zAI x1 (zAI x2 hgb)));clear hgW zW hg1 x0 x1 x2 hW zI hgb;go_wp2
 go_loopw [17] (fun iv wr=>∃ t:Nat,iv=.int .i64 (t:Int)/\zjA hk f κ n K g w t wr/\wr.cell? ⟨w.heap.size,0,none⟩=some (.int .i64 k)/\wr.cell? ⟨w.heap.size,1,none⟩=some (.string (zag k))/\wr.cell? ⟨w.heap.size,2,none⟩=some (.string (zal k))) (fun iv _=>n-(intOf iv).toNat)
 case atStart=>exact⟨0,rfl,HI.out,HX.out.1,HX.out.2.1,HX.out.2.2.1⟩
 case round =>
  obtain⟨t,rfl,zI,y0,y1,y2⟩:=hrel
  by_cases ht:t<n
  ·obtain⟨adf,rfl,hbf,hcf⟩:=HF.out t ht
   obtain⟨adc,rfl,hbc,hcc⟩:=HC.out t ht;have cf1:wr.drew.cell? (adf.add t)=some (.string (tx (f t))):=(zaL (w:=w) (w':=wr) (ad:=adf.add t) (by rw[zaw];exact zI.gr.block adf.block hbf (by simp))).trans hcf;have cc1:wr.cell? (adc.add t)=some (.int .i64 ((κ t:Nat):Int)):=(zaL (ad:=adc.add t) (by rw[zaw];exact zI.gr.block adc.block hbc (by simp))).trans hcc;have hκt:=HN.out.2.2 t ht
   have r1:wr.drew.cell? ⟨g,κ t,none⟩=some (.string (tx (zcq hk f κ t (κ t)))):=by
    show wr.cell? _=_;rw[zqbw wr g (κ t) _ _ (0,0) zI.row,zqap,zfN hk f κ t hκt]
   have zC:=fun w'=>zkb hk (zI.now (κ t)) (HFF.out t ht) w';rw[<- zsI] at zC;have t1:decide (t<n)=true:=by simpa using ht
   have t1':decide ((t:Int)<(n:Int))=true:=by simpa using ht
   have hit:(t:Int)<(n:Int):=by omega
   have i1:((κ t:Nat):Int)<(K:Int):=by omega
   have i2:(0:Int)<=((κ t:Nat):Int):=by omega
   have n1:IntKind.i64.wrap ((t:Int)+1)=(t:Int)+1:=by have:=HN.out.1;rw[zqah];omega
   have hne1:¬ w.heap.size=g:=by have:=HX.out.2.2.2;omega
   have hne2:¬ g=w.heap.size:=by have:=HX.out.2.2.2;omega
   have HI2:=zHd zI;have HCALL:=zHd zC;have HT:=zHd (zAI ht hκt);clear zI zC ht hκt hbf hcf hbc hcc;unfold zbl at HCALL;go_upto_region 5 with(fail);have d0:wr.drew.cell? ⟨w.heap.size,0,none⟩=some (.int .i64 k):=y0;have d1:wr.drew.cell? ⟨w.heap.size,1,none⟩=some (.string (zag k)):=y1;have d2:wr.drew.cell? ⟨w.heap.size,2,none⟩=some (.string (zal k)):=y2;clear y0 y1 y2
   go_region_with (go_at_call 80;refine(HCALL.out _).mono ?_;rintro e w5 (⟨hp,rfl,hg5⟩|⟨hn,rfl,hg5⟩);rotate_left 1;(go_wp2;exact⟨rfl,.inr ⟨fun h=>hn (h t HT.out.1),rfl,zaa (zaa HI2.out.gr (zaf wr none)) hg5⟩⟩);have s0:=hg5.cell d0 (by simp);have s1:=hg5.cell d1 (by simp);have s2:=hg5.cell d2 (by simp);have hr5:=(hg5.block g (zqad.1 HI2.out.row).1 (by simp)).trans (show wr.drew.heap[g]?=_ from HI2.out.row);have z0:=zqbx w5 g (κ t) _ _ hr5;have q0:=zqbw w5 g (κ t) _ _ (0,0) hr5;rw[zqap,zfN hk f κ t HT.out.2] at q0;have H5:=zHd (zAI hp (zAI hg5 hr5));clear hp hg5 hr5)
   all_goals
    go_wp2;obtain⟨hp,hg5,hr5⟩:=H5.out;exact⟨⟨t+1,by simp,HI2.out.next HT.out.1 HT.out.2 (zaa (zaf wr none) hg5) hr5 hp,zbc hne1 s0,zbc hne1 s1,zbc hne1 s2⟩,by have:=HT.out.1;simp[intOf];omega⟩
  have hte:t=n:=by have:=zI.le;omega
  subst hte;have t1:decide (t<t)=false:=by simp
  have t1':decide ((t:Int)<(t:Int))=false:=by simp
  have HI2:=zHd zI;clear zI ht;go_wp2;go_ret;refine .inl ⟨HI2.out.fit,_,rfl,⟨g,rfl,HI2.out.hg,(zqad.1 HI2.out.row).1,fun d hd=>?_⟩,HI2.out.gr⟩;rw[zqat,zqbw wr g d _ _ (0,0) HI2.out.row,zqap,zfN hk f κ t hd]
end
open Go.RowKit
section
variable {k:Int}
def zEW (k:Int)(w:World):Calls prog 54 #[.int .i64 k] w (zab (zbl k) w):=by
 have hz:=fun w'=>zEm k w';have ho:=fun w'=>zpt k w';have hs0:∀ w1:World,(w.alloc (.cells #[.int .i64 0,.string ⟨#[]⟩,.string ⟨#[]⟩] 55)).grownBy w1 none->w1.heap[w.heap.size]?=some (.cells #[.int .i64 0,.string ⟨#[]⟩,.string ⟨#[]⟩] 55 (0,0)):=fun w1 h=>(h.block w.heap.size (by simp) (by simp)).trans (zaG w _);have HZ:=zHd hz;have HO:=zHd ho;have HS:=zHd hs0;clear hz ho hs0;unfold zbl;go_enter func54,ntmps54;go_wp2_with fail;refine(HZ.out _).mono ?_;rintro e w1 ⟨rfl,hg1⟩;go_wp2_with fail;refine(HO.out _).mono ?_;rintro e w2 ⟨rfl,hg2⟩;have hgA:=zaa hg1 hg2;have hb:=HS.out w2 hgA;have q0:=zqbw w2 _ 0 _ _ (0,0) hb;have q1:=zqbw w2 _ 1 _ _ (0,0) hb;have q2:=zqbw w2 _ 2 _ _ (0,0) hb;have z0:=zqbx w2 w.heap.size 0 _ _ hb;have z1:=zqbx w2 w.heap.size 1 _ _ hb;have z2:=zqbx w2 w.heap.size 2 _ _ hb;have HG:=zHd (zaa (zGA w _ none) hgA);clear hg1 hg2 hgA hb;go_wp2;refine zqby (v:=.agg #[.int .i64 k,.string (zag k),.string (zal k)]) ?_ rfl ⟨rfl,?_⟩
 ·simp[results,results54,go_sem,q0,q1,q2]
 exact zQbv
def zot (k:Int)(w:World):Calls prog 27 #[.int .i64 k] w (zab (zbl k) w):=by
 have hz:=fun w'=>zEW k w';have hs0:∀ w1:World,(w.alloc (.cells #[.int .i64 0,.string ⟨#[]⟩,.string ⟨#[]⟩] 57)).grownBy w1 none->w1.heap[w.heap.size]?=some (.cells #[.int .i64 0,.string ⟨#[]⟩,.string ⟨#[]⟩] 57 (0,0)):=fun w1 h=>(h.block w.heap.size (by simp) (by simp)).trans (zaG w _);have HZ:=zHd hz;have HS:=zHd hs0;clear hz hs0;unfold zbl at *;go_enter func27,ntmps27;go_wp2_with fail;refine(HZ.out _).mono ?_;rintro e w2 ⟨rfl,hgA⟩;have hb:=HS.out w2 hgA;have q0:=zqbw w2 _ 0 _ _ (0,0) hb;have q1:=zqbw w2 _ 1 _ _ (0,0) hb;have q2:=zqbw w2 _ 2 _ _ (0,0) hb;have z0:=zqbx w2 w.heap.size 0 _ _ hb;have z1:=zqbx w2 w.heap.size 1 _ _ hb;have z2:=zqbx w2 w.heap.size 2 _ _ hb;have HG:=zHd (zaa (zGA w _ none) hgA);clear hgA hb;go_wp2;refine zqby (v:=.agg #[.int .i64 k,.string (zag k),.string (zal k)]) ?_ rfl ⟨rfl,?_⟩
 ·simp[results,results27,go_sem,q0,q1,q2]
 exact zQbv
def zcZ (w:World)(g:Nat)(k:Int):Prop:=w.cell? ⟨g,0,none⟩=some (.int .i64 k)/\w.cell? ⟨g,1,none⟩=some (.string (zag k))/\w.cell? ⟨g,2,none⟩=some (.string (zal k))
def zcZ.grown {w w':World}{g:Nat}(h:zcZ w g k)(hg:w.grownBy w' none):zcZ w' g k:=⟨hg.cell h.1 (by simp),hg.cell h.2.1 (by simp),hg.cell h.2.2 (by simp)⟩
def zBr (hk:zad k)(f:Nat->El k)(κ:Nat->Nat)(n K g1 g2 g3:Nat)(Ac Ar:Option Addr)(cc cr:Nat)(fv:Value)(w:World)(hn:n<=10000)(hK:K<=10000)(hκ:∀ j,j<n->κ j<K)(hf:zaK w fv n (fun j=>Value.string (tx (f j))))(hff:∀ j,j<n->zam (f j))
  (hcal:zcZ w g1 k) (hcv:w.cell? ⟨g2,0,none⟩=some (.slice Ac n cc)) (hrv:w.cell? ⟨g3,0,none⟩=some (.slice Ar K cr)) (hc:zaK w (.slice Ac n cc) n (fun j=>.int .i64 ((κ j:Nat):Int))) :
  Calls prog 73 #[fv,.pointer (some ⟨g1,0,none⟩),.pointer (some ⟨g2,0,none⟩),.pointer (some ⟨g3,0,none⟩)] w (zbQ (∀ s,s<n->zam (zcq hk f κ (s+1) (κ s))) (fun v w'=>∃ g,v=.slice (some ⟨g,0,none⟩) K K/\w.heap.size<=g/\zar w' g 0 K (fun d=>.string (tx (zcq hk f κ n d)))) w):=by
 have h:=zBq hk f κ n K fv (.slice Ac n cc) w hn hK hκ hf hff hc;obtain⟨c0,c1,c2⟩:=hcal;obtain⟨Af,cf,rfl,-⟩:=hf;have H:=zHd h;clear h hc hκ hff;unfold zbl at H;go_enter func73,ntmps73;go_wp2_with fail;refine H.out.mono ?_;rintro e w1 (⟨hp,v,rfl,⟨g,rfl,hg,hr⟩,hg1⟩|⟨hn,rfl,hg1⟩)
 ·have HP:=zHd (zAI hp (zAI hg (zAI hr hg1)))
  clear hp hg hr hg1 H;go_wp2;go_ret;obtain⟨hp,hg,hr,hg1⟩:=HP.out;exact .inl ⟨hp,_,rfl,⟨g,rfl,hg,hr⟩,hg1⟩
 exact zQcc
def zwz:Enters 80:=enters_of func80 (by kernel_rfl) rfl
def zaK.at_drew {w:World}{v:Value}{n:Nat}{L:Nat->Value}(h:zaK w v n L):zaK w.drew v n L:=h.grown (zaf w none)
def zBs (hk:zad k)(b:Nat->El k)(Y:Nat->El k)(K m d g1 g2:Nat)(Ay:Option Addr)(cy:Nat)(ys:Nat->Value)(bv:Value)(w:World)(hm:m<=10000)(hd:d<K)(hb:zaK w bv m (txs b))(hbf:∀ j,j<m->zam (b j))
  (hcal:zcZ w g1 k) (hyv:w.cell? ⟨g2,0,none⟩=some (.slice Ay K cy)) (hy:zaK w (.slice Ay K cy) K ys) (hyd:zaK w (ys d) m (txs Y)) (hyf:∀ j,j<m->zam (Y j)) :
  Calls prog 78 #[bv,.int .i64 (d:Int),.pointer (some ⟨g2,0,none⟩),.pointer (some ⟨g1,0,none⟩)] w (zls (∀ j,j<m->zam ((srE k hk).add (b j) (Y j))) m (fun j=>tx ((srE k hk).add (b j) (Y j))) w):=by
 have hmf := @zMF prog
 have zC:=zmk 80 zwz #[zbl k] #[] m m (txs b) (txs Y) (fun j=>zam ((srE k hk).add (b j) (Y j))) (fun j=>tx ((srE k hk).add (b j) (Y j))) bv (ys d) w.drew hm hb.at_drew hyd.at_drew (zqab m)
  (fun i hi w' _=>zkb hk (hbf i hi) (hyf i hi) w')
 obtain⟨Ay',cy',e,hy1,hy2,hy3⟩:=hy;obtain⟨rfl,rfl⟩:Ay'=Ay/\cy'=cy:=by simp at e;exact⟨e.1.symm,e.2.symm⟩
 obtain⟨ad,rfl,hbl,hcl⟩:=hy3 d hd;obtain⟨c0,c1,c2⟩:=hcal;have d0:w.drew.cell? ⟨g1,0,none⟩=some (.int .i64 k):=c0;have d1:w.drew.cell? ⟨g1,1,none⟩=some (.string (zag k)):=c1;have d2:w.drew.cell? ⟨g1,2,none⟩=some (.string (zal k)):=c2;have d3:w.drew.cell? ⟨g2,0,none⟩=some (.slice (some ad) K cy'):=hyv;have d4:w.drew.cell? (ad.add d)=some (ys d):=hcl;have i1:(d:Int)<(K:Int):=by omega
 have i2:(0:Int)<=(d:Int):=by omega
 have HC:=zHd zC;clear zC hb hyd hbf hyf hy1 hy2 hy3 hbl hcl c0 c1 c2 e hyv;unfold zbl at HC;go_enter func78,ntmps78;go_upto_region 1 with(fail)
 go_region_held2 (fun W'=>W'.cell? ⟨g1,0,none⟩=some (.int .i64 k)/\W'.cell? ⟨g1,1,none⟩=some (.string (zag k))/\W'.cell? ⟨g1,2,none⟩=some (.string (zal k))/\W'.cell? ⟨g2,0,none⟩=some (.slice (some ad) K cy')/\W'.cell? (ad.add d)=some (ys d)) (go_keep)
  (first
  | (go_at_call 79;refine HC.out.mono ?_;rintro e w6 (⟨hp,v,rfl,⟨rfl,hr6⟩,hg6⟩|⟨hn,rfl,hg6⟩);rotate_left 1;(exact⟨rfl,.inr ⟨hn,rfl,zaa (zaf w none) hg6⟩⟩);have s0:=hg6.cell d0 (by simp);have s1:=hg6.cell d1 (by simp);have s2:=hg6.cell d2 (by simp);have s3:=hg6.cell d3 (by simp);have s4:=hg6.cell d4 (by simp);have H6:=zHd (zAI hp (zAI hr6 hg6));clear hp hr6 hg6))
 all_goals
  go_wp2;go_ret;obtain⟨hp,hr6,hg6⟩:=H6.out;exact .inl ⟨hp,_,rfl,⟨rfl,hr6⟩,zaa (zaf w none) hg6⟩
def ztL (ad:Addr):ad.add 0=ad:=by unfold Addr.add;rcases ad with⟨b,o,s⟩;cases s <;> simp
def zBt (hk:zad k)(f:Nat->El k)(b:Nat->Nat->El k)(n m g1 g2:Nat)(Ab:Option Addr)(cb:Nat)(bs:Nat->Value)(fv:Value)(w:World)(hn0:1<=n)(hn:n<=10000)(hm:m<=10000)(hf:zaK w fv n (txs f))(hff:∀ j,j<n->zam (f j))
  (hcal:zcZ w g1 k) (hbv:w.cell? ⟨g2,0,none⟩=some (.slice Ab n cb)) (hb:zaK w (.slice Ab n cb) n bs) (hbs:∀ i,i<n->zaK w (bs i) m (txs (b i))) (hbf:∀ i,i<n->∀ j,j<m->zam (b i j)) :
  Calls prog 75 #[fv,.pointer (some ⟨g1,0,none⟩),.pointer (some ⟨g2,0,none⟩)] w (zbQ (zeh (srE k hk) zam n m (fun _=>(srE k hk).zero) f b) (fun v w'=>∃ g o c,v=.slice (some ⟨g,o,none⟩) m c/\m<=c/\c<=maxLen/\w.heap.size<=g/\zar w' g o m (txs (zbk (srE k hk) (fun _=>(srE k hk).zero) f b n))) w):=by
 have hz:=fun w'=>zgU k m w' hm
 have hsum:=fun(w5:World) (h5:w.grownBy w5 none) (g:Nat) (hr:zar w5 g 0 m (fun _=>.string (zag k)))=>zpA hk n m g 0 m (fun _=>(srE k hk).zero) f b fv (.slice Ab n cb) bs w5 hm hn
  (by
    have e:txs (fun _=>(srE k hk).zero)=fun _=>Value.string (zag k):=funext fun j=>by unfold txs;rw[zdj]
    rw[e];exact hr) (zqab m) (by unfold maxLen;omega) (hf.grown h5) hff (fun j _=>zce hk) (hb.grown h5) (fun i hi=>(hbs i hi).grown h5) hbf
 obtain⟨Ab',cb',e,hb1,hb2,hb3⟩:=hb;obtain⟨rfl,rfl⟩:Ab'=Ab/\cb'=cb:=by simp at e;exact⟨e.1.symm,e.2.symm⟩
 obtain⟨ad,rfl,hbl,hcl⟩:=hb3 0 (by omega);rw[ztL] at hcl;obtain⟨A0,c00,e0,-⟩:=hbs 0 (by omega);rw[e0] at hcl;obtain⟨c0,c1,c2⟩:=hcal;obtain⟨Af,cf,rfl,-⟩:=hf;have d0:w.drew.cell? ⟨g1,0,none⟩=some (.int .i64 k):=c0;have d1:w.drew.cell? ⟨g1,1,none⟩=some (.string (zag k)):=c1;have d2:w.drew.cell? ⟨g1,2,none⟩=some (.string (zal k)):=c2;have d3:w.drew.cell? ⟨g2,0,none⟩=some (.slice (some ad) n cb'):=hbv;have d4:w.drew.cell? ad=some (.slice A0 m c00):=hcl;have i1:(0:Int)<(n:Int):=by omega
 have i3:0<n:=by omega
 have i4:¬ n=0:=by omega
 have i5:(1:Int)<=(n:Int):=by omega
 have HZ:=zHd hz;have HS:=zHd hsum;clear hz hsum hbs hbf hff hb1 hb2 hb3 hbl hcl c0 c1 c2 e e0 hbv;unfold zbl at HZ HS;go_enter func75,ntmps75;go_upto_region 1 with(fail)
 go_region_held2 (fun W'=>W'.cell? ⟨g1,0,none⟩=some (.int .i64 k)/\W'.cell? ⟨g1,1,none⟩=some (.string (zag k))/\W'.cell? ⟨g1,2,none⟩=some (.string (zal k))/\W'.cell? ⟨g2,0,none⟩=some (.slice (some ad) n cb')/\W'.cell? ad=some (.slice A0 m c00)) (go_keep)
  (first
  | (go_at_call 47;refine(HZ.out _).mono ?_;clear HZ;rintro e w5 ⟨g,rfl,hgW,zW,hg5⟩;have s0:=hg5.cell d0 (by simp);have s1:=hg5.cell d1 (by simp);have s2:=hg5.cell d2 (by simp);have s3:=hg5.cell d3 (by simp);have s4:=hg5.cell d4 (by simp);have hg5':=zaa (zaf w none) hg5;have H5:=zHd (zAI hgW (zAI zW hg5'));clear hgW zW hg5 hg5')
  | (go_at_call 76;refine(HS.out w5 H5.out.2.2 g (zkZ H5.out.2.1)).mono ?_;clear HS;rintro e w6 (⟨hp,v,rfl,⟨gg,o,c,rfl,hc3,hc4,hgg,hrw⟩,hg6⟩|⟨hn,rfl,hg6⟩);rotate_left 1;(exact⟨rfl,.inr ⟨hn,rfl,zaa H5.out.2.2 hg6⟩⟩);have p0:=hg6.cell s0 (by simp);have p1:=hg6.cell s1 (by simp);have p2:=hg6.cell s2 (by simp);have p3:=hg6.cell s3 (by simp);have p4:=hg6.cell s4 (by simp);have H6:=zHd (zAI hp (zAI hc3 (zAI hc4 (zAI hgg (zAI hrw hg6)))));clear hp hc3 hc4 hgg hrw hg6))
 all_goals
  go_wp2;go_ret;obtain⟨hp,hc3,hc4,hgg,hrw,hg6⟩:=H6.out;refine .inl ⟨hp,_,rfl,⟨gg,o,c,rfl,hc3,hc4,?_,hrw⟩,zaa H5.out.2.2 hg6⟩;have h1:w.heap.size<=g:=H5.out.1;have h2:=H5.out.2.2.size;rcases hgg with h|h <;> omega
end
open Go.RowKit
section
variable {k:Int}
def zaD.other {T:TypeId}{z:Value}{n:Nat}{zs:List Value}{w wr:World}(h:zaD T z n zs w wr){g o:Nat}{u:Value}(hg:w.heap.size<g):zaD T z n zs w (wr.setCell ⟨g,o,none⟩ u) :=
 ⟨((zac wr ⟨g,o,none⟩ u).block _ (zqad.1 h.row).1 (by simp;omega)).trans h.row,zak h.gr (zac _ _ _) (by show w.heap.size<=g;omega),h.le⟩
def zIo (hk:zad k){w:World}{g n t:Nat}(h:w.heap[g]?=some (.cells (List.replicate n (.string (zag k))).toArray 9 (0,0)))(ht:t<n) :
  zar (w.setCell ⟨g,t,none⟩ (.string (zal k))) g 0 n (txs (idm (srE k hk) t)):=by
 have h2:=heap_setCell_same w g t _ _ (.string (zal k)) h;refine⟨(zqad.1 h2).1,fun j hj=>?_⟩;rw[zqat,zqbw _ g j _ _ (0,0) h2,List.setIfInBounds_toArray,zqap,List.getElem?_set];unfold txs idm
 by_cases e:t=j
 ·subst e
  rw[if_pos rfl,if_pos (by simpa using hj),if_pos rfl,zwh]
 rw[if_neg e,if_neg e,zqbg,if_pos hj,zdj]
def zlQ (hk:zad k)(H n:Nat)(zs:List Value)(wr:World):Prop :=
 ∀ i,i<zs.length->∃ gi,zs.getD i (.slice none 0 0)=.slice (some ⟨gi,0,none⟩) n n/\H<gi/\zar wr gi 0 n (txs (idm (srE k hk) i))
def zIp (hk:zad k)(n:Nat)(w:World)(hn:n<=10000) :
  Calls prog 42 #[zbl k,.int .i64 (n:Int)] w fun e w'=>∃ g zs,e=.returned (.slice (some ⟨g,0,none⟩) n n)/\w.heap.size<=g/\zs.length=n/\zar w' g 0 n (fun j=>zs.getD j (.slice none 0 0))/\zlQ hk g n zs w'/\w.grownBy w' none:=by
 obtain⟨i0,hi,hz0,hz1,hz2⟩:=info_parts zfb;have hz:=fun w'=>zgU k n w' hn;have HZ:=zHd hz;have HN:=zHd hn;clear hz hn;have n0:¬ (n:Int)<0:=by omega
 unfold zbl at *;go_enter func42,ntmps42;have x0:=zan w #[.int .i64 k,.string (zag k),.string (zal k)] 57 (j:=0) rfl;have x1:=zan w #[.int .i64 k,.string (zag k),.string (zal k)] 57 (j:=1) rfl;have x2:=zan w #[.int .i64 k,.string (zag k),.string (zal k)] 57 (j:=2) rfl;have hsz:(w.alloc (.cells #[.int .i64 k,.string (zag k),.string (zal k)] 57)).heap.size=w.heap.size+1:=by simp
 go_wp2_with (at_make;refine wpList_make_full _ rfl _ _ 41 rfl (w.heap.size+1) 27 i0 (.slice none 0 0) 1 underlying41 hi hz0 hz1 _ _ _ _ n rfl rfl ?c0 ?c1 ?c2 (by have:=HN.out;unfold maxLen;omega) (Nat.le_of_eq hsz.symm) ?_)
 case c0=>omega
 case c1=>omega
 case c2=>have:=HN.out;first|omega|(rw[hz2];omega)
 intro w1 zO hgr;have hW:w.grownBy (w.alloc (.cells #[.int .i64 k,.string (zag k),.string (zal k)] 57)) none:=zGA _ _ none;generalize w.alloc (.cells #[.int .i64 k,.string (zag k),.string (zal k)] 57)=W at *;have zF:zaD 27 (.slice none 0 0) n [] W w1:=zaD.start (by rw[hsz];exact zO) hgr;have HFI:=zHd zF;have HX:=zHd (zAI (show zcZ w1 w.heap.size k from⟨hgr.cell x0 (by simp),hgr.cell x1 (by simp),hgr.cell x2 (by simp)⟩) (zAI hsz hW));clear zO hgr x0 x1 x2 zF hsz hW;go_wp2
 go_loopw [11] (fun iv wr=>∃ zs:List Value,iv=.int .i64 (zs.length:Int)/\zaD 27 (.slice none 0 0) n zs W wr/\zlQ hk W.heap.size n zs wr/\zcZ wr w.heap.size k) (fun iv _=>n-(intOf iv).toNat)
 case atStart=>exact⟨[],rfl,HFI.out,fun i hi=>absurd hi (by simp),HX.out.1⟩
 case round =>
  obtain⟨zs,rfl,zF,zR,hcal⟩:=hrel;obtain⟨t,hzt⟩:∃ t,zs.length=t:=⟨_,rfl⟩;have hle:=zF.le
  by_cases ht:t<n
  ·have t1:decide (t<n)=true:=by simpa using ht
   have t1':decide ((t:Int)<(n:Int))=true:=by simpa using ht
   have hit:(t:Int)<(n:Int):=by omega
   have n1:IntKind.i64.wrap ((t:Int)+1)=(t:Int)+1:=by have:=HN.out;rw[zqah];omega
   obtain⟨y0,y1,y2⟩:=hcal;have HF:=zHd zF;have HR:=zHd zR;have HT:=zHd (zAI ht (zAI hzt hle));rw[hzt];clear zF zR ht hle hzt;go_wp2_with fail;refine(HZ.out _).mono ?_;rintro e w5 ⟨g,rfl,hgW,zW,hg5⟩;obtain⟨ht,hzt,hle⟩:=HT.out;have hsz:=HX.out.2.1;have hWsz:W.heap.size<wr.heap.size:=(zqad.1 HF.out.row).1;have hf5:=HF.out.grown hg5;have q0:=hf5.cell (by rw[hzt];exact ht);have z0:=hf5.free t;rw[hzt,hsz] at q0;rw[hsz] at z0;have c2:=hg5.cell y2 (by simp);have c0:=hg5.cell y0 (by simp);have c1:=hg5.cell y1 (by simp);have zp:=hf5.put (by rw[hzt];exact ht) (.slice (some ⟨g,0,none⟩) n n);rw[hzt,hsz] at zp;have hgne:g≠w.heap.size+1:=by omega
   have hrow2:(w5.setCell ⟨w.heap.size+1,t,none⟩ (.slice (some ⟨g,0,none⟩) n n)).heap[g]?=some (.cells (List.replicate n (.string (zag k))).toArray 9 (0,0)):=((zac w5 ⟨w.heap.size+1,t,none⟩ _).block g (zqad.1 zW).1 (by simpa using hgne)).trans zW;have HP:=zHd (zAI zp (zAI hrow2 (zAI hgW (zAI hg5 (zAI hWsz (zAI c0 (zAI c1 (zAI c2 zW))))))));clear zp hrow2 hgW hg5 hWsz hf5 zW y0 y1 y2 ht hzt hle;go_upto_region 6 with(fail)
   have a0:(w5.setCell ⟨w.heap.size+1,t,none⟩ (.slice (some ⟨g,0,none⟩) n n)).cell? ⟨w.heap.size+1,t,none⟩=some (.slice (some ⟨g,0,none⟩) n n):=by
    have hr:=HP.out.1.row;rw[hsz] at hr;rw[zqbw _ _ t _ _ (0,0) hr,zqap,zqbj,zqaq (by have:=HT.out.2.1;omega),HT.out.2.1,zqbr];rfl
   have b2:(w5.setCell ⟨w.heap.size+1,t,none⟩ (.slice (some ⟨g,0,none⟩) n n)).cell? ⟨w.heap.size,2,none⟩=some (.string (zal k)):=zbc (by omega) HP.out.2.2.2.2.2.2.2.1;have r0:=zqbw _ g t _ _ (0,0) HP.out.2.1;rw[zqap,zqbg,if_pos HT.out.1] at r0;have f0:=zqbx _ g t _ _ HP.out.2.1;have hgn:w.heap.size+1<g:=by have:=HP.out.2.2.1;have:=HP.out.2.2.2.2.1;omega
   have hCA:zcZ (w5.setCell ⟨w.heap.size+1,t,none⟩ (.slice (some ⟨g,0,none⟩) n n)) w.heap.size k:=⟨zbc (by omega) HP.out.2.2.2.2.2.1,zbc (by omega) HP.out.2.2.2.2.2.2.1,b2⟩
   have hU:zlQ hk W.heap.size n zs (w5.setCell ⟨w.heap.size+1,t,none⟩ (.slice (some ⟨g,0,none⟩) n n))/\∀ i,i<zs.length->∃ gi,zs.getD i (.slice none 0 0)=.slice (some ⟨gi,0,none⟩) n n/\gi<g:=by
    refine⟨fun i hi=>?_,fun i hi=>?_⟩
    ·obtain⟨gi,e1,e2,e3⟩:=HR.out i hi
     exact⟨gi,e1,e2,(e3.grown HP.out.2.2.2.1).grownB (zac _ _ _) (by show gi≠w.heap.size+1;omega)⟩
    obtain⟨gi,e1,e2,e3⟩:=HR.out i hi;exact⟨gi,e1,by have:=e3.1;have:=HP.out.2.2.1;omega⟩
   have zp:=HP.out.1;have hrow2:=HP.out.2.1;generalize w5.setCell ⟨w.heap.size+1,t,none⟩ (.slice (some ⟨g,0,none⟩) n n)=V at *;have hne1:¬ w.heap.size=g:=by omega
   have hne2:¬ w.heap.size+1=g:=by omega
   have HV:=zHd (zAI zp (zAI hrow2 (zAI hgn (zAI hCA hU))));have d0:V.drew.cell? ⟨w.heap.size+1,t,none⟩=some (.slice (some ⟨g,0,none⟩) n n):=a0;have d2:V.drew.cell? ⟨w.heap.size,2,none⟩=some (.string (zal k)):=b2;have dr:V.drew.cell? ⟨g,t,none⟩=some (.string (zag k)):=r0;have df:V.drew.frozen? ⟨g,t,none⟩=false:=f0;have e0:=zbc (w:=V.drew) (o:=t) (u:=.string (zal k)) hne2 d0;have e2:=zbc (w:=V.drew) (o:=t) (u:=.string (zal k)) hne1 d2;clear zp hrow2 hgn hCA hU a0 b2 r0 f0 hgne
   go_region_held2 (fun W'=>W'.cell? ⟨w.heap.size+1,t,none⟩=some (.slice (some ⟨g,0,none⟩) n n)/\W'.cell? ⟨w.heap.size,2,none⟩=some (.string (zal k))) (first|exact⟨d0,d2⟩|exact⟨e0,e2⟩|go_keep) (fail)
   all_goals
    go_wp2;obtain⟨zp,hrow2,hgn,hCA,hU1,hU2⟩:=HV.out;have hzt:=HT.out.2.1;have hsz2:W.heap.size=w.heap.size+1:=hsz;refine⟨⟨zs++[.slice (some ⟨g,0,none⟩) n n],by simp[hzt],(zp.grown (zaf V none)).other (by omega),fun i hi=>?_,⟨zbc hne1 hCA.1,zbc hne1 hCA.2.1,zbc hne1 hCA.2.2⟩⟩,by have:=HT.out.1;simp[intOf];omega⟩
    by_cases hil:i<zs.length
    ·obtain⟨gi,q1,q2,q3⟩:=hU1 i hil
     obtain⟨gj,p1,p2⟩:=hU2 i hil;rw[q1] at p1;have hgg:gi=gj:=(by simpa using p1);refine⟨gi,?_,q2,(q3.grown (zaf V none)).grownB (zac _ _ _) (by show gi≠g;omega)⟩;rw[zqaa,zqal hil,<- zqaa];exact q1
    have hie:i=t:=(by simp at hi;omega);subst hie;refine⟨g,?_,by omega,zIo hk (w:=V.drew) hrow2 HT.out.1⟩;rw[zqaa,zqaq (by omega),hzt,zqbr];rfl
  have hte:t=n:=by omega
  subst hte;have t1:decide (t<t)=false:=by simp
  have t1':decide ((t:Int)<(t:Int))=false:=by simp
  have HF:=zHd zF;have HR:=zHd zR;have HT:=zHd hzt;rw[hzt];clear zF zR ht hle hzt hcal;go_wp2;go_ret;have hsz:=HX.out.2.1;have hra:=HF.out.rowAt HT.out;rw[hsz] at hra;have hru:=HR.out;rw[hsz] at hru;exact⟨w.heap.size+1,zs,rfl,by omega,HT.out,hra,hru,zaa HX.out.2.2 HF.out.gr⟩
end
open Go.RowKit
open Go.Lib (nDigits)
variable {α:Type}
def aug (S:Sr α)(A:Nat->Nat->α)(F:Nat->α)(n x y:Nat):α:=if x<n then (if y<n then A x y else F x) else S.zero
def cutF (S:Sr α)(F:Nat->α)(J x:Nat):α:=if x<J then F x else S.zero
def zLP (S:Sr α)(A:Nat->Nat->α)(F:Nat->α){n t i j:Nat}(ht:t<=n)(hi:i<n)(hj:j<n):el S (aug S A F n) t i j=el S A t i j :=
 zoX S (fun x y hx hy=>by unfold aug;rw[if_pos hx,if_pos hy]) t ht i j hi hj
def zIq (S:Sr α)(A:Nat->Nat->α)(F:Nat->α){n i:Nat}(hi:i<n):sm S n (fun m=>S.mul (stM S A n i m) (F m))=el S (aug S A F n) n i n:=by
 rw[zgv S (aug S A F n) n i n];have e1:aug S A F n i n=F i:=by unfold aug;rw[if_pos hi,if_neg (Nat.lt_irrefl _)]
 have e2:sm S n (fun m=>S.mul (el S (aug S A F n) n i m) (aug S A F n m n))=sm S n (fun m=>S.mul (el S A n i m) (F m)):=zat S (fun m hm=>by
  rw[zLP S A F (zqab n) hi hm];unfold aug;rw[if_pos hm,if_neg (Nat.lt_irrefl _)])
 have e3:sm S n (fun m=>S.mul (stM S A n i m) (F m))=S.add (sm S n (fun m=>S.mul (idm S i m) (F m))) (sm S n (fun m=>S.mul (el S A n i m) (F m))):=by
  rw[<- zfj];exact zat S (fun m _=>S.add_mul _ _ _)
 rw[e1,e2,e3,zmu S _ hi]
def zEX (S:Sr α)(c F:Nat->α){J:Nat}:∀ {n:Nat},J<=n->sm S n (fun m=>S.mul (c m) (cutF S F J m))=sm S J (fun m=>S.mul (c m) (F m))
 | 0,h=>by rw[Nat.le_zero.1 h];rfl
 | n+1,h=>by
  by_cases e:J=n+1
  ·rw[e]
   exact zat S (fun m hm=>by unfold cutF;rw[if_pos (by omega)])
  show S.add (sm S n (fun m=>S.mul (c m) (cutF S F J m))) (S.mul (c n) (cutF S F J n))=_;rw[zEX S c F (n:=n) (by omega)];have:cutF S F J n=S.zero:=by unfold cutF;rw[if_neg (by omega)]
  rw[this,S.mul_zero,S.add_zero]
def zBu (S:Sr α)(A:Nat->Nat->α)(F:Nat->α){n i J:Nat}(hi:i<n)(hJ:J<=n):sm S J (fun m=>S.mul (stM S A n i m) (F m))=el S (aug S A (cutF S F J) n) n i n:=by
 rw[<- zIq S A (cutF S F J) hi,zEX S (fun m=>stM S A n i m) F hJ]
def zsJ (S:Sr α)(y:Nat):∀ {l:List (Nat×α)},(∀ e∈l,e.1≠y)->cs S l y=S.zero
 | [],_=>rfl
 | e::l,h=>by
  have h1:cs S (e::l) y=cs S l y:=if_neg (h e (zqbm ..));rw[h1];exact zsJ S y (fun x hx=>h x (zqao _ hx))
variable {k:Int} {hk:zad k}
def zpC (hk:zad k):Sh4 (srE k hk).zero.1:=by
 show Sh4 (zic k);unfold zic;split;trivial;show nDigits (0:Rat).num.natAbs+(if (0:Rat).den=1 then 0 else nDigits (0:Rat).den)<=4;decide +kernel
structure zcU (k:Int)(hk:zad k)(A:Nat->Nat->El k)(F:Nat->El k)(n:Nat)(M:Nat->List (Nat×El k)):Prop where
 row:n<=5
 is:∀ x y,x<n->y<n->A x y=cs (srE k hk) (M x) y
 short:∀ x,x<n->∀ e∈M x,e.1<n/\Sh4 e.2.1
 few:ns n (fun x=>(M x).length)<=10
 fin:∀ x,x<n->Sh4 (F x).1
variable {A:Nat->Nat->El k} {F:Nat->El k} {n:Nat} {M:Nat->List (Nat×El k)}
def zcU.little (h:zcU k hk A F n M):zdI k hk A n M :=
 ⟨by have:=h.row;omega,h.is,fun x hx e he=>(h.short x hx e he).2,by have:=h.few;omega⟩
def zcU.cutF (h:zcU k hk A F n M)(J:Nat):zcU k hk A (cutF (srE k hk) F J) n M where
 row:=h.row
 is:=h.is
 short:=h.short
 few:=h.few
 fin x hx:=by
  unfold Proofs.YtiblmbpfcmcccaaGreatDoor.cutF;split;exact h.fin x hx;exact zpC hk
def zEY (f:Nat->Nat):∀ n,ns n (fun x=>f x+1)=ns n f+n
 | 0=>rfl
 | n+1=>by
  show ns n (fun x=>f x+1)+(f n+1)=ns n f+f n+(n+1);rw[zEY f n];omega
def zcU.aug (h:zcU k hk A F n M):zdI k hk (aug (srE k hk) A F n) (n+1) (fun x=>if x<n then M x++[(n,F x)] else []) where
 row:=by have:=h.row;omega
 is x y hx hy:=by
  unfold Proofs.YtiblmbpfcmcccaaGreatDoor.aug
  by_cases h1:x<n
  ·rw[if_pos h1,if_pos h1,zoo]
   by_cases h2:y<n
   rw[if_pos h2,if_neg (by omega)];exact h.is x y h1 h2;rw[if_neg h2,if_pos (show n=y by omega),zsJ _ y (fun e he=>by have:=(h.short x h1 e he).1;omega),(srE k hk).zero_add]
  rw[if_neg h1,if_neg h1];rfl
 short x hx e he:=by
  by_cases h1:x<n
  ·rw[if_pos h1] at he
   rcases zqbo.1 he with he|he;exact(h.short x h1 e he).2;rw[zqbk.1 he];exact h.fin x h1
  rw[if_neg h1] at he;cases he
 few:=by
  show ns n (fun x=>(if x<n then M x++[(n,F x)] else []).length)+(if n<n then M n++[(n,F n)] else []).length<=15;rw[if_neg (Nat.lt_irrefl n)];have e:ns n (fun x=>(if x<n then M x++[(n,F x)] else []).length)<=ns n (fun x=>(M x).length+1):=zsF (fun x hx=>by rw[if_pos hx,zqag];exact zqab _);rw[zEY] at e;have:=h.few;have:=h.row;show ns n (fun x=>(if x<n then M x++[(n,F x)] else []).length)+0<=15;omega
def zdI.star (h:zdI k hk A n M){i j:Nat}(h5:n<=5)(hi:i<n)(hj:j<n):zax 223 (stM (srE k hk) A n i j).1:=by
 have h1:=h.wide h5 (zqab n) hi hj
 have h2:zax 1 (idm (srE k hk) i j).1:=by
  unfold idm;split;exact zhp k;exact zdR k
 exact zAP k h2 h1
def zcU.part (h:zcU k hk A F n M){i J:Nat}(hi:i<n)(hJ:J<=n):zax 221 (sm (srE k hk) J (fun m=>(srE k hk).mul (stM (srE k hk) A n i m) (F m))).1:=by
 rw[zBu (srE k hk) A F hi hJ];exact(h.cutF J).aug.wide h.row (by omega) (by omega) (by omega)
def zcU.term (h:zcU k hk A F n M){i m:Nat}(hi:i<n)(hm:m<n):zax 228 (zbi k (stM (srE k hk) A n i m).1 (F m).1) :=
 zcj k (by omega) (h.little.star h.row hi hm) (h.fin m hm).wide
def zcU.from (h:zcU k hk A F n M){lead:Ext}(hl:zax 4 lead){i m:Nat}(hi:i<n)(hm:m<n):zax 228 (zbi k lead (stM (srE k hk) A n i m).1) :=
 (zcj k (by omega) hl (h.little.star h.row hi hm)).mono (by omega)
def zcU.total (h:zcU k hk A F n M){lead:Ext}(hl:zax 4 lead){i:Nat}(hi:i<n):zax 226 (zbi k lead (sm (srE k hk) n (fun m=>(srE k hk).mul (stM (srE k hk) A n i m) (F m))).1) :=
 (zcj k (by omega) hl (h.part hi (zqab n))).mono (by omega)
def zEZ (hk:zad k){l:List (Nat×El k)}{y:Nat}(hl:∀ e∈l,Sh4 e.2.1)(hn:l.length<=15)(hy:y<6):zax 221 (cs (srE k hk) l y).1:=by
 have h:zdI k hk (fun x y=>cs (srE k hk) (if x=0 then l else []) y) 6 (fun x=>if x=0 then l else []) := {
  row:=zqab 6
  is:=fun x y _ _=>rfl
  short:=fun x _ e he=>by
   by_cases h0:x=0
   rw[if_pos h0] at he;exact hl e he;rw[if_neg h0] at he;cases he
  few:=by
   show 0+l.length+0+0+0+0+0<=15;omega }
 exact h.wide (t:=0) (i:=0) (j:=y) (by omega) (by omega) (by omega) hy
open Go.RowKit
open Go.Lib (nDigits decDigits)
def zdF (l:List UInt8):Nat:=(l.filter zck).length
def zou (l m:List UInt8):zdF (l++m)=zdF l+zdF m:=by unfold zdF;rw[List.filter_append,zqag]
def zKA {l:List UInt8}(h:l.all zck=true):zdF l=l.length:=by
 unfold zdF;rw[List.filter_eq_self.2 (fun x hx=>List.all_eq_true.1 h x hx)]
def zzA (n:Nat):zdF (decDigits n)=nDigits n:=by rw[zKA (ziW n),Lib.decDigits_length]
def zKB (x:Rat):zdF (zhc x)=nDigits x.num.natAbs+(if x.den=1 then 0 else nDigits x.den):=by
 unfold zhc;rw[zou,zou,zzA];have h1:zdF (if x.num<0 then [45] else [])=0:=by split <;> rfl
 rw[h1,zqat]
 by_cases h:x.den=1
 rw[if_pos h,if_pos h];rfl;rw[if_neg h,if_neg h];show _+zdF ([47]++decDigits x.den)=_;rw[zou,zzA,show zdF [47]=0 from rfl,zqat]
def zLQ {a:ByteArray}{v:Ext}(h:IsE a v)(hd:zdF a.data.toList<=4):Sh4 v:=by
 rcases v with(_|_)|x;trivial;trivial;have e:a=zeE x:=zaA.eq h;rw[e] at hd;have e2:(zeE x).data.toList=zhc x:=rfl;rw[e2,zKB] at hd;exact hd
variable {α:Type}
def nzL (S:Sr α)[DecidableEq α](f:Nat->α):Nat->List (Nat×α)
 | 0=>[]
 | n+1=>nzL S f n++(if f n=S.zero then [] else [(n,f n)])
def zwA (S:Sr α)[DecidableEq α](f:Nat->α):∀ {n:Nat} {e:Nat×α},e∈nzL S f n->e.1<n/\e.2=f e.1
 | 0,e,h=>by cases h
 | n+1,e,h=>by
  rcases zqbo.1 h with h|h;have:=zwA S f h;exact⟨by omega,this.2⟩
  by_cases hz:f n=S.zero
  ·rw[if_pos hz] at h;cases h
  rw[if_neg hz] at h;rw[zqbk.1 h];exact⟨by omega,rfl⟩
def zFa (S:Sr α)[DecidableEq α](f:Nat->α)(y:Nat):∀ {n:Nat},cs S (nzL S f n) y=if y<n then f y else S.zero
 | 0=>rfl
 | n+1=>by
  have ih:=zFa S f y (n:=n)
  by_cases hz:f n=S.zero
  ·have e:nzL S f (n+1)=nzL S f n:=by show nzL S f n++(if f n=S.zero then [] else [(n,f n)])=_;rw[if_pos hz,List.append_nil]
   rw[e,ih]
   by_cases h:y<n
   rw[if_pos h,if_pos (by omega)];rw[if_neg h]
   by_cases h2:y<n+1
   rw[if_pos h2,show y=n by omega,hz];rw[if_neg h2]
  have e:nzL S f (n+1)=nzL S f n++[(n,f n)]:=by show nzL S f n++(if f n=S.zero then [] else [(n,f n)])=_;rw[if_neg hz]
  rw[e,zoo,ih];dsimp only
  by_cases h:n=y
  ·subst h
   rw[if_pos rfl,if_neg (Nat.lt_irrefl _),if_pos (by omega),S.zero_add]
  rw[if_neg h]
  by_cases h2:y<n
  rw[if_pos h2,if_pos (by omega)];rw[if_neg h2,if_neg (by omega)]
instance (k:Int):DecidableEq (El k):=fun u v=>decidable_of_iff (u.1=v.1) ⟨fun h=>Subtype.ext h,fun h=>by rw[h]⟩
open Go.RowKit
def zwB {k r:Nat}(hr:r<k+1)(V:Nat->Nat->Rat)(x:Nat->Rat)(e:Nat->Rat)(h:∀ c,c<k+1->e c=rs (k+1) (fun i=>x i*V i c)):dt (k+1) (up V r e)=x r*dt (k+1) V:=by
 have step:∀ n,n<=k+1->dt (k+1) (up V r (fun c=>rs n (fun i=>x i*V i c)))=if r<n then x r*dt (k+1) V else 0:=fun n=>by
  induction n with
  | zero =>
   intro _;rw[if_neg (by omega)];have h2:=zgQ V (k:=k+1) (r:=r) (fun _=>0) (fun _=>0) 0 0 hr;rw[zbE (W:=up V r (fun x=>(0:Rat)*0+0*0)) (fun i x _ _=>by unfold up;split;exact(show(0:Rat)=0*0+0*0 by grind);rfl),h2];grind
  | succ n ih =>
   intro hn;have h2:=zgQ V (k:=k+1) (r:=r) (fun c=>rs n (fun i=>x i*V i c)) (V n) 1 (x n) hr;rw[zbE (W:=up V r (fun c=>1*rs n (fun i=>x i*V i c)+x n*V n c)) (fun i c _ _=>by unfold up;split;exact(show rs n (fun i=>x i*V i c)+x n*V n c=1*rs n (fun i=>x i*V i c)+x n*V n c by grind);rfl),h2,ih (by omega)]
   by_cases e:n=r
   ·subst e
    rw[if_neg (Nat.lt_irrefl n),if_pos (Nat.lt_succ_self n)];have e1:dt (k+1) (up V n (V n))=dt (k+1) V:=zbE (fun i x _ _=>by unfold up;split;rename_i e;rw[e];rfl);rw[e1];grind
   have e2:dt (k+1) (up V r (V n))=0:=by
    by_cases hlt:r<n
    exact zjs (n-r-1) (k+1) _ (r:=r) (by omega) (fun x=>by unfold up;rw[if_pos rfl,if_neg (by omega),show r+(n-r-1)+1=n by omega]);exact zjs (r-n-1) (k+1) _ (r:=n) (by omega) (fun x=>by unfold up;rw[if_neg e,if_pos (by omega)])
   rw[e2]
   by_cases hlt:r<n
   rw[if_pos hlt,if_pos (by omega)];grind;rw[if_neg hlt,if_neg (by omega)];grind
 have h1:=step (k+1) (zqab _);rw[if_pos hr] at h1;exact zQbU
section
variable {α:Type}
def zwC (S:Sr α)(A:Nat->Nat->α)(X:Nat->α){n j:Nat}(h:∀ m,m<n->S.le (S.add (A m j) (sm S n (fun l=>S.mul (A m l) (X l)))) (X m)){i:Nat}(hi:i<n):S.le (el S A n i j) (X i):=by
 have hl:=zhC S A (fun m=>A m j) X h n (zqab n) i hi;rw[zat S (g:=fun m=>S.mul (el S A n i m) (A m j)) (fun m hm=>by rw[if_pos hm]),<- zgv S A n i j] at hl;exact hl
def Sr.mul_mono2 (S:Sr α)(a b c:α)(h:S.le a b):S.le (S.mul a c) (S.mul b c):=by
 rw[S.mul_comm a c,S.mul_comm b c];exact S.mul_mono a b c h
def zBv (S:Sr α){A B:Nat->Nat->α}{n:Nat}(h:∀ x y,x<n->y<n->S.le (B x y) (A x y)){i j:Nat}(hi:i<n)(hj:j<n):S.le (el S B n i j) (el S A n i j) :=
 zwC S B (fun m=>el S A n m j) (fun m hm=>by
  rw[zcu S A n m j];exact S.add_mono _ _ _ _ (h m j hm hj) (ziY S (fun l hl=>S.mul_mono2 _ _ _ (h m l hm hl)))) hi
end
section
open Classical in
noncomputable def onG (A:Nat->Nat->El 2)(n x y:Nat):El 2:=if zav (A x y)/\zav (el S2 A n x x)/\zav (el S2 A n y y) then A x y else S2.zero
variable {A:Nat->Nat->El 2} {n:Nat}
def zzB {x y:Nat}(h1:zav (A x y))(h2:zav (el S2 A n x x))(h3:zav (el S2 A n y y)):onG A n x y=A x y:=by unfold onG;rw[if_pos ⟨h1,h2,h3⟩]
def zrh (A:Nat->Nat->El 2)(n x y:Nat):onG A n x y=S2.zero∨(onG A n x y=A x y/\zav (A x y)):=by
 unfold onG;split
 ·rename_i h;exact .inr ⟨rfl,h.1⟩
 exact .inl rfl
def zwD (x y:Nat):S2.le (onG A n x y) (A x y):=by
 rcases zrh A n x y with h|h;rw[h];exact S2.zero_le _;rw[h.1];exact S2.le_refl _
def zjB (x y:Nat):zav (onG A n x y):=by
 rcases zrh A n x y with h|h;rw[h];exact zjw;rw[h.1];exact h.2
def zIr {x:Nat}(hx:x<n):zav (el S2 (onG A n) n x x):=by
 by_cases h:zav (el S2 A n x x)
 exact zqN (zBv S2 (fun a b _ _=>zwD a b) hx hx) h;have hz:∀ y,onG A n x y=S2.zero:=fun y=>by unfold onG;rw[if_neg (fun k=>h k.2.1)]
 rw[zcu,hz x,zkK S2 (fun m _=>by rw[hz m,S2.zero_mul]),S2.add_zero];exact zjw
def zsK:∀ t,t<=n->∀ x y,x<n->y<n->zav (el S2 (onG A n) t x y)
 | 0,_,x,y,_,_=>zjB x y
 | t+1,ht,x,y,hx,hy=>by
  have ih:=zsK t (by omega)
  have h1:zav (el S2 (onG A n) (t+1) t t):=by
   have hg:=zrL S2 (onG A n) t t (n-(t+1)) (t+1);rw[show t+1+(n-(t+1))=n by omega] at hg;exact zqN hg (zIr (by omega))
  rw[zmv] at h1;obtain⟨_,_,h2,_⟩:=zvR h1;exact zjb.2 ⟨ih x y hx hy,zgR (zgR (ih x t hx (by omega)) h2) (ih t y (by omega) hy)⟩
def top2:El 2:=⟨.inl true,rfl⟩
def zKC (u:El 2):S2.le u top2:=zcE u.1
def zLR {i j:Nat}(hi:i<n)(hj:j<n)(h:zav (el S2 A n i j)):el S2 A n i j=el S2 (onG A n) n i j:=by
 refine S2.le_anti _ _ ?_ (zBv S2 (fun a b _ _=>zwD a b) hi hj);have hb:=fun(m:Nat)=>Classical.propDecidable (m=i∨el S2 A n i m≠S2.zero);have key:=zwC S2 A (fun m => @ite _ (m=i∨el S2 A n i m≠S2.zero) (hb m) (el S2 (onG A n) n m j) top2) (n:=n) (j:=j) (fun m hm=>?_) hi
 ·rw[if_pos (.inl rfl)] at key
  exact key
 by_cases hr:m=i∨el S2 A n i m≠S2.zero
 ·rw[if_pos hr]
  have hF:zav (el S2 A n m j):=by
   rcases hr with e|e;rw[e];exact h;exact zlA (zhe S2 A n i m e) hm h
  rw[zcu S2 (onG A n) n m j];refine S2.add_mono _ _ _ _ ?_ (ziY S2 (fun l hl=>?_))
  ·by_cases hz:A m j=S2.zero
   ·rw[hz];exact S2.zero_le _
   have g1:zav (el S2 A n m m):=zlB hm (zkL S2 zkR A (.one hz)) hF;have g2:zav (el S2 A n j j):=zlA (.one hz) hj hF;rw[zzB (zhJ hF).1 g1 g2];exact S2.le_refl _
  by_cases hz:A m l=S2.zero
  ·rw[hz,S2.zero_mul];exact S2.zero_le _
  have hl2:l=i∨el S2 A n i l≠S2.zero:=by
   rcases hr with e|e;rw[e] at hz;exact .inr (zkL S2 zkR A (.one hz));exact .inr (zkL S2 zkR A ((zhe S2 A n i m e).trans hm (.one hz)))
  rw[if_pos hl2]
  by_cases hy:el S2 (onG A n) n l j=S2.zero
  rw[hy,S2.mul_zero];exact S2.zero_le _;have h1:el S2 A n l j≠S2.zero:=fun e=>hy (S2.zero_of_le (e▸zBv S2 (fun a b _ _=>zwD (A:=A) (n:=n) a b) hl hj));have h2:el S2 A n m j≠S2.zero:=zkL S2 zkR A (.more hl hz (zhe S2 A n l j h1));have h3:=(zhJ hF).2 l hl;have h4:zav (el S2 A n l j):=zgf h3 hz;rw[zzB (zid h3 h1) (zlB hm h2 hF) (zlB hl h1 h4)];exact S2.le_refl _
 rw[if_neg hr];exact zKC _
def zKD {c j:Nat}(hc:c<n)(hj:j<n):val (onG A n c j)=rs n (fun y=>val (el S2 (onG A n) n y j)*idV (fun x y=>val (onG A n x y)) y c):=by
 have hf:=fun y (hy:y<n)=>zsK (A:=A) n (zqab n) y j hy hj;have e1:=zqbz val (zcu S2 (onG A n) n c j)
 rw[zjc (zjB c j) (zkS.2 (fun m hm=>zgR (zjB c m) (hf m hm))),zvQ (fun m hm=>zgR (zjB c m) (hf m hm)),
  zbj (g:=fun m=>val (onG A n c m)*val (el S2 (onG A n) n m j)) (fun m hm=>zjd (zjB c m) (hf m hm))] at e1
 have e2:rs n (fun y=>val (el S2 (onG A n) n y j)*idV (fun x y=>val (onG A n x y)) y c)=rs n (fun y=>val (el S2 (onG A n) n y j)*(if c=y then 1 else 0) + -1*(val (onG A n c y)*val (el S2 (onG A n) n y j))):=zbj (fun y _=>by unfold idV;grind);rw[e2,zhq,zol (fun y=>val (el S2 (onG A n) n y j)) hc,zdZ];grind
def zLS {d Q:Nat->Rat}(hd:∀ x,x<n->1<=d x)(hdI:∀ x,x<n->isI (d x))(hAI:∀ x y,x<n->y<n->zav (A x y)->isI (d x*val (A x y)))
  (hQ:∀ x,x<n->2*(d x*(1+rs n (fun m=>val (A x m))))<=Q x) :
  ∃ M:Rat,isI M/\M≠0/\ab M<=rp n Q/\∀ i j,i<n->j<n->zav (el S2 A n i j)->isI (val (el S2 A n i j)*M)/\ab (val (el S2 A n i j)*M)<=rp n Q:=by
 have hsum:∀ x,0<=rs n (fun m=>val (A x m)):=fun x=>zdS (fun m _=>zcp _)
 have hvle:∀ x y,val (onG A n x y)<=val (A x y):=fun x y=>by
  rcases zrh A n x y with h|h;rw[h,zeA];exact zcp _;rw[h.1];exact Rat.le_refl
 have hBI:∀ x y,x<n->y<n->isI (d x*val (onG A n x y)):=fun x y hx hy=>by
  rcases zrh A n x y with h|h;rw[h,zeA];exact zcT (hdI x hx) ⟨0,rfl⟩;rw[h.1];exact hAI x y hx hy h.2
 have hV:∀ y c,y<n->c<n->isI (d c*idV (fun x y=>val (onG A n x y)) y c):=fun y c hy hc=>by
  have e:d c*idV (fun x y=>val (onG A n x y)) y c=d c*(if c=y then 1 else 0) + -(d c*val (onG A n c y)):=by unfold idV;grind
  rw[e];exact zkP (zcT (hdI c hc) (by split;exact⟨1,rfl⟩;exact⟨0,rfl⟩)) (zzv (hBI c y hc hy))
 have zW:∀ c,c<n->rs n (fun y=>ab (d c*idV (fun x y=>val (onG A n x y)) y c))<=d c*(1+rs n (fun m=>val (A c m))):=fun c hc=>by
  have h1:=hd c hc
  have hle:rs n (fun y=>ab (d c*idV (fun x y=>val (onG A n x y)) y c))<=rs n (fun y=>d c*(1*(if c=y then 1 else 0)+val (A c y))):=zjX (fun y _=>by
   rw[zkQ,zgr (show 0<=d c by grind)];refine zqai ?_ (by grind);have h2:=zcp (onG A n c y);have h3:=hvle c y;unfold idV;refine zAS ?_ ?_ <;> split <;> grind)
  rwa [zdZ,zhq,zol (fun _=>1) hc] at hle
 have hle2:∀ c,c<n->d c*(1+rs n (fun m=>val (A c m)))<=Q c:=fun c hc=>by
  have h1:=hQ c hc;have h2:=Rat.mul_nonneg (show 0<=d c by have:=hd c hc;grind) (show 0<=1+rs n (fun m=>val (A c m)) by have:=hsum c;grind);grind
 have hne:=zAU n (onG A n) (fun t x y ht hx hy=>zsK t ht x y hx hy);have hsc:=zpm n d (idV (fun x y=>val (onG A n x y)));have hD:=zjZ (f:=d) (n:=n) hd;refine⟨dt n (fun y c=>d c*idV (fun x y=>val (onG A n x y)) y c),zmT hV,?_,?_,fun i j hi hj hf=>?_⟩
 ·rw[hsc]
  intro e;rcases Rat.mul_eq_zero.1 e with e|e
  grind;exact hne e
 exact zqar (zju _ _) (zjY (fun c _=>zdS (fun y _=>zcF _)) (fun c hc=>zqar (zW c hc) (hle2 c hc)));obtain⟨k,rfl⟩:∃ k,n=k+1:=⟨n-1,by omega⟩
 have hcr:=zwB hi (fun y c=>d c*idV (fun x y=>val (onG A (k+1) x y)) y c) (fun y=>val (el S2 (onG A (k+1)) (k+1) y j)) (fun c=>d c*val (onG A (k+1) c j)) (fun c hc=>by
  rw[zKD hc hj,<- zdZ];exact zbj (fun y _=>by grind))
 rw[zLR hi hj hf,<- hcr];refine⟨zmT (fun y c hy hc=>?_),zqar (zju _ _) (zjY (fun c _=>zdS (fun y _=>zcF _)) (fun c hc=>?_))⟩
 ·unfold up
  by_cases e:y=i
  rw[if_pos e];exact hBI c j hc hj;rw[if_neg e];exact hV y c hy hc
 
 have h1:=zW c hc;have h2:=hQ c hc;have h0:=hd c hc;have h5:=zuR (f:=fun m=>val (A c m)) (n:=k+1) (j:=j) (fun m _=>zcp _) hj;have h3:=hvle c j;have h6:=zqai (zqar h3 h5) (show 0<=d c by grind)
 have hle:rs (k+1) (fun y=>ab (up (fun y c=>d c*idV (fun x y=>val (onG A (k+1) x y)) y c) i (fun c=>d c*val (onG A (k+1) c j)) y c))<=rs (k+1) (fun y=>ab (d c*idV (fun x y=>val (onG A (k+1) x y)) y c)+(d c*val (onG A (k+1) c j))*(if i=y then 1 else 0)):=zjX (fun y _=>by
  have h7:=zcF (d c*idV (fun x y=>val (onG A (k+1) x y)) y c);have h8:0<=d c*val (onG A (k+1) c j):=Rat.mul_nonneg (by grind) (zcp _);unfold up
  by_cases e:y=i
  rw[if_pos e,if_pos e.symm,zgr h8];grind;rw[if_neg e,if_neg (Ne.symm e)];grind)
 rw[zhq,zol (fun _=>d c*val (onG A (k+1) c j)) hi] at hle;grind
end
open Go.RowKit
variable {α:Type}
structure zgB (S:Sr α)(I:α->Prop):Prop where
 pick:∀ u v,S.add u v=u∨S.add u v=v
 inf:∀ u v,I u->v≠S.zero->I (S.mul u v)
 nz:∀ u v,u≠S.zero->v≠S.zero->S.mul u v≠S.zero
 star:∀ u,S.star u=S.one∨I (S.star u)
 le_inf:∀ u v,I u->S.le u v->I v
 cancel:∀ x c,¬ I x->x≠S.zero->S.le (S.mul x c) x->S.le c S.one
def zjC (S:Sr α)(A:Nat->Nat->α)(l:List Nat)(m:Nat):∀ (p:List Nat) (i:Nat),zcl S A (i::(p++m::l))=S.mul (zcl S A (i::(p++[m]))) (zcl S A (m::l))
 | [],i=>by
  show S.mul (A i m) (zcl S A (m::l))=S.mul (S.mul (A i m) S.one) (zcl S A (m::l));rw[S.mul_one]
 | x::p,i=>by
  show S.mul (A i x) (zcl S A (x::(p++m::l)))=S.mul (S.mul (A i x) (zcl S A (x::(p++[m])))) (zcl S A (m::l));rw[zjC S A l m p x,S.mul_assoc]
def zno (S:Sr α)(A:Nat->Nat->α){n j:Nat}:∀ (ms:List Nat) (i:Nat),(∀ m∈ms,m<n)->S.le (zcl S A (i::(ms++[j]))) (el S A n i j)
 | [],i,_=>by
  show S.le (S.mul (A i j) S.one) _;rw[S.mul_one,zcu];exact S.le_add _ _
 | m::ms,i,h=>by
  have ih:=zno S A (n:=n) (j:=j) ms m (fun x hx=>h x (zqao _ hx));show S.le (S.mul (A i m) (zcl S A (m::(ms++[j])))) _;rw[zcu S A n i j];exact S.le_trans _ _ _ (S.mul_mono _ _ (A i m) ih) (S.le_trans _ _ _ (zAa S (fun l=>S.mul (A i l) (el S A n l j)) (h m (zqbm ..))) (S.le_add2 _ _))
section
variable {S:Sr α} {I:α->Prop} {A:Nat->Nat->α}
def zgB.idem (P:zgB S I)(u:α):S.add u u=u:=by rcases P.pick u u with h|h <;> exact h
def zgB.inf2 (P:zgB S I){u v:α}(hv:I v)(hu:u≠S.zero):I (S.mul u v):=by rw[S.mul_comm];exact P.inf v u hv hu
def zgB.way (P:zgB S I):∀ k i j,el S A k i j=S.zero∨I (el S A k i j)∨∃ ms:List Nat,(∀ m∈ms,m<k)/\zcl S A (i::(ms++[j]))=el S A k i j
 | 0,i,j=>.inr (.inr ⟨[],fun m hm=>by (cases hm),S.mul_one _⟩)
 | k+1,i,j=>by
  show S.add (el S A k i j) (S.mul (S.mul (el S A k i k) (S.star (el S A k k k))) (el S A k k j))=_∨I (S.add (el S A k i j) (S.mul (S.mul (el S A k i k) (S.star (el S A k k k))) (el S A k k j)))∨∃ ms:List Nat,(∀ m∈ms,m<k+1)/\zcl S A (i::(ms++[j]))=S.add (el S A k i j) (S.mul (S.mul (el S A k i k) (S.star (el S A k k k))) (el S A k k j));rcases P.pick (el S A k i j) (S.mul (S.mul (el S A k i k) (S.star (el S A k k k))) (el S A k k j)) with h|h <;> rw[h]
  ·rcases P.way k i j with h1|h1|⟨ms,h1,h2⟩
   ·exact .inl h1
   exact .inr (.inl h1);exact .inr (.inr ⟨ms,fun m hm=>by have:=h1 m hm;omega,h2⟩)
  rcases P.way k i k with h1|h1|⟨p,h1,h2⟩
  ·rw[h1,S.zero_mul,S.zero_mul];exact .inl rfl
  ·by_cases h3:el S A k k j=S.zero
   ·rw[h3,S.mul_zero];exact .inl rfl
   refine .inr (.inl (P.inf _ _ (P.inf _ _ h1 ?_) h3));intro e;have:=S.star_law (el S A k k k);rw[e] at this;have h4:=S.zero_left this;exact h3 (by rw[<- S.mul_one (el S A k k j),h4,S.mul_zero])
  rcases P.way k k j with g1|g1|⟨q,g1,g2⟩
  ·rw[g1,S.mul_zero];exact .inl rfl
  ·by_cases h3:S.mul (el S A k i k) (S.star (el S A k k k))=S.zero
   ·rw[h3,S.zero_mul];exact .inl rfl
   exact .inr (.inl (P.inf2 g1 h3))
  rcases P.star (el S A k k k) with s|s
  ·rw[s,S.mul_one]
   refine .inr (.inr ⟨p++k::q,fun m hm=>?_,?_⟩)
   ·rcases zqbo.1 hm with hm|hm
    ·have:=h1 m hm;omega
    rcases List.mem_cons.1 hm with rfl|hm
    ·omega
    have:=g1 m hm;omega
   rw[zqbj,List.cons_append,zjC,h2,g2]
  by_cases h3:el S A k i k=S.zero
  ·rw[h3,S.zero_mul,S.zero_mul];exact .inl rfl
  by_cases h4:el S A k k j=S.zero
  ·rw[h4,S.mul_zero];exact .inl rfl
  exact .inr (.inl (P.inf _ _ (P.inf2 s h3) h4))
def zgB.cat (P:zgB S I){n m:Nat}(hm:m<n){i:Nat}(hi:i<n)(j:Nat):S.le (S.mul (el S A n i m) (el S A n m j)) (el S A n i j):=by
 have hl:=zhC S A (fun x=>S.mul (A x m) (el S A n m j)) (fun x=>el S A n x j) (n:=n) (fun x hx=>by
  have h1:=S.add_mono _ _ _ _ (zAa S (fun l=>S.mul (A x l) (el S A n l j)) hm) (S.le_refl (sm S n (fun l=>S.mul (A x l) (el S A n l j))));rw[P.idem] at h1;refine S.le_trans _ _ _ h1 ?_;rw[zcu S A n x j];exact S.le_add2 _ _) n (zqab n) i hi
 rw[zat S (g:=fun l=>S.mul (S.mul (el S A n i l) (A l m)) (el S A n m j)) (fun l hl=>by rw[if_pos hl,S.mul_assoc]),<- zpZ,<- S.add_mul,<- zgv S A n i m] at hl;exact hl
def zwE:∀ {ms:List Nat},¬ ms.Nodup->∃ p l q r,ms=p++l::(q++l::r)
 | [],h=>absurd List.nodup_nil h
 | m::t,h=>by
  by_cases hm:m∈t
  ·obtain⟨q,r,e⟩:=List.append_of_mem hm
   exact⟨[],m,q,r,by rw[e];rfl⟩
  obtain⟨p,l,q,r,e⟩:=zwE (ms:=t) (fun hn=>h (List.nodup_cons.2 ⟨hm,hn⟩));exact⟨m::p,l,q,r,by rw[e];rfl⟩
def zgB.simple (P:zgB S I){n i j:Nat}(hi:i<n)(h0:el S A n i j≠S.zero)(hI:¬ I (el S A n i j)):∀ (t:Nat) (ms:List Nat),ms.length<=t->(∀ m∈ms,m<n)->zcl S A (i::(ms++[j]))=el S A n i j ->
  ∃ ms':List Nat,ms'.Nodup/\(∀ m∈ms',m<n)/\zcl S A (i::(ms'++[j]))=el S A n i j
 | 0,ms,hl,h,e=>⟨ms,by have:ms=[]:=List.length_eq_zero_iff.1 (by omega);rw[this];exact List.nodup_nil,h,e⟩
 | t+1,ms,hl,h,e=>by
  by_cases hn:ms.Nodup
  exact⟨ms,hn,h,e⟩;obtain⟨p,l,q,r,rfl⟩:=zwE hn;have hl1:l<n:=h l (by simp)
  have e1:zcl S A (i::(p++l::(q++l::r)++[j]))=S.mul (zcl S A (i::(p++[l]))) (S.mul (zcl S A (l::(q++[l]))) (zcl S A (l::(r++[j])))):=by
   have s1:p++l::(q++l::r)++[j]=p++l::(q++l::(r++[j])):=(by simp);rw[s1,zjC S A (q++l::(r++[j])) l p i,zjC S A (r++[j]) l q l]
  have e2:zcl S A (i::(p++l::r++[j]))=S.mul (zcl S A (i::(p++[l]))) (zcl S A (l::(r++[j]))):=by
   rw[zqbj,List.cons_append,zjC]
  have wa:=zno S A (n:=n) (j:=l) p i (fun m hm=>h m (by simp[hm]));have wc:=zno S A (n:=n) (j:=l) q l (fun m hm=>h m (by simp[hm]));have wb:=zno S A (n:=n) (j:=j) r l (fun m hm=>h m (by simp[hm]))
  have wn:=zno S A (n:=n) (j:=j) (p++l::r) i (fun m hm=>h m (by
   rcases zqbo.1 hm with hm|hm;simp[hm];rcases List.mem_cons.1 hm with rfl|hm
   ·simp
   simp[hm]))
  rw[e2] at wn;rw[e1] at e;generalize zcl S A (i::(p++[l]))=a at *;generalize zcl S A (l::(q++[l]))=c at *;generalize zcl S A (l::(r++[j]))=b at *
  have hx:el S A n i l≠S.zero:=fun z=>h0 (by
   rw[z] at wa;rw[<- e,S.zero_of_le wa,S.zero_mul])
  have hy:el S A n l j≠S.zero:=fun z=>h0 (by
   rw[z] at wb;rw[<- e,S.zero_of_le wb,S.mul_zero,S.mul_zero])
  have hxI:¬ I (el S A n i l):=fun z=>hI (P.le_inf _ _ (P.inf _ _ z hy) (P.cat hl1 hi j));have hc:=P.cancel _ c hxI hx (S.le_trans _ _ _ (S.mul_mono _ _ _ wc) (P.cat hl1 hi l))
  have h1:S.le (S.mul a (S.mul c b)) (S.mul a b):=S.mul_mono _ _ _ (by
   have:=S.mul_mono2 _ _ b hc
   rwa [S.one_mul] at this)
  rw[e] at h1
  refine P.simple hi h0 hI t (p++l::r) ?_ (fun m hm=>h m (by
   rcases zqbo.1 hm with hm|hm;simp[hm];rcases List.mem_cons.1 hm with rfl|hm
   ·simp
   simp[hm])) (e2.trans (S.le_anti _ _ wn h1))
  rw[zqag,zqbu,zqag,zqbu] at hl;rw[zqag,zqbu];omega
def zFb:∀ {n:Nat} {o:List Nat},o.Nodup->(∀ x∈o,x<n)->o.length<=n
 | n,o,h,hb=>by
  have h2:=List.Nodup.length_le_of_subset (l₁:=o) (l₂:=List.range n) h (fun x hx=>List.mem_range.2 (hb x hx))
  rwa [List.length_range] at h2
def zgB.few (P:zgB S I){n i j:Nat}(hi:i<n):el S A n i j=S.zero∨I (el S A n i j)∨∃ ms:List Nat,ms.length<=n/\(∀ m∈ms,m<n)/\zcl S A (i::(ms++[j]))=el S A n i j:=by
 rcases P.way (A:=A) n i j with h|h|⟨ms,h1,h2⟩;exact .inl h;exact .inr (.inl h)
 by_cases h0:el S A n i j=S.zero
 ·exact .inl h0
 by_cases hI:I (el S A n i j)
 ·exact .inr (.inl hI)
 obtain⟨o,g1,g2,g3⟩:=P.simple hi h0 hI ms.length ms (zqab _) h1 h2;exact .inr (.inr ⟨o,zFb g1 g2,g2,g3⟩)
end
def zMq (hk:zad 1):zgB (srE 1 hk) (fun v=>v.1=.inl false) where
 pick u v:=by
  rcases zst u.1 v.1 with h|h;exact .inl (Subtype.ext h);exact .inr (Subtype.ext h)
 inf u v hu hv:=by
  show zco u.1 v.1=_;rw[show u.1=.inl false from hu];have h:v.1 ≠ .inl true:=fun e=>hv (Subtype.ext e);rcases hv2:v.1 with(_|_)|x
  rfl;exact absurd hv2 h;rfl
 nz u v hu hv e:=by
  have h1:u.1 ≠ .inl true:=fun e=>hu (Subtype.ext e);have h2:v.1 ≠ .inl true:=fun e=>hv (Subtype.ext e);have h3:zco u.1 v.1=.inl true:=zqbz Subtype.val e;rcases hu2:u.1 with(_|_)|x <;> rcases hv2:v.1 with(_|_)|y <;> rw[hu2,hv2] at h3 <;> first|exact h1 hu2|exact h2 hv2|cases h3
 star u:=by
  by_cases h:zbu u.1 (.inr 0)<0
  exact .inr (if_pos h);exact .inl (Subtype.ext (if_neg h))
 le_inf u v hu h:=by
  have h2:leE v.1 u.1:=h;rw[show u.1=.inl false from hu] at h2;rcases hv:v.1 with(_|_)|x
  rfl;rw[hv] at h2;exact absurd h2 zks;rw[hv] at h2;exact absurd h2 (zgl x)
 cancel x c hI h0 h:=by
  have h2:leE x.1 (zco x.1 c.1):=h;show leE (.inr 0) c.1;rcases hx:x.1 with(_|_)|q
  exact absurd hx hI;exact absurd (Subtype.ext hx) h0;rcases hc:c.1 with(_|_)|r
  ·rw[hx,hc] at h2;exact absurd h2 (zgl q)
  exact zcE _;rw[hx,hc] at h2;have h3:q<=q+r:=(zbH _ _).1 h2;exact(zbH _ _).2 (by grind)
def zgX (v:El 3):v.1=.inl true∨∃ x,v.1=.inr x/\0<=x:=by
 have h:=v.2;rw[<- zcD] at h;rcases zaE v.1 h with h|⟨x,h,hx⟩
 exact .inl h;exact .inr ⟨x,h,hx⟩
def zMr (hk:zad 3):zgB (srE 3 hk) (fun v=>v.1=.inl true) where
 pick u v:=by
  rcases zok u.1 v.1 with h|h;exact .inl (Subtype.ext h);exact .inr (Subtype.ext h)
 inf u v hu hv:=by
  show zaP u.1 v.1=_;rw[show u.1=.inl true from hu];rcases zgX v with h|⟨x,h,hx⟩ <;> rw[h]
  exact zbC;exact zaT (fun e=>hv (Subtype.ext (by rw[h,e];rfl)))
 nz u v hu hv e:=by
  have h3:zaP u.1 v.1=.inr 0:=zqbz Subtype.val e;rcases zgX u with h|⟨x,h,hx⟩ <;> rcases zgX v with g|⟨y,g,hy⟩ <;> rw[h,g] at h3
  rw[zbC] at h3;cases h3;rw[zaT (fun e=>hv (Subtype.ext (by rw[g,e];rfl)))] at h3;cases h3;rw[zaW (fun e=>hu (Subtype.ext (by rw[h,e];rfl)))] at h3;cases h3;rw[zbt] at h3;have h4:x*y=0:=Sum.inr.inj h3;rcases Rat.mul_eq_zero.1 h4 with e|e
  exact hu (Subtype.ext (by rw[h,e];rfl));exact hv (Subtype.ext (by rw[g,e];rfl))
 star u:=by
  by_cases h:0<zbu u.1 (.inr 1)
  exact .inr (if_pos h);exact .inl (Subtype.ext (if_neg h))
 le_inf u v hu h:=by
  have h2:leE u.1 v.1:=h;rw[show u.1=.inl true from hu] at h2;rcases zgX v with g|⟨y,g,hy⟩
  exact g;rw[g] at h2;exact absurd h2 (zci y)
 cancel x c hI h0 h:=by
  have h2:leE (zaP x.1 c.1) x.1:=h;show leE c.1 (.inr 1);rcases zgX x with hx|⟨q,hx,hq⟩
  exact absurd hx hI;have hq0:q≠0:=fun e=>h0 (Subtype.ext (by rw[hx,e];rfl));rcases zgX c with hc|⟨r,hc,hr⟩;rw[hx,hc,zaW hq0] at h2;exact absurd h2 (zci q);rw[hc];rw[hx,hc,zbt] at h2;have h3:q*r<=q:=(zbH _ _).1 h2;refine(zbH _ _).2 (Rat.not_lt.1 (fun hlt=>?_))
  have hqp:0<q:=by
   rcases Rat.le_iff_lt_or_eq.1 hq with h|h;exact h;exact absurd h.symm hq0
  have:=zoL hlt hqp;rw[Rat.mul_comm] at this;exact absurd h3 (Rat.not_le.2 this)
def ztM {k:Int}{hk:zad k}{A:Nat->Nat->El k}{n w:Nat}(hw:1<=w)(hA:∀ x y,x<n->y<n->zax w (A x y).1){j:Nat}(hj:j<n):∀ (ms:List Nat) (i:Nat),i<n->(∀ m∈ms,m<n)->zax ((w+1)*(ms.length+1)+1) (zcl (srE k hk) A (i::(ms++[j]))).1
 | [],i,hi,_=>(zcj k hw (hA i j hi hj) (zhp k)).mono (by rw[List.length_nil];omega)
 | m::ms,i,hi,h=>by
  have hm:=h m (zqbm ..);have ih:=ztM (hk:=hk) hw hA hj ms m hm (fun x hx=>h x (zqao _ hx));have h1:=zcj k hw (hA i m hi hm) ih;refine zax.mono h1 ?_;rw[zqbu];have:(w+1)*(ms.length+1+1)=(w+1)*(ms.length+1)+(w+1):=Nat.mul_succ _ _;omega
def zIs {k:Int}(hk:zad k)(h:k=1∨k=3){A:Nat->Nat->El k}{n w:Nat}(hw:1<=w)(hA:∀ x y,x<n->y<n->zax w (A x y).1){i j:Nat}(hi:i<n)(hj:j<n):zax ((w+1)*(n+1)+1) (el (srE k hk) A n i j).1:=by
 have key:∀ I,zgB (srE k hk) I->(∀ v,I v->zax 1 v.1)->zax ((w+1)*(n+1)+1) (el (srE k hk) A n i j).1:=fun I P hI=>by
  rcases P.few (A:=A) (n:=n) (i:=i) (j:=j) hi with e|e|⟨ms,h1,h2,e⟩;rw[e];exact(zdR k).mono (by omega);exact(hI _ e).mono (by omega);rw[<- e];refine(ztM (hk:=hk) hw hA hj ms i hi h2).mono ?_;have:=zqbd (w+1) (show ms.length+1<=n+1 by omega);omega
 rcases h with rfl|rfl;exact key _ (zMq hk) (fun v hv=>by rw[show v.1=.inl false from hv];trivial);exact key _ (zMr hk) (fun v hv=>by rw[show v.1=.inl true from hv];trivial)
end Go.Proofs.YtiblmbpfcmcccaaGreatDoor
