/- WE25 WE26 -/
import Derived.Test.YtaogepcaoogpgaaGreatDoorKE19
set_option linter.unusedVariables false
set_option linter.unusedSimpArgs false
set_option maxRecDepth 100000
set_option maxHeartbeats 16000000
namespace Go.Proofs.YtaogepcaoogpgaaGreatDoor
open Go.RowKit
structure StAt (w:World)(A:Option Addr)(us:List Value)(l:List zah):Prop where
 len:us.length=l.length
 row:Reads w w.heap.size 2 A l.length ((l.zip us).flatMap stC)
 arcs:∀ (k:Nat) (s:zah) (x:Value),l[k]? = some s→us[k]? = some x→zct w x s.arcs
theorem StAt.of {w:World}{u:Value}{l:List zah}(h:StSl w u l):∃ A cap us,u = .slice A l.length cap∧StAt w A us l:=by
 obtain⟨A,cap,us,hv,h1,h2,h3⟩:=h;exact⟨A,cap,us,hv,h1,h2,h3⟩
theorem StAt.below {w w':World}{A:Option Addr}{us:List Value}{l:List zah}(h:StAt w A us l)(hb:Below w.heap.size w w'):StAt w' A us l :=
 ⟨h.len,(h.row.below hb).more hb.size,fun k s x hs hx=>(h.arcs k s x hs hx).below hb⟩
theorem StAt.grown {w w':World}{A:Option Addr}{us:List Value}{l:List zah}(h:StAt w A us l)(hg:w.grownBy w' none):StAt w' A us l:=h.below (zaO hg)
theorem StAt.at_ {w:World}{A:Option Addr}{us:List Value}{l:List zah}(h:StAt w A us l){k:Nat}(hk:k<l.length) :
  ∃ ad s B cb,A=some ad∧l[k]? = some s∧us[k]? = some (.slice B s.arcs.length cb)∧zgO w (ad.add (k * 2)) s.fin (.slice B s.arcs.length cb)∧Reads w w.heap.size 4 B s.arcs.length (s.arcs.flatMap arcC):=by
 obtain⟨ad,s,u,hA,_,hs,hu,hc⟩:=zqe h.row h.len hk;obtain⟨B,cb,rfl,hr⟩:=h.arcs k s u hs hu;exact⟨ad,s,B,cb,hA,hs,hu,hc,hr⟩
theorem StAt.arcs_at {w:World}{A:Option Addr}{us:List Value}{l:List zah}(h:StAt w A us l){k:Nat}{s:zah}{B:Option Addr}{cb:Nat}(hs:l[k]? = some s)(hu:us[k]? = some (.slice B s.arcs.length cb)):Reads w w.heap.size 4 B s.arcs.length (s.arcs.flatMap arcC):=by
 obtain⟨B',cb',e,hr⟩:=h.arcs k s _ hs hu;cases e;exact hr
theorem zdl {w w1 w2:World}{r:Option Nat}(h1:w.grownBy w1 r)(h2:w1.grownBy w2 r):w.grownBy w2 r:=World.grownBy.trans h1 h2
theorem zdY {w w':World}{r:Option Nat}(h:w.grownBy w' none):w.grownBy w' r:=⟨h.os,h.tape,h.output,h.size,fun k hk _=>h.block k hk (by simp)⟩
def zrp (Inv:World→Prop)(r:Option Nat)(b:Bool)(w:World)(e:Ending)(w':World):Prop:=e = .returned (.bool b)∧Inv w'∧w.grownBy w' r
def Says (Inv:World→Prop)(r:Option Nat)(F:Nat)(lb:Array Value)(m:Mach)(P:MArc→Bool):Prop :=
 ∀ (W:World) (s:zah) (a:MArc),Inv W→s∈m.states→a∈s.arcs→Calls Tryz.prog F (#[.agg #[.int .i64 a.i,.int .i64 a.o,.string a.w,.int .i64 a.t]]++lb) W (zrp Inv r (P a) W)
def allB (P:MArc→Bool)(m:Mach):Bool:=m.states.all (fun s=>s.arcs.all P)
theorem zDJ {P:MArc→Bool}{m:Mach}{k j:Nat}{s:zah}{a:MArc}(hs:m.states[k]? = some s)(ha:s.arcs[j]? = some a)(h:P a=false):allB P m=false:=by
 unfold allB;cases hx:m.states.all (fun s=>s.arcs.all P)
 ·rfl
 ·have:=List.all_eq_true.1 (List.all_eq_true.1 hx s (List.mem_of_getElem? hs)) a (List.mem_of_getElem? ha)
  rw[this] at h;cases h
theorem zDK {P:MArc→Bool}{m:Mach}{k:Nat}(h:EOut P m k)(hk:¬ k<m.states.length):allB P m=true:=by
 unfold allB;rw[List.all_eq_true];intro s hs;obtain⟨j,hj⟩:=List.mem_iff_getElem?.1 hs;exact h.hs j s (by have:=(List.getElem?_eq_some_iff.1 hj).1;omega) hj
theorem zvW {w:World}{A:Option Addr}{cap:Nat}{us:List Value}{m:Mach}{Inv:World→Prop}{r:Option Nat}{F:Nat}{lb:Array Value}{P:MArc→Bool}(hE:Enters F)(hI:∀ W W',Inv W→W.grownBy W' none→Inv W')
  (hS:∀ W,Inv W→StAt W A us m.states) (hr:∀ k,r=some k→k<w.heap.size) (h0:Inv w) (hf:Says Inv r F lb m P) (hn:m.states.length≤140737488355328) (hna:∀ s∈m.states,s.arcs.length≤140737488355328) :
  Calls Tryz.prog 125 #[.agg #[.int .i64 m.kind,.int .i64 m.start,.string m.lead,.slice A m.states.length cap],.func (.func F) #[] lb] w (zrp Inv r (allB P m) w):=by
 have HE:=zHd hE;have HI:=zHd hI;have HS:=zHd hS;have HR:=zHd hr;have HF:=zHd hf;have HNA:=zHd hna;have hg:w.grownBy (w.alloc (.cells #[.int .i64 m.kind,.int .i64 m.start,.string m.lead,.slice A m.states.length cap] 31)) none:=zGA _ _ _;have HG:=zHd (zdY (r:=r) hg);have H0:=zHd (hI _ _ h0 hg);clear hE hI hS hr hf hna h0 hg;go_enter Tryz.func125,Tryz.ntmps125;go_wp2;generalize hW:w.alloc (.cells #[.int .i64 m.kind,.int .i64 m.start,.string m.lead,.slice A m.states.length cap] 31)=W at *;clear hW
 go_loopw [12] (fun i wr=>∃ k:Nat,i = .int .i64 k∧EOut P m k∧Inv wr∧W.grownBy wr r) (fun i _=>m.states.length - (intOf i).toNat)
 case atStart=>exact⟨0,rfl,⟨by omega,fun j s hj=>by omega⟩,H0.out,World.grownBy.refl _ _⟩
 case round =>
  obtain⟨k,rfl,ho,hinv,hgr⟩:=hrel;have HO:=zHd ho;have hk:=ho.hk;have HINV:=zHd hinv;have HGR:=zHd hgr;clear ho hgr
  by_cases hlt:k<m.states.length
  ·obtain⟨ad,s,B,cb,hA,hs,hu,hc,hra⟩:=(HS.out wr hinv).at_ hlt
   subst hA;obtain⟨x0,x1⟩:=hc;have hal:=HNA.out s (List.mem_of_getElem? hs);have n1:(k:Int)<(m.states.length:Int):=by omega
   have n2:IntKind.i64.wrap ((k:Int)+1)=(k:Int)+1:=by rw[IntKind.wrap_i64];omega
   have HSS:=zHd hs;have HU:=zHd hu;have hinv2:=HI.out _ _ hinv (zGA wr (.cells #[.string s.fin,.slice B s.arcs.length cb] 57) none);have HINV2:=zHd hinv2;have HG2:=zHd (zdl HGR.out (zdY (r:=r) (zGA wr (.cells #[.string s.fin,.slice B s.arcs.length cb] 57) none)));clear hs hu hra hinv hinv2;go_wp2;generalize hW2:wr.alloc (.cells #[.string s.fin,.slice B s.arcs.length cb] 57)=W2 at *;clear hW2 x0 x1;generalize wr=w4 at *
   go_loopw [19] (fun i wr=>∃ j:Nat,i = .int .i64 j∧EIn P s j∧Inv wr∧W.grownBy wr r) (fun i _=>s.arcs.length - (intOf i).toNat)
   case atStart=>exact⟨0,rfl,⟨by omega,fun j s hj=>by omega⟩,HINV2.out,HG2.out⟩
   case round =>
    obtain⟨j,rfl,hi,hinv,hgr⟩:=hrel;have HIN:=zHd hi;have hj:=hi.hj;have HINV3:=zHd hinv;have HGR3:=zHd hgr;clear hi hgr
    by_cases hjl:j<s.arcs.length
    ·obtain⟨ad2,a,hB,hab,haj,hat⟩:=zit ((HS.out wr hinv).arcs_at HSS.out HU.out) hjl
     subst hB;obtain⟨z0,z1,z2,z3⟩:=hat;have n3:(j:Int)<(s.arcs.length:Int):=by omega
     have n4:IntKind.i64.wrap ((j:Int)+1)=(j:Int)+1:=by rw[IntKind.wrap_i64];omega
     have HAJ:=zHd haj;have hg4:wr.grownBy (wr.alloc (.cells #[.int .i64 a.i,.int .i64 a.o,.string a.w,.int .i64 a.t] 59)) none:=zGA _ _ _;have HG4:=zHd (zdl HGR3.out (zdY (r:=r) hg4));have HC:=zHd (HF.out _ s a (HI.out _ _ hinv hg4) (List.mem_of_getElem? HSS.out) (List.mem_of_getElem? haj));clear haj hinv hg4;go_wp2_with fail;rw[HE.out];refine HC.out.mono ?_;rintro e w5 ⟨rfl,hinv5,hg5⟩;have HINV5:=zHd hinv5;have HG5:=zHd (zdl HG4.out hg5);clear hinv5 hg5 z0 z1 z2 z3;cases hP:P a
     ·have HNO:=zHd (zDJ HSS.out HAJ.out hP)
      clear hP;go_wp2;go_ret;exact⟨by rw[HNO.out];rfl,HINV5.out,zdl HG.out HG5.out⟩
     ·have HN:=zHd (HIN.out.next HAJ.out hP)
      clear hP;go_wp2
      go_roundw
      case rel=>exact⟨j+1,by go_num,HN.out,HINV5.out,HG5.out⟩
      case measure=>simp[intOf];omega
    ·have n3:¬ (j:Int)<(s.arcs.length:Int):=by omega
     have HN:=zHd (HO.out.next HSS.out (HIN.out.all hjl));clear hinv;go_wp2
     go_roundw
     case rel=>exact⟨k+1,by go_num,HN.out,HINV3.out,HGR3.out⟩
     case measure=>simp[intOf];omega
  ·have n1:¬ (k:Int)<(m.states.length:Int):=by omega
   have HY:=zHd (zDK HO.out hlt);clear hinv;go_wp2;go_ret;exact⟨by rw[HY.out];rfl,HINV.out,zdl HG.out HGR.out⟩
open Go.RowKit
def zcJ (n:Nat)(o:List Nat):List Bool:=(List.range n).map (fun x=>decide (x∈o))
theorem zkE (n:Nat)(o:List Nat):(zcJ n o).length=n:=by simp[zcJ]
theorem zeZ {n y:Nat}{o:List Nat}(h:y<n):(zcJ n o)[y]? = some (decide (y∈o)):=by
 unfold zcJ;rw[List.getElem?_map,List.getElem?_range h];rfl
theorem zqw {n y:Nat}{o:List Nat}(h:y<n):(zcJ n o).set y true=zcJ n (o++[y]):=by
 apply List.ext_getElem?
 intro i
 by_cases e:i=y
 ·subst e
  rw[List.getElem?_set_self (by rw[zkE];exact h),zeZ h];simp
 ·rw[List.getElem?_set_ne (Ne.symm e)]
  by_cases hi:i<n
  ·rw[zeZ hi,zeZ hi]
   simp[e]
  ·rw[List.getElem?_eq_none (by rw[zkE];omega),List.getElem?_eq_none (by rw[zkE];omega)]
theorem zqx (n:Nat):zcJ n []=List.replicate n false:=by
 unfold zcJ
 apply List.ext_getElem?
 intro i;rw[List.getElem?_map,List.getElem?_replicate]
 by_cases hi:i<n
 ·rw[List.getElem?_range hi,if_pos hi];simp
 ·rw[List.getElem?_eq_none (by rw[List.length_range];omega),if_neg hi];rfl
structure SMem (W:World)(B C s r t n:Nat)(o:List Nat)(v:Value):Prop where
 sv:W.heap[s]? = some (.cells #[.slice (some ⟨r,0,none⟩) n n] 166 (0,0))
 row:zbP W r (bv (zcJ n o))
 tv:W.heap[t]? = some (.cells #[v] 51 (0,0))
 que:QAt W C v o
 hs:B≤s∧s<C
 hr:B≤r∧r<C
 ht:B≤t∧t<C
 ne:s≠r∧s≠t∧r≠t
 hC:C≤W.heap.size
theorem SMem.next {W W':World}{B C s r t n:Nat}{o:List Nat}{v:Value}(h:SMem W B C s r t n o v)(hg:W.grownBy W' none):SMem W' B C s r t n o v :=
 ⟨(hg.block _ (by have:=h.hs;have:=h.hC;omega) (by simp)).trans h.sv,(hg.block _ (by have:=h.hr;have:=h.hC;omega) (by simp)).trans h.row,(hg.block _ (by have:=h.ht;have:=h.hC;omega) (by simp)).trans h.tv,h.que.grown hg (by simp),h.hs,h.hr,h.ht,h.ne,by have:=hg.size;have:=h.hC;omega⟩
theorem one_cell {W:World}{t:Nat}{v:Value}{ty:TypeId}(h:W.heap[t]? = some (.cells #[v] ty (0,0))):W.cell? ⟨t,0,none⟩=some v∧W.frozen? ⟨t,0,none⟩=false :=
 ⟨by rw[cell_of_row W t 0 _ _ (0,0) h];rfl,frozen_of_row W t 0 _ _ h⟩
theorem QAt.one {W:World}{B:Nat}{v:Value}{q:List Nat}(h:QAt W B v q):v.oneCell'=true:=by
 obtain⟨a,cap,rfl,_⟩:=h;rfl
theorem QAt.off_set {W:World}{B:Nat}{v:Value}{q:List Nat}(h:QAt W B v q){a:Addr}(ha:a.block<B)(u:Value):QAt (W.setCell a u) B v q:=by
 have hg:=zac W a u;exact h.grown hg (fun k e=>by cases e;exact ha)
theorem SMem.put {W w5:World}{B C s r t n y:Nat}{o:List Nat}{v v':Value}(h:SMem W B C s r t n o v)(hy:y<n)(w4:World)
  (hb4:(W.setCell ⟨r,y,none⟩ (.bool true)).grownBy w4 none) (hq:QAt w5 C v' (o++[y])) (hb:Below C w4 w5):SMem (w5.setCell ⟨t,0,none⟩ v') B C s r t n (o++[y]) v'∧Below B W (w5.setCell ⟨t,0,none⟩ v'):=by
 have g1:=zac W ⟨r,y,none⟩ (.bool true);have hset:=h.row.set y (.bool true);rw[zGR,zqw hy] at hset;have e1:(W.setCell ⟨r,y,none⟩ (.bool true)).heap.size=W.heap.size:=by simp[World.setCell]
 obtain⟨hs1,hs2⟩:=h.hs;obtain⟨hr1,hr2⟩:=h.hr;obtain⟨ht1,ht2⟩:=h.ht;obtain⟨n1,n2,n3⟩:=h.ne;have hC:=h.hC;have b1:Below B W (W.setCell ⟨r,y,none⟩ (.bool true)):=(Below.refl B W).grown g1 (by omega) (fun k e=>by cases e;exact hr1);have b2:Below B W w5:=(b1.trans ((zaO hb4).mono (by rw[e1];omega))).trans (hb.mono (by omega));have old:∀ k,k<C→k≠r→w5.heap[k]? = W.heap[k]? := fun k hk hne=>(hb.block k hk).trans ((hb4.block k (by rw[e1];omega) (by simp)).trans (g1.block k (by omega) (by simpa using hne)));have g5:=zac w5 ⟨t,0,none⟩ v';have hsz5:C≤w5.heap.size:=by have:=hb.size;have:=hb4.size;rw[e1] at this;omega
 have hsz:(w5.setCell ⟨t,0,none⟩ v').heap.size=w5.heap.size:=by simp[World.setCell]
 refine⟨⟨?_,?_,?_,hq.off_set ht2 _,h.hs,h.hr,h.ht,h.ne,by rw[hsz];exact hsz5⟩,b2.grown g5 (by omega) (fun k e=>by cases e;exact ht1)⟩
 ·exact(g5.block s (by omega) (by simpa using n2)).trans ((old s hs2 n1).trans h.sv)
 ·refine(g5.block r (by omega) (by simpa using n3)).trans (((hb.block r hr2).trans (hb4.block r (by rw[e1];omega) (by simp))).trans hset)
 ·have h2:w5.heap[t]? = some (.cells #[v] 51 (0,0)):=(old t ht2 (Ne.symm n3)).trans h.tv
  rw[heap_setCell_same w5 t 0 _ _ v' h2]
  rfl
def REnd (W:World)(B C s r t n:Nat)(o:List Nat)(e:Ending)(W':World):Prop:=e = .returned (.tuple #[])∧(∃ v,SMem W' B C s r t n o v)∧Below B W W'
theorem zkF {W:World}{B C s r t n y:Nat}{o:List Nat}{v:Value}(h:SMem W B C s r t n o v)(hy:y<n)(hol:o.length≤1000000) :
  Calls Tryz.prog 217 #[.int .i64 (y:Int),.pointer (some ⟨s,0,none⟩),.pointer (some ⟨t,0,none⟩)] W (REnd W B C s r t n (zaJ o y)):=by
 have H:=zHd h;obtain⟨x0,_⟩:=one_cell h.sv;have c0:W.cell? ⟨r,y,none⟩=some (.bool (decide (y∈o))):=by rw[h.row.cell];exact ztp _ _ _ (zeZ hy)
 have c1:=h.row.free y;obtain⟨x1,x2⟩:=one_cell h.tv;have n1:(0:Int)≤(y:Int):=by omega
 have n2:(y:Int)<(n:Int):=by omega
 have e1:(W.setCell ⟨r,y,none⟩ (.bool true)).cell? ⟨s,0,none⟩=some (.slice (some ⟨r,0,none⟩) n n):=(World.cell?_of_block ((zac W ⟨r,y,none⟩ (.bool true)).block s (by have:=h.hs;have:=h.hC;omega) (by have:=h.ne;simpa using this.1))).trans x0;have e2:(W.setCell ⟨r,y,none⟩ (.bool true)).cell? ⟨t,0,none⟩=some v:=(World.cell?_of_block ((zac W ⟨r,y,none⟩ (.bool true)).block t (by have:=h.ht;have:=h.hC;omega) (by have:=h.ne;simpa using Ne.symm this.2.2))).trans x1;have hone:=h.que.one;clear h
 by_cases hm:y∈o
 ·have hp:zaJ o y=o:=by unfold zaJ;rw[if_pos hm]
  rw[hp];rw[decide_eq_true hm] at c0;clear hm hp;go_enter Tryz.func217,Tryz.ntmps217;go_wp2
  go_end0
  exact⟨rfl,⟨v,H.out⟩,Below.refl _ _⟩
 ·have hp:zaJ o y=o++[y]:=by unfold zaJ;rw[if_neg hm]
  rw[hp];rw[decide_eq_false hm] at c0;clear hm hp;have HY:=zHd hy;have hq1:QAt ((W.setCell ⟨r,y,none⟩ (.bool true)).alloc (.cells #[.int .i64 (y:Int)] 3)) C v o:=(H.out.que.off_set H.out.hr.2 _).grown (zGA _ _ none) (by simp);have HQ:=zHd hq1;have e3:(W.setCell ⟨r,y,none⟩ (.bool true)).heap.size=W.heap.size:=by simp[World.setCell]
  have hC:=H.out.hC;clear hq1;go_enter Tryz.func217,Tryz.ntmps217;go_wp2_with (at_builtin;refine zlR HQ.out (by simp;omega) rfl _ _ rfl rfl _ _ y rfl ?ca hol ?_)
  case ca =>
   have:=zqu (W.setCell ⟨r,y,none⟩ (.bool true)) y;rw[e3] at this;exact this
  intro v' w5 hq5 hb5;have P:=H.out.put HY.out _ (zGA _ _ none) hq5 hb5
  have y0:w5.cell? ⟨t,0,none⟩=some v:=by
   have h1:=hb5.block t H.out.ht.2;refine(World.cell?_of_block h1).trans ?_;exact World.grownBy.cell (zGA _ _ none) e2 (by simp)
  have y1:w5.frozen? ⟨t,0,none⟩=false:=by
   have h1:=hb5.block t H.out.ht.2;have h2:=(zGA (W.setCell ⟨r,y,none⟩ (.bool true)) (.cells #[.int .i64 (y:Int)] 3) none).block t (by have:=H.out.ht.2;omega) (by simp);have h3:=(zac W ⟨r,y,none⟩ (.bool true)).block t (by have:=H.out.ht;omega) (by have:=H.out.ne;simpa using Ne.symm this.2.2);exact(World.frozen?_of_block (h1.trans (h2.trans h3))).trans x2
  obtain⟨a5,c5,rfl,_⟩:=hq5;rw[show(o++[y]).length=o.length+1 by simp] at P;have HP:=zHd P;clear P hb5 HQ;go_wp2
  go_end0
  exact⟨rfl,⟨_,HP.out.1⟩,HP.out.2⟩
open Go.RowKit
def nvL (q:List Nat):List Value:=q.map (fun x:Nat=>Value.int .i64 (x:Int))
def NSl (w:World)(v:Value)(q:List Nat):Prop:=∃ A cap,v = .slice A q.length cap∧Reads w w.heap.size 1 A q.length (nvL q)
theorem zFK {q:List Nat}{k x:Nat}(h:q[k]? = some x):(nvL q)[k]? = some (.int .i64 (x:Int)):=by unfold nvL;rw[List.getElem?_map,h];rfl
theorem NSl.grown {w w':World}{v:Value}{q:List Nat}(h:NSl w v q)(hg:w.grownBy w' none):NSl w' v q:=by
 obtain⟨A,cap,hv,hr⟩:=h;exact⟨A,cap,hv,(hr.below (zaO hg)).more hg.size⟩
theorem zgn {w:World}{A:Option Addr}{q:List Nat}{k:Nat}(h:Reads w w.heap.size 1 A q.length (nvL q))(hk:k<q.length):∃ ad x,A=some ad∧q[k]? = some x∧w.cell? (ad.add k)=some (.int .i64 (x:Int)):=by
 obtain⟨ad,hA,hb,hc⟩:=h.2 (by omega);have hx:q[k]? = some q[k]:=List.getElem?_eq_getElem hk;exact⟨ad,_,hA,hx,hc _ _ (zFK hx)⟩
theorem QAt.at_ {w:World}{B:Nat}{v:Value}{q:List Nat}(h:QAt w B v q):∃ a cap,v = .slice a q.length cap∧∀ (k x:Nat),q[k]? = some x→∃ g off,a=some ⟨g,off,none⟩∧w.cell? ⟨g,off+k,none⟩=some (.int .i64 (x:Int)):=by
 obtain⟨a,cap,hv,⟨h0,_⟩|⟨g,off,cur,ha,hB,hh,hc,ho,hq⟩⟩:=h
 ·exact⟨a,cap,hv,fun k x hx=>by rw[h0] at hx;simp at hx⟩
 ·exact⟨a,cap,hv,fun k x hx=>⟨g,off,ha,by rw[cell_of_row w g _ _ _ (0,0) hh];exact hq k x hx⟩⟩
def Steps (w0:World)(F p n:Nat)(succ:Nat→List Nat):Prop :=
 ∀ (W:World) (B C s r t x:Nat) (o:List Nat) (v:Value),Below w0.heap.size w0 W→w0.heap.size≤B→SMem W B C s r t n o v→x<n→o.Nodup→(∀ y∈o,y<n) →
  Calls Tryz.prog F #[.int .i64 (x:Int),.func (.func 217) #[] #[.pointer (some ⟨s,0,none⟩),.pointer (some ⟨t,0,none⟩)],.pointer (some ⟨p,0,none⟩)] W (REnd W B C s r t n ((succ x).foldl zaJ o))
theorem SMem.deep {W:World}{B C s r t n:Nat}{o:List Nat}{v:Value}(h:SMem W B C s r t n o v)(ob:Obj):SMem (W.alloc ob) B C s r t n o v:=h.next (zGA _ _ _)
theorem short_list {n:Nat}{o:List Nat}(h1:o.Nodup)(h2:∀ y∈o,y<n):o.length≤n:=zhX h1 h2
structure Small (m:Mach):Prop where
 wf:Wf m
 n:m.states.length≤3000
 a:∀ s∈m.states,s.arcs.length≤30000
theorem zuH:Enters 218:=enters_of Tryz.func218 (by kernel_rfl) rfl
theorem zxK {w0:World}{p:Nat}{A:Option Addr}{cap:Nat}{us:List Value}{m:Mach}(hbx:zao w0 p m (.slice A m.states.length cap))(hst:StAt w0 A us m.states)(hm:Small m) :
  Steps w0 218 p m.states.length (zaF m):=by
 intro W B C s r t x o v hB0 hBB hmem hx hnd hlt;have hbx2:=hbx.below hB0 hbx.lt;have hst2:=hst.below hB0;obtain⟨ad,st,Br,cb,hA,hs,hu,hc,hra⟩:=hst2.at_ hx;subst hA;obtain⟨x0,x1,x2,x3⟩:=hbx2.cells;obtain⟨y0,y1⟩:=hc;have hal:=hm.a st (List.mem_of_getElem? hs);have hstep:=zhK hs;have n1:(0:Int)≤(x:Int):=by omega
 have n2:(x:Int)<(m.states.length:Int):=by omega
 have HM:=zHd hm;have HMEM:=zHd hmem;have HST:=zHd hst;have HSS:=zHd hs;have HU:=zHd hu;have HB0:=zHd hB0;have HSTEP:=zHd hstep;have HND:=zHd hnd;have HLT:=zHd hlt;have hn3:=hm.n;clear hbx hst hbx2 hst2 hmem hs hu hra hm hstep hnd hlt hB0;go_enter Tryz.func218,Tryz.ntmps218;go_wp2;clear x0 x1 x2 x3 y0 y1
 go_loopw [14] (fun i wr=>∃ (j:Nat) (v:Value),i = .int .i64 j∧j≤st.arcs.length∧SMem wr B C s r t m.states.length (((zaF m x).take j).foldl zaJ o) v∧Below B W wr) (fun i _=>st.arcs.length - (intOf i).toNat)
 case atStart=>exact⟨0,v,rfl,by omega,HMEM.out,Below.refl _ _⟩
 case round =>
  obtain⟨j,v',rfl,hj,hmem,hb⟩:=hrel;have HMEM2:=zHd hmem;have HB:=zHd hb;have hB1:Below w0.heap.size w0 wr:=HB0.out.trans (hb.mono hBB);clear hmem hb
  by_cases hjl:j<st.arcs.length
  ·obtain⟨ad2,a,hBr,hab,haj,hat⟩:=zit ((HST.out.below hB1).arcs_at HSS.out HU.out) hjl
   subst hBr;obtain⟨z0,z1,z2,z3⟩:=hat;have harc:=HM.out.wf.arcs st (List.mem_of_getElem? HSS.out) a (List.mem_of_getElem? haj);obtain⟨y,hy⟩:∃ y:Nat,a.t=(y:Int):=⟨a.t.toNat,by omega⟩;have hyn:y<m.states.length:=by omega
   have hst:(zaF m x)[j]? = some y:=by rw[HSTEP.out,List.getElem?_map,haj];simp[hy]
   have htk:((zaF m x).take (j+1)).foldl zaJ o=zaJ (((zaF m x).take j).foldl zaJ o) y:=by
    rw[zcI hst,zjo]
   have hlen:(((zaF m x).take j).foldl zaJ o).length≤1000000:=by
    have:=short_list (zbJ (l:=(zaF m x).take j) HND.out) (zcA (l:=(zaF m x).take j) HLT.out (fun z hz=>zfV HM.out.wf x z (List.mem_of_mem_take hz)))
    omega
   rw[hy] at z3;have n3:(j:Int)<(st.arcs.length:Int):=by omega
   have n4:IntKind.i64.wrap ((j:Int)+1)=(j:Int)+1:=by rw[IntKind.wrap_i64];omega
   have HTK:=zHd htk;have hba:Below B W (wr.alloc (.cells #[.int .i64 a.i,.int .i64 a.o,.string a.w,.int .i64 (y:Int)] 59)):=HB.out.alloc (by have:=HMEM2.out.hs;have:=HMEM2.out.hC;omega) _;have HBA:=zHd hba;have HR:=zHd (zkF (HMEM2.out.deep (.cells #[.int .i64 a.i,.int .i64 a.o,.string a.w,.int .i64 (y:Int)] 59)) hyn hlen);clear haj harc hy hst htk hba hB1;go_wp2_with fail;refine HR.out.mono ?_;rintro e w5 ⟨rfl,⟨v5,hm5⟩,hb5⟩;have HM5:=zHd hm5;have HB5:=zHd (HBA.out.trans hb5);clear hm5 hb5 z0 z1 z2 z3;go_wp2
   go_roundw
   case rel=>exact⟨j+1,v5,by go_num,by omega,by rw[HTK.out];exact HM5.out,HB5.out⟩
   case measure=>simp[intOf];omega
  ·have n3:¬ (j:Int)<(st.arcs.length:Int):=by omega
   have e:(zaF m x).take j=zaF m x:=List.take_of_length_le (by rw[HSTEP.out,List.length_map];omega);rw[e] at HMEM2;clear hB1;go_wp2
   go_end0
   exact⟨rfl,⟨v',HMEM2.out⟩,HB.out⟩
def zGS (F:Nat)(m:Mach)(u:Value)(w:World)(e:Ending)(w':World):Prop:=e = .returned (.func (.func F) #[] #[.pointer (some ⟨w.heap.size,0,none⟩)])∧zao w' w.heap.size m u∧w.grownBy w' none
theorem zpv {w:World}{u:Value}{m:Mach} :
  Calls Tryz.prog 183 #[.agg #[.int .i64 m.kind,.int .i64 m.start,.string m.lead,u]] w (zGS 218 m u w):=by
 have hg:w.grownBy (w.alloc (.cells #[.int .i64 m.kind,.int .i64 m.start,.string m.lead,u] 31)) none:=zGA _ _ _;have hbx:=zao.new w m u;have HG:=zHd hg;have HB:=zHd hbx;clear hg hbx;go_enter Tryz.func183,Tryz.ntmps183;go_wp2;go_ret;exact⟨rfl,HB.out,HG.out⟩
def zxL (o:List Nat)(w:World)(e:Ending)(w':World):Prop:=∃ v,e = .returned v∧QAt w' w.heap.size v o∧w.grownBy w' none
theorem znW:(Tryz.prog.info? 4).map (fun i=>(i.zero,i.size,i.bytes))=some (some (.bool false),1,1):=by kernel_rfl
theorem SMem.start {w w1:World}{n:Nat}(hc:zbP w1 w.heap.size (bv (List.replicate n false)))(hg:w.grownBy w1 none) :
  SMem ((w1.alloc (.cells #[.slice (some ⟨w.heap.size,0,none⟩) n n] 166)).alloc (.cells #[.slice none 0 0] 51)) w.heap.size (w1.heap.size+2) w1.heap.size w.heap.size (w1.heap.size+1) n [] (.slice none 0 0) ∧
  w.grownBy ((w1.alloc (.cells #[.slice (some ⟨w.heap.size,0,none⟩) n n] 166)).alloc (.cells #[.slice none 0 0] 51)) none:=by
 have g1:=zGA w1 (.cells #[.slice (some ⟨w.heap.size,0,none⟩) n n] 166) none;have g2:=zGA (w1.alloc (.cells #[.slice (some ⟨w.heap.size,0,none⟩) n n] 166)) (.cells #[.slice none 0 0] 51) none;have e1:(w1.alloc (.cells #[.slice (some ⟨w.heap.size,0,none⟩) n n] 166)).heap.size=w1.heap.size+1:=by simp
 have hlt:=hc.lt
 have c1:(w1.alloc (.cells #[.slice (some ⟨w.heap.size,0,none⟩) n n] 166)).heap[w1.heap.size]? = some (.cells #[.slice (some ⟨w.heap.size,0,none⟩) n n] 166 (0,0)):=by
  show(w1.heap.push _)[w1.heap.size]? = _;rw[Array.getElem?_push_size]
 have c2:((w1.alloc (.cells #[.slice (some ⟨w.heap.size,0,none⟩) n n] 166)).alloc (.cells #[.slice none 0 0] 51)).heap[w1.heap.size+1]? = some (.cells #[.slice none 0 0] 51 (0,0)):=by
  rw[← e1];show(Array.push _ _)[_]? = _;exact Array.getElem?_push_size
 refine⟨⟨(g2.block _ (by omega) (by simp)).trans c1,?_,c2,QAt.nil _ _,⟨by omega,by omega⟩,⟨by omega,by omega⟩,⟨by omega,by omega⟩,⟨by omega,by omega,by omega⟩,by simp⟩,zaa hg (zaa g1 g2)⟩;rw[zqx];exact(g2.block _ (by omega) (by simp)).trans ((g1.block _ hlt (by simp)).trans hc)
theorem znX {w0 w:World}{F p n:Nat}{succ:Nat→List Nat}{v:Value}{fs:List Nat}(hE:Enters F)(hs:Steps w0 F p n succ)(hw:Below w0.heap.size w0 w)(hv:NSl w v fs)(hn:n≤3000)(hfs:∀ x∈fs,x<n)(hsb:∀ x,∀ y∈succ x,y<n)(hfl:fs.length≤3000) :
  Calls Tryz.prog 182 #[.int .i64 (n:Int),v,.func (.func F) #[] #[.pointer (some ⟨p,0,none⟩)]] w (zxL (srch succ n 0 (fs.foldl zaJ [])) w):=by
 obtain⟨i0,hi,hz0,hz1,hz2⟩:=zci znW;obtain⟨A,cap,rfl,hr⟩:=hv;have HR:=zHd hr;have HE:=zHd hE;have HST:=zHd hs;have HW:=zHd hw;have HFS:=zHd hfs;have HSB:=zHd hsb;clear hr hE hs hw hfs hsb;go_enter Tryz.func182,Tryz.ntmps182;go_wp2_with (at_make;refine wpList_make_full _ rfl _ _ 166 rfl w.heap.size 4 i0 (.bool false) 1 Tryz.underlying166 hi hz0 hz1 _ _ _ _ n rfl rfl rfl rfl (by rw[hz2];omega) (by unfold maxLen;omega) (Nat.le_refl _) ?_);intro w1 hown hgr;rw[zkB] at hown;obtain⟨hm0,hg0⟩:=SMem.start (zbP.of_full hown) hgr;have HM0:=zHd hm0;have HG0:=zHd hg0;have e0:w.heap.size≤w1.heap.size:=hgr.size;clear hown hgr hm0 hg0;go_wp2;generalize hW:(w1.alloc (.cells #[.slice (some ⟨w.heap.size,0,none⟩) n n] 166)).alloc (.cells #[.slice none 0 0] 51)=W at *;clear hW
 go_loopw [18] (fun i wr=>∃ (j:Nat) (v:Value),i = .int .i64 j∧j≤fs.length∧SMem wr w.heap.size (w1.heap.size+2) w1.heap.size w.heap.size (w1.heap.size+1) n ((fs.take j).foldl zaJ []) v∧w.grownBy wr none) (fun i _=>fs.length - (intOf i).toNat)
 case atStart=>exact⟨0,_,rfl,by omega,HM0.out,HG0.out⟩
 case round =>
  obtain⟨j,v',rfl,hj,hmem,hg⟩:=hrel;have HMEM:=zHd hmem;have HG:=zHd hg;clear hmem hg
  by_cases hjl:j<fs.length
  ·obtain⟨ad,x,hA,hx,hc⟩:=zgn ((HR.out.below (zaO HG.out)).more HG.out.size) hjl
   subst hA;have hxn:=HFS.out x (List.mem_of_getElem? hx);have htk:(fs.take (j+1)).foldl zaJ []=zaJ ((fs.take j).foldl zaJ []) x:=by rw[zcI hx,zjo]
   have hlen:((fs.take j).foldl zaJ []).length≤1000000:=by
    have:=short_list (zbJ (l:=fs.take j) (o:=[]) List.nodup_nil) (zcA (n:=n) (l:=fs.take j) (o:=[]) (fun z hz=>by simp at hz) (fun z hz=>HFS.out z (List.mem_of_mem_take hz)))
    omega
   have n1:(j:Int)<(fs.length:Int):=by omega
   have n2:IntKind.i64.wrap ((j:Int)+1)=(j:Int)+1:=by rw[IntKind.wrap_i64];omega
   have HTK:=zHd htk;have HRC:=zHd (zkF HMEM.out hxn hlen);clear hx htk;go_wp2_with fail;refine HRC.out.mono ?_;rintro e w5 ⟨rfl,⟨v5,hm5⟩,hb5⟩;have HM5:=zHd hm5;have HG5:=zHd (zaI ((zaO HG.out).trans (hb5)));clear hm5 hb5 hc;go_wp2
   go_roundw
   case rel=>exact⟨j+1,v5,by go_num,by omega,by rw[HTK.out];exact HM5.out,HG5.out⟩
   case measure=>simp[intOf];omega
  ·have n1:¬ (j:Int)<(fs.length:Int):=by omega
   rw[List.take_of_length_le (l:=fs) (by omega)] at HMEM;have hd0:=zbJ (l:=fs) (o:=[]) List.nodup_nil;have hb0:=zcA (n:=n) (l:=fs) (o:=[]) (fun z hz=>by simp at hz) HFS.out;generalize fs.foldl zaJ []=o0 at *;have HD0:=zHd hd0;have HB0:=zHd hb0;clear hd0 hb0;generalize wr=w4 at *;go_wp2
   go_loopw [12] (fun i wr=>∃ (j:Nat) (o:List Nat) (v:Value),i = .int .i64 j∧j≤n∧SMem wr w.heap.size (w1.heap.size+2) w1.heap.size w.heap.size (w1.heap.size+1) n o v∧w.grownBy wr none∧o.Nodup∧(∀ x∈o,x<n)∧srch succ (n - j) j o=srch succ n 0 o0) (fun i _=>n+1 - (intOf i).toNat)
   case atStart=>exact⟨0,o0,v',rfl,by omega,HMEM.out,HG.out,HD0.out,HB0.out,rfl⟩
   case round =>
    obtain⟨j,o,v2,rfl,hjn,hmem,hg,hnd,hbn,hsr⟩:=hrel;have hol:=short_list hnd hbn;have HMEM2:=zHd hmem;have HG2:=zHd hg;have HND:=zHd hnd;have HBN:=zHd hbn;have HSR:=zHd hsr;obtain⟨a,cap2,rfl,hat⟩:=hmem.que.at_;obtain⟨t0,_⟩:=one_cell hmem.tv;clear hmem hg hnd hbn hsr
    by_cases hjl:j<o.length
    ·have hx:o[j]? = some o[j]:=List.getElem?_eq_getElem hjl
     generalize o[j]=x at hx;obtain⟨g,off,ha,hcell⟩:=hat j x hx;subst ha;have hxn:=HBN.out x (List.mem_of_getElem? hx)
     have hs1:srch succ (n - j) j o=srch succ (n - (j+1)) (j+1) ((succ x).foldl zaJ o):=by
      rw[show n - j=(n - (j+1))+1 by omega,zqs hx]
     have n1:(j:Int)<(o.length:Int):=by omega
     have n2:IntKind.i64.wrap ((j:Int)+1)=(j:Int)+1:=by rw[IntKind.wrap_i64];omega
     have n3:(0:Int)≤(j:Int):=by omega
     have HS1:=zHd hs1;have HC:=zHd (HST.out wr _ _ _ _ _ x o _ (HW.out.trans ((zaO HG2.out).mono HW.out.size)) HW.out.size HMEM2.out hxn HND.out HBN.out);clear hs1 hx hat;go_wp2_with fail;rw[HE.out];refine HC.out.mono ?_;rintro e w5 ⟨rfl,⟨v5,hm5⟩,hb5⟩;have HM5:=zHd hm5;have HG5:=zHd (zaI ((zaO HG2.out).trans hb5));clear hm5 hb5 t0 hcell;go_wp2
     go_roundw
     case rel=>exact⟨j+1,_,v5,by go_num,by omega,HM5.out,HG5.out,zbJ HND.out,zcA HBN.out (HSB.out x),HS1.out.symm.trans HSR.out⟩
     case measure=>simp[intOf];omega
    ·have n1:¬ (j:Int)<(o.length:Int):=by omega
     have he:o=srch succ n 0 o0:=by rw[← HSR.out,zAT (by omega)]
     have HEQ:=zHd he;clear he hat;go_wp2;go_ret;refine⟨_,rfl,?_,HG2.out⟩;rw[← HEQ.out];have:=HMEM2.out.que;obtain⟨a3,c3,e3,h3⟩:=this;refine⟨a3,c3,e3,?_⟩;rcases h3 with h3|⟨g3,off3,cur3,k1,k2,k3⟩
     ·exact .inl h3
     ·exact .inr ⟨g3,off3,cur3,k1,by omega,k3⟩
open Go.RowKit Go.Maps
instance lawful6:LawfulBEq ByteArray where
 eq_of_beq {a b} h:=by
  have h2:a.data == b.data:=h;cases a;cases b;simp only[beq_iff_eq] at h2;subst h2;rfl
 rfl {a}:=by
  show(a.data == a.data)=true;simp
theorem zvX:Keyed Tryz.prog 9:=string_keyed Tryz.underlying9
theorem zAX (w:World):(zeroValue 4).run Tryz.prog w = .ok (.bool false) w:=by kernel_rfl
def lit6 (s:ByteArray):Lit := .string s.data.toList
theorem zts {s t:ByteArray}(h:lit6 s=lit6 t):s=t:=by
 unfold lit6 at h
 injection h with h
 exact ByteArray.ext (Array.toList_inj.1 h)
theorem ztt (s:ByteArray):WideAt.IsKeyLit (lit6 s):=trivial
theorem zvY {s:ByteArray}(h:s.size≤maxLen):keyOf Tryz.prog 9 (.string s)=some (lit6 s):=WideMaps.keyOf_string_mk Tryz.underlying9 h
theorem zkG {H:Type}{P:Program}{e:TypeId}(he:P.underlying e=some .bool){v:Value}{z:DataW H × List MemPlace}(h:plainElem P e v=some z):∃ a,v = .bool a∧z=(.lit (.bool a),[]):=by
 unfold plainElem at h;rw[he] at h;cases v <;> simp at h;exact⟨_,rfl,h.symm⟩
structure zGT (w:World)(b:Nat)(k:Int)(K:List ByteArray)(D:DataW Unit):Prop where
 owns:w.ownsMap Tryz.prog 9 (plainElem Tryz.prog 4) b K.length D
 at_:∀ s,D.atKey (lit6 s) (.lit (.bool false)) = .lit (.bool (decide (s∈K)&&wgtB k s))
 has_:∀ s,Maps.has D (lit6 s)=decide (s∈K)
def KMap (w:World)(b:Nat)(k:Int)(K:List ByteArray):Prop:=∃ D,zGT w b k K D
theorem KMap.made (w:World)(k:Int):KMap (w.alloc (.map #[] 0)) w.heap.size k []:=⟨.map [],⟨World.ownsMap_made w _ _ _,fun s=>by simp;rfl,fun s=>by simp;rfl⟩⟩
theorem KMap.kept {w w':World}{b:Nat}{k:Int}{K:List ByteArray}{row:Option Nat}(h:KMap w b k K)(hg:w.grownBy w' row)(hne:some b≠row):KMap w' b k K:=by
 obtain⟨D,h1,h2,h3⟩:=h;exact⟨D,h1.kept hg hne,h2,h3⟩
theorem KMap.look_ok {w:World}{b:Nat}{k:Int}{K:List ByteArray}(h:KMap w b k K){s:ByteArray}(hs:s.size≤maxLen) :
  (Instr.lookup 92 (.map (some b)) (.string s) true).run Tryz.prog w = .ok (.tuple #[.bool (decide (s∈K)&&wgtB k s),.bool (decide (s∈K))]) w:=by
 obtain⟨D,h1,h2,h3⟩:=h;obtain⟨v,ps,hrun,hv⟩:=h1.look_ok zvX Tryz.underlying92 (zAX _) (plainElem_bool Tryz.underlying4 false) (zvY hs);obtain⟨c,rfl,hc⟩:=zkG Tryz.underlying4 hv;rw[h2 s] at hc;simp only[Prod.mk.injEq,DataW.lit.injEq,Lit.bool.injEq] at hc;obtain⟨hc,_⟩:=hc;subst hc;rw[h3 s] at hrun;exact hrun
theorem KMap.store {w:World}{b:Nat}{k:Int}{K:List ByteArray}(h:KMap w b k K){s:ByteArray}(hs:s.size≤maxLen)(hn:s ∉ K)(hl:K.length<maxLen) :
  ∃ w',(Instr.mapUpdate 92 (.map (some b)) (.string s) (.bool (wgtB k s))).run Tryz.prog w = .ok () w'∧KMap w' b k (K++[s])∧w.grownBy w' (some b):=by
 obtain⟨D,h1,h2,h3⟩:=h;obtain⟨w',hrun,hown,hg⟩:=h1.update zvX Tryz.underlying92 hl (zvY hs) (plainElem_bool Tryz.underlying4 (wgtB k s));have hD:IsMap D:=h1.isMap;refine⟨w',hrun,⟨_,⟨by rw[List.length_append];exact hown,fun t => ?_,fun t => ?_⟩⟩,hg⟩
 ·by_cases ht:t=s
  ·subst ht
   rw[atKey_put_same hD (ztt t)];simp
  ·rw[atKey_put_other (fun e=>ht (zts e)),h2 t];simp[ht]
 ·by_cases ht:t=s
  ·subst ht
   rw[has_put_same hD (ztt t)];simp
  ·rw[has_put_other (fun e=>ht (zts e)),h3 t];simp[ht]
def allW (m:Mach):List ByteArray:=m.lead::m.states.flatMap (fun s=>s.fin::s.arcs.map MArc.w)
theorem ztu (m:Mach):(allW m).length=1+m.states.length+zaW m.states:=by
 unfold allW zaW;rw[List.length_cons]
 induction m.states with
 | nil=>simp
 | cons s l ih=>simp only[List.flatMap_cons,List.length_append,List.length_cons,List.length_map,List.map_cons,List.sum_cons];omega
theorem zDL {m:Mach}{s:zah}(hs:s∈m.states):s.fin∈allW m:=by
 unfold allW;exact List.mem_cons_of_mem _ (List.mem_flatMap.2 ⟨s,hs,by simp⟩)
theorem zDM {m:Mach}{s:zah}{a:MArc}(hs:s∈m.states)(ha:a∈s.arcs):a.w∈allW m:=by
 unfold allW;exact List.mem_cons_of_mem _ (List.mem_flatMap.2 ⟨s,hs,List.mem_cons_of_mem _ (List.mem_map_of_mem ha)⟩)
def zft (w0:World)(b:Nat)(m:Mach)(W:World):Prop:=w0.grownBy W (some b)∧∃ K,KMap W b m.kind K∧K.Nodup∧∀ s∈K,s∈allW m
theorem zft.next {w0 W W':World}{b:Nat}{m:Mach}(h:zft w0 b m W)(hg:W.grownBy W' none):zft w0 b m W':=by
 obtain⟨h1,K,h2,h3,h4⟩:=h;exact⟨World.grownBy.trans h1 (zdY hg),K,h2.kept hg (by simp),h3,h4⟩
structure zlv (w0:World)(b kv bx wv:Nat)(m:Mach)(u:Value):Prop where
 hkv:w0.heap[kv]? = some (.cells #[.map (some b)] 92 (0,0))
 hbx:zao w0 bx m u
 hwv:w0.heap[wv]? = some (.cells #[.func (.func 127) #[] #[.pointer (some ⟨kv,0,none⟩),.pointer (some ⟨bx,0,none⟩)]] 69 (0,0))
 ne:kv≠b∧bx≠b∧wv≠b
theorem zlv.at_ {w0 W:World}{b kv bx wv:Nat}{m:Mach}{u:Value}(h:zlv w0 b kv bx wv m u)(hg:w0.grownBy W (some b)):zlv W b kv bx wv m u :=
 ⟨(hg.block _ (lt_of_block h.hkv) (by simpa using h.ne.1)).trans h.hkv,(hg.block _ h.hbx.lt (by simpa using h.ne.2.1)).trans h.hbx,(hg.block _ (lt_of_block h.hwv) (by simpa using h.ne.2.2)).trans h.hwv,h.ne⟩
theorem zuI {k:Int}{a:ByteArray}(ha:a.size≤maxLen):VB 128 k a (wgtB k a):=by
 rcases zGm k a with⟨v,h⟩|h
 ·rw[zmo h];exact zus h
 ·have hB:wgtB k a=false:=by
   cases hb:wgtB k a
   ·rfl
   ·obtain⟨v,hv⟩:=zmp hb
    have:=h v hv.1;rw[hv.2] at this;cases this
  rw[hB];exact zxc h ha
theorem zpw:Enters 129:=enters_of Tryz.func129 (by kernel_rfl) rfl
theorem ztv:Enters 126:=enters_of Tryz.func126 (by kernel_rfl) rfl
theorem zjq {w0 W:World}{b kv bx wv:Nat}{m:Mach}{u:Value}{s:ByteArray}(hw:zlv w0 b kv bx wv m u)(hinv:zft w0 b m W)(hs:s∈allW m)(hz:s.size≤maxLen)(hl:(allW m).length≤100000) :
  Calls Tryz.prog 127 #[.string s,.pointer (some ⟨kv,0,none⟩),.pointer (some ⟨bx,0,none⟩)] W (zrp (zft w0 b m) (some b) (wgtB m.kind s) W):=by
 obtain⟨hg,K,hK,hnd,hsub⟩:=hinv;have HB:=zHd (hw.at_ hg);have HW:=zHd hw;have hlk:=hK.look_ok hz;have HSW:=zHd (zuI (k:=m.kind) hz);obtain⟨x0,_⟩:=one_cell HB.out.hkv;obtain⟨y0,_,_,_⟩:=HB.out.hbx.cells;have HG:=zHd hg;have HK:=zHd hK;have HND:=zHd hnd;have HSUB:=zHd hsub;have HS:=zHd hs;clear hw hg hK hnd hsub hs
 by_cases hm:s∈K
 ·rw[decide_eq_true hm] at hlk
  simp only[Bool.true_and] at hlk;clear hm;go_enter Tryz.func127,Tryz.ntmps127;go_wp2;go_ret;exact⟨rfl,⟨HG.out,K,HK.out,HND.out,HSUB.out⟩,World.grownBy.refl _ _⟩
 ·have HM:=zHd hm
  rw[decide_eq_false hm] at hlk;simp only[Bool.false_and] at hlk;clear hm;go_enter Tryz.func127,Tryz.ntmps127;go_wp2_with fail;refine(HSW.out _).mono ?_;rintro e w1 ⟨rfl,hg1⟩;have HG1:=zHd hg1;have hK1:=HK.out.kept hg1 (by simp);obtain⟨w2,hst,hK2,hg2⟩:=hK1.store hz HM.out (by have:=List.Nodup.length_le_of_subset (l₁:=K) (l₂:=allW m) HND.out HSUB.out;unfold maxLen;omega);have HK2:=zHd hK2;have HG2:=zHd hg2;have z0:=(one_cell (HB.out.at_ (zdY hg1)).hkv).1;clear hK1 hK2 hg1 hg2 x0 y0 hlk;go_wp2;go_ret;have hgg:=World.grownBy.trans (zdY (r:=some b) HG1.out) HG2.out;refine⟨rfl,⟨World.grownBy.trans HG.out hgg,K++[s],HK2.out,?_,?_⟩,hgg⟩
  ·rw[List.nodup_append]
   exact⟨HND.out,by simp,fun a ha c hc e=>by simp at hc;subst hc;subst e;exact HM.out ha⟩
  ·intro t ht
   rcases List.mem_append.1 ht with h|h
   ·exact HSUB.out t h
   ·simp at h;subst h;exact HS.out
theorem zfW (x a b:Int)(w:World):Calls Tryz.prog 124 #[.int .i64 x,.int .i64 a,.int .i64 b] w fun e w'=>e = .returned (.bool (decide (a≤x)&&decide (x≤b)))∧w'=w:=by
 by_cases h1:a≤x
 ·by_cases h2:x≤b
  ·rw[decide_eq_true h1,decide_eq_true h2]
   go_enter Tryz.func124,Tryz.ntmps124;go_wp2;go_ret;exact⟨rfl,rfl⟩
  ·rw[decide_eq_true h1,decide_eq_false h2]
   go_enter Tryz.func124,Tryz.ntmps124;go_wp2;go_ret;exact⟨rfl,rfl⟩
 ·rw[decide_eq_false h1]
  go_enter Tryz.func124,Tryz.ntmps124;go_wp2;go_ret;exact⟨rfl,rfl⟩
def fitP (n:Nat)(a:MArc):Bool:=(decide (0≤a.i)&&decide (a.i≤500))&&((decide (0≤a.o)&&decide (a.o≤500))&&(decide (0≤a.t)&&decide (a.t≤(n:Int) - 1)))
theorem zAY {W:World}{b n:Nat}{a:MArc}(hc:W.heap[b]? = some (.cells #[.int .i64 (n:Int)] 3 (0,0)))(hn:n≤3000) :
  Calls Tryz.prog 126 #[.agg #[.int .i64 a.i,.int .i64 a.o,.string a.w,.int .i64 a.t],.pointer (some ⟨b,0,none⟩)] W (zab (.bool (fitP n a)) W):=by
 have h1:=zfW a.i 0 500;have h2:=zfW a.o 0 500;have h3:=zfW a.t 0 ((n:Int) - 1);unfold fitP;have hb:b<W.heap.size:=lt_of_block hc;have hg:=zGA W (.cells #[.int .i64 a.i,.int .i64 a.o,.string a.w,.int .i64 a.t] 59) none;obtain⟨x0,_⟩:=one_cell ((hg.block b hb (by simp)).trans hc);have n1:IntKind.i64.wrap ((n:Int) - 1)=(n:Int) - 1:=by rw[IntKind.wrap_i64];omega
 have HG:=zHd hg;clear hg hc;generalize (decide (0≤a.i)&&decide (a.i≤500))=p1 at h1 ⊢;generalize (decide (0≤a.o)&&decide (a.o≤500))=p2 at h2 ⊢;generalize (decide (0≤a.t)&&decide (a.t≤(n:Int) - 1))=p3 at h3 ⊢;have H1:=zHd h1;have H2:=zHd h2;have H3:=zHd h3;clear h1 h2 h3;go_enter Tryz.func126,Tryz.ntmps126;go_wp2_with fail;refine(H1.out _).mono ?_;rintro e w1 ⟨rfl,rfl⟩;cases p1
 ·go_wp2
  go_ret;exact⟨rfl,HG.out⟩
 ·go_wp2_with fail
  refine(H2.out _).mono ?_;rintro e w1 ⟨rfl,rfl⟩;cases p2
  ·go_wp2
   go_ret;exact⟨rfl,HG.out⟩
  ·go_wp2_with fail
   refine(H3.out _).mono ?_;rintro e w1 ⟨rfl,rfl⟩;cases p3
   all_goals
    go_wp2;go_ret;exact⟨rfl,HG.out⟩
open Go.RowKit Go.Maps
noncomputable def fitsB (m:Mach):Bool:=decide (m.states.length≤3000)&&((decide (0≤m.start)&&decide (m.start≤(m.states.length:Int) - 1))&&(decide (zaW m.states≤30000)&&allB (fitP m.states.length) m))
theorem zjr (w:World)(o:Array Value)(t:TypeId):(w.alloc (.cells o t)).heap[w.heap.size]? = some (.cells o t (0,0)):=by
 show(w.heap.push _)[w.heap.size]? = _;rw[Array.getElem?_push_size]
theorem zlS {M:Nat}:∀ {l:List zah},(∀ s∈l,s.arcs.length≤M)→zaW l≤l.length * M
 | [],_=>by simp[zaW]
 | s::l,h=>by
  have h1:=h s (by simp);have h2:=zlS (l:=l) (fun t ht=>h t (by simp[ht]));have e:zaW (s::l)=s.arcs.length+zaW l:=by unfold zaW;simp
  rw[e,List.length_cons,Nat.succ_mul]
  omega
theorem zxM {w0:World}{F:Nat}{lb:Array Value}{m:Mach}{P:MArc→Bool}(h:∀ (W:World) (s:zah) (a:MArc),w0.grownBy W none→s∈m.states→a∈s.arcs→Calls Tryz.prog F (#[.agg #[.int .i64 a.i,.int .i64 a.o,.string a.w,.int .i64 a.t]]++lb) W (zab (.bool (P a)) W)) :
  Says (fun W=>w0.grownBy W none) none F lb m P:=fun W s a hI hs ha=>(h W s a hI hs ha).mono fun e w' ⟨h1,h2⟩=>⟨h1,zaa hI h2,h2⟩
theorem zDN {w:World}{v:Value}{m:Mach}(hv:zcr w v m)(hf:zfp m):Calls Tryz.prog 68 #[v] w (zab (.bool (fitsB m)) w):=by
 obtain⟨u,rfl,hst0⟩:=hv;obtain⟨A,cap,us,rfl,hS0⟩:=StAt.of hst0;have hg1:w.grownBy (w.alloc (.cells #[.int .i64 m.kind,.int .i64 m.start,.string m.lead,.slice A m.states.length cap] 31)) none:=zGA _ _ _;have hg2:=zGA (w.alloc (.cells #[.int .i64 m.kind,.int .i64 m.start,.string m.lead,.slice A m.states.length cap] 31)) (.cells #[.int .i64 (m.states.length:Int)] 3) none;have hbx:=(zao.new w m (.slice A m.states.length cap)).grown hg2;have hvr:=zjr (w.alloc (.cells #[.int .i64 m.kind,.int .i64 m.start,.string m.lead,.slice A m.states.length cap] 31)) #[.int .i64 (m.states.length:Int)] 3;rw[show(w.alloc (.cells #[.int .i64 m.kind,.int .i64 m.start,.string m.lead,.slice A m.states.length cap] 31)).heap.size=w.heap.size+1 by simp] at hvr;have HG:=zHd (zaa hg1 hg2);have HS:=zHd hS0;have HBX:=zHd hbx;have HVR:=zHd hvr;have HF:=zHd hf;have hn0:=hf.n;have hwi:=zfW m.start 0 ((m.states.length:Int) - 1);have HWI:=zHd hwi;obtain⟨x0,x1,x2,x3⟩:=hbx.cells;obtain⟨y0,_⟩:=one_cell hvr;clear hst0 hS0 hg1 hg2 hbx hvr hf hwi;have n1:IntKind.i64.wrap ((m.states.length:Int) - 1)=(m.states.length:Int) - 1:=by rw[IntKind.wrap_i64];omega
 by_cases c1:m.states.length≤3000
 ·have n2:¬ (3000:Int)<(m.states.length:Int):=by omega
  go_enter Tryz.func68,Tryz.ntmps68;go_wp2_with fail;refine(HWI.out _).mono ?_;rintro e w1 ⟨rfl,hw1⟩;cases hp:(decide (0≤m.start)&&decide (m.start≤(m.states.length:Int) - 1))
  ·have HN:Hid (fitsB m=false):=zHd (by unfold fitsB;rw[hp];simp)
   clear hp;subst hw1;go_wp2;go_ret;exact⟨by rw[HN.out];rfl,HG.out⟩
  ·have HP:=zHd hp
   clear hp;subst hw1;generalize hW:(w.alloc (.cells #[.int .i64 m.kind,.int .i64 m.start,.string m.lead,.slice A m.states.length cap] 31)).alloc (.cells #[.int .i64 (m.states.length:Int)] 3)=W at *;clear hW;go_wp2;have HC1:=zHd c1;clear x0 x1 x2 x3 y0 n2
   go_loopw [4,23] (fun n i wr=>∃ k:Nat,i = .int .i64 k∧n = .int .i64 (zaW (m.states.take k):Int)∧k≤m.states.length∧W.grownBy wr none) (fun _ i _=>m.states.length - (intOf i).toNat)
   case atStart=>exact⟨0,rfl,rfl,by omega,zag _ _⟩
   case round =>
    obtain⟨k,rfl,rfl,hk,hgr⟩:=hrel;have HGR:=zHd hgr;have HGR0:=zHd (zaa HG.out hgr);clear hgr
    by_cases hlt:k<m.states.length
    ·obtain⟨ad,s,B,cb,hA,hs,hu,hc,hra⟩:=(HS.out.grown HGR0.out).at_ hlt
     subst hA;obtain⟨z0,z1⟩:=hc;have hal:=HF.out.arcs s (List.mem_of_getElem? hs);have htk:=zcI hs;have hsn:zaW (m.states.take (k+1))=zaW (m.states.take k)+s.arcs.length:=by rw[htk,znJ]
     have hb:=zlS (l:=m.states.take k) (M:=140737488355328) (fun t ht=>HF.out.arcs t (List.mem_of_mem_take ht));have hb2:zaW (m.states.take k)≤3000 * 140737488355328:=Nat.le_trans hb (Nat.mul_le_mul_right _ (by rw[List.length_take];omega));have n2:(k:Int)<(m.states.length:Int):=by omega
     have n3:IntKind.i64.wrap ((k:Int)+1)=(k:Int)+1:=by rw[IntKind.wrap_i64];omega
     have n4:IntKind.i64.wrap ((zaW (m.states.take k):Int)+(s.arcs.length:Int))=(zaW (m.states.take (k+1)):Int):=by rw[IntKind.wrap_i64];omega
     clear hs hu hra hal htk hb hb2;generalize hq:zaW (m.states.take (k+1))=q at *;have HQ:=zHd hq;clear hq hsn;go_wp2
     go_roundw
     case rel=>exact⟨k+1,by go_num,by rw[HQ.out],by omega,zaa HGR.out (zGA _ _ _)⟩
     case measure=>simp[intOf];omega
    ·have hk2:m.states.take k=m.states:=List.take_of_length_le (by omega)
     rw[hk2];have n2:¬ (k:Int)<(m.states.length:Int):=by omega
     by_cases c2:zaW m.states≤30000
     ·have n3:(zaW m.states:Int)≤30000:=by omega
      have HC2:=zHd c2;obtain⟨x0,x1,x2,x3⟩:=(HBX.out.grown HGR.out).cells
      have hall:=zvW (w:=wr) (A:=A) (cap:=cap) (us:=us) (m:=m) (Inv:=fun W'=>wr.grownBy W' none) (r:=none) (F:=126) (lb:=#[.pointer (some ⟨w.heap.size+1,0,none⟩)]) (P:=fitP m.states.length) ztv
       (fun W1 W2 h1 h2=>zaa h1 h2) (fun W1 h1=>HS.out.grown (zaa HGR0.out h1)) (fun k e=>by cases e) (zag _ _)
       (zxM (fun W1 s a hI hs ha=>zAY (((zaa HGR.out hI).block _ (lt_of_block HVR.out) (by simp)).trans HVR.out) HC1.out)) HF.out.n HF.out.arcs
      have HALL:=zHd hall;clear c2 hall;go_wp2_with fail;refine HALL.out.mono ?_;rintro e w2 ⟨rfl,_,hg2⟩;have HE:Hid (fitsB m=allB (fitP m.states.length) m):=zHd (by unfold fitsB;rw[decide_eq_true HC1.out,HP.out,decide_eq_true HC2.out];rfl);have HG2:=zHd (zaa HGR0.out hg2);clear hg2;cases hb:allB (fitP m.states.length) m
      all_goals
       rw[hb] at HE;clear hb;go_wp2;go_ret;exact⟨by rw[HE.out];rfl,HG2.out⟩
     ·have n3:¬ (zaW m.states:Int)≤30000:=by omega
      have HN:Hid (fitsB m=false):=zHd (by unfold fitsB;rw[decide_eq_false c2];simp);clear c2;go_wp2;go_ret;exact⟨by rw[HN.out];rfl,HGR0.out⟩
 ·have n2:(3000:Int)<(m.states.length:Int):=by omega
  have HN:Hid (fitsB m=false):=zHd (by unfold fitsB;rw[decide_eq_false c1];rfl);clear c1;go_enter Tryz.func68,Tryz.ntmps68;go_wp2;go_ret;exact⟨by rw[HN.out];rfl,HG.out⟩
open Go.RowKit Go.Maps
noncomputable def weighedB (m:Mach):Bool:=m.states.all (fun s=>finB m.kind s.fin)&&(wgtB m.kind m.lead&&allB (fun a=>wgtB m.kind a.w) m)
theorem zDO {k:Int}{a:ByteArray}(h:wgtB k a=true):zeE k=true:=by
 obtain⟨v,hv⟩:=zmp h;have:=hv.2;cases hk:zeE k
 ·exfalso
  unfold zeE at hk;simp at hk;obtain⟨h1,h2,h3⟩:=hk;cases v with
  | inl b=>cases b <;> simp[wgtE] at this
  | inr x=>simp[wgtE,h1,h2,h3] at this
 ·rfl
theorem zuJ (m:Mach):validB m=(fitsB m&&weighedB m):=by
 rw[Bool.eq_iff_iff];unfold validB headB fitsB weighedB allB;simp only[Bool.and_eq_true,decide_eq_true_eq,List.all_eq_true]
 constructor
 ·rintro ⟨⟨⟨⟨h1,h2,h3,h4,h5⟩,h6⟩,h7⟩,h8⟩
  have hp:=fun s hs=>zeB (h8 s hs);refine⟨⟨h3,⟨h4,by omega⟩,h7,fun s hs a ha => ?_⟩,fun s hs=>(hp s hs).1,h6,fun s hs a ha => ?_⟩
  ·have:=zgj ((hp s hs).2 a ha)
   unfold fitP;simp only[Bool.and_eq_true,decide_eq_true_eq]
   omega
  ·exact(zgj ((hp s hs).2 a ha)).2.2.2.2.2.2
 ·rintro ⟨⟨h3,⟨h4,h5⟩,h7,h8⟩,h9,h6,h10⟩
  refine⟨⟨⟨⟨zDO h6,by omega,h3,h4,by omega⟩,h6⟩,h7⟩,fun s hs => ?_⟩;unfold stB6;simp only[Bool.and_eq_true,List.all_eq_true];refine⟨h9 s hs,fun a ha => ?_⟩;have h1:=h8 s hs a ha;have h2:=h10 s hs a ha;unfold fitP at h1;unfold arcB;simp only[Bool.and_eq_true,decide_eq_true_eq] at h1 ⊢;exact⟨by omega,h2⟩
def zgo (w:World)(m:Mach)(u:Value):World :=
 (((w.alloc (.cells #[.int .i64 m.kind,.int .i64 m.start,.string m.lead,u] 31)).alloc (.map #[] 0)).alloc (.cells #[.map (some (w.heap.size+1))] 92)).alloc (.cells #[.func (.func 127) #[] #[.pointer (some ⟨w.heap.size+2,0,none⟩),.pointer (some ⟨w.heap.size,0,none⟩)]] 69)
theorem zxN (w:World)(m:Mach)(u:Value):zlv (zgo w m u) (w.heap.size+1) (w.heap.size+2) w.heap.size (w.heap.size+3) m u∧KMap (zgo w m u) (w.heap.size+1) m.kind []∧w.grownBy (zgo w m u) none:=by
 unfold zgo;have b1:=zao.new w m u;have g1:w.grownBy (w.alloc (.cells #[.int .i64 m.kind,.int .i64 m.start,.string m.lead,u] 31)) none:=zGA _ _ _;have e1:(w.alloc (.cells #[.int .i64 m.kind,.int .i64 m.start,.string m.lead,u] 31)).heap.size=w.heap.size+1:=by simp
 generalize w.alloc (.cells #[.int .i64 m.kind,.int .i64 m.start,.string m.lead,u] 31)=W1 at *;have k2:=KMap.made W1 m.kind;rw[e1] at k2;have g2:W1.grownBy (W1.alloc (.map #[] 0)) none:=zGA _ _ _;have e2:(W1.alloc (.map #[] 0)).heap.size=w.heap.size+2:=by simp[e1]
 generalize W1.alloc (.map #[] 0)=W2 at *;have c3:=zjr W2 #[.map (some (w.heap.size+1))] 92;rw[e2] at c3;have g3:W2.grownBy (W2.alloc (.cells #[.map (some (w.heap.size+1))] 92)) none:=zGA _ _ _;have e3:(W2.alloc (.cells #[.map (some (w.heap.size+1))] 92)).heap.size=w.heap.size+3:=by simp[e2]
 generalize W2.alloc (.cells #[.map (some (w.heap.size+1))] 92)=W3 at *;have c4:=zjr W3 #[.func (.func 127) #[] #[.pointer (some ⟨w.heap.size+2,0,none⟩),.pointer (some ⟨w.heap.size,0,none⟩)]] 69;rw[e3] at c4;have g4:=zGA W3 (.cells #[.func (.func 127) #[] #[.pointer (some ⟨w.heap.size+2,0,none⟩),.pointer (some ⟨w.heap.size,0,none⟩)]] 69) none;exact⟨⟨(g4.block _ (by omega) (by simp)).trans c3,((b1.grown g2).grown g3).grown g4,c4,by omega,by omega,by omega⟩,(k2.kept (zaa g3 g4) (by simp)),zaa g1 (zaa g2 (zaa g3 g4))⟩
theorem zDP (w:World):(Instr.makeMap 92 none).run Tryz.prog w = .ok (.map (some w.heap.size)) (w.alloc (.map #[] 0)):=by
 simp only[Instr.makeMap,Sem.run_bind,run_underlying Tryz.underlying92,Result.andThen]
 rfl
theorem zuK {w0 W:World}{b kv bx wv:Nat}{m:Mach}{u:Value}{s:zah}{a:MArc}(hw:zlv w0 b kv bx wv m u)(hinv:zft w0 b m W)(hs:s∈m.states)(ha:a∈s.arcs)(hf:zfp m)(hl:(allW m).length≤100000) :
  Calls Tryz.prog 129 #[.agg #[.int .i64 a.i,.int .i64 a.o,.string a.w,.int .i64 a.t],.pointer (some ⟨wv,0,none⟩)] W (zrp (zft w0 b m) (some b) (wgtB m.kind a.w) W):=by
 have hg:=zGA W (.cells #[.int .i64 a.i,.int .i64 a.o,.string a.w,.int .i64 a.t] 59) none;have hinv2:=hinv.next hg;have HC:=zHd (zjq hw hinv2 (zDM hs ha) (hf.w s hs a ha) hl);have HG:=zHd hg;obtain⟨x0,_⟩:=one_cell (hw.at_ hinv2.1).hwv;clear hinv2 hg hw hinv;go_enter Tryz.func129,Tryz.ntmps129;go_wp2_with fail;refine HC.out.mono ?_;rintro e w2 ⟨rfl,hi,hg2⟩;have HI:=zHd hi;have HG2:=zHd hg2;clear hi hg2;go_wp2;go_ret;exact⟨rfl,HI.out,World.grownBy.trans (zdY HG.out) HG2.out⟩
theorem zxO {m:Mach}{k:Nat}(hk:¬ k<m.states.length)(h:∀ (j:Nat) (s:zah),j<k→m.states[j]? = some s→finB m.kind s.fin=true):m.states.all (fun s=>finB m.kind s.fin)=true:=by
 rw[List.all_eq_true];intro s hs;obtain⟨j,hj⟩:=List.mem_iff_getElem?.1 hs;exact h j s (by have:=(List.getElem?_eq_some_iff.1 hj).1;omega) hj
theorem zpx {m:Mach}{k:Nat}{s:zah}(hs:m.states[k]? = some s)(h:finB m.kind s.fin=false):weighedB m=false:=by
 unfold weighedB;rw[show m.states.all (fun s=>finB m.kind s.fin)=false from ?_,Bool.false_and];cases hx:m.states.all (fun s=>finB m.kind s.fin)
 ·rfl
 ·have:=List.all_eq_true.1 hx s (List.mem_of_getElem? hs)
  rw[this] at h;cases h
theorem zuL {w:World}{v:Value}{m:Mach}(hv:zcr w v m)(hf:zfp m)(hl:(allW m).length≤100000):Calls Tryz.prog 69 #[v] w (zab (.bool (weighedB m)) w):=by
 obtain⟨u,rfl,hst0⟩:=hv;obtain⟨A,cap,us,rfl,hS0⟩:=StAt.of hst0;obtain⟨hb,hk,hg⟩:=zxN w m (.slice A m.states.length cap);have HS:=zHd hS0;have HB:=zHd hb;have HG:=zHd hg;have HF:=zHd hf;have HL:=zHd hl;have H0:Hid (zft (zgo w m (.slice A m.states.length cap)) (w.heap.size+1) m (zgo w m (.slice A m.states.length cap))):=zHd ⟨World.grownBy.refl _ _,[],hk,List.nodup_nil,fun s hs=>by simp at hs⟩;have hmk:=zDP;have hn0:=hf.n;have hn1:m.states.length≤100000:=by have:=ztu m;omega
 obtain⟨x0,x1,x2,x3⟩:=hb.hbx.cells;obtain⟨y0,_⟩:=one_cell hb.hwv;clear hst0 hS0 hb hk hg hf hl;go_enter Tryz.func69,Tryz.ntmps69;go_wp2_with fail;have hW:zgo w m (.slice A m.states.length cap)=(((w.alloc (.cells #[.int .i64 m.kind,.int .i64 m.start,.string m.lead,.slice A m.states.length cap] 31)).alloc (.map #[] 0)).alloc (.cells #[.map (some (w.heap.size+1))] 92)).alloc (.cells #[.func (.func 127) #[] #[.pointer (some ⟨w.heap.size+2,0,none⟩),.pointer (some ⟨w.heap.size,0,none⟩)]] 69):=rfl;rw[← hW];clear hW;generalize zgo w m (.slice A m.states.length cap)=W at *;have BEL:∀ W',zft W (w.heap.size+1) m W'→Below w.heap.size w W':=fun W' h=>(zaO HG.out).grown h.1 HG.out.size (fun k e=>by cases e;omega);have HBEL:=zHd BEL;clear BEL
 go_loopw [12] (fun i wr=>∃ k:Nat,i = .int .i64 k∧k≤m.states.length∧(∀ (j:Nat) (s:zah),j<k→m.states[j]? = some s→finB m.kind s.fin=true)∧zft W (w.heap.size+1) m wr) (fun i _=>m.states.length - (intOf i).toNat)
 case atStart=>exact⟨0,rfl,by omega,fun j s hj=>by omega,H0.out⟩
 case round =>
  obtain⟨k,rfl,hk,hall,hinv⟩:=hrel;have HALL:=zHd hall;have HINV:=zHd hinv;have HB2:=zHd (HB.out.at_ hinv.1);clear hall x0 x1 x2 x3 y0;obtain⟨x0,x1,x2,x3⟩:=HB2.out.hbx.cells;obtain⟨y0,_⟩:=one_cell HB2.out.hwv
  by_cases hlt:k<m.states.length
  ·obtain⟨ad,s,B,cb,hA,hs,hu,hc,hra⟩:=(HS.out.below (HBEL.out _ hinv)).at_ hlt
   subst hA;obtain⟨z0,z1⟩:=hc;have n1:(k:Int)<(m.states.length:Int):=by omega
   have n2:IntKind.i64.wrap ((k:Int)+1)=(k:Int)+1:=by rw[IntKind.wrap_i64];omega
   have HSS:=zHd hs;have hinv2:=hinv.next (zGA wr (.cells #[.string s.fin,.slice B s.arcs.length cb] 57) none);have HINV2:=zHd hinv2;have y1:=(one_cell (HB.out.at_ hinv2.1).hwv).1;clear hu hra hinv hinv2
   by_cases hf0:s.fin.size=0
   ·have hfb:finB m.kind s.fin=true:=by unfold finB;simp[hf0]
    have b1:(s.fin.toList == [])=true:=by rw[Lib.toList_data,beq_iff_eq,← List.length_eq_zero_iff,Array.length_toList];exact hf0
    have b2:(s.fin.toList != [])=false:=zAo b1;have HFB:=zHd hfb;clear hfb hs;go_wp2
    go_roundw
    case rel=>exact⟨k+1,by go_num,by omega,fun j t hj ht=>by
     by_cases e:j=k
     ·subst e;rw[HSS.out] at ht;cases ht;exact HFB.out
     ·exact HALL.out j t (by omega) ht,HINV2.out⟩
    case measure=>simp[intOf];omega
   ·have b1:(s.fin.toList == [])=false:=by
     cases h:(s.fin.toList == [])
     ·rfl
     ·rw[Lib.toList_data,beq_iff_eq,← List.length_eq_zero_iff,Array.length_toList] at h;exact absurd h hf0
    have b2:(s.fin.toList != [])=true:=zAp b1;have hfb:finB m.kind s.fin=wgtB m.kind s.fin:=by unfold finB;simp[hf0]
    have HFB:=zHd hfb;have HC:=zHd (zjq HB.out HINV2.out (zDL (List.mem_of_getElem? hs)) (HF.out.fin s (List.mem_of_getElem? hs)) HL.out);clear hfb hs;go_wp2_with fail;refine HC.out.mono ?_;rintro e w5 ⟨rfl,hinv5,hg5⟩;have HINV5:=zHd hinv5;have HG5:=zHd ((HBEL.out _ hinv5));clear hinv5 hg5;cases hwb:wgtB m.kind s.fin
    ·have HN:=zHd (zpx HSS.out (HFB.out.trans hwb))
     clear hwb;go_wp2;go_ret;exact⟨by rw[HN.out];rfl,zaI HG5.out⟩
    ·have HF1:=zHd (HFB.out.trans hwb)
     clear hwb;go_wp2
     go_roundw
     case rel=>exact⟨k+1,by go_num,by omega,fun j t hj ht=>by
      by_cases e:j=k
      ·subst e;rw[HSS.out] at ht;cases ht;exact HF1.out
      ·exact HALL.out j t (by omega) ht,HINV5.out⟩
     case measure=>simp[intOf];omega
  ·have n1:¬ (k:Int)<(m.states.length:Int):=by omega
   have HFI:=zHd (zxO hlt HALL.out);have HC:=zHd (zjq HB.out hinv (show m.lead∈allW m from List.mem_cons_self ..) HF.out.lead HL.out);clear hinv;go_wp2_with fail;refine HC.out.mono ?_;rintro e w5 ⟨rfl,hinv5,hg5⟩;have HINV5:=zHd hinv5;have HG5:=zHd ((HBEL.out _ hinv5));clear x0 x1 x2 x3 y0;obtain⟨x0,x1,x2,x3⟩:=(HB.out.at_ hinv5.1).hbx.cells;clear hinv5 hg5;cases hwb:wgtB m.kind m.lead
   ·have HN:Hid (weighedB m=false):=zHd (by unfold weighedB;rw[hwb];simp)
    clear hwb;go_wp2;go_ret;exact⟨by rw[HN.out];rfl,zaI HG5.out⟩
   ·have HE:Hid (weighedB m=allB (fun a=>wgtB m.kind a.w) m):=zHd (by unfold weighedB;rw[hwb,HFI.out];rfl)
    have hall:=zvW (w:=w5) (A:=A) (cap:=cap) (us:=us) (m:=m) (Inv:=zft W (w.heap.size+1) m) (r:=some (w.heap.size+1)) (F:=129) (lb:=#[.pointer (some ⟨w.heap.size+3,0,none⟩)]) (P:=fun a=>wgtB m.kind a.w) zpw
     (fun W1 W2 h1 h2=>h1.next h2) (fun W1 h1=>HS.out.below (HBEL.out _ h1)) (fun k e=>by cases e;have:=HB.out.hwv;have:=lt_of_block this;have:=HINV5.out.1.size;omega) HINV5.out
     (fun W1 s a hI hs ha=>zuK HB.out hI hs ha HF.out HL.out) HF.out.n HF.out.arcs
    have HA:=zHd hall;clear hall hwb;go_wp2_with fail;refine HA.out.mono ?_;rintro e w6 ⟨rfl,hinv6,hg6⟩;have HG6:=zHd (HBEL.out _ hinv6);clear hinv6 hg6;cases hb:allB (fun a=>wgtB m.kind a.w) m
    all_goals
     rw[hb] at HE;clear hb;go_wp2;go_ret;exact⟨by rw[HE.out];rfl,zaI HG6.out⟩
theorem ztw {w:World}{v:Value}{m:Mach}(hv:zcr w v m)(hf:zfp m)(h:fitsB m=true):Calls Tryz.prog 69 #[v] w (zab (.bool (weighedB m)) w):=by
 refine zuL hv hf ?_;unfold fitsB at h;simp only[Bool.and_eq_true,decide_eq_true_eq] at h;rw[ztu];omega
theorem znY {w:World}{v:Value}{m:Mach}(hv:zcr w v m)(hf:zfp m):Calls Tryz.prog 37 #[v] w (zab (.bool (validB m)) w):=by
 have hfit:=fun w' (h:w.grownBy w' none)=>zDN (hv.grown h) hf;have hwei:=fun w' (h:w.grownBy w' none)=>ztw (hv.grown h) hf;have HSP:=zHd (zuJ m);obtain⟨u,rfl,hst0⟩:=hv;have hg:w.grownBy (w.alloc (.cells #[.int .i64 m.kind,.int .i64 m.start,.string m.lead,u] 31)) none:=zGA _ _ _;have hbx:=zao.new w m u;have HFI:=zHd hfit;have HWE:=zHd hwei;have HBX:=zHd hbx;have HG:=zHd hg;obtain⟨x0,x1,x2,x3⟩:=hbx.cells;clear hfit hwei hbx hg hst0;go_enter Tryz.func37,Tryz.ntmps37;go_wp2_with fail;refine(HFI.out _ HG.out).mono ?_;rintro e w1 ⟨rfl,hg1⟩;generalize hW:w.alloc (.cells #[.int .i64 m.kind,.int .i64 m.start,.string m.lead,u] 31)=W at *;clear hW x0 x1 x2 x3;have HG1:=zHd (zaa HG.out hg1);obtain⟨x0,x1,x2,x3⟩:=(HBX.out.grown hg1).cells;clear hg1;cases hB:fitsB m
 ·have HN:Hid (validB m=false):=zHd (by rw[HSP.out,hB];rfl)
  clear hB;go_wp2;go_ret;exact⟨by rw[HN.out];rfl,HG1.out⟩
 ·have HB:=zHd hB
  clear hB;go_wp2_with fail;refine(HWE.out _ HG1.out HB.out).mono ?_;rintro e w2 ⟨rfl,hg2⟩;have HG2:=zHd (zaa HG1.out hg2);clear hg2;cases hB:weighedB m
  all_goals
   have HE:Hid (validB m=_):=zHd ((HSP.out.trans (by rw[HB.out,hB])));clear hB;go_wp2;go_ret;exact⟨by rw[HE.out];rfl,HG2.out⟩
end Go.Proofs.YtaogepcaoogpgaaGreatDoor
