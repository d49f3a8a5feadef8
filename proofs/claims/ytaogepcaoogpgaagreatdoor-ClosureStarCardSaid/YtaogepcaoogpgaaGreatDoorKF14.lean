/- Part. -/
import Derived.Test.YtaogepcaoogpgaaGreatDoorKF13
set_option linter.unusedVariables false
set_option linter.unusedSimpArgs false
set_option maxRecDepth 100000
set_option maxHeartbeats 16000000
namespace Go.Proofs.YtaogepcaoogpgaaGreatDoor
noncomputable def trimM (m:zak):zak:=trimW (zcm m.kind) m
theorem zgK {m:zak}(h:usefulL m=[]):trimM m=zcm m.kind:=by unfold trimM trimW;rw[if_pos h]
theorem zeU {m:zak}(h:usefulL m≠[]):trimM m=zba m (usefulL m):=by unfold trimM trimW;rw[if_neg h]
theorem zly (m:zak):(trimM m).kind=m.kind:=by
 by_cases h:usefulL m=[]
 ·rw[zgK h];rfl
 ·rw[zeU h];rfl
theorem zjo {m:zak}(h:validB m=true):Wf m:=by
 obtain⟨_,_,_,h1,h2,_⟩:=zeP (zeO h);refine⟨⟨h1,h2⟩,fun s hs a ha=>?_⟩;obtain⟨k,hk⟩:=List.mem_iff_getElem?.1 hs;have:=zia ((zga (zhe h hk)).2 a ha);exact⟨this.2.2.2.2.1,this.2.2.2.2.2.1⟩
theorem zxG {m:zak}(h:validB m=true){s:zai}(hs:s∈m.states):finB m.kind s.fin=true/\∀ a∈s.arcs,arcB m.kind m.states.length a=true:=by
 obtain⟨k,hk⟩:=List.mem_iff_getElem?.1 hs;exact zga (zhe h hk)
theorem zED {k:Int}{n n':Nat}{a a':zaN}(h:arcB k n a=true)(hi:a'.i=a.i)(ho:a'.o=a.o)(hw:a'.w=a.w)(ht:0<=a'.t/\a'.t<(n':Int)):arcB k n' a'=true:=by
 obtain⟨h1,h2,h3,h4,h5,h6,h7⟩:=zia h;unfold arcB;rw[hi,ho,hw,h7];simp only[Bool.and_true,zqca];omega
theorem zHJ {m n:zak}(h:validB m=true)(hk:n.kind=m.kind)(hl:n.lead=m.lead)(h1:1<=n.states.length)(h2:n.states.length<=3000)(hs:0<=n.start/\n.start<(n.states.length:Int))(ha:zbu n.states<=30000)
  (hst:∀ s∈n.states,finB m.kind s.fin=true/\∀ a∈s.arcs,arcB m.kind n.states.length a=true):validB n=true:=by
 obtain⟨k1,_,_,_,_,k6⟩:=zeP (zeO h);unfold validB headB;rw[hk,hl,k1,k6];simp only[Bool.true_and,Bool.and_true,zqbb,zqca,List.all_eq_true];refine⟨⟨⟨h1,h2,hs⟩,ha⟩,fun s hm=>?_⟩;unfold stB6;rw[(hst s hm).1];simp only[Bool.true_and,List.all_eq_true];exact(hst s hm).2
theorem zBd {k:Int}(h:zgd k=true):validB (zcm k)=true:=by
 have hk:=(zsR k).1 h;have hw:Wgt k (zal k) (zhV k):=⟨zrL hk,by rcases hk with rfl|rfl|rfl <;> decide +kernel⟩;unfold validB headB zcm;simp only[h,zoG hw];simp[zbu,stB6,finB]
theorem zlz (f:Nat->Nat):∀ (n:Nat) (l:List Nat),l.Nodup->(∀ x∈l,x<n)->(l.map f).sum<=((List.range n).map f).sum
 | 0,l,_,hb=>by
  cases l with
  | nil=>simp
  | cons x l=>exact absurd (hb x (zqbm ..)) (by omega)
 | n+1,l,hn,hb=>by
  rw[List.range_succ,List.map_append,List.sum_append]
  by_cases h:n∈l
  ·have hp:=List.perm_cons_erase h
   have h1:=(hp.map f).sum_nat;rw[List.map_cons,List.sum_cons] at h1
   have h2:=zlz f n (l.erase n) (hn.erase n) (fun x hx=>by
    have h3:=(List.Nodup.mem_erase_iff hn).1 hx;have:=hb x h3.2;have:=h3.1;omega)
   simp only[List.map_cons,List.map_nil,List.sum_cons,List.sum_nil];omega
  ·have h2:=zlz f n l hn (fun x hx=>by
    have:=hb x hx;have:x≠n:=fun e=>h (e▸hx);omega)
   omega
theorem zwj (m:zak):(List.range m.states.length).map (zhy m)=m.states:=by
 apply List.ext_getElem?;intro i;rw[zqaj]
 by_cases h:i<m.states.length
 ·rw[zqbe h]
  have hs:m.states[i]?=some m.states[i]:=zqac h;rw[hs];simp[zhz hs]
 ·rw[zqas (by simp;omega),zqas (by omega)];rfl
theorem zxH (m:zak):zbu m.states=((List.range m.states.length).map (fun x=>(zhy m x).arcs.length)).sum:=by
 conv=>lhs;rw[<- zwj m]
 unfold zbu;rw[List.map_map];rfl
theorem zEE {α:Type}(f g:α->Nat):∀ l:List α,(∀ x∈l,f x<=g x)->(l.map f).sum<=(l.map g).sum
 | [],_=>by simp
 | x::l,h=>by
  have h1:=h x (zqbm ..);have h2:=zEE f g l (fun y hy=>h y (zqao _ hy));simp only[List.map_cons,List.sum_cons];omega
theorem zHK {m:zak}{x:Nat}(h:x<m.states.length):zhy m x∈m.states:=by
 have hs:m.states[x]?=some m.states[x]:=zqac h;rw[zhz hs];exact List.getElem_mem h
theorem zxI {m:zak}{l:List Nat}(h:validB m=true)(hn:l.Nodup)(hb:∀ x∈l,x<m.states.length)(hs:m.start.toNat∈l):validB (zba m l)=true:=by
 obtain⟨_,_,h3,_,_,_⟩:=zeP (zeO h);have hlen:(zba m l).states.length=l.length:=zfx m l;have hshort:=zka hn hb;have hi:=ztb hs;refine zHJ h rfl rfl (by rw[hlen];omega) (by rw[hlen];omega) ⟨by show 0<=((l.idxOf m.start.toNat:Nat):Int);omega,by rw[hlen];show((l.idxOf m.start.toNat:Nat):Int)<_;omega⟩ ?_ ?_
 ·refine zqam ?_ (zll h)
  rw[zxH m];refine zqam ?_ (zlz (fun x=>(zhy m x).arcs.length) m.states.length l hn hb);unfold zbu zba;rw[List.map_map];exact zEE _ _ l (fun x _=>List.length_filterMap_le _ _)
 ·intro s hm
  simp only[zba,zqbf] at hm;obtain⟨x,hx,rfl⟩:=hm;have hv:=zxG h (zHK (hb x hx));refine⟨hv.1,fun a ha=>?_⟩;simp only[zjj,List.mem_filterMap] at ha;obtain⟨b,hb1,hb2⟩:=ha;unfold zdy at hb2;split at hb2
  ·rename_i hin
   cases hb2;have:=ztb hin;exact zED (hv.2 b hb1) rfl rfl rfl ⟨by show 0<=((l.idxOf b.t.toNat:Nat):Int);omega,by rw[hlen];show((l.idxOf b.t.toNat:Nat):Int)<_;omega⟩
  ·cases hb2
theorem zmZ (m:zak):∀ x∈usefulL m,x<m.states.length:=fun x hx=>List.mem_range.1 (List.mem_filter.1 hx).1
theorem zqA {m:zak}(hw:Wf m)(h:usefulL m≠[]):m.start.toNat∈usefulL m:=by
 rw[zdz hw]
 by_cases hu:zji m m.start.toNat
 ·exact hu
 ·exact absurd ((zqt hw).2 hu) h
theorem zqB {m:zak}(h:validB m=true):validB (trimM m)=true:=by
 by_cases hu:usefulL m=[]
 ·rw[zgK hu]
  exact zBd (zeP (zeO h)).1
 ·rw[zeU hu]
  exact zxI h (zmJ m) (zmZ m) (zqA (zjo h) hu)
def bare (s:zai):zai:=⟨ByteArray.empty,s.arcs⟩
open Go.RowKit
theorem zwk (k:Int)(w:World):Calls Tryz.prog 146 #[.int .i64 k] w (zmH (zcm k) w):=by
 obtain⟨i0,hi,hz0,hz1,hz2⟩:=zdb zyA;have RO:=zHd (zoz k);have hb0:=zav.new w zbk (.slice none 0 0);have hg0:w.grownBy (w.alloc (.cells #[.int .i64 zbk.kind,.int .i64 zbk.start,.string zbk.lead,.slice none 0 0] 31)) none:=zGA _ _ _;have HP:=zHd (zoN hb0 hg0);clear hb0 hg0
 obtain⟨mk,hmk,hmg,hms⟩:∃ mk:World->World,(∀ w:World,(Instr.makeSlice 29 (.int .i64 1) (.int .i64 1)).run Tryz.prog w=.ok (.slice (some ⟨w.heap.size,0,none⟩) 1 1) (mk w))/\(∀ w:World,w.grownBy (mk w) none)/\∀ w:World,(mk w).heap[w.heap.size]?=some (.cells #[.string ByteArray.empty,.slice none 0 0] 57 (0,0)) :=
  ⟨fun w=>w.alloc (.cells #[.string ByteArray.empty,.slice none 0 0] 57),fun w=>run_makeSlice w 29 57 i0 _ Tryz.underlying29 hi hz0 .i64 .i64 1 1 (by decide) (by decide) (by rw[hz1];decide) (by rw[hz2];decide) (by decide) |>.trans (by rw[hz1,zJu];rfl),fun w=>zGA _ _ _,fun w=>by show(w.heap.push _)[w.heap.size]?=_;rw[zqaz]⟩
 have HMS:=zHd hms;have HMG:=zHd hmg;clear hms hmg;go_enter Tryz.func146,Tryz.ntmps146;go_upto_region 1 with(fail);clear hi hz0 hz1 hz2;have hp:=HP.out.next_drew;unfold Place at hp;obtain⟨hp1,hp2⟩:=hp
 go_region_held3 (fun W'=>True) (trivial)
  (first
   | (go_at_call 34;refine(RO.out _).mono ?_;rintro e w5 ⟨rfl,hg5⟩;have s1:=zln w hg5 (by first|exact⟨hp1,hp2⟩|exact zln w (HMG.out _) ⟨hp1,hp2⟩);obtain⟨⟨q0,q1,q2,q3,f0,f1,f2,f3⟩,_⟩:=id s1;have s2:=zln w (HMG.out w5) s1;obtain⟨⟨r0,r1,r2,r3,e0,e1,e2,e3⟩,_⟩:=id s2))
 ·have P:=zqr (n:=zcm k) (v:=.slice (some ⟨w5.heap.size,0,none⟩) 1 1) s2
  have t3:=zsZ ((P.2.2 w5.heap.size (by have:=s1.2.out.1.lt;omega) (zqad.1 (HMS.out w5)).1).trans (HMS.out w5)) (B:=w.heap.size) (by have:=s1.2.out.2.size;omega);simp only[zcm] at P t3;clear hp1 hp2 s1 q0 q1 q2 q3 f0 f1 f2 f3 s2 r0 r1 r2 r3 e0 e1 e2 e3;have T:=zHd t3;have T2:=zHd P.2.1;obtain⟨c0,c1,c2,c3⟩:=P.1.cells;simp only[] at c0 c1 c2 c3;clear P t3;go_wp2_with fail;generalize ((((mk w5).setCell ⟨w.heap.size,0,none⟩ (.int .i64 k)).setCell ⟨w.heap.size,1,none⟩ (.int .i64 0)).setCell ⟨w.heap.size,2,none⟩ (.string (zal k))).setCell ⟨w.heap.size,3,none⟩ (.slice (some ⟨w5.heap.size,0,none⟩) 1 1)=WW at *;exact zqby (v:=.agg #[.int .i64 k,.int .i64 0,.string (zal k),.slice (some ⟨w5.heap.size,0,none⟩) 1 1]) (by simp[results,Tryz.results146,go_sem,c0,c1,c2,c3]) rfl ⟨_,rfl,⟨_,rfl,T.out⟩,T2.out⟩
 ·have P:=zqr (n:=zcm k) (v:=.slice (some ⟨w.heap.size+1,0,none⟩) 1 1) s1
  have hs:=HMS.out (w.alloc (.cells #[.int .i64 0,.int .i64 0,.string ⟨#[]⟩,.slice none 0 0] 31)).drew;have hs2:=(hg5.block _ (zqad.1 hs).1 (by simp)).trans hs;rw[show(w.alloc (.cells #[.int .i64 0,.int .i64 0,.string ⟨#[]⟩,.slice none 0 0] 31)).drew.heap.size=w.heap.size+1 by simp] at hs2;have t3:=zsZ ((P.2.2 (w.heap.size+1) (by omega) (zqad.1 hs2).1).trans hs2) (B:=w.heap.size) (by omega);simp only[zcm] at P t3;clear hs hs2;clear hp1 hp2 s1 q0 q1 q2 q3 f0 f1 f2 f3;have T:=zHd t3;have T2:=zHd P.2.1;obtain⟨c0,c1,c2,c3⟩:=P.1.cells;simp only[] at c0 c1 c2 c3;clear P t3;go_wp2_with fail;generalize (((w5.setCell ⟨w.heap.size,0,none⟩ (.int .i64 k)).setCell ⟨w.heap.size,1,none⟩ (.int .i64 0)).setCell ⟨w.heap.size,2,none⟩ (.string (zal k))).setCell ⟨w.heap.size,3,none⟩ (.slice (some ⟨(w.heap.size+1),0,none⟩) 1 1)=WW at *;exact zqby (v:=.agg #[.int .i64 k,.int .i64 0,.string (zal k),.slice (some ⟨(w.heap.size+1),0,none⟩) 1 1]) (by simp[results,Tryz.results146,go_sem,c0,c1,c2,c3]) rfl ⟨_,rfl,⟨_,rfl,T.out⟩,T2.out⟩
open Go.RowKit
theorem zxJ {m:zak}(h:validB m=true):Small m:=⟨zjo h,zDW h,fun s hs=>zDX h hs⟩
theorem zEF {w:World}{v:Value}{m:zak}(hv:zdo w v m)(hm:Small m):Calls Tryz.prog 100 #[v] w (zmH (trimM m) w):=by
 have hv0:=hv;obtain⟨u,rfl,hst0⟩:=hv;obtain⟨A,cap,us,rfl,hS0⟩:=zdR.of hst0;have hg:w.grownBy (w.alloc (.cells #[.int .i64 m.kind,.int .i64 m.start,.string m.lead,.slice A m.states.length cap] 31)) none:=zGA _ _ _;have hbx:=zav.new w m (.slice A m.states.length cap);have hg2:=zGA (w.alloc (.cells #[.int .i64 m.kind,.int .i64 m.start,.string m.lead,.slice A m.states.length cap] 31)) (.cells #[.int .i64 zbk.kind,.int .i64 zbk.start,.string zbk.lead,.slice none 0 0] 31) none;have hb2:=zav.new (w.alloc (.cells #[.int .i64 m.kind,.int .i64 m.start,.string m.lead,.slice A m.states.length cap] 31)) zbk (.slice none 0 0);have e1:(w.alloc (.cells #[.int .i64 m.kind,.int .i64 m.start,.string m.lead,.slice A m.states.length cap] 31)).heap.size=w.heap.size+1:=by simp
 rw[e1] at hb2;have hsz2:w.heap.size+2<=((w.alloc (.cells #[.int .i64 m.kind,.int .i64 m.start,.string m.lead,.slice A m.states.length cap] 31)).alloc (.cells #[.int .i64 zbk.kind,.int .i64 zbk.start,.string zbk.lead,.slice none 0 0] 31)).heap.size:=by simp
 have HSZ2:=zHd hsz2;have HV0:=zHd hv0;have HB1:=zHd (hbx.grown hg2);have HB2:=zHd hb2;have HG:=zHd (zaa hg hg2);obtain⟨x0,x1,x2,x3⟩:=zav.cells HB1.out;clear hbx hg hst0 hS0 hv0 hg2 hb2 e1 hsz2;have HM:=zHd hm;have HU:=zHd (zBc (HV0.out.grown HG.out) hm);clear hm;go_enter Tryz.func100,Tryz.ntmps100;go_wp2_with fail;refine HU.out.mono ?_;rintro e w1 ⟨lv,rfl,hl,hg1⟩;have HL:=zHd hl;obtain⟨Al,capl,rfl,hrl⟩:=hl;have HSZ1:Hid (w.heap.size+2<=w1.heap.size):=zHd (zqam HSZ2.out hg1.size);have HG1:=zHd (zaa HG.out hg1);have HB1a:=zHd (zav.grown HB1.out hg1);have HB2a:=zHd (zav.grown HB2.out hg1);clear hg1 hrl HU HSZ2 HB1 HB2 HG x0 x1 x2 x3;obtain⟨x0,x1,x2,x3⟩:=zav.cells HB1a.out
 by_cases h0:usefulL m=[]
 ·have HT:=zHd (zgK h0)
  have n0:(usefulL m).length=0:=by rw[h0];rfl
  have HC:=zHd (zwk m.kind w1);clear h0;rw[n0];go_wp2_with fail;refine HC.out.mono ?_;intro e w2 h2;obtain⟨A2,k2,rfl,hsz,hg2⟩:=h2.open6;have hle:=HSZ1.out;have HGZ:=zHd (zaa HG1.out hg2);have hbz:=zav.grown HB2a.out hg2;clear h2 hg2 x0 x1 x2 x3;obtain⟨v0,v1,v2,v3⟩:=hbz.cells;simp only[zbk] at v0 v1 v2;have f0:=hbz.free 0;have f1:=hbz.free 1;have f2:=hbz.free 2;have f3:=hbz.free 3;obtain⟨hbf,hgf⟩:=zhE (n:=(zcm m.kind)) (v:=.slice A2 (zcm m.kind).states.length k2) hbz;have HGF:=zHd (zaj (g:=w.heap.size+1) HGZ.out hgf (by omega));have T:=zHd ((hsz.kept (zib hgf (by omega))).mono (C:=w.heap.size) (by omega));obtain⟨c0,c1,c2,c3⟩:=hbf.cells;clear hsz hbz hbf hgf;go_wp2_with fail;generalize (((w2.setCell ⟨w.heap.size+1,0,none⟩ (.int .i64 (zcm m.kind).kind)).setCell ⟨w.heap.size+1,1,none⟩ (.int .i64 (zcm m.kind).start)).setCell ⟨w.heap.size+1,2,none⟩ (.string (zcm m.kind).lead)).setCell ⟨w.heap.size+1,3,none⟩ (.slice A2 (zcm m.kind).states.length k2)=WW at *;exact zqby (v:=.agg #[.int .i64 (zcm m.kind).kind,.int .i64 (zcm m.kind).start,.string (zcm m.kind).lead,.slice A2 (zcm m.kind).states.length k2]) (by simp[results,Tryz.results100,go_sem,c0,c1,c2,c3]) rfl ⟨_,rfl,by rw[HT.out];exact⟨_,rfl,T.out⟩,HGF.out⟩
 ·have HT:=zHd (zeU h0)
  have n0:¬ (usefulL m).length=0:=fun e=>h0 (List.eq_nil_of_length_eq_zero e);have n1:¬ ((usefulL m).length:Int)=0:=by omega
  have HC:=zHd (zHF (HV0.out.grown HG1.out) HM.out HL.out (zmJ m) (zmZ m) (zqA HM.out.wf h0));clear h0;go_wp2_with fail;refine HC.out.mono ?_;intro e w2 h2;obtain⟨A2,k2,rfl,hsz,hg2⟩:=h2.open6;have hle:=HSZ1.out;have HGZ:=zHd (zaa HG1.out hg2);have hbz:=zav.grown HB2a.out hg2;clear h2 hg2 x0 x1 x2 x3;obtain⟨v0,v1,v2,v3⟩:=hbz.cells;simp only[zbk] at v0 v1 v2;have f0:=hbz.free 0;have f1:=hbz.free 1;have f2:=hbz.free 2;have f3:=hbz.free 3;obtain⟨hbf,hgf⟩:=zhE (n:=(zba m (usefulL m))) (v:=.slice A2 (zba m (usefulL m)).states.length k2) hbz;have HGF:=zHd (zaj (g:=w.heap.size+1) HGZ.out hgf (by omega));have T:=zHd ((hsz.kept (zib hgf (by omega))).mono (C:=w.heap.size) (by omega));obtain⟨c0,c1,c2,c3⟩:=hbf.cells;clear hsz hbz hbf hgf;go_wp2_with fail;generalize (((w2.setCell ⟨w.heap.size+1,0,none⟩ (.int .i64 (zba m (usefulL m)).kind)).setCell ⟨w.heap.size+1,1,none⟩ (.int .i64 (zba m (usefulL m)).start)).setCell ⟨w.heap.size+1,2,none⟩ (.string (zba m (usefulL m)).lead)).setCell ⟨w.heap.size+1,3,none⟩ (.slice A2 (zba m (usefulL m)).states.length k2)=WW at *;exact zqby (v:=.agg #[.int .i64 (zba m (usefulL m)).kind,.int .i64 (zba m (usefulL m)).start,.string (zba m (usefulL m)).lead,.slice A2 (zba m (usefulL m)).states.length k2]) (by simp[results,Tryz.results100,go_sem,c0,c1,c2,c3]) rfl ⟨_,rfl,by rw[HT.out];exact⟨_,rfl,T.out⟩,HGF.out⟩
noncomputable def trimV (m:zak):zak×Int:=if validB m=true then (trimM m,0) else (zbk,1)
theorem zEG {w:World}{v:Value}{m:zak}(hv:zdo w v m)(hf:zhd m):Calls Tryz.prog 56 #[v] w (zAz (trimV m) w):=by
 have hval:=fun w' (h:w.grownBy w' none)=>zqy (hv.grown h) hf;have HV:=zHd hval;clear hval;have hv0:=hv;obtain⟨u,rfl,hst0⟩:=hv;obtain⟨A,cap,us,rfl,hS0⟩:=zdR.of hst0;have hg:w.grownBy (w.alloc (.cells #[.int .i64 m.kind,.int .i64 m.start,.string m.lead,.slice A m.states.length cap] 31)) none:=zGA _ _ _;have hbx:=zav.new w m (.slice A m.states.length cap);have hg2:=zGA (w.alloc (.cells #[.int .i64 m.kind,.int .i64 m.start,.string m.lead,.slice A m.states.length cap] 31)) (.cells #[.int .i64 zbk.kind,.int .i64 zbk.start,.string zbk.lead,.slice none 0 0] 31) none;have hb2:=zav.new (w.alloc (.cells #[.int .i64 m.kind,.int .i64 m.start,.string m.lead,.slice A m.states.length cap] 31)) zbk (.slice none 0 0);have e1:(w.alloc (.cells #[.int .i64 m.kind,.int .i64 m.start,.string m.lead,.slice A m.states.length cap] 31)).heap.size=w.heap.size+1:=by simp
 rw[e1] at hb2;have hsz2:w.heap.size+2<=((w.alloc (.cells #[.int .i64 m.kind,.int .i64 m.start,.string m.lead,.slice A m.states.length cap] 31)).alloc (.cells #[.int .i64 zbk.kind,.int .i64 zbk.start,.string zbk.lead,.slice none 0 0] 31)).heap.size:=by simp
 have HSZ2:=zHd hsz2;have HV0:=zHd hv0;have HB1:=zHd (hbx.grown hg2);have HB2:=zHd hb2;have HG:=zHd (zaa hg hg2);obtain⟨x0,x1,x2,x3⟩:=zav.cells HB1.out;clear hbx hg hst0 hS0 hv0 hg2 hb2 e1 hsz2;go_enter Tryz.func56,Tryz.ntmps56;go_wp2_with fail;refine(HV.out _ HG.out).mono ?_;rintro e w1 ⟨rfl,hg1⟩;have HSZ1:Hid (w.heap.size+2<=w1.heap.size):=zHd (zqam HSZ2.out hg1.size);have HG1:=zHd (zaa HG.out hg1);have HB1a:=zHd (zav.grown HB1.out hg1);have HB2a:=zHd (zav.grown HB2.out hg1);clear hg1 HSZ2 HB1 HB2 HG x0 x1 x2 x3;obtain⟨x0,x1,x2,x3⟩:=zav.cells HB1a.out;cases hB:validB m
 ·have HN:Hid (trimV m=(zbk,1)):=zHd (by unfold trimV;rw[hB];rfl)
  have hle:=HSZ1.out;have HGZ:=HG1;have hbz:=HB2a.out;have hsz:=StN.nil w1 (w.heap.size+2);clear hB x0 x1 x2 x3;obtain⟨v0,v1,v2,v3⟩:=hbz.cells;have f0:=hbz.free 0;have f1:=hbz.free 1;have f2:=hbz.free 2;have f3:=hbz.free 3;obtain⟨hbf,hgf⟩:=zhE (n:=zbk) (v:=.slice none 0 0) hbz;have HGF:=zHd (zaj (g:=w.heap.size+1) HGZ.out hgf (by omega));have T:=zHd ((hsz.kept (zib hgf (by omega))).mono (C:=w.heap.size) (by omega));obtain⟨c0,c1,c2,c3⟩:=hbf.cells;clear hsz hbz hbf hgf;go_wp2_with fail;generalize (((w1.setCell ⟨w.heap.size+1,0,none⟩ (.int .i64 zbk.kind)).setCell ⟨w.heap.size+1,1,none⟩ (.int .i64 zbk.start)).setCell ⟨w.heap.size+1,2,none⟩ (.string zbk.lead)).setCell ⟨w.heap.size+1,3,none⟩ (.slice none 0 0)=WW at *;exact zqby (v:=.tuple #[.agg #[.int .i64 zbk.kind,.int .i64 zbk.start,.string zbk.lead,.slice none 0 0],.int .i64 1]) (by simp[results,Tryz.results56,go_sem,c0,c1,c2,c3]) rfl (by rw[HN.out];exact⟨_,rfl,⟨_,rfl,T.out⟩,HGF.out⟩)
 ·have HT:=zHd (zEF (HV0.out.grown HG1.out) (zxJ hB))
  have HN:Hid (trimV m=(trimM m,0)):=zHd (by unfold trimV;rw[hB];rfl);clear hB;generalize trimM m=t at *;go_wp2_with fail;refine HT.out.mono ?_;intro e w2 h2;obtain⟨A2,k2,rfl,hsz,hg2⟩:=h2.open6;have hle:=HSZ1.out;have HGZ:=zHd (zaa HG1.out hg2);have hbz:=zav.grown HB2a.out hg2;clear h2 hg2 x0 x1 x2 x3;obtain⟨v0,v1,v2,v3⟩:=hbz.cells;simp only[zbk] at v0 v1 v2;have f0:=hbz.free 0;have f1:=hbz.free 1;have f2:=hbz.free 2;have f3:=hbz.free 3;obtain⟨hbf,hgf⟩:=zhE (n:=t) (v:=.slice A2 t.states.length k2) hbz;have HGF:=zHd (zaj (g:=w.heap.size+1) HGZ.out hgf (by omega));have T:=zHd ((hsz.kept (zib hgf (by omega))).mono (C:=w.heap.size) (by omega));obtain⟨c0,c1,c2,c3⟩:=hbf.cells;clear hsz hbz hbf hgf;go_wp2_with fail;generalize (((w2.setCell ⟨w.heap.size+1,0,none⟩ (.int .i64 t.kind)).setCell ⟨w.heap.size+1,1,none⟩ (.int .i64 t.start)).setCell ⟨w.heap.size+1,2,none⟩ (.string t.lead)).setCell ⟨w.heap.size+1,3,none⟩ (.slice A2 t.states.length k2)=WW at *;exact zqby (v:=.tuple #[.agg #[.int .i64 t.kind,.int .i64 t.start,.string t.lead,.slice A2 t.states.length k2],.int .i64 0]) (by simp[results,Tryz.results56,go_sem,c0,c1,c2,c3]) rfl (by rw[HN.out];exact⟨_,rfl,⟨_,rfl,T.out⟩,HGF.out⟩)
open Go.RowKit
section
variable {k:Int}
theorem zJC (hk:zad k){l:List zai}(h:zif hk l){i:Nat}(hi:i<l.length):zam (toE hk l i):=by
 have h1:=zqm hk (zqab _) h.2 i hi 0 (by omega);rw[zgv _ _ _ _ _ (zqab _) i 0 hi] at h1;exact h1
theorem ztW:Enters 58:=enters_of Tryz.func58 (by kernel_rfl) rfl
@[go_sem] theorem field_cal7 (k:Int) (w:World):(Instr.field 64 (.agg #[.int .i64 k,.string (zae k),.string (zal k)]) 0).run Tryz.prog w=.ok (.agg #[.int .i64 k,.string (zae k),.string (zal k)]) w:=by kernel_rfl
noncomputable def totE (hk:zad k)(l:List zai)(ld:ByteArray)(s0:Nat):El k:=(srE k hk).mul (vE hk ld) (toE hk l s0)
def zkB (hk:zad k)(l:List zai)(ld:ByteArray)(s0:Nat):Prop:=zif hk l/\zam (totE hk l ld s0)
theorem zBe (hk:zad k)(l:List zai)(us:List Value)(As:Option Addr)(cs g s0:Nat)(ld:ByteArray)(w:World)(hok:zdA k l)(hst:zhA w l us As cs)(hs0:s0<l.length)(hld:∃ v,Val k ld v)(hb:zeR w g k (s0:Int) ld As l.length cs) :
  Calls Tryz.prog 58 #[.pointer (some ⟨g,0,none⟩)] w (zbO (zkB hk l ld s0) (fun v w'=>v=.string (tx (totE hk l ld s0))) w):=by
 have hof:=fun w'=>znA k w';have hto:=fun(w':World) (hg:w.grownBy w' none)=>zth hk l us As cs (s0:Int) ld w' hok (hst.grown hg);have hlt:=znF hk hld
 have hmul:=fun(hf:zif hk l) (w':World)=>(show Calls Tryz.prog 59 #[zbi k,.string ld,.string (tx (toE hk l s0))] w' (zku (zam (totE hk l ld s0)) (.string (tx (totE hk l ld s0))) w') from by
  have h:=zqe hk hlt.2 (zJC hk hf hs0) w';rw[<- hlt.1] at h;exact h)
 have HO:=zHd hof;have HT:=zHd hto;have HM:=zHd hmul;have HN:=zHd (zAI hok.n60 (zAI hs0 hlt));obtain⟨x0,x1,x2,x3⟩:=hb;have d0:w.drew.cell? ⟨g,0,none⟩=some (.int .i64 k):=x0;have d1:w.drew.cell? ⟨g,1,none⟩=some (.int .i64 (s0:Int)):=x1;have d2:w.drew.cell? ⟨g,2,none⟩=some (.string ld):=x2;have d3:w.drew.cell? ⟨g,3,none⟩=some (.slice As l.length cs):=x3;have i1:(s0:Int)<(l.length:Int):=by omega
 have i2:(0:Int)<=(s0:Int):=by omega
 clear hof hto hmul hok hst hs0 hld hlt x0 x1 x2 x3;unfold zbi at *;go_enter Tryz.func58,Tryz.ntmps58;go_upto_region 1 with(fail);refine wp_region_held_drew (S:=fun W':World=>W'.cell? ⟨g,0,none⟩=some (.int .i64 k)/\W'.cell? ⟨g,1,none⟩=some (.int .i64 (s0:Int))/\W'.cell? ⟨g,2,none⟩=some (.string ld)/\W'.cell? ⟨g,3,none⟩=some (.slice As l.length cs)) (by kernel_rfl) ⟨d0,d1,d2,d3⟩ (fun hHeld=>?_);refine zTk 0 (.pointer (some ⟨g,0,none⟩)) rfl hHeld ?_;(try simp only[zS,Act.put]);refine zTk 1 (.int .i64 k) rfl hHeld ?_;(try simp only[zS,Act.put]);refine zTk 4 (.pointer (some ⟨g,2,none⟩)) rfl hHeld ?_;(try simp only[zS,Act.put]);refine zTk 5 (.string ld) rfl hHeld ?_;(try simp only[zS,Act.put]);refine zTk 6 (.agg #[.int .i64 k,.int .i64 (s0:Int),.string ld,.slice As l.length cs]) rfl hHeld ?_;(try simp only[zS,Act.put]);refine zTk 8 (.pointer (some ⟨g,1,none⟩)) rfl hHeld ?_;(try simp only[zS,Act.put]);refine zTk 9 (.int .i64 (s0:Int)) rfl hHeld ?_;(try simp only[zS,Act.put]);refine zqcc (rs:=[2]) (by kernel_rfl) (by simp) ?_;refine AllReadyH.cons rfl (fun K hK=>?_) AllReadyH.nil;go_simp;refine(HO.out _).mono ?_;rintro e w1 ⟨rfl,hg1⟩;have S1:(fun W':World=>W'.cell? ⟨g,0,none⟩=some (.int .i64 k)/\W'.cell? ⟨g,1,none⟩=some (.int .i64 (s0:Int))/\W'.cell? ⟨g,2,none⟩=some (.string ld)/\W'.cell? ⟨g,3,none⟩=some (.slice As l.length cs)) w1:=⟨hg1.cell hHeld.1 (by simp),hg1.cell hHeld.2.1 (by simp),hg1.cell hHeld.2.2.1 (by simp),hg1.cell hHeld.2.2.2 (by simp)⟩;refine hK.out _ _ S1 (fun hHeld=>?_);clear hK K;have HG1:=zHd hg1;clear hg1;refine zTk 3 (.agg #[.int .i64 k,.string (zae k),.string (zal k)]) rfl hHeld ?_;(try simp only[zS,Act.put]);refine zqcc (rs:=[7]) (by kernel_rfl) (by simp) ?_;refine AllReadyH.cons rfl (fun K hK=>?_) AllReadyH.nil;go_simp;refine(HT.out _ (zaa (zag w none) HG1.out)).mono ?_;rintro e w2 (⟨hp2,v2,rfl,⟨g2,rfl,hgs2,hr2⟩,hg2⟩|⟨hn2,rfl,hg2⟩);rotate_left 1
 ·exact⟨rfl,.inr ⟨fun h=>hn2 h.1,rfl,zaa (zaa (zag w none) HG1.out) hg2⟩⟩
 have S2:(fun W':World=>W'.cell? ⟨g,0,none⟩=some (.int .i64 k)/\W'.cell? ⟨g,1,none⟩=some (.int .i64 (s0:Int))/\W'.cell? ⟨g,2,none⟩=some (.string ld)/\W'.cell? ⟨g,3,none⟩=some (.slice As l.length cs)) w2:=⟨hg2.cell hHeld.1 (by simp),hg2.cell hHeld.2.1 (by simp),hg2.cell hHeld.2.2.1 (by simp),hg2.cell hHeld.2.2.2 (by simp)⟩;refine hK.out _ _ S2 (fun hHeld=>?_);clear hK K;have rc:w2.cell? ⟨g2,s0,none⟩=some (.string (tx (toE hk l s0))):=by have h:=hr2.2 s0 HN.out.2.1;rw[zqat] at h;exact h
 have H2:=zHd (zAI hp2 (zaa (zaa (zag w none) HG1.out) hg2));clear hp2 hgs2 hr2 hg2;refine zTk 10 (.pointer (some ⟨g2,s0,none⟩)) rfl hHeld ?_;(try simp only[zS,Act.put]);refine zqcc (rs:=[11]) (by kernel_rfl) (by simp) ?_;refine AllReadyH.cons rfl (fun K hK=>?_) AllReadyH.nil;go_simp;refine hK.out _ _ hHeld (fun hHeld=>?_);clear hK K;refine zqcc (rs:=[12]) (by kernel_rfl) (by simp) ?_;refine AllReadyH.cons rfl (fun K hK=>?_) AllReadyH.nil;go_simp;refine(HM.out H2.out.1 _).mono ?_;rintro e w3 (⟨hp3,rfl,hg3⟩|⟨hn3,rfl,hg3⟩);rotate_left 1
 ·exact⟨rfl,.inr ⟨fun h=>hn3 h.2,rfl,zaa H2.out.2 hg3⟩⟩
 have S3:(fun W':World=>W'.cell? ⟨g,0,none⟩=some (.int .i64 k)/\W'.cell? ⟨g,1,none⟩=some (.int .i64 (s0:Int))/\W'.cell? ⟨g,2,none⟩=some (.string ld)/\W'.cell? ⟨g,3,none⟩=some (.slice As l.length cs)) w3:=⟨hg3.cell hHeld.1 (by simp),hg3.cell hHeld.2.1 (by simp),hg3.cell hHeld.2.2.1 (by simp),hg3.cell hHeld.2.2.2 (by simp)⟩;refine hK.out _ _ S3 (fun hHeld=>?_);clear hK K;have H3:=zHd (zAI hp3 hg3);clear hp3 hg3;refine zqcc (rs:=[13]) (by kernel_rfl) (by simp) ?_;refine AllReadyH.cons rfl (fun K hK=>?_) AllReadyH.nil;go_simp;refine hK.out _ _ hHeld (fun hHeld=>?_);clear hK K;refine wpAnyH_done (by kernel_rfl) ?_ _;go_wp2;go_ret;exact .inl ⟨⟨H2.out.1,H3.out.1⟩,_,rfl,rfl,zaa H2.out.2 H3.out.2⟩
end
theorem ztr {m:zak}(hv:validB m=true):(trimM m).states.length<=m.states.length:=by
 have h1:=(zeP (zeO hv)).2.1
 by_cases h:usefulL m=[]
 ·rw[zgK h]
  show 1<=_;exact h1
 ·rw[zeU h]
  unfold zba usefulL;rw[zqbn];refine zqam (List.length_filter_le _ _) ?_;rw[List.length_range];exact zqab _
def zna (m:zak)(w:World)(e:Ending)(w':World):Prop :=
 (checkC m≠0/\w.grownBy w' none/\e=.returned (.tuple #[.string ⟨#[]⟩,.int .i64 (checkC m)]))∨(checkC m=0/\∃ hk:zad m.kind,w.grownBy w' none /\
  ((zkB hk (trimM m).states (trimM m).lead (trimM m).start.toNat/\e=.returned (.tuple #[.string (tx (totE hk (trimM m).states (trimM m).lead (trimM m).start.toNat)),.int .i64 0])) ∨
    (¬ zkB hk (trimM m).states (trimM m).lead (trimM m).start.toNat/\e=.returned (.tuple #[.string ⟨#[]⟩,.int .i64 2]))))
theorem zEH {w:World}{v:Value}{m:zak}(hv:zdo w v m)(hf:zhd m):Calls Tryz.prog 20 #[v] w (zna m w):=by
 have hmf := @zMF Tryz.prog;have hv0:=hv;obtain⟨u,rfl,hst⟩:=hv;obtain⟨A,cs,us,rfl,hsr⟩:=zkx hst;have hal:=zGA w (.cells #[.int .i64 m.kind,.int .i64 m.start,.string m.lead,.slice A m.states.length cs] 31) none;have hck:=zmX (w:=w.alloc (.cells #[.int .i64 m.kind,.int .i64 m.start,.string m.lead,.slice A m.states.length cs] 31)) (v:=.agg #[.int .i64 m.kind,.int .i64 m.start,.string m.lead,.slice A m.states.length cs]) (m:=m) ⟨_,rfl,hst.below (zcM hal)⟩ hf;have htr:=fun(w1:World) (hg:w.grownBy w1 none)=>zEG (w:=w1) (v:=.agg #[.int .i64 m.kind,.int .i64 m.start,.string m.lead,.slice A m.states.length cs]) (m:=m) ⟨_,rfl,hst.below (zcM hg)⟩ hf;obtain⟨x0,x1,x2,x3⟩:=zeR.new w m.kind m.start m.lead A m.states.length cs;have hbk:=zaE w (.cells #[.int .i64 m.kind,.int .i64 m.start,.string m.lead,.slice A m.states.length cs] 31);have HC:=zHd hck;have HW:=zHd hal;have HT:=zHd htr;have HB:=zHd hbk;clear hck hal hsr hst hv0 hf htr hbk;unfold zna;go_enter Tryz.func20,Tryz.ntmps20;go_wp2_with fail;refine HC.out.mono ?_;rintro e w1 ⟨rfl,hg1⟩;have y0:=hg1.cell x0 (by simp);have y1:=hg1.cell x1 (by simp);have y2:=hg1.cell x2 (by simp);have y3:=hg1.cell x3 (by simp);have hb1:=(hg1.block w.heap.size (by simp) (by simp)).trans HB.out;have HG:=zHd (zaa HW.out hg1);have HB1:=zHd hb1;clear hg1 HC x0 x1 x2 x3 hb1 HB HW;obtain⟨c,hc⟩:∃ c,checkC m=c:=⟨_,rfl⟩;rw[hc];have HCC:=zHd hc;clear hc
 by_cases h0:c=0
 ·subst h0
  obtain⟨hvalid,h60⟩:=zkd HCC.out;have hok:=zfz (zqB hvalid);have hk0:=(zfz hvalid).kind;have hlen:=ztr hvalid;have htv:trimV m=(trimM m,0):=by unfold trimV;rw[if_pos hvalid]
  have htk:=zly m;obtain⟨t,ht⟩:∃ t,trimM m=t:=⟨_,rfl⟩;rw[ht] at hok hlen htv htk;have HTM:=zHd ht;clear ht;obtain⟨s0,hs0,hs1⟩:=hok.start;have HOK:=zHd (zAI hok (zAI hs1 (zAI hlen (zAI h60 (zAI hk0 (zAI htv htk))))));have HS0:=zHd hs0;clear hok hvalid h60 hk0 hlen htv htk hs1;go_wp2_with fail;refine(HT.out w1 HG.out).mono ?_;intro e w2 hq;rw[HOK.out.2.2.2.2.2.1] at hq;obtain⟨At,ct,rfl,hstn,hg2⟩:=hq.open6;rw[hs0];rw[HOK.out.2.2.2.2.2.2];have hb2:=(hg2.block w.heap.size (zqad.1 HB1.out).1 (by simp)).trans HB1.out;have q0:=zqbw w2 _ 0 _ _ (0,0) hb2;have q1:=zqbw w2 _ 1 _ _ (0,0) hb2;have q2:=zqbw w2 _ 2 _ _ (0,0) hb2;have q3:=zqbw w2 _ 3 _ _ (0,0) hb2;have z0:=zqbx w2 _ 0 _ _ hb2;have z1:=zqbx w2 _ 1 _ _ hb2;have z2:=zqbx w2 _ 2 _ _ hb2;have z3:=zqbx w2 _ 3 _ _ hb2;have H2:=zHd (zAI hstn (zAI hg2 hb2));clear hq hstn hg2 hb2 y0 y1 y2 y3 hs0;have hsg:w.grownBy w2 none:=zaa HG.out H2.out.2.1;have hset:=zjZ w2 w.heap.size (.int .i64 m.kind) (.int .i64 (s0:Int)) (.string t.lead) (.slice At t.states.length ct);have hg3:=zaj hsg hset (zqab _);have hws:w.heap.size+1<=w1.heap.size:=by have:=(zqad.1 HB1.out).1;omega
  have hst3:=H2.out.1.kept ((zib hset (by omega:w.heap.size<w1.heap.size)));obtain⟨A3,c3,us3,e3,hsr3⟩:=zkx hst3.sl;obtain⟨rfl,rfl⟩:At=A3/\ct=c3:=by simp at e3;exact e3
  have hrow3:=zsY (u0:=.int .i64 m.kind) (u1:=.int .i64 (s0:Int)) (u2:=.string t.lead) (u3:=.slice At t.states.length ct) rfl H2.out.2.2;obtain⟨W3,hW3⟩:∃ W3,W3=((((w2.setCell ⟨w.heap.size,0,none⟩ (.int .i64 m.kind)).setCell ⟨w.heap.size,1,none⟩ (.int .i64 (s0:Int))).setCell ⟨w.heap.size,2,none⟩ (.string t.lead)).setCell ⟨w.heap.size,3,none⟩ (.slice At t.states.length ct)):=⟨_,rfl⟩;rw[<- hW3] at hg3 hst3 hsr3 hrow3;have HW3:=zHd hW3;have hbx:zeR W3 w.heap.size m.kind (s0:Int) t.lead At t.states.length ct:=⟨zqbw W3 _ 0 _ _ (0,0) hrow3,zqbw W3 _ 1 _ _ (0,0) hrow3,zqbw W3 _ 2 _ _ (0,0) hrow3,zqbw W3 _ 3 _ _ (0,0) hrow3⟩;have hal3:=zGA W3 (.cells #[.int .i64 0] 24) none;have hsts:=HOK.out.1.sts (by have:=HOK.out;omega);have hld:=HOK.out.1.lead;rw[HOK.out.2.2.2.2.2.2] at hsts hld;have h1:=zBe HOK.out.2.2.2.2.1 t.states us3 At ct w.heap.size s0 t.lead (W3.alloc (.cells #[.int .i64 0] 24)) hsts (hsr3.grown hal3) HOK.out.2.1 hld (hbx.grown hal3)
  have hat:=zxu (WB:=W3.heap.size) 58 ztW #[] #[.pointer (some ⟨w.heap.size,0,none⟩)] (zkB HOK.out.2.2.2.2.1 t.states t.lead s0) (fun v _=>v=.string (tx (totE HOK.out.2.2.2.2.1 t.states t.lead s0)))
   (fun v wa wb b hb hg e hq=>hq) W3 rfl (h1.mono (fun e w' h=>by
    rcases h with⟨hp,v,h1,rfl,h4⟩|h
    ·exact .inl ⟨hp,_,h1,⟨⟨_,rfl⟩,rfl⟩,h4⟩
    ·exact .inr h))
  rw[hW3] at hat;have HAT:=zHd hat;have HG3:=zHd hg3;clear hat h1 hal3 hsts hld hbx hrow3 hst3 hsr3 e3 hws hset hsg hg3 hW3;go_wp2_with fail;refine HAT.out.mono ?_;rintro e w4 (⟨hp,v,rfl,rfl,hg4⟩|⟨hn2,rfl,hg4⟩)
  ·rw[<- HW3.out] at hg4
   have H4:=zHd (zAI hp (zaa HG3.out hg4));clear hp hg4;go_wp2;exact zqby (v:=.tuple #[.string (tx (totE HOK.out.2.2.2.2.1 t.states t.lead s0)),.int .i64 0]) (by simp[results,Tryz.results20,go_sem]) rfl (.inr ⟨HCC.out,HOK.out.2.2.2.2.1,H4.out.2,.inl ⟨by rw[HTM.out,HS0.out];exact H4.out.1,by rw[HTM.out,HS0.out];rfl⟩⟩)
  ·rw[<- HW3.out] at hg4
   have H4:=zHd (zAI hn2 (zaa HG3.out hg4));clear hn2 hg4;go_wp2;exact zqby (v:=.tuple #[.string ⟨#[]⟩,.int .i64 2]) (by simp[results,Tryz.results20,go_sem]) rfl (.inr ⟨HCC.out,HOK.out.2.2.2.2.1,H4.out.2,.inr ⟨by rw[HTM.out,HS0.out];exact H4.out.1,rfl⟩⟩)
 ·have t1:(c==0)=false:=by simpa using h0
  have t2:(c != 0)=true:=by simpa using h0
  have H0:=zHd h0;clear h0;go_wp2;exact zqby (v:=.tuple #[.string ⟨#[]⟩,.int .i64 c]) (by simp[results,Tryz.results20,go_sem]) rfl (.inl ⟨by rw[HCC.out];exact H0.out,HG.out,by rw[HCC.out]⟩)
open Go.RowKit
open Go.Lib (nDigits)
variable {α:Type}
def aug (S:Sr α)(A:Nat->Nat->α)(F:Nat->α)(n x y:Nat):α:=if x<n then (if y<n then A x y else F x) else S.zero
def cutF (S:Sr α)(F:Nat->α)(J x:Nat):α:=if x<J then F x else S.zero
theorem zKL (S:Sr α)(A:Nat->Nat->α)(F:Nat->α){n t i j:Nat}(ht:t<=n)(hi:i<n)(hj:j<n):el S (aug S A F n) t i j=el S A t i j :=
 zof S (fun x y hx hy=>by unfold aug;rw[if_pos hx,if_pos hy]) t ht i j hi hj
theorem zHL (S:Sr α)(A:Nat->Nat->α)(F:Nat->α){n i:Nat}(hi:i<n):sm S n (fun m=>S.mul (stM S A n i m) (F m))=el S (aug S A F n) n i n:=by
 rw[zgi S (aug S A F n) n i n];have e1:aug S A F n i n=F i:=by unfold aug;rw[if_pos hi,if_neg (Nat.lt_irrefl _)]
 have e2:sm S n (fun m=>S.mul (el S (aug S A F n) n i m) (aug S A F n m n))=sm S n (fun m=>S.mul (el S A n i m) (F m)):=zar S (fun m hm=>by
  rw[zKL S A F (zqab n) hi hm];unfold aug;rw[if_pos hm,if_neg (Nat.lt_irrefl _)])
 have e3:sm S n (fun m=>S.mul (stM S A n i m) (F m))=S.add (sm S n (fun m=>S.mul (idm S i m) (F m))) (sm S n (fun m=>S.mul (el S A n i m) (F m))):=by
  rw[<- zeV];exact zar S (fun m _=>S.add_mul _ _ _)
 rw[e1,e2,e3,zpi S _ hi]
theorem zEI (S:Sr α)(c F:Nat->α){J:Nat}:∀ {n:Nat},J<=n->sm S n (fun m=>S.mul (c m) (cutF S F J m))=sm S J (fun m=>S.mul (c m) (F m))
 | 0,h=>by rw[Nat.le_zero.1 h];rfl
 | n+1,h=>by
  by_cases e:J=n+1
  ·rw[e]
   exact zar S (fun m hm=>by unfold cutF;rw[if_pos (by omega)])
  ·show S.add (sm S n (fun m=>S.mul (c m) (cutF S F J m))) (S.mul (c n) (cutF S F J n))=_
   rw[zEI S c F (n:=n) (by omega)];have:cutF S F J n=S.zero:=by unfold cutF;rw[if_neg (by omega)]
   rw[this,S.mul_zero,S.add_zero]
theorem zBf (S:Sr α)(A:Nat->Nat->α)(F:Nat->α){n i J:Nat}(hi:i<n)(hJ:J<=n):sm S J (fun m=>S.mul (stM S A n i m) (F m))=el S (aug S A (cutF S F J) n) n i n:=by
 rw[<- zHL S A (cutF S F J) hi,zEI S (fun m=>stM S A n i m) F hJ]
theorem zsf (S:Sr α)(y:Nat):∀ {l:List (Nat×α)},(∀ e∈l,e.1≠y)->cs S l y=S.zero
 | [],_=>rfl
 | e::l,h=>by
  have h1:cs S (e::l) y=cs S l y:=if_neg (h e (zqbm ..));rw[h1];exact zsf S y (fun x hx=>h x (zqao _ hx))
variable {k:Int} {hk:zad k}
theorem zoT (hk:zad k):Sh4 (srE k hk).zero.1:=by
 show Sh4 (zhI k);unfold zhI;split
 ·trivial
 ·show nDigits (0:Rat).num.natAbs+(if (0:Rat).den=1 then 0 else nDigits (0:Rat).den)<=4
  decide +kernel
structure zfd (k:Int)(hk:zad k)(A:Nat->Nat->El k)(F:Nat->El k)(n:Nat)(M:Nat->List (Nat×El k)):Prop where
 row:n<=5
 is:∀ x y,x<n->y<n->A x y=cs (srE k hk) (M x) y
 short:∀ x,x<n->∀ e∈M x,e.1<n/\Sh4 e.2.1
 few:ns n (fun x=>(M x).length)<=10
 fin:∀ x,x<n->Sh4 (F x).1
variable {A:Nat->Nat->El k} {F:Nat->El k} {n:Nat} {M:Nat->List (Nat×El k)}
theorem zfd.cutF (h:zfd k hk A F n M)(J:Nat):zfd k hk A (cutF (srE k hk) F J) n M where
 row:=h.row
 is:=h.is
 short:=h.short
 few:=h.few
 fin x hx:=by
  unfold Proofs.YtaogepcaoogpgaaGreatDoor.cutF;split
  ·exact h.fin x hx
  ·exact zoT hk
theorem zEJ (f:Nat->Nat):∀ n,ns n (fun x=>f x+1)=ns n f+n
 | 0=>rfl
 | n+1=>by
  show ns n (fun x=>f x+1)+(f n+1)=ns n f+f n+(n+1);rw[zEJ f n];omega
theorem zfd.aug (h:zfd k hk A F n M):zkz k hk (aug (srE k hk) A F n) (n+1) (fun x=>if x<n then M x++[(n,F x)] else []) where
 row:=by have:=h.row;omega
 is x y hx hy:=by
  unfold Proofs.YtaogepcaoogpgaaGreatDoor.aug
  by_cases h1:x<n
  ·rw[if_pos h1,if_pos h1,znI]
   by_cases h2:y<n
   ·rw[if_pos h2,if_neg (by omega)];exact h.is x y h1 h2
   ·rw[if_neg h2,if_pos (show n=y by omega),zsf _ y (fun e he=>by have:=(h.short x h1 e he).1;omega),(srE k hk).zero_add]
  ·rw[if_neg h1,if_neg h1];rfl
 short x hx e he:=by
  by_cases h1:x<n
  ·rw[if_pos h1] at he
   rcases zqbo.1 he with he|he
   ·exact(h.short x h1 e he).2
   ·rw[zqbk.1 he];exact h.fin x h1
  ·rw[if_neg h1] at he;cases he
 few:=by
  show ns n (fun x=>(if x<n then M x++[(n,F x)] else []).length)+(if n<n then M n++[(n,F n)] else []).length<=15;rw[if_neg (Nat.lt_irrefl n)];have e:ns n (fun x=>(if x<n then M x++[(n,F x)] else []).length)<=ns n (fun x=>(M x).length+1):=zsa (fun x hx=>by rw[if_pos hx,zqag];exact zqab _);rw[zEJ] at e;have:=h.few;have:=h.row;show ns n (fun x=>(if x<n then M x++[(n,F x)] else []).length)+0<=15;omega
theorem zfd.part (h:zfd k hk A F n M){i J:Nat}(hi:i<n)(hJ:J<=n):zaL 221 (sm (srE k hk) J (fun m=>(srE k hk).mul (stM (srE k hk) A n i m) (F m))).1:=by
 rw[zBf (srE k hk) A F hi hJ];exact(h.cutF J).aug.wide h.row (by omega) (by omega) (by omega)
theorem zfd.total (h:zfd k hk A F n M){lead:Ext}(hl:zaL 4 lead){i:Nat}(hi:i<n):zaL 226 (zbt k lead (sm (srE k hk) n (fun m=>(srE k hk).mul (stM (srE k hk) A n i m) (F m))).1) :=
 (zfa k (by omega) hl (h.part hi (zqab n))).mono (by omega)
theorem zEK (hk:zad k){l:List (Nat×El k)}{y:Nat}(hl:∀ e∈l,Sh4 e.2.1)(hn:l.length<=15)(hy:y<6):zaL 221 (cs (srE k hk) l y).1:=by
 have h:zkz k hk (fun x y=>cs (srE k hk) (if x=0 then l else []) y) 6 (fun x=>if x=0 then l else []) := {
  row:=zqab 6
  is:=fun x y _ _=>rfl
  short:=fun x _ e he=>by
   by_cases h0:x=0
   ·rw[if_pos h0] at he;exact hl e he
   ·rw[if_neg h0] at he;cases he
  few:=by
   show 0+l.length+0+0+0+0+0<=15;omega }
 exact h.wide (t:=0) (i:=0) (j:=y) (by omega) (by omega) (by omega) hy
open Go.RowKit
open Go.Lib (nDigits decDigits)
def zdB (l:List UInt8):Nat:=(l.filter zcf).length
theorem znL (l m:List UInt8):zdB (l++m)=zdB l+zdB m:=by unfold zdB;rw[List.filter_append,zqag]
theorem zJD {l:List UInt8}(h:l.all zcf=true):zdB l=l.length:=by
 unfold zdB;rw[List.filter_eq_self.2 (fun x hx=>List.all_eq_true.1 h x hx)]
theorem zyP (n:Nat):zdB (decDigits n)=nDigits n:=by rw[zJD (ziD n),Lib.decDigits_length]
theorem zJE (x:Rat):zdB (zgO x)=nDigits x.num.natAbs+(if x.den=1 then 0 else nDigits x.den):=by
 unfold zgO;rw[znL,znL,zyP];have h1:zdB (if x.num<0 then [45] else [])=0:=by split <;> rfl
 rw[h1,zqat]
 by_cases h:x.den=1
 ·rw[if_pos h,if_pos h];rfl
 ·rw[if_neg h,if_neg h]
  show _+zdB ([47]++decDigits x.den)=_;rw[znL,zyP,show zdB [47]=0 from rfl,zqat]
theorem zwl {a:ByteArray}{v:Ext}(h:IsE a v)(hd:zdB a.data.toList<=4):Sh4 v:=by
 rcases v with(_|_)|x
 ·trivial
 ·trivial
 ·have e:a=zes x:=zaw.eq h
  rw[e] at hd;have e2:(zes x).data.toList=zgO x:=rfl;rw[e2,zJE] at hd;exact hd
variable {α:Type}
def nzL (S:Sr α)[DecidableEq α](f:Nat->α):Nat->List (Nat×α)
 | 0=>[]
 | n+1=>nzL S f n++(if f n=S.zero then [] else [(n,f n)])
theorem znb (S:Sr α)[DecidableEq α](f:Nat->α):∀ {n:Nat} {e:Nat×α},e∈nzL S f n->e.1<n/\e.2=f e.1
 | 0,e,h=>by cases h
 | n+1,e,h=>by
  rcases zqbo.1 h with h|h
  ·have:=znb S f h;exact⟨by omega,this.2⟩
  ·by_cases hz:f n=S.zero
   ·rw[if_pos hz] at h;cases h
   ·rw[if_neg hz] at h;rw[zqbk.1 h];exact⟨by omega,rfl⟩
theorem zwm (S:Sr α)[DecidableEq α](f:Nat->α)(y:Nat):∀ {n:Nat},cs S (nzL S f n) y=if y<n then f y else S.zero
 | 0=>rfl
 | n+1=>by
  have ih:=zwm S f y (n:=n)
  by_cases hz:f n=S.zero
  ·have e:nzL S f (n+1)=nzL S f n:=by show nzL S f n++(if f n=S.zero then [] else [(n,f n)])=_;rw[if_pos hz,List.append_nil]
   rw[e,ih]
   by_cases h:y<n
   ·rw[if_pos h,if_pos (by omega)]
   ·rw[if_neg h]
    by_cases h2:y<n+1
    ·rw[if_pos h2,show y=n by omega,hz]
    ·rw[if_neg h2]
  ·have e:nzL S f (n+1)=nzL S f n++[(n,f n)]:=by show nzL S f n++(if f n=S.zero then [] else [(n,f n)])=_;rw[if_neg hz]
   rw[e,znI,ih];dsimp only
   by_cases h:n=y
   ·subst h
    rw[if_pos rfl,if_neg (Nat.lt_irrefl _),if_pos (by omega),S.zero_add]
   ·rw[if_neg h]
    by_cases h2:y<n
    ·rw[if_pos h2,if_pos (by omega)]
    ·rw[if_neg h2,if_neg (by omega)]
instance (k:Int):DecidableEq (El k):=fun u v=>decidable_of_iff (u.1=v.1) ⟨fun h=>Subtype.ext h,fun h=>by rw[h]⟩
open Go.RowKit
theorem zwn {k r:Nat}(hr:r<k+1)(V:Nat->Nat->Rat)(x:Nat->Rat)(e:Nat->Rat)(h:∀ c,c<k+1->e c=rs (k+1) (fun i=>x i*V i c)):dt (k+1) (up V r e)=x r*dt (k+1) V:=by
 have step:∀ n,n<=k+1->dt (k+1) (up V r (fun c=>rs n (fun i=>x i*V i c)))=if r<n then x r*dt (k+1) V else 0:=fun n=>by
  induction n with
  | zero =>
   intro _;rw[if_neg (by omega)];have h2:=zgE V (k:=k+1) (r:=r) (fun _=>0) (fun _=>0) 0 0 hr;rw[zbE (W:=up V r (fun x=>(0:Rat)*0+0*0)) (fun i x _ _=>by unfold up;split;exact(show(0:Rat)=0*0+0*0 by grind);rfl),h2];grind
  | succ n ih =>
   intro hn;have h2:=zgE V (k:=k+1) (r:=r) (fun c=>rs n (fun i=>x i*V i c)) (V n) 1 (x n) hr;rw[zbE (W:=up V r (fun c=>1*rs n (fun i=>x i*V i c)+x n*V n c)) (fun i c _ _=>by unfold up;split;exact(show rs n (fun i=>x i*V i c)+x n*V n c=1*rs n (fun i=>x i*V i c)+x n*V n c by grind);rfl),h2,ih (by omega)]
   by_cases e:n=r
   ·subst e
    rw[if_neg (Nat.lt_irrefl n),if_pos (Nat.lt_succ_self n)];have e1:dt (k+1) (up V n (V n))=dt (k+1) V:=zbE (fun i x _ _=>by unfold up;split;rename_i e;rw[e];rfl);rw[e1];grind
   ·have e2:dt (k+1) (up V r (V n))=0:=by
     by_cases hlt:r<n
     ·exact ziY (n-r-1) (k+1) _ (r:=r) (by omega) (fun x=>by unfold up;rw[if_pos rfl,if_neg (by omega),show r+(n-r-1)+1=n by omega])
     ·exact ziY (r-n-1) (k+1) _ (r:=n) (by omega) (fun x=>by unfold up;rw[if_neg e,if_pos (by omega)])
    rw[e2]
    by_cases hlt:r<n
    ·rw[if_pos hlt,if_pos (by omega)];grind
    ·rw[if_neg hlt,if_neg (by omega)];grind
 have h1:=step (k+1) (zqab _);rw[if_pos hr] at h1;rw[<- h1];exact zbE (fun i c _ hc=>by unfold up;split;exact h c hc;rfl)
section
variable {α:Type}
theorem zwo (S:Sr α)(A:Nat->Nat->α)(X:Nat->α){n j:Nat}(h:∀ m,m<n->S.le (S.add (A m j) (sm S n (fun l=>S.mul (A m l) (X l)))) (X m)){i:Nat}(hi:i<n):S.le (el S A n i j) (X i):=by
 have hl:=zhl S A (fun m=>A m j) X h n (zqab n) i hi;rw[zar S (g:=fun m=>S.mul (el S A n i m) (A m j)) (fun m hm=>by rw[if_pos hm]),<- zgi S A n i j] at hl;exact hl
theorem Sr.mul_mono2 (S:Sr α)(a b c:α)(h:S.le a b):S.le (S.mul a c) (S.mul b c):=by
 rw[S.mul_comm a c,S.mul_comm b c];exact S.mul_mono a b c h
theorem zBg (S:Sr α){A B:Nat->Nat->α}{n:Nat}(h:∀ x y,x<n->y<n->S.le (B x y) (A x y)){i j:Nat}(hi:i<n)(hj:j<n):S.le (el S B n i j) (el S A n i j) :=
 zwo S B (fun m=>el S A n m j) (fun m hm=>by
  rw[zcp S A n m j];exact S.add_mono _ _ _ _ (h m j hm hj) (ziF S (fun l hl=>S.mul_mono2 _ _ _ (h m l hm hl)))) hi
end
section
open Classical in
noncomputable def onG (A:Nat->Nat->El 2)(n x y:Nat):El 2:=if zat (A x y)/\zat (el S2 A n x x)/\zat (el S2 A n y y) then A x y else S2.zero
variable {A:Nat->Nat->El 2} {n:Nat}
theorem zyQ {x y:Nat}(h1:zat (A x y))(h2:zat (el S2 A n x x))(h3:zat (el S2 A n y y)):onG A n x y=A x y:=by unfold onG;rw[if_pos ⟨h1,h2,h3⟩]
theorem zqC (A:Nat->Nat->El 2)(n x y:Nat):onG A n x y=S2.zero∨(onG A n x y=A x y/\zat (A x y)):=by
 unfold onG;split
 ·rename_i h;exact .inr ⟨rfl,h.1⟩
 ·exact .inl rfl
theorem zwp (x y:Nat):S2.le (onG A n x y) (A x y):=by
 rcases zqC A n x y with h|h
 ·rw[h];exact S2.zero_le _
 ·rw[h.1];exact S2.le_refl _
theorem zjp (x y:Nat):zat (onG A n x y):=by
 rcases zqC A n x y with h|h
 ·rw[h];exact zjc
 ·rw[h.1];exact h.2
theorem zHM {x:Nat}(hx:x<n):zat (el S2 (onG A n) n x x):=by
 by_cases h:zat (el S2 A n x x)
 ·exact zpN (zBg S2 (fun a b _ _=>zwp a b) hx hx) h
 ·have hz:∀ y,onG A n x y=S2.zero:=fun y=>by unfold onG;rw[if_neg (fun k=>h k.2.1)]
  rw[zcp,hz x,zkh S2 (fun m _=>by rw[hz m,S2.zero_mul]),S2.add_zero];exact zjc
theorem zsg:∀ t,t<=n->∀ x y,x<n->y<n->zat (el S2 (onG A n) t x y)
 | 0,_,x,y,_,_=>zjp x y
 | t+1,ht,x,y,hx,hy=>by
  have ih:=zsg t (by omega)
  have h1:zat (el S2 (onG A n) (t+1) t t):=by
   have hg:=zqQ S2 (onG A n) t t (n-(t+1)) (t+1);rw[show t+1+(n-(t+1))=n by omega] at hg;exact zpN hg (zHM (by omega))
  rw[zlQ] at h1;obtain⟨_,_,h2,_⟩:=zuQ h1;exact ziJ.2 ⟨ih x y hx hy,zgF (zgF (ih x t hx (by omega)) h2) (ih t y (by omega) hy)⟩
def top2:El 2:=⟨.inl true,rfl⟩
theorem zJF (u:El 2):S2.le u top2:=zcB u.1
theorem zKM {i j:Nat}(hi:i<n)(hj:j<n)(h:zat (el S2 A n i j)):el S2 A n i j=el S2 (onG A n) n i j:=by
 refine S2.le_anti _ _ ?_ (zBg S2 (fun a b _ _=>zwp a b) hi hj);have hb:=fun(m:Nat)=>Classical.propDecidable (m=i∨el S2 A n i m≠S2.zero);have key:=zwo S2 A (fun m => @ite _ (m=i∨el S2 A n i m≠S2.zero) (hb m) (el S2 (onG A n) n m j) top2) (n:=n) (j:=j) (fun m hm=>?_) hi
 ·rw[if_pos (.inl rfl)] at key
  exact key
 ·by_cases hr:m=i∨el S2 A n i m≠S2.zero
  ·rw[if_pos hr]
   have hF:zat (el S2 A n m j):=by
    rcases hr with e|e
    ·rw[e];exact h
    ·exact zkT (zgQ S2 A n i m e) hm h
   rw[zcp S2 (onG A n) n m j];refine S2.add_mono _ _ _ _ ?_ (ziF S2 (fun l hl=>?_))
   ·by_cases hz:A m j=S2.zero
    ·rw[hz];exact S2.zero_le _
    ·have g1:zat (el S2 A n m m):=zkU hm (zki S2 zkn A (.one hz)) hF
     have g2:zat (el S2 A n j j):=zkT (.one hz) hj hF;rw[zyQ (zhs hF).1 g1 g2];exact S2.le_refl _
   ·by_cases hz:A m l=S2.zero
    ·rw[hz,S2.zero_mul];exact S2.zero_le _
    ·have hl2:l=i∨el S2 A n i l≠S2.zero:=by
      rcases hr with e|e
      ·rw[e] at hz;exact .inr (zki S2 zkn A (.one hz))
      ·exact .inr (zki S2 zkn A ((zgQ S2 A n i m e).trans hm (.one hz)))
     rw[if_pos hl2]
     by_cases hy:el S2 (onG A n) n l j=S2.zero
     ·rw[hy,S2.mul_zero];exact S2.zero_le _
     ·have h1:el S2 A n l j≠S2.zero:=fun e=>hy (S2.zero_of_le (e▸zBg S2 (fun a b _ _=>zwp (A:=A) (n:=n) a b) hl hj))
      have h2:el S2 A n m j≠S2.zero:=zki S2 zkn A (.more hl hz (zgQ S2 A n l j h1));have h3:=(zhs hF).2 l hl;have h4:zat (el S2 A n l j):=zfQ h3 hz;rw[zyQ (zhJ h3 h1) (zkU hm h2 hF) (zkU hl h1 h4)];exact S2.le_refl _
  ·rw[if_neg hr];exact zJF _
theorem zJG {c j:Nat}(hc:c<n)(hj:j<n):val (onG A n c j)=rs n (fun y=>val (el S2 (onG A n) n y j)*idV (fun x y=>val (onG A n x y)) y c):=by
 have hf:=fun y (hy:y<n)=>zsg (A:=A) n (zqab n) y j hy hj;have e1:=zqbz val (zcp S2 (onG A n) n c j)
 rw[ziK (zjp c j) (zko.2 (fun m hm=>zgF (zjp c m) (hf m hm))),zuP (fun m hm=>zgF (zjp c m) (hf m hm)),
  zbg (g:=fun m=>val (onG A n c m)*val (el S2 (onG A n) n m j)) (fun m hm=>ziL (zjp c m) (hf m hm))] at e1
 have e2:rs n (fun y=>val (el S2 (onG A n) n y j)*idV (fun x y=>val (onG A n x y)) y c)=rs n (fun y=>val (el S2 (onG A n) n y j)*(if c=y then 1 else 0) + -1*(val (onG A n c y)*val (el S2 (onG A n) n y j))):=zbg (fun y _=>by unfold idV;grind);rw[e2,zgZ,znz (fun y=>val (el S2 (onG A n) n y j)) hc,zdJ];grind
theorem zKN {d Q:Nat->Rat}(hd:∀ x,x<n->1<=d x)(hdI:∀ x,x<n->isI (d x))(hAI:∀ x y,x<n->y<n->zat (A x y)->isI (d x*val (A x y)))
  (hQ:∀ x,x<n->2*(d x*(1+rs n (fun m=>val (A x m))))<=Q x) :
  ∃ M:Rat,isI M/\M≠0/\ab M<=rp n Q/\∀ i j,i<n->j<n->zat (el S2 A n i j)->isI (val (el S2 A n i j)*M)/\ab (val (el S2 A n i j)*M)<=rp n Q:=by
 have hsum:∀ x,0<=rs n (fun m=>val (A x m)):=fun x=>zdD (fun m _=>zcj _)
 have hvle:∀ x y,val (onG A n x y)<=val (A x y):=fun x y=>by
  rcases zqC A n x y with h|h
  ·rw[h,zeo];exact zcj _
  ·rw[h.1];exact Rat.le_refl
 have hBI:∀ x y,x<n->y<n->isI (d x*val (onG A n x y)):=fun x y hx hy=>by
  rcases zqC A n x y with h|h
  ·rw[h,zeo];exact zcL (hdI x hx) ⟨0,rfl⟩
  ·rw[h.1];exact hAI x y hx hy h.2
 have hV:∀ y c,y<n->c<n->isI (d c*idV (fun x y=>val (onG A n x y)) y c):=fun y c hy hc=>by
  have e:d c*idV (fun x y=>val (onG A n x y)) y c=d c*(if c=y then 1 else 0) + -(d c*val (onG A n c y)):=by unfold idV;grind
  rw[e];exact zkl (zcL (hdI c hc) (by split;exact⟨1,rfl⟩;exact⟨0,rfl⟩)) (zyF (hBI c y hc hy))
 have hrow:∀ c,c<n->rs n (fun y=>ab (d c*idV (fun x y=>val (onG A n x y)) y c))<=d c*(1+rs n (fun m=>val (A c m))):=fun c hc=>by
  have h1:=hd c hc
  have hle:rs n (fun y=>ab (d c*idV (fun x y=>val (onG A n x y)) y c))<=rs n (fun y=>d c*(1*(if c=y then 1 else 0)+val (A c y))):=zjA (fun y _=>by
   rw[zkm,zgf (show 0<=d c by grind)];refine zqai ?_ (by grind);have h2:=zcj (onG A n c y);have h3:=hvle c y;unfold idV;refine zzF ?_ ?_ <;> split <;> grind)
  rwa [zdJ,zgZ,znz (fun _=>1) hc] at hle
 have hle2:∀ c,c<n->d c*(1+rs n (fun m=>val (A c m)))<=Q c:=fun c hc=>by
  have h1:=hQ c hc;have h2:=Rat.mul_nonneg (show 0<=d c by have:=hd c hc;grind) (show 0<=1+rs n (fun m=>val (A c m)) by have:=hsum c;grind);grind
 have hne:=zzH n (onG A n) (fun t x y ht hx hy=>zsg t ht x y hx hy);have hsc:=zoo n d (idV (fun x y=>val (onG A n x y)));have hD:=zjC (f:=d) (n:=n) hd;refine⟨dt n (fun y c=>d c*idV (fun x y=>val (onG A n x y)) y c),zmm hV,?_,?_,fun i j hi hj hf=>?_⟩
 ·rw[hsc]
  intro e;rcases Rat.mul_eq_zero.1 e with e|e
  ·grind
  ·exact hne e
 ·exact zqar (zja _ _) (zjB (fun c _=>zdD (fun y _=>zcC _)) (fun c hc=>zqar (hrow c hc) (hle2 c hc)))
 ·obtain⟨k,rfl⟩:∃ k,n=k+1:=⟨n-1,by omega⟩
  have hcr:=zwn hi (fun y c=>d c*idV (fun x y=>val (onG A (k+1) x y)) y c) (fun y=>val (el S2 (onG A (k+1)) (k+1) y j)) (fun c=>d c*val (onG A (k+1) c j)) (fun c hc=>by
   rw[zJG hc hj,<- zdJ];exact zbg (fun y _=>by grind))
  rw[zKM hi hj hf,<- hcr];refine⟨zmm (fun y c hy hc=>?_),zqar (zja _ _) (zjB (fun c _=>zdD (fun y _=>zcC _)) (fun c hc=>?_))⟩
  ·unfold up
   by_cases e:y=i
   ·rw[if_pos e];exact hBI c j hc hj
   ·rw[if_neg e];exact hV y c hy hc
  ·
   have h1:=hrow c hc;have h2:=hQ c hc;have h0:=hd c hc;have h5:=zub (f:=fun m=>val (A c m)) (n:=k+1) (j:=j) (fun m _=>zcj _) hj;have h3:=hvle c j;have h6:=zqai (zqar h3 h5) (show 0<=d c by grind)
   have hle:rs (k+1) (fun y=>ab (up (fun y c=>d c*idV (fun x y=>val (onG A (k+1) x y)) y c) i (fun c=>d c*val (onG A (k+1) c j)) y c))<=rs (k+1) (fun y=>ab (d c*idV (fun x y=>val (onG A (k+1) x y)) y c)+(d c*val (onG A (k+1) c j))*(if i=y then 1 else 0)):=zjA (fun y _=>by
    have h7:=zcC (d c*idV (fun x y=>val (onG A (k+1) x y)) y c);have h8:0<=d c*val (onG A (k+1) c j):=Rat.mul_nonneg (by grind) (zcj _);unfold up
    by_cases e:y=i
    ·rw[if_pos e,if_pos e.symm,zgf h8];grind
    ·rw[if_neg e,if_neg (Ne.symm e)];grind)
   rw[zgZ,znz (fun _=>d c*val (onG A (k+1) c j)) hi] at hle;grind
end
open Go.RowKit
variable {α:Type}
structure zgq (S:Sr α)(I:α->Prop):Prop where
 pick:∀ u v,S.add u v=u∨S.add u v=v
 inf:∀ u v,I u->v≠S.zero->I (S.mul u v)
 nz:∀ u v,u≠S.zero->v≠S.zero->S.mul u v≠S.zero
 star:∀ u,S.star u=S.one∨I (S.star u)
 le_inf:∀ u v,I u->S.le u v->I v
 cancel:∀ x c,¬ I x->x≠S.zero->S.le (S.mul x c) x->S.le c S.one
theorem zjq (S:Sr α)(A:Nat->Nat->α)(l:List Nat)(m:Nat):∀ (p:List Nat) (i:Nat),zcg S A (i::(p++m::l))=S.mul (zcg S A (i::(p++[m]))) (zcg S A (m::l))
 | [],i=>by
  show S.mul (A i m) (zcg S A (m::l))=S.mul (S.mul (A i m) S.one) (zcg S A (m::l));rw[S.mul_one]
 | x::p,i=>by
  show S.mul (A i x) (zcg S A (x::(p++m::l)))=S.mul (S.mul (A i x) (zcg S A (x::(p++[m])))) (zcg S A (m::l));rw[zjq S A l m p x,S.mul_assoc]
theorem znc (S:Sr α)(A:Nat->Nat->α){n j:Nat}:∀ (ms:List Nat) (i:Nat),(∀ m∈ms,m<n)->S.le (zcg S A (i::(ms++[j]))) (el S A n i j)
 | [],i,_=>by
  show S.le (S.mul (A i j) S.one) _;rw[S.mul_one,zcp];exact S.le_add _ _
 | m::ms,i,h=>by
  have ih:=znc S A (n:=n) (j:=j) ms m (fun x hx=>h x (zqao _ hx));show S.le (S.mul (A i m) (zcg S A (m::(ms++[j])))) _;rw[zcp S A n i j];exact S.le_trans _ _ _ (S.mul_mono _ _ (A i m) ih) (S.le_trans _ _ _ (zzd S (fun l=>S.mul (A i l) (el S A n l j)) (h m (zqbm ..))) (S.le_add2 _ _))
section
variable {S:Sr α} {I:α->Prop} {A:Nat->Nat->α}
theorem zgq.idem (P:zgq S I)(u:α):S.add u u=u:=by rcases P.pick u u with h|h <;> exact h
theorem zgq.inf2 (P:zgq S I){u v:α}(hv:I v)(hu:u≠S.zero):I (S.mul u v):=by rw[S.mul_comm];exact P.inf v u hv hu
theorem zgq.way (P:zgq S I):∀ k i j,el S A k i j=S.zero∨I (el S A k i j)∨∃ ms:List Nat,(∀ m∈ms,m<k)/\zcg S A (i::(ms++[j]))=el S A k i j
 | 0,i,j=>.inr (.inr ⟨[],fun m hm=>by (cases hm),S.mul_one _⟩)
 | k+1,i,j=>by
  show S.add (el S A k i j) (S.mul (S.mul (el S A k i k) (S.star (el S A k k k))) (el S A k k j))=_∨I (S.add (el S A k i j) (S.mul (S.mul (el S A k i k) (S.star (el S A k k k))) (el S A k k j)))∨∃ ms:List Nat,(∀ m∈ms,m<k+1)/\zcg S A (i::(ms++[j]))=S.add (el S A k i j) (S.mul (S.mul (el S A k i k) (S.star (el S A k k k))) (el S A k k j));rcases P.pick (el S A k i j) (S.mul (S.mul (el S A k i k) (S.star (el S A k k k))) (el S A k k j)) with h|h <;> rw[h]
  ·rcases P.way k i j with h1|h1|⟨ms,h1,h2⟩
   ·exact .inl h1
   ·exact .inr (.inl h1)
   ·exact .inr (.inr ⟨ms,fun m hm=>by have:=h1 m hm;omega,h2⟩)
  ·rcases P.way k i k with h1|h1|⟨p,h1,h2⟩
   ·rw[h1,S.zero_mul,S.zero_mul];exact .inl rfl
   ·by_cases h3:el S A k k j=S.zero
    ·rw[h3,S.mul_zero];exact .inl rfl
    ·refine .inr (.inl (P.inf _ _ (P.inf _ _ h1 ?_) h3))
     intro e;have:=S.star_law (el S A k k k);rw[e] at this;have h4:=S.zero_left this;exact h3 (by rw[<- S.mul_one (el S A k k j),h4,S.mul_zero])
   ·rcases P.way k k j with g1|g1|⟨q,g1,g2⟩
    ·rw[g1,S.mul_zero];exact .inl rfl
    ·by_cases h3:S.mul (el S A k i k) (S.star (el S A k k k))=S.zero
     ·rw[h3,S.zero_mul];exact .inl rfl
     ·exact .inr (.inl (P.inf2 g1 h3))
    ·rcases P.star (el S A k k k) with s|s
     ·rw[s,S.mul_one]
      refine .inr (.inr ⟨p++k::q,fun m hm=>?_,?_⟩)
      ·rcases zqbo.1 hm with hm|hm
       ·have:=h1 m hm;omega
       ·rcases List.mem_cons.1 hm with rfl|hm
        ·omega
        ·have:=g1 m hm;omega
      ·rw[zqbj,List.cons_append,zjq,h2,g2]
     ·by_cases h3:el S A k i k=S.zero
      ·rw[h3,S.zero_mul,S.zero_mul];exact .inl rfl
      ·by_cases h4:el S A k k j=S.zero
       ·rw[h4,S.mul_zero];exact .inl rfl
       ·exact .inr (.inl (P.inf _ _ (P.inf2 s h3) h4))
theorem zgq.cat (P:zgq S I){n m:Nat}(hm:m<n){i:Nat}(hi:i<n)(j:Nat):S.le (S.mul (el S A n i m) (el S A n m j)) (el S A n i j):=by
 have hl:=zhl S A (fun x=>S.mul (A x m) (el S A n m j)) (fun x=>el S A n x j) (n:=n) (fun x hx=>by
  have h1:=S.add_mono _ _ _ _ (zzd S (fun l=>S.mul (A x l) (el S A n l j)) hm) (S.le_refl (sm S n (fun l=>S.mul (A x l) (el S A n l j))));rw[P.idem] at h1;refine S.le_trans _ _ _ h1 ?_;rw[zcp S A n x j];exact S.le_add2 _ _) n (zqab n) i hi
 rw[zar S (g:=fun l=>S.mul (S.mul (el S A n i l) (A l m)) (el S A n m j)) (fun l hl=>by rw[if_pos hl,S.mul_assoc]),<- zpg,<- S.add_mul,<- zgi S A n i m] at hl;exact hl
theorem zwq:∀ {ms:List Nat},¬ ms.Nodup->∃ p l q r,ms=p++l::(q++l::r)
 | [],h=>absurd List.nodup_nil h
 | m::t,h=>by
  by_cases hm:m∈t
  ·obtain⟨q,r,e⟩:=List.append_of_mem hm
   exact⟨[],m,q,r,by rw[e];rfl⟩
  ·obtain⟨p,l,q,r,e⟩:=zwq (ms:=t) (fun hn=>h (List.nodup_cons.2 ⟨hm,hn⟩))
   exact⟨m::p,l,q,r,by rw[e];rfl⟩
theorem zgq.simple (P:zgq S I){n i j:Nat}(hi:i<n)(h0:el S A n i j≠S.zero)(hI:¬ I (el S A n i j)):∀ (t:Nat) (ms:List Nat),ms.length<=t->(∀ m∈ms,m<n)->zcg S A (i::(ms++[j]))=el S A n i j ->
  ∃ ms':List Nat,ms'.Nodup/\(∀ m∈ms',m<n)/\zcg S A (i::(ms'++[j]))=el S A n i j
 | 0,ms,hl,h,e=>⟨ms,by have:ms=[]:=List.length_eq_zero_iff.1 (by omega);rw[this];exact List.nodup_nil,h,e⟩
 | t+1,ms,hl,h,e=>by
  by_cases hn:ms.Nodup
  ·exact⟨ms,hn,h,e⟩
  ·obtain⟨p,l,q,r,rfl⟩:=zwq hn
   have hl1:l<n:=h l (by simp)
   have e1:zcg S A (i::(p++l::(q++l::r)++[j]))=S.mul (zcg S A (i::(p++[l]))) (S.mul (zcg S A (l::(q++[l]))) (zcg S A (l::(r++[j])))):=by
    have s1:p++l::(q++l::r)++[j]=p++l::(q++l::(r++[j])):=(by simp);rw[s1,zjq S A (q++l::(r++[j])) l p i,zjq S A (r++[j]) l q l]
   have e2:zcg S A (i::(p++l::r++[j]))=S.mul (zcg S A (i::(p++[l]))) (zcg S A (l::(r++[j]))):=by
    rw[zqbj,List.cons_append,zjq]
   have wa:=znc S A (n:=n) (j:=l) p i (fun m hm=>h m (by simp[hm]));have wc:=znc S A (n:=n) (j:=l) q l (fun m hm=>h m (by simp[hm]));have wb:=znc S A (n:=n) (j:=j) r l (fun m hm=>h m (by simp[hm]))
   have wn:=znc S A (n:=n) (j:=j) (p++l::r) i (fun m hm=>h m (by
    rcases zqbo.1 hm with hm|hm
    ·simp[hm]
    ·rcases List.mem_cons.1 hm with rfl|hm
     ·simp
     ·simp[hm]))
   rw[e2] at wn;rw[e1] at e;generalize zcg S A (i::(p++[l]))=a at *;generalize zcg S A (l::(q++[l]))=c at *;generalize zcg S A (l::(r++[j]))=b at *
   have hx:el S A n i l≠S.zero:=fun z=>h0 (by
    rw[z] at wa;rw[<- e,S.zero_of_le wa,S.zero_mul])
   have hy:el S A n l j≠S.zero:=fun z=>h0 (by
    rw[z] at wb;rw[<- e,S.zero_of_le wb,S.mul_zero,S.mul_zero])
   have hxI:¬ I (el S A n i l):=fun z=>hI (P.le_inf _ _ (P.inf _ _ z hy) (P.cat hl1 hi j));have hc:=P.cancel _ c hxI hx (S.le_trans _ _ _ (S.mul_mono _ _ _ wc) (P.cat hl1 hi l))
   have h1:S.le (S.mul a (S.mul c b)) (S.mul a b):=S.mul_mono _ _ _ (by
    have:=S.mul_mono2 _ _ b hc
    rwa [S.one_mul] at this)
   rw[e] at h1
   refine P.simple hi h0 hI t (p++l::r) ?_ (fun m hm=>h m (by
    rcases zqbo.1 hm with hm|hm
    ·simp[hm]
    ·rcases List.mem_cons.1 hm with rfl|hm
     ·simp
     ·simp[hm])) (e2.trans (S.le_anti _ _ wn h1))
   rw[zqag,zqbu,zqag,zqbu] at hl;rw[zqag,zqbu];omega
theorem zEL:∀ {n:Nat} {o:List Nat},o.Nodup->(∀ x∈o,x<n)->o.length<=n
 | n,o,h,hb=>by
  have h2:=List.Nodup.length_le_of_subset (l₁:=o) (l₂:=List.range n) h (fun x hx=>List.mem_range.2 (hb x hx))
  rwa [List.length_range] at h2
theorem zgq.few (P:zgq S I){n i j:Nat}(hi:i<n):el S A n i j=S.zero∨I (el S A n i j)∨∃ ms:List Nat,ms.length<=n/\(∀ m∈ms,m<n)/\zcg S A (i::(ms++[j]))=el S A n i j:=by
 rcases P.way (A:=A) n i j with h|h|⟨ms,h1,h2⟩
 ·exact .inl h
 ·exact .inr (.inl h)
 ·by_cases h0:el S A n i j=S.zero
  ·exact .inl h0
  ·by_cases hI:I (el S A n i j)
   ·exact .inr (.inl hI)
   ·obtain⟨o,g1,g2,g3⟩:=P.simple hi h0 hI ms.length ms (zqab _) h1 h2
    exact .inr (.inr ⟨o,zEL g1 g2,g2,g3⟩)
end
theorem zLe (hk:zad 1):zgq (srE 1 hk) (fun v=>v.1=.inl false) where
 pick u v:=by
  rcases zyk u.1 v.1 with h|h
  ·exact .inl (Subtype.ext h)
  ·exact .inr (Subtype.ext h)
 inf u v hu hv:=by
  show zci u.1 v.1=_;rw[show u.1=.inl false from hu];have h:v.1 ≠ .inl true:=fun e=>hv (Subtype.ext e);rcases hv2:v.1 with(_|_)|x
  ·rfl
  ·exact absurd hv2 h
  ·rfl
 nz u v hu hv e:=by
  have h1:u.1 ≠ .inl true:=fun e=>hu (Subtype.ext e);have h2:v.1 ≠ .inl true:=fun e=>hv (Subtype.ext e);have h3:zci u.1 v.1=.inl true:=zqbz Subtype.val e;rcases hu2:u.1 with(_|_)|x <;> rcases hv2:v.1 with(_|_)|y <;> rw[hu2,hv2] at h3 <;> first|exact h1 hu2|exact h2 hv2|cases h3
 star u:=by
  by_cases h:zbs u.1 (.inr 0)<0
  ·exact .inr (if_pos h)
  ·exact .inl (Subtype.ext (if_neg h))
 le_inf u v hu h:=by
  have h2:leE v.1 u.1:=h;rw[show u.1=.inl false from hu] at h2;rcases hv:v.1 with(_|_)|x
  ·rfl
  ·rw[hv] at h2;exact absurd h2 zjS
  ·rw[hv] at h2;exact absurd h2 (zfY x)
 cancel x c hI h0 h:=by
  have h2:leE x.1 (zci x.1 c.1):=h;show leE (.inr 0) c.1;rcases hx:x.1 with(_|_)|q
  ·exact absurd hx hI
  ·exact absurd (Subtype.ext hx) h0
  ·rcases hc:c.1 with(_|_)|r
   ·rw[hx,hc] at h2;exact absurd h2 (zfY q)
   ·exact zcB _
   ·rw[hx,hc] at h2
    have h3:q<=q+r:=(zbH _ _).1 h2;exact(zbH _ _).2 (by grind)
theorem zgL (v:El 3):v.1=.inl true∨∃ x,v.1=.inr x/\0<=x:=by
 have h:=v.2;rw[<- zcA] at h;rcases zaA v.1 h with h|⟨x,h,hx⟩
 ·exact .inl h
 ·exact .inr ⟨x,h,hx⟩
theorem zLf (hk:zad 3):zgq (srE 3 hk) (fun v=>v.1=.inl true) where
 pick u v:=by
  rcases zrg u.1 v.1 with h|h
  ·exact .inl (Subtype.ext h)
  ·exact .inr (Subtype.ext h)
 inf u v hu hv:=by
  show zaK u.1 v.1=_;rw[show u.1=.inl true from hu];rcases zgL v with h|⟨x,h,hx⟩ <;> rw[h]
  ·exact zbC
  ·exact zaP (fun e=>hv (Subtype.ext (by rw[h,e];rfl)))
 nz u v hu hv e:=by
  have h3:zaK u.1 v.1=.inr 0:=zqbz Subtype.val e;rcases zgL u with h|⟨x,h,hx⟩ <;> rcases zgL v with g|⟨y,g,hy⟩ <;> rw[h,g] at h3
  ·rw[zbC] at h3;cases h3
  ·rw[zaP (fun e=>hv (Subtype.ext (by rw[g,e];rfl)))] at h3;cases h3
  ·rw[zaT (fun e=>hu (Subtype.ext (by rw[h,e];rfl)))] at h3;cases h3
  ·rw[zbr] at h3
   have h4:x*y=0:=Sum.inr.inj h3;rcases Rat.mul_eq_zero.1 h4 with e|e
   ·exact hu (Subtype.ext (by rw[h,e];rfl))
   ·exact hv (Subtype.ext (by rw[g,e];rfl))
 star u:=by
  by_cases h:0<zbs u.1 (.inr 1)
  ·exact .inr (if_pos h)
  ·exact .inl (Subtype.ext (if_neg h))
 le_inf u v hu h:=by
  have h2:leE u.1 v.1:=h;rw[show u.1=.inl true from hu] at h2;rcases zgL v with g|⟨y,g,hy⟩
  ·exact g
  ·rw[g] at h2;exact absurd h2 (zcd y)
 cancel x c hI h0 h:=by
  have h2:leE (zaK x.1 c.1) x.1:=h;show leE c.1 (.inr 1);rcases zgL x with hx|⟨q,hx,hq⟩
  ·exact absurd hx hI
  ·have hq0:q≠0:=fun e=>h0 (Subtype.ext (by rw[hx,e];rfl))
   rcases zgL c with hc|⟨r,hc,hr⟩
   ·rw[hx,hc,zaT hq0] at h2;exact absurd h2 (zcd q)
   ·rw[hc]
    rw[hx,hc,zbr] at h2;have h3:q*r<=q:=(zbH _ _).1 h2;refine(zbH _ _).2 (Rat.not_lt.1 (fun hlt=>?_))
    have hqp:0<q:=by
     rcases Rat.le_iff_lt_or_eq.1 hq with h|h
     ·exact h
     ·exact absurd h.symm hq0
    have:=znV hlt hqp;rw[Rat.mul_comm] at this;exact absurd h3 (Rat.not_le.2 this)
theorem zts {k:Int}{hk:zad k}{A:Nat->Nat->El k}{n w:Nat}(hw:1<=w)(hA:∀ x y,x<n->y<n->zaL w (A x y).1){j:Nat}(hj:j<n):∀ (ms:List Nat) (i:Nat),i<n->(∀ m∈ms,m<n)->zaL ((w+1)*(ms.length+1)+1) (zcg (srE k hk) A (i::(ms++[j]))).1
 | [],i,hi,_=>(zfa k hw (hA i j hi hj) (ziw k)).mono (by rw[List.length_nil];omega)
 | m::ms,i,hi,h=>by
  have hm:=h m (zqbm ..);have ih:=zts (hk:=hk) hw hA hj ms m hm (fun x hx=>h x (zqao _ hx));have h1:=zfa k hw (hA i m hi hm) ih;refine zaL.mono h1 ?_;rw[zqbu];have:(w+1)*(ms.length+1+1)=(w+1)*(ms.length+1)+(w+1):=Nat.mul_succ _ _;omega
theorem zHN {k:Int}(hk:zad k)(h:k=1∨k=3){A:Nat->Nat->El k}{n w:Nat}(hw:1<=w)(hA:∀ x y,x<n->y<n->zaL w (A x y).1){i j:Nat}(hi:i<n)(hj:j<n):zaL ((w+1)*(n+1)+1) (el (srE k hk) A n i j).1:=by
 have key:∀ I,zgq (srE k hk) I->(∀ v,I v->zaL 1 v.1)->zaL ((w+1)*(n+1)+1) (el (srE k hk) A n i j).1:=fun I P hI=>by
  rcases P.few (A:=A) (n:=n) (i:=i) (j:=j) hi with e|e|⟨ms,h1,h2,e⟩
  ·rw[e];exact(zel k).mono (by omega)
  ·exact(hI _ e).mono (by omega)
  ·rw[<- e]
   refine(zts (hk:=hk) hw hA hj ms i hi h2).mono ?_;have:=zqbd (w+1) (show ms.length+1<=n+1 by omega);omega
 rcases h with rfl|rfl
 ·exact key _ (zLe hk) (fun v hv=>by rw[show v.1=.inl false from hv];trivial)
 ·exact key _ (zLf hk) (fun v hv=>by rw[show v.1=.inl true from hv];trivial)
open Go.RowKit
def Clr (K B x:Rat):Prop:=isI (x*K)/\ab (x*K)<=B
theorem Clr.mono {K B C x:Rat}(h:Clr K B x)(hc:B<=C):Clr K C x:=⟨h.1,zqar h.2 hc⟩
theorem zlA {K B:Rat}(h:0<=B):Clr K B 0:=by
 have e:(0:Rat)*K=0:=by grind
 refine⟨by rw[e];exact⟨0,rfl⟩,?_⟩;rw[e,zgf Rat.le_refl];exact h
theorem Clr.add {K B C x y:Rat}(hx:Clr K B x)(hy:Clr K C y):Clr K (B+C) (x+y):=by
 have e:(x+y)*K=x*K+y*K:=by grind
 refine⟨by rw[e];exact zkl hx.1 hy.1,?_⟩;rw[e];have h1:=zCG (x*K) (y*K);have h2:=hx.2;have h3:=hy.2;grind
theorem zig {x y B C:Rat}(hx:ab x<=B)(hy:ab y<=C):ab (x*y)<=B*C:=by
 rw[zkm];have h1:=zqai hy (zcC x);have h2:=Rat.mul_le_mul_of_nonneg_right hx (zqar (zcC y) hy);exact zqar h1 h2
theorem Clr.mul {K L B C x y:Rat}(hx:Clr K B x)(hy:Clr L C y):Clr (K*L) (B*C) (x*y):=by
 have e:x*y*(K*L)=x*K*(y*L):=by grind
 exact⟨by rw[e];exact zcL hx.1 hy.1,by rw[e];exact zig hx.2 hy.2⟩
theorem zsh {L C:Rat}(hL:isI L)(hc:ab L<=C):Clr L C 1:=by
 have e:(1:Rat)*L=L:=by grind
 exact⟨by rw[e];exact hL,by rw[e];exact hc⟩
theorem Clr.up {K L B C x:Rat}(hx:Clr K B x)(hL:isI L)(hc:ab L<=C):Clr (K*L) (B*C) x:=by
 have h:=hx.mul (zsh hL hc);have e:x*1=x:=by grind
 rwa [e] at h
theorem Clr.wide {K x:Rat}{w:Nat}(hx:Clr K (zaJ w) x)(hK:isI K)(h0:K≠0)(hk:ab K<=zaJ w):zaL (w+1) (.inr x):=by
 have h:=zoe (y:=x) (N:=x*K) (M:=K) hx.1 hK h0 rfl (P:=10 ^ w) hx.2 hk;have hlt:10 ^ w<10 ^ (w+1):=Nat.pow_lt_pow_right (by omega) (by omega);exact⟨zfI _ _ (by omega) (Nat.lt_of_le_of_lt h.1 hlt),zfI _ _ (by omega) (Nat.lt_of_le_of_lt h.2 hlt)⟩
def ClE (K B:Rat)(v:El 2):Prop:=zat v->Clr K B (val v)
theorem ClE.mono {K B C:Rat}{v:El 2}(h:ClE K B v)(hc:B<=C):ClE K C v:=fun hf=>(h hf).mono hc
theorem zoU {K B:Rat}(h:0<=B):ClE K B S2.zero:=fun _=>by rw[zeo];exact zlA h
theorem ClE.add {K B C:Rat}{u v:El 2}(hu:ClE K B u)(hv:ClE K C v):ClE K (B+C) (S2.add u v):=fun hf=>by
 obtain⟨h1,h2⟩:=ziJ.1 hf;rw[ziK h1 h2];exact(hu h1).add (hv h2)
theorem ClE.mul {K L B C:Rat}{u v:El 2}(hB:0<=B)(hC:0<=C)(hu:ClE K B u)(hv:ClE L C v):ClE (K*L) (B*C) (S2.mul u v):=fun hf=>by
 by_cases h1:u=S2.zero
 ·rw[h1,S2.zero_mul,zeo];exact zlA (Rat.mul_nonneg hB hC)
 ·by_cases h2:v=S2.zero
  ·rw[h2,S2.mul_zero,zeo];exact zlA (Rat.mul_nonneg hB hC)
  ·have g1:=zhJ hf h2
   have g2:=zfQ hf h1;rw[ziL g1 g2];exact(hu g1).mul (hv g2)
theorem ClE.up {K L B C:Rat}{v:El 2}(h:ClE K B v)(hL:isI L)(hc:ab L<=C):ClE (K*L) (B*C) v:=fun hf=>(h hf).up hL hc
theorem ClE.sm {K B:Rat}{f:Nat->El 2}(hB:0<=B):∀ {n:Nat},(∀ m,m<n->ClE K B (f m))->ClE K ((n:Rat)*B) (sm S2 n f)
 | 0,_=>zoU (by
  have e:((0:Nat):Rat)*B=0:=by
   have:((0:Nat):Rat)=0:=rfl;rw[this];grind
  rw[e];exact Rat.le_refl)
 | n+1,h=>by
  have ih:=ClE.sm hB (n:=n) (fun m hm=>h m (by omega));have h1:=ih.add (h n (by omega))
  have e:((n+1:Nat):Rat)*B=(n:Rat)*B+B:=by
   have:((n+1:Nat):Rat)=(n:Rat)+1:=by
    show(((n+1:Nat):Int):Rat)=((n:Int):Rat)+((1:Int):Rat);rw[<- Rat.intCast_add];rfl
   rw[this];grind
  rw[e];exact h1
theorem ClE.wide {K:Rat}{v:El 2}{w:Nat}(h:ClE K (zaJ w) v)(hK:isI K)(h0:K≠0)(hk:ab K<=zaJ w):zaL (w+1) v.1:=by
 by_cases hf:zat v
 ·rw[zdF hf];exact(h hf).wide hK h0 hk
 ·rw[zcY.1 hf];trivial
theorem dl_mem:∀ {l:List Rat} {x:Rat},x∈l->(∀ y∈l,0<=y)->Clr (dl l) (bl l) x
 | l,x,h,h0=>by
  have h1:isI (x*dl l):=by
   have:∀ (l:List Rat),x∈l->isI (x*dl l):=fun l=>by
    induction l with
    | nil=>intro h;cases h
    | cons y l ih =>
     intro h;show isI (x*((y.den:Rat)*dl l))
     by_cases e:x=y
     ·subst e
      have e2:x*((x.den:Rat)*dl l)=(x.num:Rat)*dl l:=(by rw[ziB x];grind);rw[e2];exact zcL ⟨x.num,rfl⟩ (zjk l)
     ·have hm:x∈l:=by
       rcases List.mem_cons.1 h with h|h
       ·exact absurd h e
       ·exact h
      have e2:x*((y.den:Rat)*dl l)=(y.den:Rat)*(x*dl l):=(by grind);rw[e2];exact zcL (znH y) (ih hm)
   exact this l h
  have hd:=zgb l;have hx:=h0 x h
  have hs:x<=sl l:=by
   have:∀ (l:List Rat),(∀ y∈l,0<=y)->x∈l->x<=sl l:=fun l=>by
    induction l with
    | nil=>intro _ h;cases h
    | cons y l ih =>
     intro h0 h;have hy:=h0 y (zqbm ..);have hl:=zee (l:=l) (fun z hz=>h0 z (zqao _ hz));show x<=y+sl l;rcases List.mem_cons.1 h with h|h
     ·rw[h];grind
     ·have:=ih (fun z hz=>h0 z (zqao _ hz)) h
      grind
   exact this l h0 h
  refine⟨h1,?_⟩;rw[zgf (Rat.mul_nonneg hx (by grind))];have h2:=zlu h0;have h3:=zqai hs (show 0<=dl l by grind);grind
theorem zLg (l:List Rat)(h0:∀ y∈l,0<=y):ab (dl l)<=bl l:=by
 have hd:=zgb l;rw[zgf (by grind)];have h2:=zlu h0;have h3:=Rat.mul_nonneg (show 0<=dl l by grind) (zee h0);grind
theorem zbK {m n:Nat}(h:m<=n):zaJ m<=zaJ n:=by
 have h1:=zqay (show 0<10 by omega) h;have h4:((10 ^ m:Nat):Int)<=((10 ^ n:Nat):Int):=Int.ofNat_le.2 h1;exact Rat.intCast_le_intCast.2 h4
open Go.RowKit
theorem zHO {A:Nat->Nat->El 2}{M:Nat->List (Nat×El 2)}{n s:Nat}
  (hA:∀ x y,x<n->y<n->A x y=cs S2 (M x) y) (hM:∀ x,x<n->∀ e∈M x,Sh4 e.2.1) (hc:ns n (fun x=>(M x).length)<=s) :
  ∃ K:Rat,isI K/\K≠0/\ab K<=zaJ (4*s+n)/\∀ i j,i<n->j<n->ClE K (zaJ (4*s+n+1)) (stM S2 A n i j):=by
 have hpos:∀ x,x<n->∀ y∈(fins (M x)).map (·.2),0<=y:=fun x hx y hy=>by
  obtain⟨e,he,rfl⟩:=zqbf.1 hy;exact(zdg (hM x hx) e he).1
 have hten:∀ x,x<n->bl ((fins (M x)).map (·.2))<=zaJ (4*(M x).length):=fun x hx=>by
  have:=zuc (w:=4) (l:=(fins (M x)).map (·.2)) (fun y hy=>by
   obtain⟨e,he,rfl⟩:=zqbf.1 hy;exact zdg (hM x hx) e he)
  rw[zqbn] at this;exact zqar this (zbK (by have:=zjM (M x);omega))
 have hval:∀ x m,x<n->m<n->zat (A x m)->val (A x m)=sl (((fins (M x)).filter (fun e=>e.1==m)).map (·.2)):=fun x m hx hm hf=>by
  rw[hA x m hx hm] at hf ⊢;exact zmS m hf
 have hsum:∀ x,x<n->rs n (fun m=>val (A x m))<=sl ((fins (M x)).map (·.2)):=fun x hx=>by
  refine zqar (zjA (fun m hm=>?_)) (zlw n (fun e he=>(zdg (hM x hx) e he).1))
  by_cases hf:zat (A x m)
  ·rw[hval x m hx hm hf];exact Rat.le_refl
  ·have:val (A x m)=0:=by unfold val;rw[zcY.1 hf]
   rw[this];refine zee (fun y hy=>?_);obtain⟨e,he,rfl⟩:=zqbf.1 hy;exact(zdg (hM x hx) e (List.mem_filter.1 he).1).1
 have hQ:∀ x,x<n->2*(dl ((fins (M x)).map (·.2))*(1+rs n (fun m=>val (A x m))))<=zaJ (4*(M x).length+1):=fun x hx=>by
  have h1:=zlu (hpos x hx);have h2:=hten x hx;have h3:=hsum x hx;have h4:=zgb ((fins (M x)).map (·.2));have h5:=zqai h3 (show 0<=dl ((fins (M x)).map (·.2)) by grind);have h6:=zcb (4*(M x).length);rw[zcK];have h7:zaJ 1=10:=by unfold zaJ;decide +kernel
  rw[h7];grind
 obtain⟨K,hK,hK0,hKb,hall⟩:=zKN (A:=A) (n:=n) (d:=fun x=>dl ((fins (M x)).map (·.2))) (Q:=fun x=>zaJ (4*(M x).length+1)) (fun x _=>zgb _) (fun x _=>zjk _) (fun x y hx hy hf=>by
  rw[hval x y hx hy hf];exact zlv (fun z=>z==y) (fins (M x))) hQ
 have hP:rp n (fun x=>zaJ (4*(M x).length+1))<=zaJ (4*s+n):=by
  have h1:=zwa (f:=fun x=>zaJ (4*(M x).length+1)) (g:=fun x=>4*(M x).length+1) (n:=n) (fun m _=>⟨zcb _,Rat.le_refl⟩);rw[zwb (fun x=>(M x).length) n] at h1;exact zqar h1 (zbK (by omega))
 refine⟨K,hK,hK0,zqar hKb hP,fun i j hi hj=>?_⟩
 have h1:ClE K (zaJ (4*s+n)) (idm S2 i j):=by
  unfold idm;split
  ·intro _
   exact zsh hK (zqar hKb hP)
  ·exact zoU (zcb _)
 have h2:ClE K (zaJ (4*s+n)) (el S2 A n i j):=fun hf=>by
  obtain⟨g1,g2⟩:=hall i j hi hj hf;exact⟨g1,zqar g2 hP⟩
 refine(h1.add h2).mono ?_;have h7:zaJ 1=10:=by unfold zaJ;decide +kernel
 have h6:=zcb (4*s+n);rw[zcK (4*s+n) 1,h7];grind
variable {α:Type}
structure Szs (S:Sr α)(Fit:α->Prop) where
 I:Type
 op:I->I->I
 assoc:∀ a b c,op (op a b) c=op a (op b c)
 comm:∀ a b,op a b=op b a
 ok:I->Nat->Prop
 C:I->Nat->α->Prop
 okop:∀ {K L v w},ok K v->ok L w->ok (op K L) (v+w)
 okmono:∀ {K v w},ok K v->v<=w->ok K w
 mono:∀ {K v w a},C K v a->v<=w->C K w a
 zero:∀ {K w},ok K w->C K w S.zero
 mul:∀ {K L v w a b},C K v a->C L w b->C (op K L) (v+w+1) (S.mul a b)
 add:∀ {K w a b},C K w a->C K w b->C K (w+1) (S.add a b)
 sums:∀ {K w} {f:Nat->α} {n:Nat},ok K w->n<=9->(∀ m,m<n->C K w (f m))->C K (w+1) (sm S n f)
 up:∀ {K L w l a},C K w a->ok L l->C (op K L) (w+l) a
 fit:∀ {K w a},C K w a->w<400->Fit a
instance {S:Sr α} {Fit:α->Prop} (Z:Szs S Fit):Std.Associative Z.op:=⟨Z.assoc⟩
instance {S:Sr α} {Fit:α->Prop} (Z:Szs S Fit):Std.Commutative Z.op:=⟨Z.comm⟩
theorem Szs.cast {S:Sr α}{Fit:α->Prop}(Z:Szs S Fit){K L:Z.I}{w:Nat}{v:α}(h:Z.C K w v)(e:K=L):Z.C L w v:=e▸h
structure Base {S:Sr α}{Fit:α->Prop}(Z:Szs S Fit)(A b:Nat->Nat->α)(n m:Nat)(M:Nat->Z.I)(D Kb:Z.I)(wb:Nat):Prop where
 n5:n<=5
 okM:∀ t,t<=n->Z.ok (M t) 46
 st:∀ t,t<=n->∀ i j,i<t->j<t->Z.C (M t) 46 (stM S A t i j)
 okD:Z.ok D 41
 a:∀ x y,x<n->y<n->Z.C D 41 (A x y)
 okb:Z.ok Kb wb
 b:∀ x J,x<n->J<m->Z.C Kb wb (b x J)
 wb:wb<=201
theorem zKO (S:Sr α)(A b:Nat->Nat->α){n t x:Nat}(ht:t<=n)(hx:x<t)(j:Nat):el S (zbQ A b n) t x j=sm S t (fun l=>S.mul (stM S A t x l) (zbQ A b n l j)):=by
 rw[zgi,<- zpi S (fun l=>zbQ A b n l j) hx,<- zeV];refine zar S (fun l hl=>?_);rw[zqR S A b ht (by omega)];unfold stM;rw[S.add_mul]
section
variable {S:Sr α} {Fit:α->Prop} {Z:Szs S Fit} {A b:Nat->Nat->α} {n m:Nat} {M:Nat->Z.I} {D Kb:Z.I} {wb:Nat}
structure Col (Z:Szs S Fit)(A b:Nat->Nat->α)(n j:Nat)(K:Z.I)(w:Nat):Prop where
 ok:Z.ok K w
 c:∀ x,x<n->Z.C K w (zbQ A b n x j)
theorem Base.colA (B:Base Z A b n m M D Kb wb){j:Nat}(h:j<n):Col Z A b n j D 41:=⟨B.okD,fun x hx=>by unfold zbQ;rw[if_pos h];exact B.a x j hx h⟩
theorem Base.colB (B:Base Z A b n m M D Kb wb){J:Nat}(h:J<m):Col Z A b n (n+J) Kb wb:=⟨B.okb,fun x hx=>by unfold zbQ;rw[if_neg (by omega),Nat.add_sub_cancel_left];exact B.b x J hx h⟩
theorem Base.col (B:Base Z A b n m M D Kb wb){j:Nat}(hj:j<n+m):∃ K w,w<=201/\Col Z A b n j K w:=by
 by_cases h:j<n
 ·exact⟨D,41,by omega,B.colA h⟩
 ·obtain⟨J,rfl⟩:∃ J,j=n+J:=⟨j-n,by omega⟩
  exact⟨Kb,wb,B.wb,B.colB (by omega)⟩
theorem Base.low (B:Base Z A b n m M D Kb wb){j:Nat}{K:Z.I}{w:Nat}(hc:Col Z A b n j K w){t:Nat}(ht:t<=n){x:Nat}(hx:x<t):Z.C (Z.op (M t) K) (w+48) (el S (zbQ A b n) t x j):=by
 rw[zKO S A b ht hx];have:=Z.sums (n:=t) (w:=46+w+1) (K:=Z.op (M t) K) (f:=fun l=>S.mul (stM S A t x l) (zbQ A b n l j)) (Z.okmono (Z.okop (B.okM t ht) hc.ok) (by omega)) (by have:=B.n5;omega) (fun l hl=>Z.mul (B.st t ht x l hx hl) (hc.c l (by omega)));exact Z.mono this (by omega)
theorem Base.any (B:Base Z A b n m M D Kb wb){j:Nat}{K:Z.I}{w:Nat}(hc:Col Z A b n j K w){t:Nat}(ht:t<=n){x:Nat}(hx:x<n):Z.C (Z.op D (Z.op (M t) K)) (w+92) (el S (zbQ A b n) t x j):=by
 rw[zcp];have hok:Z.ok (Z.op D (Z.op (M t) K)) (41+(46+w)):=Z.okop B.okD (Z.okop (B.okM t ht) hc.ok)
 have h1:=Z.sums (n:=t) (w:=41+(w+48)+1) (K:=Z.op D (Z.op (M t) K)) (f:=fun l=>S.mul (zbQ A b n x l) (el S (zbQ A b n) t l j)) (Z.okmono hok (by omega)) (by have:=B.n5;omega)
  (fun l hl=>Z.mul (by unfold zbQ;rw[if_pos (by omega)];exact B.a x l hx (by omega)) (B.low hc ht hl))
 have h2:Z.C (Z.op D (Z.op (M t) K)) (w+91) (zbQ A b n x j):=by
  have:=Z.up (Z.up (hc.c x hx) (B.okM t ht)) B.okD;exact Z.mono (Z.cast this (by ac_rfl)) (by omega)
 exact Z.add h2 (Z.mono h1 (by omega))
theorem Base.abs (B:Base Z A b n m M D Kb wb):zhm S Fit n m (zbQ A b n) where
 st t ht:=by
  have e:S.star (el S (zbQ A b n) t t t)=stM S A (t+1) t t:=by
   unfold stM idm;rw[if_pos rfl,zlQ,zqR S A b (by omega) ht,S.mul_comm,S.star_law]
  rw[e];exact Z.fit (B.st (t+1) (by omega) t t (by omega) (by omega)) (by omega)
 row t ht j hj hm:=by
  obtain⟨K,w,hw,hc⟩:=B.col hm;exact Z.fit (B.low hc (t:=t+1) (by omega) (Nat.lt_succ_self t)) (by omega)
 pr t ht i hi hin j hj hm:=by
  obtain⟨K,w,hw,hc⟩:=B.col hm;exact Z.fit (Z.mul (B.any (B.colA ht) (t:=t) (by omega) hin) (B.low hc (t:=t+1) (by omega) (Nat.lt_succ_self t))) (by omega)
 en t ht i hi hin j hj hm:=by
  obtain⟨K,w,hw,hc⟩:=B.col hm;exact Z.fit (B.any hc (t:=t+1) (by omega) hin) (by omega)
 bp t ht l hl J hJ:=by
  have hw:=B.wb;exact Z.fit (Z.mul (B.low (B.colA hl) (t:=t+1) (by omega) (Nat.lt_succ_self t)) (B.low (B.colB hJ) (t:=n) (zqab n) hl)) (by omega)
 bs t ht l hl J hJ:=by
  have hw:=B.wb;have hok:Z.ok (Z.op (Z.op (M (t+1)) D) (Z.op (M n) Kb)) (46+41+(46+wb)):=Z.okop (Z.okop (B.okM _ (by omega)) B.okD) (Z.okop (B.okM n (zqab n)) B.okb)
  have h1:=Z.sums (n:=l+1) (w:=41+48+(wb+48)+1) (K:=Z.op (Z.op (M (t+1)) D) (Z.op (M n) Kb)) (f:=fun l=>S.mul (el S (zbQ A b n) (t+1) t (t+1+l)) (el S (zbQ A b n) n (t+1+l) (n+J)))
   (Z.okmono hok (by omega)) (by have:=B.n5;omega) (fun s hs=>Z.mul (B.low (B.colA (show t+1+s<n by omega)) (t:=t+1) (by omega) (Nat.lt_succ_self t)) (B.low (B.colB hJ) (t:=n) (zqab n) (by omega)))
  have h2:=Z.up (Z.up (B.low (B.colB hJ) (t:=t+1) (by omega) (Nat.lt_succ_self t)) B.okD) (B.okM n (zqab n));have h3:=Z.mono (Z.cast h2 (show _=Z.op (Z.op (M (t+1)) D) (Z.op (M n) Kb) by ac_rfl)) (show _<=41+48+(wb+48)+1+1 by omega);exact Z.fit (Z.add h3 h1) (by omega)
end
theorem zEM (S:Sr α){n:Nat}(κ:Nat->Nat)(d:Nat):∀ {l:List (Nat×α)},(∀ e∈l,e.1<n)->cs S (l.map (fun e=>(κ e.1,e.2))) d=mrg S n (cs S l) κ d
 | [],_=>by
  unfold mrg
  rw[zkh S (fun j _=>by
   by_cases h:κ j=d
   ·rw[if_pos h];rfl
   ·rw[if_neg h])]
  rfl
 | e::l,h=>by
  have ih:=zEM S κ d (l:=l) (fun x hx=>h x (zqao _ hx));have he:=h e zqbm;show(if κ e.1=d then S.add e.2 (cs S (l.map (fun e=>(κ e.1,e.2))) d) else cs S (l.map (fun e=>(κ e.1,e.2))) d)=_;rw[ih]
  have e2:mrg S n (cs S (e::l)) κ d=S.add (sm S n (fun j=>if e.1=j then (if κ j=d then e.2 else S.zero) else S.zero)) (mrg S n (cs S l) κ d):=by
   unfold mrg;rw[<- zeV];refine zar S (fun j _=>?_);show(if κ j=d then (if e.1=j then S.add e.2 (cs S l j) else cs S l j) else S.zero)=_
   by_cases h1:κ j=d
   ·by_cases h2:e.1=j
    ·simp only[h1,h2,if_true]
    ·simp only[h1,h2,if_true,if_false];rw[S.zero_add]
   ·simp only[h1,if_false];rw[ite_self,S.add_zero]
  rw[e2,zxP S (fun j=>if κ j=d then e.2 else S.zero) he]
  by_cases h1:κ e.1=d
  ·rw[if_pos h1,if_pos h1]
  ·rw[if_neg h1,if_neg h1,S.zero_add]
theorem zsi (f:Nat->Nat)(r:List Nat):∀ k,k<=r.length->ns k (fun c=>f (r.getD c 0))=((r.take k).map f).sum
 | 0,_=>rfl
 | k+1,h=>by
  show ns k (fun c=>f (r.getD c 0))+f (r.getD k 0)=_;rw[zsi f r k (by omega),List.take_succ_eq_append_getElem (by omega),List.map_append,List.sum_append];congr 1;rw[zqaa,zqac (by omega)];simp
theorem zqD (f:Nat->Nat):∀ (n:Nat) (r:List Nat),r.Pairwise (· < ·)->(∀ x∈r,x<n)->(r.map f).sum<=ns n f
 | 0,r,_,h=>by
  rcases r with _|⟨x,r⟩
  ·exact zqab _
  ·exact absurd (h x zqbm) (by omega)
 | n+1,r,hp,h=>by
  rcases List.eq_nil_or_concat r with rfl|⟨q,x,rfl⟩
  ·exact zqaw _
  ·rw[List.concat_eq_append] at *
   obtain⟨p1,_,p3⟩:=List.pairwise_append.1 hp;have hq:∀ y∈q,y<x:=fun y hy=>p3 y hy x (zqbk.2 rfl);have hx:x<n+1:=h x (by simp);show _<=ns n f+f n
   by_cases e:x=n
   ·subst e
    rw[List.map_append,List.sum_append];have:=zqD f x q p1 hq;simp;omega
   ·have:=zqD f n (q++[x]) hp (fun y hy=>by
     rcases zqbo.1 hy with g|g
     ·have:=hq y g;omega
     ·have:=zqbk.1 g;omega)
    omega
structure Few (S:Sr α)(Sh:α->Prop)(A:Nat->Nat->α)(n:Nat)(M:Nat->List (Nat×α)):Prop where
 n5:n<=5
 a:∀ x y,x<n->y<n->A x y=cs S (M x) y
 sh:∀ x,x<n->∀ e∈M x,Sh e.2
 lt:∀ x,x<n->∀ e∈M x,e.1<n
 ten:ns n (fun x=>(M x).length)<=10
theorem zEN (S:Sr α){n:Nat}{f g:Nat->α}(κ:Nat->Nat)(d:Nat)(h:∀ j,j<n->f j=g j):mrg S n f κ d=mrg S n g κ d:=zar S (fun j hj=>by rw[h j hj])
theorem Few.merged {S:Sr α}{Sh:α->Prop}{A:Nat->Nat->α}{n:Nat}{M:Nat->List (Nat×α)}(h:Few S Sh A n M) :
  Few S Sh (mrgA S n A) (repR n A).length (fun c=>(M ((repR n A).getD c 0)).map (fun e=>((clsR n A).getD e.1 0,e.2))):=by
 have hs:=zpj n A;refine⟨zqam hs.le h.n5,fun c d hc hd=>?_,fun c hc e he=>?_,fun c hc e he=>?_,?_⟩
 ·rw[zEM S (fun j=>(clsR n A).getD j 0) d (h.lt _ (hs.rl c hc))]
  exact zEN S _ d (fun j hj=>h.a _ j (hs.rl c hc) hj)
 ·obtain⟨x,hx,rfl⟩:=zqbf.1 he
  exact h.sh _ (hs.rl c hc) x hx
 ·obtain⟨x,hx,rfl⟩:=zqbf.1 he
  exact(hs.cl _ (h.lt _ (hs.rl c hc) x hx)).1
 ·have e1:(fun c=>((M ((repR n A).getD c 0)).map (fun e=>((clsR n A).getD e.1 0,e.2))).length)=fun c=>(fun x=>(M x).length) ((repR n A).getD c 0):=by
   funext c;rw[zqbn]
  rw[e1,zsi (fun x=>(M x).length) (repR n A) _ (zqab _),List.take_length];refine zqam (zqD _ n _ hs.up (fun x hx=>?_)) h.ten;obtain⟨i,hi,rfl⟩:=List.getElem_of_mem hx;have:=hs.rl i hi
  rwa [zqaa,zqac hi] at this
structure Facts {S:Sr α}{Fit:α->Prop}(Z:Szs S Fit)(A:Nat->Nat->α)(n:Nat):Prop where
 st:∃ M:Nat->Z.I,∀ t,t<=n->Z.ok (M t) 46/\∀ i j,i<t->j<t->Z.C (M t) 46 (stM S A t i j)
 a:∃ D:Z.I,Z.ok D 41/\∀ x y,x<n->y<n->Z.C D 41 (A x y)
theorem zlB {S:Sr α}{Fit:α->Prop}(Z:Szs S Fit){Sh:α->Prop}(hfew:∀ {A:Nat->Nat->α} {n:Nat} {M:Nat->List (Nat×α)},Few S Sh A n M->Facts Z A n)(m:Nat) :
  ∀ (s n:Nat) (A b:Nat->Nat->α) (M:Nat->List (Nat×α)) (Kb:Z.I) (wb:Nat),Few S Sh A n M->Z.ok Kb wb->(∀ x J,x<n->J<m->Z.C Kb wb (b x J))->wb+44*n<=245->n<=s->SolveFits S Fit s n m A b
 | 0,_,_,_,_,_,_,_,_,_,_,_=>trivial
 | s+1,n,A,b,M,Kb,wb,hF,hk,hb,hw,hs=>by
  obtain⟨⟨N,hN⟩,⟨D,hD,hA⟩⟩:=hfew hF;have h5:=hF.n5;have hrep:=zpj n A;unfold SolveFits
  by_cases h0:n=0
  ·subst h0
   have:(repR 0 A).length=0:=by have:=hrep.le;omega
   rw[if_pos this];trivial
  have B:Base Z A b n m N D Kb wb:=⟨h5,fun t ht=>(hN t ht).1,fun t ht=>(hN t ht).2,hD,hA,hk,hb,by omega⟩
  by_cases he:(repR n A).length=n
  ·rw[if_pos he]
   exact B.abs.all
  ·rw[if_neg he]
   have hlt:(repR n A).length<n:=by have:=hrep.le;omega
   have hsum:∀ c,c<(repR n A).length->∀ t,t<=n->∀ J,J<m->Z.C (Z.op D Kb) (wb+44) (zbh S (fun _=>S.zero) (A ((repR n A).getD c 0)) b t J):=by
    intro c hc t ht J hJ;have hok:=Z.okop hD hk;unfold zbh;have h1:=Z.sums (n:=t) (K:=Z.op D Kb) (w:=41+wb+1) (f:=fun s=>S.mul (A ((repR n A).getD c 0) s) (b s J)) (Z.okmono hok (by omega)) (by omega) (fun j hj=>Z.mul (hA _ j (hrep.rl c hc) (by omega)) (hb j J (by omega) hJ));exact Z.mono (Z.add (Z.zero (Z.okmono hok (by omega))) h1) (by omega)
   refine⟨fun c hc t ht=>?_,fun c hc t ht J hJ=>⟨?_,?_⟩,?_,fun i hi J hJ=>?_⟩
   ·refine Z.fit (Z.sums (n:=t+1) (K:=D) (w:=41) (f:=fun j=>if (clsR n A).getD j 0=(clsR n A).getD t 0 then A ((repR n A).getD c 0) j else S.zero) hD (by omega) (fun j hj=>?_)) (by omega)
    split
    ·exact hA _ j (hrep.rl c hc) (by omega)
    ·exact Z.zero hD
   ·exact Z.fit (Z.mul (hA _ t (hrep.rl c hc) ht) (hb t J ht hJ)) (by omega)
   ·exact Z.fit (hsum c hc (t+1) ht J hJ) (by omega)
   ·exact zlB Z hfew m s _ _ _ _ (Z.op D Kb) (wb+44) hF.merged (Z.okmono (Z.okop hD hk) (by omega)) (fun c J hc hJ=>hsum c hc n (zqab n) J hJ) (by omega) (by omega)
   ·have e:=zgv S (s+1) n A b hs i J hi
    unfold solveF at e;rw[if_neg he] at e;rw[e,<- zxO S A b hi];exact Z.fit (B.low (B.colB hJ) (zqab n) hi) (by omega)
open Go.RowKit
theorem zJH:zaJ 1=10:=by unfold zaJ;decide +kernel
theorem zsj {A:Nat->Nat->El 2}{M:Nat->List (Nat×El 2)}{n:Nat}
  (hA:∀ x y,x<n->y<n->A x y=cs S2 (M x) y) (hM:∀ x,x<n->∀ e∈M x,Sh4 e.2.1):∀ t,t<=n ->
  ∃ D:Rat,isI D/\D≠0/\ab D<=zaJ (4*ns t (fun x=>(M x).length))/\∀ x y,x<t->y<n->ClE D (zaJ (4*ns t (fun x=>(M x).length))) (A x y)
 | 0,_=>⟨1,⟨1,rfl⟩,by grind,by rw[zgf (by grind)];unfold zaJ;simp[ns],fun x y h=>absurd h (by omega)⟩
 | t+1,ht=>by
  obtain⟨D,hD,hD0,hDb,hall⟩:=zsj hA hM t (by omega);have htn:t<n:=ht
  have hpos:∀ y∈(fins (M t)).map (·.2),0<=y:=fun y hy=>by
   obtain⟨e,he,rfl⟩:=zqbf.1 hy;exact(zdg (hM t htn) e he).1
  have hten:bl ((fins (M t)).map (·.2))<=zaJ (4*(M t).length):=by
   have:=zuc (w:=4) (l:=(fins (M t)).map (·.2)) (fun y hy=>by
    obtain⟨e,he,rfl⟩:=zqbf.1 hy;exact zdg (hM t htn) e he)
   rw[zqbn] at this;exact zqar this (zbK (by have:=zjM (M t);omega))
  have h1:=zgb ((fins (M t)).map (·.2));have hd:ab (dl ((fins (M t)).map (·.2)))<=zaJ (4*(M t).length):=zqar (zLg _ hpos) hten;have e1:4*ns (t+1) (fun x=>(M x).length)=4*ns t (fun x=>(M x).length)+4*(M t).length:=by show 4*(ns t (fun x=>(M x).length)+(M t).length)=_;omega
  refine⟨D*dl ((fins (M t)).map (·.2)),zcL hD (zjk _),fun e=>?_,?_,fun x y hx hy=>?_⟩
  ·rcases Rat.mul_eq_zero.1 e with e|e
   ·exact hD0 e
   ·grind
  ·rw[e1,zcK]
   exact zig hDb hd
  ·rw[e1,zcK]
   by_cases hxt:x<t
   ·exact(hall x y hxt hy).up (zjk _) hd
   ·obtain rfl:x=t:=by omega
    intro hf;rw[hA x y htn hy] at hf ⊢;have hv:=zmS y hf;have hp:=zlv (fun z=>z==y) (fins (M x))
    have hle:dl ((fins (M x)).map (·.2))*sl (((fins (M x)).filter (fun e=>e.1==y)).map (·.2))<=zaJ (4*(M x).length):=by
     have h4:=zlu hpos
     have h5:sl (((fins (M x)).filter (fun e=>e.1==y)).map (·.2))<=sl ((fins (M x)).map (·.2)):=by
      have:=zlw (n:=y+1) (l:=fins (M x)) (fun e he=>(zdg (hM x htn) e he).1);refine zqar (zub (f:=fun m=>sl (((fins (M x)).filter (fun e=>e.1==m)).map (·.2))) (n:=y+1) (j:=y) (fun m _=>?_) (Nat.lt_succ_self y)) this;refine zee (fun z hz=>?_);obtain⟨e,he,rfl⟩:=zqbf.1 hz;exact(zdg (hM x htn) e (List.mem_filter.1 he).1).1
     have h6:=zqai h5 (show 0<=dl ((fins (M x)).map (·.2)) by grind);grind
    have h0:0<=sl (((fins (M x)).filter (fun e=>e.1==y)).map (·.2)):=by
     refine zee (fun z hz=>?_);obtain⟨e,he,rfl⟩:=zqbf.1 hz;exact(zdg (hM x htn) e (List.mem_filter.1 he).1).1
    rw[hv]
    have hc:Clr (dl ((fins (M x)).map (·.2))) (zaJ (4*(M x).length)) (sl (((fins (M x)).filter (fun e=>e.1==y)).map (·.2))):=by
     refine⟨by rw[Rat.mul_comm];exact hp,?_⟩;rw[Rat.mul_comm,zgf (Rat.mul_nonneg (by grind) h0)];exact hle
    have h7:=hc.up hD hDb;rw[Rat.mul_comm D,Rat.mul_comm (zaJ (4*ns x (fun x=>(M x).length)))];exact h7
theorem zKP (f:Nat->Nat){t n:Nat}(h:t<=n):ns t f<=ns n f:=by
 induction n with
 | zero=>obtain rfl:t=0:=by omega
         exact zqab _
 | succ n ih =>
  by_cases e:t=n+1
  ·subst e;exact zqab _
  ·exact zqam (ih (by omega)) (Nat.le_add_right _ _)
theorem zyR {w:Nat}{x:Rat}(h:x<=9*zaJ w):x<=zaJ (w+1):=by
 rw[zcK,zJH];have:=zcb w;grind
theorem ztt (w:Nat):1<=zaJ w:=by
 unfold zaJ;have:1<=10 ^ w:=Nat.pow_pos (by decide)
 exact_mod_cast this
def zwr:Szs S2 (fun v=>Fits v.1) where
 I := { K:Rat // isI K/\K≠0 }
 op a b:=⟨a.1*b.1,zcL a.2.1 b.2.1,fun e=>by rcases Rat.mul_eq_zero.1 e with h|h;exact a.2.2 h;exact b.2.2 h⟩
 assoc a b c:=Subtype.ext (Rat.mul_assoc _ _ _)
 comm a b:=Subtype.ext (Rat.mul_comm _ _)
 ok K w:=ab K.1<=zaJ w
 C K w v:=ab K.1<=zaJ w/\ClE K.1 (zaJ w) v
 okop h1 h2:=by dsimp only;rw[zcK];exact zig h1 h2
 okmono h hw:=zqar h (zbK hw)
 mono h hw:=⟨zqar h.1 (zbK hw),h.2.mono (zbK hw)⟩
 zero h:=⟨h,zoU (zcb _)⟩
 mul h1 h2:=by
  refine⟨?_,?_⟩
  ·refine zqar ?_ (zbK (Nat.le_succ _))
   rw[zcK];exact zig h1.1 h2.1
  ·refine ClE.mono ?_ (zbK (Nat.le_succ _))
   rw[zcK];exact ClE.mul (zcb _) (zcb _) h1.2 h2.2
 add h1 h2:=by
  refine⟨zqar h1.1 (zbK (Nat.le_succ _)),(h1.2.add h2.2).mono (zyR ?_)⟩;have:=zcb ‹_›;grind
 sums {K w f n} hk hn h:=by
  refine⟨zqar hk (zbK (Nat.le_succ _)),(ClE.sm (zcb w) (fun m hm=>(h m hm).2)).mono (zyR ?_)⟩;refine Rat.mul_le_mul_of_nonneg_right ?_ (zcb w)
  exact_mod_cast hn
 up {K L w l a} h hl:=by
  refine⟨?_,?_⟩
  ·rw[zcK];exact zig h.1 hl
  ·rw[zcK];exact h.2.up L.2.1 hl
 fit {K w a} h hw:=(h.2.wide K.2.1 K.2.2 h.1).fits (by omega)
theorem ztu {k:Int}(hk:zad k)(h:k=1∨k=3){w:Nat}(hw:1<=w){f:Nat->El k}:∀ {n:Nat},(∀ m,m<n->zaL w (f m).1)->zaL w (sm (srE k hk) n f).1
 | 0,_=>(zel k).mono hw
 | n+1,hf=>zie h (ztu hk h hw (fun m hm=>hf m (by omega))) (hf n (by omega))
theorem zws:∀ n,ns n (fun _=>1)=n
 | 0=>rfl
 | n+1=>by show ns n (fun _=>1)+1=n+1;rw[zws n]
def zIj {k:Int}(hk:zad k)(h:k=1∨k=3):Szs (srE k hk) (fun v=>Fits v.1) where
 I:=Unit
 op _ _:=()
 assoc _ _ _:=rfl
 comm _ _:=rfl
 ok _ w:=1<=w
 C _ w v:=1<=w/\zaL w v.1
 okop h1 h2:=by omega
 okmono h1 h2:=by omega
 mono h hw:=⟨by omega,h.2.mono hw⟩
 zero {_ w} hw:=⟨hw,(zel k).mono hw⟩
 mul h1 h2:=⟨by omega,zfa k h1.1 h1.2 h2.2⟩
 add h1 h2:=⟨by omega,(zie h h1.2 h2.2).mono (by omega)⟩
 sums {_ w f n} hw _ hf:=⟨by omega,(ztu hk h hw (fun m hm=>(hf m hm).2)).mono (by omega)⟩
 up h _:=⟨by omega,h.2.mono (by omega)⟩
 fit h hw:=h.2.fits (by omega)
theorem zKQ {A:Nat->Nat->El 2}{n:Nat}{M:Nat->List (Nat×El 2)}(h:Few S2 (fun v=>Sh4 v.1) A n M):Facts zwr A n where
 st:=by
  have hex:∀ t,∃ K:zwr.I,t<=n->zwr.ok K 46/\∀ i j,i<t->j<t->zwr.C K 46 (stM S2 A t i j):=by
   intro t
   by_cases ht:t<=n
   ·obtain⟨K,k1,k2,k3,k4⟩:=zHO (A:=A) (M:=M) (n:=t) (s:=10) (fun x y hx hy=>h.a x y (by omega) (by omega)) (fun x hx=>h.sh x (by omega)) (zqam (zKP _ ht) h.ten)
    have h5:=h.n5;have g1:ab K<=zaJ 46:=zqar k3 (zbK (by omega));exact⟨⟨K,k1,k2⟩,fun _=>⟨g1,fun i j hi hj=>⟨g1,(k4 i j hi hj).mono (zbK (by omega))⟩⟩⟩
   ·exact⟨⟨1,⟨1,rfl⟩,by grind⟩,fun h=>absurd h ht⟩
  obtain⟨f,hf⟩:=Classical.axiomOfChoice hex;exact⟨f,fun t ht=>hf t ht⟩
 a:=by
  obtain⟨D,d1,d2,d3,d4⟩:=zsj h.a h.sh n (zqab n);have ht:=h.ten;have g1:ab D<=zaJ 41:=zqar d3 (zbK (by omega));exact⟨⟨D,d1,d2⟩,g1,fun x y hx hy=>⟨g1,(d4 x y hx hy).mono (zbK (by omega))⟩⟩
theorem zJI {k:Int}(hk:zad k)(h13:k=1∨k=3){A:Nat->Nat->El k}{n:Nat}{M:Nat->List (Nat×El k)}(h:Few (srE k hk) (fun v=>Sh4 v.1) A n M):Facts (zIj hk h13) A n:=by
 have h4:∀ x y,x<n->y<n->zaL 4 (A x y).1:=fun x y hx hy=>by
  rw[h.a x y hx hy];exact zsb hk h13 y (h.sh x hx)
 refine⟨⟨fun _=>(),fun t ht=>⟨show 1<=46 by omega,fun i j hi hj=>?_⟩⟩,⟨(),show 1<=41 by omega,fun x y hx hy=>⟨by omega,(h4 x y hx hy).mono (by omega)⟩⟩⟩;have h5:=h.n5;have h1:=zHN hk h13 (A:=A) (n:=t) (w:=4) (by omega) (fun x y hx hy=>h4 x y (by omega) (by omega)) hi hj
 have h2:zaL 46 (idm (srE k hk) i j).1:=by
  unfold idm;split
  ·exact(ziw k).mono (by omega)
  ·exact(zel k).mono (by omega)
 have:(4+1)*(t+1)+1<=46:=by omega
 exact⟨by omega,zie h13 h2 (h1.mono this)⟩
theorem ztv {A b:Nat->Nat->El 2}{n m s:Nat}{M:Nat->List (Nat×El 2)}(h:Few S2 (fun v=>Sh4 v.1) A n M){K:Rat}(hK:isI K)(h0:K≠0)(hk:ab K<=zaJ 24)
  (hb:∀ x J,x<n->J<m->ClE K (zaJ 24) (b x J)) (hs:n<=s):SolveFits S2 (fun v=>Fits v.1) s n m A b:=by
 have h5:=h.n5;exact zlB zwr (Sh:=fun v=>Sh4 v.1) (fun hF=>zKQ hF) m s n A b M ⟨K,hK,h0⟩ 24 h hk (fun x J hx hJ=>⟨hk,hb x J hx hJ⟩) (by omega) hs
theorem ziC {k:Int}(hk:zad k)(h13:k=1∨k=3){A b:Nat->Nat->El k}{n m s:Nat}{M:Nat->List (Nat×El k)}(h:Few (srE k hk) (fun v=>Sh4 v.1) A n M)
  (hb:∀ x J,x<n->J<m->zaL 25 (b x J).1) (hs:n<=s):SolveFits (srE k hk) (fun v=>Fits v.1) s n m A b:=by
 have h5:=h.n5;exact zlB (zIj hk h13) (Sh:=fun v=>Sh4 v.1) (fun hF=>zJI hk h13 hF) m s n A b M () 25 h (show 1<=25 by omega) (fun x J hx hJ=>⟨by omega,hb x J hx hJ⟩) (by omega) hs
theorem ztw {k:Int}(hk:zad k){A:Nat->Nat->El k}{n s:Nat}{M:Nat->List (Nat×El k)}(h:Few (srE k hk) (fun v=>Sh4 v.1) A n M)(hs:n<=s) :
  SolveFits (srE k hk) (fun v=>Fits v.1) s n n A (idm (srE k hk)):=by
 have hw:∀ x J,zaL 1 (idm (srE k hk) x J).1:=fun x J=>by
  unfold idm;split
  ·exact ziw k
  ·exact zel k
 rcases hk with rfl|rfl|rfl
 ·exact ziC _ (.inl rfl) h (fun x J _ _=>(hw x J).mono (by omega)) hs
 ·refine ztv h (K:=1) ⟨1,rfl⟩ (by grind) (by rw[zgf (by grind)];exact ztt 24) (fun x J _ _ hf=>?_) hs
  show Clr 1 (zaJ 24) (val (idm S2 x J));unfold idm;split
  ·exact zsh ⟨1,rfl⟩ (by rw[zgf (by grind)];exact ztt 24)
  ·rw[zeo];exact zlA (zcb 24)
 ·exact ziC _ (.inr rfl) h (fun x J _ _=>(hw x J).mono (by omega)) hs
theorem zwt {k:Int}(hk:zad k){A:Nat->Nat->El k}{F:Nat->El k}{n s:Nat}{M:Nat->List (Nat×El k)}(h:Few (srE k hk) (fun v=>Sh4 v.1) A n M)(hF:∀ x,x<n->Sh4 (F x).1)(hs:n<=s) :
  SolveFits (srE k hk) (fun v=>Fits v.1) s n 1 A (fun x _=>F x):=by
 have h5:=h.n5;rcases hk with rfl|rfl|rfl
 ·exact ziC _ (.inl rfl) h (fun x J hx _=>((hF x hx).wide).mono (by omega)) hs
 ·have hc:=zws n
  obtain⟨D,d1,d2,d3,d4⟩:=zsj (A:=fun x y=>if 0=y then F x else S2.zero) (M:=fun x=>[(0,F x)]) (n:=n) (fun x y hx hy=>by
   show(if 0=y then F x else S2.zero)=if 0=y then S2.add (F x) S2.zero else S2.zero
   rw[S2.add_zero]) (fun x hx e he=>by
   obtain rfl:=zqbk.1 he;exact hF x hx) n (zqab n)
  have e1:4*ns n (fun x=>([(0,F x)]:List (Nat×El 2)).length)<=24:=by
   show 4*ns n (fun _=>1)<=24;omega
  refine ztv h d1 d2 (zqar d3 (zbK e1)) (fun x J hx hJ=>?_) hs;have:=d4 x 0 hx (by omega);rw[if_pos rfl] at this;exact this.mono (zbK e1)
 ·exact ziC _ (.inr rfl) h (fun x J hx _=>((hF x hx).wide).mono (by omega)) hs
open Go.RowKit
section
variable {k:Int}
theorem zoV (hk:zad k){n:Nat}{A0:Nat->Nat->El k}{G:Nat->Nat->ByteArray}{ln:Nat->Nat}(h5:n<=5)(hG:∀ i,i<n->∀ j,j<n->G i j=tx (A0 i j))(hf:∀ i,i<n->∀ j,j<n->zam (A0 i j))
  (hs:∀ i,i<n->∀ j,j<n->Sh4 (A0 i j).1) (ten:ns n (fun x=>(nzL (srE k hk) (A0 x) n).length)<=10) (hl:∀ i,i<n->ln i=n) {w:World} {e:Ending} {w':World} (h:zjg k n ln G w e w') :
  w.grownBy w' none/\∃ v,e=.returned (.tuple #[v,.int .i64 0])/\zbv w' v n n (stM (srE k hk) A0 n):=by
 obtain⟨hg,h⟩:=h;refine⟨hg,?_⟩;have hm:zjf k n ln G:=⟨hk,hl,fun i j hi hj=>⟨_,by rw[hG i hi j hj];exact zeX (hf i hi j hj)⟩⟩;rcases h with⟨hn,_⟩|⟨_,h60,_⟩|⟨_,_,hk2,A,hA,h⟩
 ·exact absurd hm hn
 ·omega
 ·have hAA:∀ i j,i<n->j<n->A i j=A0 i j:=fun i j hi hj=>zfu (hA i hi j hj).2 (hf i hi j hj) (by rw[<- (hA i hi j hj).1,hG i hi j hj])
  have hfew:Few (srE k hk) (fun v=>Sh4 v.1) A n (fun x=>nzL (srE k hk) (A0 x) n):=⟨h5,fun x y hx hy=>by rw[hAA x y hx hy,zwm,if_pos hy],fun x hx e he=>by
   obtain⟨h1,h2⟩:=znb _ _ he;rw[h2];exact hs x hx _ h1,fun x hx e he=>(znb _ _ he).1,ten⟩
  have hsf:=ztw hk hfew (zqab n);rcases h with⟨_,v,h1,h2⟩|⟨hn,_⟩
  ·exact⟨v,h1,h2.congr (fun i hi j hj=>zsr (srE k hk) hAA hi hj)⟩
  ·exact absurd hsf hn
noncomputable def arcL (hk:zad k)(l:List zaN):List (Nat×El k):=l.map (fun a=>(a.t.toNat,vE hk a.w))
theorem zsk (hk:zad k)(l:List zaN)(d:Nat):∀ t,t<=l.length->zcr hk (arcF hk l) (zdN l) t d=cs (srE k hk) ((arcL hk l).take t) d
 | 0,_=>rfl
 | t+1,ht=>by
  have ha:l[t]?=some (l[t]'(by omega)):=zqac (by omega)
  have e1:(arcL hk l).take (t+1)=(arcL hk l).take t++[(zdN l t,arcF hk l t)]:=by
   rw[List.take_add_one];congr 1;unfold arcL;rw[zqaj,ha,zrW ha,zrX hk ha];rfl
  rw[e1,znI,<- zsk hk l d t (by omega)];show(srE k hk).add (zcr hk (arcF hk l) (zdN l) t d) (if zdN l t=d then arcF hk l t else (srE k hk).zero)=_;dsimp only;split
  ·rfl
  ·exact(srE k hk).add_zero _
theorem ziO (hk:zad k)(l:List zai)(i d:Nat):arcM hk l i d=cs (srE k hk) (arcL hk (stA l i)) d:=by
 unfold arcM;rw[zsk hk _ d _ (zqab _)];congr 1;exact zqaf (by unfold arcL;simp)
def zdW (a:ByteArray):Prop:=zdB a.data.toList<=4
theorem zqE (hk:zad k){a:ByteArray}(h:∃ v,Val k a v)(hs:zdW a):Sh4 (vE hk a).1:=by
 obtain⟨v,hv⟩:=h;rw[zAD hk hv];exact zwl hv.e hs
structure zis (k:Int)(l:List zai):Prop where
 n5:l.length<=5
 ten:ns l.length (fun i=>(stA l i).length)<=10
 arcs:∀ i,i<l.length->∀ a∈stA l i,zdW a.w
 fins:∀ i,i<l.length->zdW (stF l i)
theorem zwu (hk:zad k){l:List zai}(hl:zis k l)(hok:zdA k l){i:Nat}(hi:i<l.length):Sh4 (finM hk l i).1:=by
 unfold finM finE;split
 ·exact zoT hk
 ·next hn=>exact zqE hk ((hok.fins i hi).resolve_left hn) (hl.fins i hi)
theorem zgM (hk:zad k){l:List zai}(hl:zis k l)(hok:zdA k l):Few (srE k hk) (fun v=>Sh4 v.1) (arcM hk l) l.length (fun i=>arcL hk (stA l i)) where
 n5:=hl.n5
 a x y hx hy:=ziO hk l x y
 sh x hx e he:=by
  obtain⟨a,ha,rfl⟩:=zqbf.1 he;exact zqE hk ((hok.arcs x hx).1 a ha).2.2 (hl.arcs x hx a ha)
 lt x hx e he:=by
  obtain⟨a,ha,rfl⟩:=zqbf.1 he;have:=(hok.arcs x hx).1 a ha;show a.t.toNat<_;omega
 ten:=by
  have e:(fun x=>(arcL hk (stA l x)).length)=fun i=>(stA l i).length:=by funext i;unfold arcL;simp
  rw[e];exact hl.ten
theorem zIk (f:Nat->Nat):∀ {n i:Nat},i<n->f i<=ns n f
 | n+1,i,h=>by
  show f i<=ns n f+f n
  by_cases e:i<n
  ·have:=zIk f e;omega
  ·rw[show i=n by omega];omega
theorem zwv (hk:zad k){l:List zai}(hl:zis k l)(hok:zdA k l):zhB hk l:=fun i hi s hs=>by
 rw[zsk hk _ _ _ (by omega)];have h1:=zIk (fun i=>(stA l i).length) hi;have h2:=hl.ten;have ha:(stA l i)[s]?=some ((stA l i)[s]):=zqac hs;have h3:=(hok.arcs i hi).1 _ (zqak ha);have h5:=hl.n5;refine(zEK hk (fun e he=>(zgM hk hl hok).sh i hi e (zqau he)) ?_ ?_).fits (by omega)
 ·rw[zqan]
  unfold arcL;rw[zqbn];omega
 ·rw[zrW ha];omega
theorem zEO (hk:zad k){l:List zai}(hl:zis k l)(hok:zdA k l):zif hk l:=⟨zwv hk hl hok,zwt hk (zgM hk hl hok) (fun x hx=>zwu hk hl hok hx) (zqab _)⟩
end
open Go.RowKit
section
variable {k:Int}
theorem zyS (hk:zad k){m:zak}{x y:Nat}(h:y ∉ zaV m x):arcM hk m.states x y=(srE k hk).zero:=by
 rw[ziO];refine zsf _ _ (fun e he=>?_);obtain⟨a,ha,rfl⟩:=zqbf.1 he;intro e2;apply h;cases hs:m.states[x]? with
 | none=>unfold stA at ha;rw[hs] at ha;cases ha
 | some s =>
  rw[zmO hs] at ha;rw[zjI hs];exact zqbf.2 ⟨a,ha,e2⟩
theorem zJJ (hk:zad k){m:zak}{x:Nat}(h:¬ isFin m x):finM hk m.states x=(srE k hk).zero:=by
 unfold finM finE;rw[if_pos];cases hs:m.states[x]? with
 | none=>unfold stF;rw[hs];rfl
 | some s =>
  rw[zky hs]
  by_cases hz:s.fin.size=0
  ·exact ByteArray.ext (Array.eq_empty_of_size_eq_zero hz)
  ·exact absurd ⟨s,hs,hz⟩ h
theorem znd (hk:zad k){m:zak}{x:Nat}(hx:x<m.states.length)(h:¬ RFrom (zbl m) (isFin m) x):toE hk m.states x=(srE k hk).zero:=by
 classical
 have key:=zfD (srE k hk) (arcM hk m.states) (n:=m.states.length) (finM hk m.states) (fun j=>if RFrom (zbl m) (isFin m) j then toE hk m.states j else (srE k hk).zero) (fun i hi=>?_) hx
 ·rw[if_neg h] at key
  exact(srE k hk).le_anti _ _ key ((srE k hk).zero_le _)
 ·try dsimp only
  by_cases hc:RFrom (zbl m) (isFin m) i
  ·rw[if_pos hc]
   show(srE k hk).le _ (zbP (srE k hk) (arcM hk m.states) m.states.length (finM hk m.states) i);rw[zgt (srE k hk) (arcM hk m.states) m.states.length (finM hk m.states) hi];refine(srE k hk).add_mono _ _ _ _ ((srE k hk).le_refl _) (ziF _ (fun j hj=>(srE k hk).mul_mono _ _ _ ?_))
   by_cases hj2:RFrom (zbl m) (isFin m) j
   ·rw[if_pos hj2];exact(srE k hk).le_refl _
   ·rw[if_neg hj2];exact(srE k hk).zero_le _
  ·rw[if_neg hc,zJJ hk (fun hf=>hc (.start hf)),zkh _ (fun j hj=>?_),(srE k hk).add_zero]
   ·exact(srE k hk).le_refl _
   ·by_cases hj2:RFrom (zbl m) (isFin m) j
    ·rw[zyS hk (fun hs=>hc (.step hj2 (zoO.2 hs))),(srE k hk).zero_mul]
    ·rw[if_neg hj2,(srE k hk).mul_zero]
def lsm {α:Type}(S:Sr α)(l:List Nat)(f:Nat->α):α:=sm S l.length (fun d=>f (l.getD d 0))
theorem zHP {α:Type}(S:Sr α)(l:List Nat)(x:Nat)(f:Nat->α):lsm S (l++[x]) f=S.add (lsm S l f) (f x):=by
 unfold lsm;rw[zqag];show S.add (sm S l.length _) (f ((l++[x]).getD l.length 0))=_;rw[zcV,zar S (g:=fun d=>f (l.getD d 0)) (fun d hd=>by rw[zbX hd])]
theorem ztx {α:Type}(S:Sr α)(p:Nat->Bool)(f:Nat->α):∀ n,(∀ j,j<n->p j=false->f j=S.zero)->sm S n f=lsm S ((List.range n).filter p) f
 | 0,_=>rfl
 | n+1,h=>by
  rw[List.range_succ,List.filter_append];show S.add (sm S n f) (f n)=_;rw[ztx S p f n (fun j hj=>h j (by omega))];cases hp:p n
  ·rw[h n (by omega) hp,S.add_zero]
   simp[hp]
  ·rw[show[n].filter p=[n] by simp[hp],zHP]
theorem zyT (hk:zad k){L:List Nat}(hn:L.Nodup){d:Nat}(hd:d<L.length):∀ (l:List zaN),cs (srE k hk) (arcL hk (l.filterMap (zdy L))) d=cs (srE k hk) (arcL hk l) (L.getD d 0)
 | []=>rfl
 | a::l=>by
  have ih:=zyT hk hn hd l;have hgd:L.getD d 0=L[d]:=by rw[zqaa,zqac hd];rfl
  show _=(if a.t.toNat=L.getD d 0 then _ else _)
  by_cases hm:a.t.toNat∈L
  ·rw[List.filterMap_cons,zEc hm]
   show(if ((L.idxOf a.t.toNat:Nat):Int).toNat=d then _ else _)=_;rw[Int.toNat_natCast]
   by_cases e:a.t.toNat=L.getD d 0
   ·have e2:L.idxOf a.t.toNat=d:=by rw[e,hgd];exact List.Nodup.idxOf_getElem hn d hd
    rw[if_pos e2,if_pos e];show(srE k hk).add (vE hk a.w) (cs (srE k hk) (arcL hk (l.filterMap (zdy L))) d)=_;rw[ih];rfl
   ·have e2:¬ L.idxOf a.t.toNat=d:=fun h=>e (by rw[hgd];subst h;exact(List.getElem_idxOf (List.idxOf_lt_length_of_mem hm)).symm)
    rw[if_neg e2,if_neg e];exact ih
  ·rw[List.filterMap_cons,zHq hm]
   have e:¬ a.t.toNat=L.getD d 0:=fun h=>hm (by rw[h,hgd];exact List.getElem_mem hd);rw[if_neg e];exact ih
theorem zih {m:zak}{L:List Nat}(hL:∀ x∈L,x<m.states.length){c:Nat}(hc:c<L.length):stA (zba m L).states c=(stA m.states (L.getD c 0)).filterMap (zdy L)/\stF (zba m L).states c=stF m.states (L.getD c 0):=by
 have hgd:L.getD c 0=L[c]:=by rw[zqaa,zqac hc];rfl
 have hx:=hL L[c] (List.getElem_mem hc);have hs:m.states[L[c]]?=some m.states[L[c]]:=zqac hx
 have h:(zba m L).states[c]?=some (zjj L (zhy m L[c])):=by
  unfold zba;rw[zqaj,zqac hc];rfl
 rw[zmO h,zky h,hgd,zmO hs,zky hs,zhz hs];exact⟨rfl,rfl⟩
theorem zww (hk:zad k){m:zak}(hw:Wf m):totE hk (trimM m).states (trimM m).lead (trimM m).start.toNat=totE hk m.states m.lead m.start.toNat:=by
 unfold totE;have hst:m.start.toNat<m.states.length:=by have:=hw.start;omega
 by_cases hu:usefulL m=[]
 ·have hns:=(zqt hw).1 hu
  rw[znd hk hst (fun h=>hns ⟨.start rfl,h⟩),(srE k hk).mul_zero,zgK hu]
  have e:toE hk (zcm m.kind).states (zcm m.kind).start.toNat=(srE k hk).zero:=by
   refine znd hk (m:=zcm m.kind) (by show(0:Int).toNat<1;decide) (fun h=>?_)
   have hno:∀ x,¬ isFin (zcm m.kind) x:=fun x ⟨s,hs,hz⟩=>by
    cases x with
    | zero=>simp[zcm] at hs;subst hs;exact hz rfl
    | succ x=>simp[zcm] at hs
   have hnr:∀ x,¬ RFrom (zbl (zcm m.kind)) (isFin (zcm m.kind)) x:=fun x h=>by
    induction h with
    | start h=>exact hno _ h
    | step _ _ ih=>exact ih
   exact hnr _ h
  rw[e,(srE k hk).mul_zero]
 ·rw[zeU hu]
  have hsu:m.start.toNat∈usefulL m:=by
   obtain⟨x,r,hx⟩:∃ x r,usefulL m=x::r:=by
    cases h:usefulL m with
    | nil=>exact absurd h hu
    | cons x r=>exact⟨x,r,rfl⟩
   have:x∈usefulL m:=by rw[hx];simp
   exact(zdz hw).2 (zmK ((zdz hw).1 this))
  have hnd:(usefulL m).Nodup:=List.nodup_range.filter _
  have hlt:∀ x∈usefulL m,x<m.states.length:=fun x hx=>by
   unfold usefulL at hx;exact List.mem_range.1 (List.mem_filter.1 hx).1
  have hgd:∀ c,c<(usefulL m).length->(usefulL m).getD c 0∈usefulL m:=fun c hc=>by
   rw[zqaa,zqac hc];exact List.getElem_mem hc
  have hout:∀ j,j<m.states.length->(∀ d,d<(usefulL m).length->(usefulL m).getD d 0≠j)->j ∉ usefulL m:=fun j hj h hm=>by
   obtain⟨d,hd,e⟩:=List.getElem_of_mem hm;refine h d hd ?_;rw[zqaa,zqac hd];exact e
  have hA:∀ c d,c<(usefulL m).length->d<(usefulL m).length->arcM hk (zba m (usefulL m)).states c d=arcM hk m.states ((usefulL m).getD c 0) ((usefulL m).getD d 0):=fun c d hc hd=>by
   rw[ziO,ziO,(zih hlt hc).1,zyT hk hnd hd]
  have hpart:=zBE (srE k hk) (arcM hk m.states) (arcM hk (zba m (usefulL m)).states) (n:=m.states.length) (k:=(usefulL m).length) (finM hk m.states) (finM hk (zba m (usefulL m)).states) (fun c=>(usefulL m).getD c 0)
   (fun c hc=>hlt _ (hgd c hc))
   (fun c hc X hX=>by
    rw[ztx (srE k hk) (fun j=>decide (j∈usefulL m)) _ m.states.length (fun j hj hp=>hX j hj (fun d hd e=>by
     have h1:=hgd d hd;rw[e] at h1;simp[h1] at hp))]
    have e:(List.range m.states.length).filter (fun j=>decide (j∈usefulL m))=usefulL m:=by
     conv=>rhs;unfold usefulL
     refine List.filter_congr (fun x hx=>?_);rw[decide_eq_decide];exact zdz hw
    rw[e];unfold lsm;exact zar _ (fun d hd=>by rw[hA c d hc hd]))
   (fun c hc=>by unfold finM;rw[(zih hlt hc).2])
   (fun c hc j hj hj2=>by
    by_cases hs:j∈zaV m ((usefulL m).getD c 0)
    ·have hu1:=(zdz hw).1 (hgd c hc)
     have hd:=znd hk hj (fun h=>hout j hj hj2 ((zdz hw).2 ⟨.step hu1.1 hs,h⟩));unfold toE at hd;rw[hd,(srE k hk).mul_zero]
    ·rw[zyS hk hs,(srE k hk).zero_mul])
   (fun c d hc hd e=>by
    try dsimp only at e
    rw[zqaa,zqac hc,zqaa,zqac hd] at e;have h1:=List.Nodup.idxOf_getElem hnd c hc;have h2:=List.Nodup.idxOf_getElem hnd d hd;have e3:(usefulL m)[c]=(usefulL m)[d]:=e;rw[e3] at h1;exact h1.symm.trans h2)
   (c:=(usefulL m).idxOf m.start.toNat) (List.idxOf_lt_length_of_mem hsu)
  have e1:(zba m (usefulL m)).start.toNat=(usefulL m).idxOf m.start.toNat:=rfl;rw[e1]
  have e2:(usefulL m).getD ((usefulL m).idxOf m.start.toNat) 0=m.start.toNat:=by
   rw[zqaa,zqac (List.idxOf_lt_length_of_mem hsu)];exact List.getElem_idxOf _
  rw[e2] at hpart;show(srE k hk).mul _ (zbP (srE k hk) (arcM hk (zba m (usefulL m)).states) (zba m (usefulL m)).states.length (finM hk (zba m (usefulL m)).states) _)=_;rw[zfx,hpart];rfl
end
open Go.RowKit
section
variable {k:Int}
theorem zwx {f g:Nat->Nat}:∀ {n:Nat},(∀ x,x<n->f x<=g x)->ns n f<=ns n g
 | 0,_=>zqab _
 | n+1,h=>by
  show ns n f+f n<=ns n g+g n;have:=zwx (f:=f) (g:=g) (n:=n) (fun x hx=>h x (by omega));have:=h n (by omega);omega
theorem zHQ {m:zak}(hv:validB m=true)(hl:zis m.kind m.states):zis (trimM m).kind (trimM m).states:=by
 have hw:=zjo hv;rw[zly]
 by_cases hu:usefulL m=[]
 ·rw[zgK hu]
  refine⟨by show 1<=5;omega,by show(0+0:Nat)<=10;omega,fun i hi a ha=>?_,fun i hi=>?_⟩
  ·obtain rfl:i=0:=by have:i<1:=hi;omega
   cases ha
  ·obtain rfl:i=0:=by have:i<1:=hi;omega
   show(([]:List UInt8).filter zcf).length<=4;decide
 ·rw[zeU hu]
  have hlt:∀ x∈usefulL m,x<m.states.length:=fun x hx=>by
   unfold usefulL at hx;exact List.mem_range.1 (List.mem_filter.1 hx).1
  have hgd:∀ c,c<(usefulL m).length->(usefulL m).getD c 0∈usefulL m:=fun c hc=>by
   rw[zqaa,zqac hc];exact List.getElem_mem hc
  have hlen:=ztr hv;rw[zeU hu,zfx] at hlen;refine⟨by rw[zfx];have:=hl.n5;omega,?_,fun i hi a ha=>?_,fun i hi=>?_⟩
  ·rw[zfx]
   have hpw:(usefulL m).Pairwise (· < ·):=List.pairwise_lt_range.filter _;have h1:=zsi (fun x=>(stA m.states x).length) (usefulL m) (usefulL m).length (zqab _);rw[List.take_length] at h1;have h2:=zqD (fun x=>(stA m.states x).length) m.states.length (usefulL m) hpw hlt
   have h3:ns (usefulL m).length (fun i=>(stA (zba m (usefulL m)).states i).length)<=ns (usefulL m).length (fun c=>(stA m.states ((usefulL m).getD c 0)).length):=zwx (fun c hc=>by
    rw[(zih hlt hc).1];exact List.length_filterMap_le _ _)
   have h4:=hl.ten;omega
  ·rw[zfx] at hi
   rw[(zih hlt hi).1] at ha;obtain⟨b,hb,he⟩:=List.mem_filterMap.1 ha;unfold zdy at he;split at he
   ·cases he
    exact hl.arcs _ (hlt _ (hgd i hi)) b hb
   ·cases he
  ·rw[zfx] at hi
   rw[(zih hlt hi).2];exact hl.fins _ (hlt _ (hgd i hi))
theorem zxK (hk:zad k){l:List zai}(hl:zis k l)(hok:zdA k l):zfd k hk (arcM hk l) (finM hk l) l.length (fun i=>arcL hk (stA l i)) :=
 ⟨hl.n5,(zgM hk hl hok).a,fun x hx e he=>⟨(zgM hk hl hok).lt x hx e he,(zgM hk hl hok).sh x hx e he⟩,(zgM hk hl hok).ten,fun x hx=>zwu hk hl hok hx⟩
theorem zJK (hk:zad k){l:List zai}{ld:ByteArray}{s0:Nat}(hl:zis k l)(hok:zdA k l)(hld:∃ v,Val k ld v)(hs:zdW ld)(h0:s0<l.length):zam (totE hk l ld s0) :=
 ((zxK hk hl hok).total (zqE hk hld hs).wide h0).fits (by omega)
theorem zEP {m:zak}(hk:zad m.kind)(hv:validB m=true)(hl:zis m.kind m.states)(hs:zdW m.lead):zkB hk (trimM m).states (trimM m).lead (trimM m).start.toNat:=by
 have hok:=zfz hv;have hokt:=zfz (zqB hv);have hlt:=zHQ hv hl;have e:=zly m;have hst:zdA (trimM m).kind (trimM m).states:=hokt.sts (by have:=hlt.n5;omega);rw[e] at hlt hst;refine⟨zEO hk hlt hst,?_⟩;rw[zww hk (zjo hv)];obtain⟨s0,h1,h2⟩:=hok.start;exact zJK hk hl (hok.sts (by have:=hl.n5;omega)) hok.lead hs (by rw[h1];exact h2)
def zhQ {α:Type}(M:Nat->List (Nat×α))(n x:Nat):List (Nat×α):=(List.range n).flatMap (fun i=>((M i).filter (fun e=>decide (e.1=x))).map (fun e=>(i,e.2)))
theorem zqF {α:Type}(S:Sr α)(y:Nat):∀ (l m:List (Nat×α)),cs S (l++m) y=S.add (cs S l y) (cs S m y)
 | [],m=>(S.zero_add _).symm
 | e::l,m=>by
  show(if e.1=y then S.add e.2 (cs S (l++m) y) else cs S (l++m) y)=S.add (if e.1=y then S.add e.2 (cs S l y) else cs S l y) (cs S m y);rw[zqF S y l m];split
  ·rw[S.add_assoc]
  ·rfl
theorem zwy {α:Type}(S:Sr α)(x i y:Nat):∀ (l:List (Nat×α)),cs S ((l.filter (fun e=>decide (e.1=x))).map (fun e=>(i,e.2))) y=if i=y then cs S l x else S.zero
 | []=>by show S.zero=if i=y then S.zero else S.zero;split <;> rfl
 | e::l=>by
  have ih:=zwy S x i y l
  by_cases h:e.1=x
  ·rw[List.filter_cons_of_pos (by simpa using h)]
   show(if i=y then S.add e.2 (cs S ((l.filter (fun e=>decide (e.1=x))).map (fun e=>(i,e.2))) y) else cs S ((l.filter (fun e=>decide (e.1=x))).map (fun e=>(i,e.2))) y)=if i=y then (if e.1=x then S.add e.2 (cs S l x) else cs S l x) else S.zero
   rw[ih,if_pos h];split
   ·rfl
   ·rfl
  ·rw[List.filter_cons_of_neg (by simpa using h),ih]
   show _=if i=y then (if e.1=x then S.add e.2 (cs S l x) else cs S l x) else S.zero
   rw[if_neg h]
theorem zyU {α:Type}(S:Sr α)(M:Nat->List (Nat×α))(x y:Nat):∀ n,cs S (zhQ M n x) y=if y<n then cs S (M y) x else S.zero
 | 0=>rfl
 | n+1=>by
  have e:zhQ M (n+1) x=zhQ M n x++((M n).filter (fun e=>decide (e.1=x))).map (fun e=>(n,e.2)):=by
   unfold zhQ;rw[List.range_succ,List.flatMap_append];simp
  rw[e,zqF,zyU S M x y n,zwy]
  by_cases h:n=y
  ·subst h
   rw[if_pos rfl,if_neg (by omega),if_pos (by omega),S.zero_add]
  ·rw[if_neg h,S.add_zero]
   by_cases h2:y<n
   ·rw[if_pos h2,if_pos (by omega)]
   ·rw[if_neg h2,if_neg (by omega)]
theorem count_le {α:Type}:∀ (l:List (Nat×α)) (n:Nat),ns n (fun x=>(l.filter (fun e=>decide (e.1=x))).length)<=l.length
 | [],n=>by
  have:ns n (fun x=>(([]:List (Nat×α)).filter (fun e=>decide (e.1=x))).length)=0:=by
   induction n with
   | zero=>rfl
   | succ n ih=>show ns n _+0=0;rw[ih]
  omega
 | e::l,n=>by
  have ih:=count_le l n
  have h:∀ n,ns n (fun x=>((e::l).filter (fun e=>decide (e.1=x))).length)=ns n (fun x=>(l.filter (fun e=>decide (e.1=x))).length)+(if e.1<n then 1 else 0):=by
   intro n
   induction n with
   | zero=>rfl
   | succ n ih2 =>
    show ns n _+((e::l).filter (fun e=>decide (e.1=n))).length=ns n _+(l.filter (fun e=>decide (e.1=n))).length+_;rw[ih2]
    by_cases he:e.1=n
    ·rw[List.filter_cons_of_pos (by simpa using he),zqbu,if_neg (by omega),if_pos (by omega)]
     omega
    ·rw[List.filter_cons_of_neg (by simpa using he)]
     by_cases h3:e.1<n
     ·rw[if_pos h3,if_pos (by omega)];omega
     ·rw[if_neg h3,if_neg (by omega)];omega
  rw[h n,zqbu];split <;> omega
theorem zyV (f g:Nat->Nat):∀ n,ns n (fun x=>f x+g x)=ns n f+ns n g
 | 0=>rfl
 | n+1=>by
  show ns n (fun x=>f x+g x)+(f n+g n)=(ns n f+f n)+(ns n g+g n);rw[zyV f g n];omega
theorem zqG {α:Type}(M:Nat->List (Nat×α))(q:Nat):∀ n,ns q (fun x=>(zhQ M n x).length)<=ns n (fun i=>(M i).length)
 | 0=>by
  have h:∀ q,ns q (fun x=>(zhQ M 0 x).length)=0:=by
   intro q
   induction q with
   | zero=>rfl
   | succ q ih=>show ns q _+0=0;rw[ih]
  rw[h q];exact zqaw _
 | n+1=>by
  have ih:=zqG M q n
  have e:(fun x=>(zhQ M (n+1) x).length)=fun x=>(zhQ M n x).length+((M n).filter (fun e=>decide (e.1=x))).length:=by
   funext x;unfold zhQ;rw[List.range_succ,List.flatMap_append,zqag];simp
  rw[e,zyV];have:=count_le (M n) q;show _<=ns n (fun i=>(M i).length)+(M n).length;omega
theorem zHR (hk:zad k){l:List zai}(hl:zis k l)(hok:zdA k l):Few (srE k hk) (fun v=>Sh4 v.1) (fun x y=>arcM hk l y x) l.length (zhQ (fun i=>arcL hk (stA l i)) l.length) where
 n5:=hl.n5
 a x y hx hy:=by rw[zyU,if_pos hy];exact ziO hk l y x
 sh x hx e he:=by
  obtain⟨i,hi,h⟩:=List.mem_flatMap.1 he;obtain⟨e2,h2,rfl⟩:=zqbf.1 h;exact(zgM hk hl hok).sh i (List.mem_range.1 hi) e2 (List.mem_filter.1 h2).1
 lt x hx e he:=by
  obtain⟨i,hi,h⟩:=List.mem_flatMap.1 he;obtain⟨e2,h2,rfl⟩:=zqbf.1 h;exact List.mem_range.1 hi
 ten:=zqam (zqG _ _ _) (zgM hk hl hok).ten
theorem zHS (hk:zad k){l:List zai}{ld:ByteArray}{s0:Nat}(hl:zis k l)(hok:zdA k l)(hld:∃ v,Val k ld v)(hs:zdW ld):zjm hk l ld s0 :=
 ⟨zwv hk hl hok,zwt hk (zHR hk hl hok) (fun x hx=>by
  unfold leadM;split
  ·exact zqE hk hld hs
  ·exact zoT hk) (zqab _)⟩
end
end Go.Proofs.YtaogepcaoogpgaaGreatDoor
