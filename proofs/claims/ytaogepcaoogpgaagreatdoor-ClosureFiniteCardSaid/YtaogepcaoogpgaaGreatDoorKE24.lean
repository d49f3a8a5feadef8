/- WE34 WEA1 WEA3 WEA4 WEA5 -/
import Derived.Test.YtaogepcaoogpgaaGreatDoorKE23
import Derived.Test.YtaogepcaoogpgaaGreatDoorKE22
set_option linter.unusedVariables false
set_option linter.unusedSimpArgs false
set_option maxRecDepth 100000
set_option maxHeartbeats 16000000
namespace Go.Proofs.YtaogepcaoogpgaaGreatDoor
noncomputable def trimM (m:Mach):Mach:=trimW (zbC m.kind) m
theorem zfa {m:Mach}(h:usefulL m=[]):trimM m=zbC m.kind:=by unfold trimM trimW;rw[if_pos h]
theorem zdy {m:Mach}(h:usefulL m≠[]):trimM m=zaH m (usefulL m):=by unfold trimM trimW;rw[if_neg h]
theorem zjt (m:Mach):(trimM m).kind=m.kind:=by
 by_cases h:usefulL m=[]
 ·rw[zfa h];rfl
 ·rw[zdy h];rfl
theorem zho {m:Mach}(h:validB m=true):Wf m:=by
 obtain⟨_,_,_,h1,h2,_⟩:=zdv (zdu h);refine⟨⟨h1,h2⟩,fun s hs a ha => ?_⟩;obtain⟨k,hk⟩:=List.mem_iff_getElem?.1 hs;have:=zgj ((zeB (zfq h hk)).2 a ha);exact⟨this.2.2.2.2.1,this.2.2.2.2.2.1⟩
theorem zuQ {m:Mach}(h:validB m=true){s:zah}(hs:s∈m.states):finB m.kind s.fin=true∧∀ a∈s.arcs,arcB m.kind m.states.length a=true:=by
 obtain⟨k,hk⟩:=List.mem_iff_getElem?.1 hs;exact zeB (zfq h hk)
theorem zBs {k:Int}{n n':Nat}{a a':MArc}(h:arcB k n a=true)(hi:a'.i=a.i)(ho:a'.o=a.o)(hw:a'.w=a.w)(ht:0≤a'.t∧a'.t<(n':Int)):arcB k n' a'=true:=by
 obtain⟨h1,h2,h3,h4,h5,h6,h7⟩:=zgj h;unfold arcB;rw[hi,ho,hw,h7];simp only[Bool.and_true,decide_eq_true_eq]
 omega
theorem zDZ {m n:Mach}(h:validB m=true)(hk:n.kind=m.kind)(hl:n.lead=m.lead)(h1:1≤n.states.length)(h2:n.states.length≤3000)(hs:0≤n.start∧n.start<(n.states.length:Int))(ha:zaW n.states≤30000)
  (hst:∀ s∈n.states,finB m.kind s.fin=true∧∀ a∈s.arcs,arcB m.kind n.states.length a=true):validB n=true:=by
 obtain⟨k1,_,_,_,_,k6⟩:=zdv (zdu h);unfold validB headB;rw[hk,hl,k1,k6];simp only[Bool.true_and,Bool.and_true,Bool.and_eq_true,decide_eq_true_eq,List.all_eq_true];refine⟨⟨⟨h1,h2,hs⟩,ha⟩,fun s hm => ?_⟩;unfold stB6;rw[(hst s hm).1];simp only[Bool.true_and,List.all_eq_true];exact(hst s hm).2
theorem zyh {k:Int}(h:zeE k=true):validB (zbC k)=true:=by
 have hk:=(zqf k).1 h;have hw:Wgt k (oneT k) (zgd k):=⟨zoG hk,by rcases hk with rfl|rfl|rfl <;> decide +kernel⟩;unfold validB headB zbC;simp only[h,zmo hw];simp[zaW,stB6,finB]
theorem zju (f:Nat→Nat):∀ (n:Nat) (l:List Nat),l.Nodup→(∀ x∈l,x<n)→(l.map f).sum≤((List.range n).map f).sum
 | 0,l,_,hb=>by
  cases l with
  | nil=>simp
  | cons x l=>exact absurd (hb x (List.mem_cons_self ..)) (by omega)
 | n+1,l,hn,hb=>by
  rw[List.range_succ,List.map_append,List.sum_append]
  by_cases h:n∈l
  ·have hp:=List.perm_cons_erase h
   have h1:=(hp.map f).sum_nat;rw[List.map_cons,List.sum_cons] at h1
   have h2:=zju f n (l.erase n) (hn.erase n) (fun x hx=>by
    have h3:=(List.Nodup.mem_erase_iff hn).1 hx;have:=hb x h3.2;have:=h3.1
    omega)
   simp only[List.map_cons,List.map_nil,List.sum_cons,List.sum_nil]
   omega
  ·have h2:=zju f n l hn (fun x hx=>by
    have:=hb x hx;have:x≠n:=fun e=>h (e ▸ hx)
    omega)
   omega
theorem ztE (m:Mach):(List.range m.states.length).map (stOf m)=m.states:=by
 apply List.ext_getElem?
 intro i;rw[List.getElem?_map]
 by_cases h:i<m.states.length
 ·rw[List.getElem?_range h]
  have hs:m.states[i]? = some m.states[i]:=List.getElem?_eq_getElem h;rw[hs];simp[zfK hs]
 ·rw[List.getElem?_eq_none (by simp;omega),List.getElem?_eq_none (by omega)];rfl
theorem zuR (m:Mach):zaW m.states=((List.range m.states.length).map (fun x=>(stOf m x).arcs.length)).sum:=by
 conv=>lhs;rw[← ztE m]
 unfold zaW;rw[List.map_map]
 rfl
theorem zBt {α:Type}(f g:α→Nat):∀ l:List α,(∀ x∈l,f x≤g x)→(l.map f).sum≤(l.map g).sum
 | [],_=>by simp
 | x::l,h=>by
  have h1:=h x (List.mem_cons_self ..);have h2:=zBt f g l (fun y hy=>h y (List.mem_cons_of_mem _ hy));simp only[List.map_cons,List.sum_cons]
  omega
theorem zEa {m:Mach}{x:Nat}(h:x<m.states.length):stOf m x∈m.states:=by
 have hs:m.states[x]? = some m.states[x]:=List.getElem?_eq_getElem h;rw[zfK hs];exact List.getElem_mem h
theorem zuS {m:Mach}{l:List Nat}(h:validB m=true)(hn:l.Nodup)(hb:∀ x∈l,x<m.states.length)(hs:m.start.toNat∈l):validB (zaH m l)=true:=by
 obtain⟨_,_,h3,_,_,_⟩:=zdv (zdu h);have hlen:(zaH m l).states.length=l.length:=zdX m l;have hshort:=zhX hn hb;have hi:=zqt hs;refine zDZ h rfl rfl (by rw[hlen];omega) (by rw[hlen];omega) ⟨by show 0≤((l.idxOf m.start.toNat:Nat):Int);omega,by rw[hlen];show((l.idxOf m.start.toNat:Nat):Int)<_;omega⟩ ?_ ?_
 ·refine Nat.le_trans ?_ (zjc h)
  rw[zuR m];refine Nat.le_trans ?_ (zju (fun x=>(stOf m x).arcs.length) m.states.length l hn hb);unfold zaW zaH;rw[List.map_map];exact zBt _ _ l (fun x _=>List.length_filterMap_le _ _)
 ·intro s hm
  simp only[zaH,List.mem_map] at hm;obtain⟨x,hx,rfl⟩:=hm;have hv:=zuQ h (zEa (hb x hx));refine⟨hv.1,fun a ha => ?_⟩;simp only[zhl,List.mem_filterMap] at ha;obtain⟨b,hb1,hb2⟩:=ha;unfold zcv at hb2
  split at hb2
  ·rename_i hin
   cases hb2;have:=zqt hin;exact zBs (hv.2 b hb1) rfl rfl rfl ⟨by show 0≤((l.idxOf b.t.toNat:Nat):Int);omega,by rw[hlen];show((l.idxOf b.t.toNat:Nat):Int)<_;omega⟩
  ·cases hb2
theorem zkM (m:Mach):∀ x∈usefulL m,x<m.states.length:=fun x hx=>List.mem_range.1 (List.mem_filter.1 hx).1
theorem zoa {m:Mach}(hw:Wf m)(h:usefulL m≠[]):m.start.toNat∈usefulL m:=by
 rw[zcw hw]
 by_cases hu:zhk m m.start.toNat
 ·exact hu
 ·exact absurd ((znT hw).2 hu) h
theorem zob {m:Mach}(h:validB m=true):validB (trimM m)=true:=by
 by_cases hu:usefulL m=[]
 ·rw[zfa hu]
  exact zyh (zdv (zdu h)).1
 ·rw[zdy hu]
  exact zuS h (zkz m) (zkM m) (zoa (zho h) hu)
def bare (s:zah):zah:=⟨ByteArray.empty,s.arcs⟩
open Go.RowKit
theorem ztF (k:Int)(w:World):Calls Tryz.prog 146 #[.int .i64 k] w (zkx (zbC k) w):=by
 obtain⟨i0,hi,hz0,hz1,hz2⟩:=zci zvV;have RO:=zHd (ziR k);have hb0:=zao.new w zaP (.slice none 0 0);have hg0:w.grownBy (w.alloc (.cells #[.int .i64 zaP.kind,.int .i64 zaP.start,.string zaP.lead,.slice none 0 0] 31)) none:=zGA _ _ _;have HP:=zHd (zmw hb0 hg0);clear hb0 hg0
 obtain⟨mk,hmk,hmg,hms⟩:∃ mk:World→World,(∀ w:World,(Instr.makeSlice 29 (.int .i64 1) (.int .i64 1)).run Tryz.prog w = .ok (.slice (some ⟨w.heap.size,0,none⟩) 1 1) (mk w))∧(∀ w:World,w.grownBy (mk w) none)∧∀ w:World,(mk w).heap[w.heap.size]? = some (.cells #[.string ByteArray.empty,.slice none 0 0] 57 (0,0)) :=
  ⟨fun w=>w.alloc (.cells #[.string ByteArray.empty,.slice none 0 0] 57),fun w=>run_makeSlice w 29 57 i0 _ Tryz.underlying29 hi hz0 .i64 .i64 1 1 (by decide) (by decide) (by rw[hz1];decide) (by rw[hz2];decide) (by decide) |>.trans (by rw[hz1,zFI];rfl),fun w=>zGA _ _ _,fun w=>by show(w.heap.push _)[w.heap.size]? = _;rw[Array.getElem?_push_size]⟩
 have HMS:=zHd hms;have HMG:=zHd hmg;clear hms hmg;go_enter Tryz.func146,Tryz.ntmps146;go_upto_region 1 with(fail)
 clear hi hz0 hz1 hz2;have hp:=HP.out.next_drew;unfold Place at hp;obtain⟨hp1,hp2⟩:=hp
 go_region_held3 (fun W'=>True) (trivial)
  (first
   | (go_at_call 34;refine(RO.out _).mono ?_;rintro e w5 ⟨rfl,hg5⟩;have s1:=zjn w hg5 (by first|exact⟨hp1,hp2⟩|exact zjn w (HMG.out _) ⟨hp1,hp2⟩);obtain⟨⟨q0,q1,q2,q3,f0,f1,f2,f3⟩,_⟩:=id s1;have s2:=zjn w (HMG.out w5) s1;obtain⟨⟨r0,r1,r2,r3,e0,e1,e2,e3⟩,_⟩:=id s2))
 ·have P:=znR (n:=zbC k) (v := .slice (some ⟨w5.heap.size,0,none⟩) 1 1) s2
  have t3:=zqr ((P.2.2 w5.heap.size (by have:=s1.2.out.1.lt;omega) (Array.getElem?_eq_some_iff.1 (HMS.out w5)).1).trans (HMS.out w5)) (B:=w.heap.size) (by have:=s1.2.out.2.size;omega);simp only[zbC] at P t3;clear hp1 hp2 s1 q0 q1 q2 q3 f0 f1 f2 f3 s2 r0 r1 r2 r3 e0 e1 e2 e3;have T:=zHd t3;have T2:=zHd P.2.1;obtain⟨c0,c1,c2,c3⟩:=P.1.cells;simp only[] at c0 c1 c2 c3;clear P t3;go_wp2_with fail;generalize ((((mk w5).setCell ⟨w.heap.size,0,none⟩ (.int .i64 k)).setCell ⟨w.heap.size,1,none⟩ (.int .i64 0)).setCell ⟨w.heap.size,2,none⟩ (.string (oneT k))).setCell ⟨w.heap.size,3,none⟩ (.slice (some ⟨w5.heap.size,0,none⟩) 1 1)=WW at *;exact bodyPost_ret (v := .agg #[.int .i64 k,.int .i64 0,.string (oneT k),.slice (some ⟨w5.heap.size,0,none⟩) 1 1]) (by simp[results,Tryz.results146,go_sem,c0,c1,c2,c3]) rfl ⟨_,rfl,⟨_,rfl,T.out⟩,T2.out⟩
 ·have P:=znR (n:=zbC k) (v := .slice (some ⟨w.heap.size+1,0,none⟩) 1 1) s1
  have hs:=HMS.out (w.alloc (.cells #[.int .i64 0,.int .i64 0,.string ⟨#[]⟩,.slice none 0 0] 31)).drew;have hs2:=(hg5.block _ (Array.getElem?_eq_some_iff.1 hs).1 (by simp)).trans hs;rw[show(w.alloc (.cells #[.int .i64 0,.int .i64 0,.string ⟨#[]⟩,.slice none 0 0] 31)).drew.heap.size=w.heap.size+1 by simp] at hs2;have t3:=zqr ((P.2.2 (w.heap.size+1) (by omega) (Array.getElem?_eq_some_iff.1 hs2).1).trans hs2) (B:=w.heap.size) (by omega);simp only[zbC] at P t3;clear hs hs2;clear hp1 hp2 s1 q0 q1 q2 q3 f0 f1 f2 f3;have T:=zHd t3;have T2:=zHd P.2.1;obtain⟨c0,c1,c2,c3⟩:=P.1.cells;simp only[] at c0 c1 c2 c3;clear P t3;go_wp2_with fail;generalize (((w5.setCell ⟨w.heap.size,0,none⟩ (.int .i64 k)).setCell ⟨w.heap.size,1,none⟩ (.int .i64 0)).setCell ⟨w.heap.size,2,none⟩ (.string (oneT k))).setCell ⟨w.heap.size,3,none⟩ (.slice (some ⟨(w.heap.size+1),0,none⟩) 1 1)=WW at *;exact bodyPost_ret (v := .agg #[.int .i64 k,.int .i64 0,.string (oneT k),.slice (some ⟨(w.heap.size+1),0,none⟩) 1 1]) (by simp[results,Tryz.results146,go_sem,c0,c1,c2,c3]) rfl ⟨_,rfl,⟨_,rfl,T.out⟩,T2.out⟩
open Go.RowKit
theorem zuT {m:Mach}(h:validB m=true):Small m:=⟨zho h,zAQ h,fun s hs=>zAR h hs⟩
theorem zBu {w:World}{v:Value}{m:Mach}(hv:zcr w v m)(hm:Small m):Calls Tryz.prog 100 #[v] w (zkx (trimM m) w):=by
 have hv0:=hv;obtain⟨u,rfl,hst0⟩:=hv;obtain⟨A,cap,us,rfl,hS0⟩:=StAt.of hst0;have hg:w.grownBy (w.alloc (.cells #[.int .i64 m.kind,.int .i64 m.start,.string m.lead,.slice A m.states.length cap] 31)) none:=zGA _ _ _;have hbx:=zao.new w m (.slice A m.states.length cap);have hg2:=zGA (w.alloc (.cells #[.int .i64 m.kind,.int .i64 m.start,.string m.lead,.slice A m.states.length cap] 31)) (.cells #[.int .i64 zaP.kind,.int .i64 zaP.start,.string zaP.lead,.slice none 0 0] 31) none;have hb2:=zao.new (w.alloc (.cells #[.int .i64 m.kind,.int .i64 m.start,.string m.lead,.slice A m.states.length cap] 31)) zaP (.slice none 0 0);have e1:(w.alloc (.cells #[.int .i64 m.kind,.int .i64 m.start,.string m.lead,.slice A m.states.length cap] 31)).heap.size=w.heap.size+1:=by simp
 rw[e1] at hb2;have hsz2:w.heap.size+2≤((w.alloc (.cells #[.int .i64 m.kind,.int .i64 m.start,.string m.lead,.slice A m.states.length cap] 31)).alloc (.cells #[.int .i64 zaP.kind,.int .i64 zaP.start,.string zaP.lead,.slice none 0 0] 31)).heap.size:=by simp
 have HSZ2:=zHd hsz2;have HV0:=zHd hv0;have HB1:=zHd (hbx.grown hg2);have HB2:=zHd hb2;have HG:=zHd (zaa hg hg2);obtain⟨x0,x1,x2,x3⟩:=zao.cells HB1.out;clear hbx hg hst0 hS0 hv0 hg2 hb2 e1 hsz2;have HM:=zHd hm;have HU:=zHd (zye (HV0.out.grown HG.out) hm);clear hm;go_enter Tryz.func100,Tryz.ntmps100;go_wp2_with fail;refine HU.out.mono ?_;rintro e w1 ⟨lv,rfl,hl,hg1⟩;have HL:=zHd hl;obtain⟨Al,capl,rfl,hrl⟩:=hl;have HSZ1:Hid (w.heap.size+2≤w1.heap.size):=zHd (Nat.le_trans HSZ2.out hg1.size);have HG1:=zHd (zaa HG.out hg1);have HB1a:=zHd (zao.grown HB1.out hg1);have HB2a:=zHd (zao.grown HB2.out hg1);clear hg1 hrl HU HSZ2 HB1 HB2 HG x0 x1 x2 x3;obtain⟨x0,x1,x2,x3⟩:=zao.cells HB1a.out
 by_cases h0:usefulL m=[]
 ·have HT:=zHd (zfa h0)
  have n0:(usefulL m).length=0:=by rw[h0];rfl
  have HC:=zHd (ztF m.kind w1);clear h0;rw[n0];go_wp2_with fail;refine HC.out.mono ?_;intro e w2 h2;obtain⟨A2,k2,rfl,hsz,hg2⟩:=h2.open6;have hle:=HSZ1.out;have HGZ:=zHd (zaa HG1.out hg2);have hbz:=zao.grown HB2a.out hg2;clear h2 hg2 x0 x1 x2 x3;obtain⟨v0,v1,v2,v3⟩:=hbz.cells;simp only[zaP] at v0 v1 v2;have f0:=hbz.free 0;have f1:=hbz.free 1;have f2:=hbz.free 2;have f3:=hbz.free 3;obtain⟨hbf,hgf⟩:=zfM (n:=(zbC m.kind)) (v := .slice A2 (zbC m.kind).states.length k2) hbz;have HGF:=zHd (zai (g:=w.heap.size+1) HGZ.out hgf (by omega));have T:=zHd ((hsz.kept (zgm hgf (by omega))).mono (C:=w.heap.size) (by omega));obtain⟨c0,c1,c2,c3⟩:=hbf.cells;clear hsz hbz hbf hgf;go_wp2_with fail;generalize (((w2.setCell ⟨w.heap.size+1,0,none⟩ (.int .i64 (zbC m.kind).kind)).setCell ⟨w.heap.size+1,1,none⟩ (.int .i64 (zbC m.kind).start)).setCell ⟨w.heap.size+1,2,none⟩ (.string (zbC m.kind).lead)).setCell ⟨w.heap.size+1,3,none⟩ (.slice A2 (zbC m.kind).states.length k2)=WW at *;exact bodyPost_ret (v := .agg #[.int .i64 (zbC m.kind).kind,.int .i64 (zbC m.kind).start,.string (zbC m.kind).lead,.slice A2 (zbC m.kind).states.length k2]) (by simp[results,Tryz.results100,go_sem,c0,c1,c2,c3]) rfl ⟨_,rfl,by rw[HT.out];exact⟨_,rfl,T.out⟩,HGF.out⟩
 ·have HT:=zHd (zdy h0)
  have n0:¬ (usefulL m).length=0:=fun e=>h0 (List.eq_nil_of_length_eq_zero e);have n1:¬ ((usefulL m).length:Int)=0:=by omega
  have HC:=zHd (zDY (HV0.out.grown HG1.out) HM.out HL.out (zkz m) (zkM m) (zoa HM.out.wf h0));clear h0;go_wp2_with fail;refine HC.out.mono ?_;intro e w2 h2;obtain⟨A2,k2,rfl,hsz,hg2⟩:=h2.open6;have hle:=HSZ1.out;have HGZ:=zHd (zaa HG1.out hg2);have hbz:=zao.grown HB2a.out hg2;clear h2 hg2 x0 x1 x2 x3;obtain⟨v0,v1,v2,v3⟩:=hbz.cells;simp only[zaP] at v0 v1 v2;have f0:=hbz.free 0;have f1:=hbz.free 1;have f2:=hbz.free 2;have f3:=hbz.free 3;obtain⟨hbf,hgf⟩:=zfM (n:=(zaH m (usefulL m))) (v := .slice A2 (zaH m (usefulL m)).states.length k2) hbz;have HGF:=zHd (zai (g:=w.heap.size+1) HGZ.out hgf (by omega));have T:=zHd ((hsz.kept (zgm hgf (by omega))).mono (C:=w.heap.size) (by omega));obtain⟨c0,c1,c2,c3⟩:=hbf.cells;clear hsz hbz hbf hgf;go_wp2_with fail;generalize (((w2.setCell ⟨w.heap.size+1,0,none⟩ (.int .i64 (zaH m (usefulL m)).kind)).setCell ⟨w.heap.size+1,1,none⟩ (.int .i64 (zaH m (usefulL m)).start)).setCell ⟨w.heap.size+1,2,none⟩ (.string (zaH m (usefulL m)).lead)).setCell ⟨w.heap.size+1,3,none⟩ (.slice A2 (zaH m (usefulL m)).states.length k2)=WW at *;exact bodyPost_ret (v := .agg #[.int .i64 (zaH m (usefulL m)).kind,.int .i64 (zaH m (usefulL m)).start,.string (zaH m (usefulL m)).lead,.slice A2 (zaH m (usefulL m)).states.length k2]) (by simp[results,Tryz.results100,go_sem,c0,c1,c2,c3]) rfl ⟨_,rfl,by rw[HT.out];exact⟨_,rfl,T.out⟩,HGF.out⟩
noncomputable def trimV (m:Mach):Mach × Int:=if validB m=true then (trimM m,0) else (zaP,1)
theorem zBv {w:World}{v:Value}{m:Mach}(hv:zcr w v m)(hf:zfp m):Calls Tryz.prog 56 #[v] w (zxG (trimV m) w):=by
 have hval:=fun w' (h:w.grownBy w' none)=>znY (hv.grown h) hf;have HV:=zHd hval;clear hval;have hv0:=hv;obtain⟨u,rfl,hst0⟩:=hv;obtain⟨A,cap,us,rfl,hS0⟩:=StAt.of hst0;have hg:w.grownBy (w.alloc (.cells #[.int .i64 m.kind,.int .i64 m.start,.string m.lead,.slice A m.states.length cap] 31)) none:=zGA _ _ _;have hbx:=zao.new w m (.slice A m.states.length cap);have hg2:=zGA (w.alloc (.cells #[.int .i64 m.kind,.int .i64 m.start,.string m.lead,.slice A m.states.length cap] 31)) (.cells #[.int .i64 zaP.kind,.int .i64 zaP.start,.string zaP.lead,.slice none 0 0] 31) none;have hb2:=zao.new (w.alloc (.cells #[.int .i64 m.kind,.int .i64 m.start,.string m.lead,.slice A m.states.length cap] 31)) zaP (.slice none 0 0);have e1:(w.alloc (.cells #[.int .i64 m.kind,.int .i64 m.start,.string m.lead,.slice A m.states.length cap] 31)).heap.size=w.heap.size+1:=by simp
 rw[e1] at hb2;have hsz2:w.heap.size+2≤((w.alloc (.cells #[.int .i64 m.kind,.int .i64 m.start,.string m.lead,.slice A m.states.length cap] 31)).alloc (.cells #[.int .i64 zaP.kind,.int .i64 zaP.start,.string zaP.lead,.slice none 0 0] 31)).heap.size:=by simp
 have HSZ2:=zHd hsz2;have HV0:=zHd hv0;have HB1:=zHd (hbx.grown hg2);have HB2:=zHd hb2;have HG:=zHd (zaa hg hg2);obtain⟨x0,x1,x2,x3⟩:=zao.cells HB1.out;clear hbx hg hst0 hS0 hv0 hg2 hb2 e1 hsz2;go_enter Tryz.func56,Tryz.ntmps56;go_wp2_with fail;refine(HV.out _ HG.out).mono ?_;rintro e w1 ⟨rfl,hg1⟩;have HSZ1:Hid (w.heap.size+2≤w1.heap.size):=zHd (Nat.le_trans HSZ2.out hg1.size);have HG1:=zHd (zaa HG.out hg1);have HB1a:=zHd (zao.grown HB1.out hg1);have HB2a:=zHd (zao.grown HB2.out hg1);clear hg1 HSZ2 HB1 HB2 HG x0 x1 x2 x3;obtain⟨x0,x1,x2,x3⟩:=zao.cells HB1a.out;cases hB:validB m
 ·have HN:Hid (trimV m=(zaP,1)):=zHd (by unfold trimV;rw[hB];rfl)
  have hle:=HSZ1.out;have HGZ:=HG1;have hbz:=HB2a.out;have hsz:=StN.nil w1 (w.heap.size+2);clear hB x0 x1 x2 x3;obtain⟨v0,v1,v2,v3⟩:=hbz.cells;have f0:=hbz.free 0;have f1:=hbz.free 1;have f2:=hbz.free 2;have f3:=hbz.free 3;obtain⟨hbf,hgf⟩:=zfM (n:=zaP) (v := .slice none 0 0) hbz;have HGF:=zHd (zai (g:=w.heap.size+1) HGZ.out hgf (by omega));have T:=zHd ((hsz.kept (zgm hgf (by omega))).mono (C:=w.heap.size) (by omega));obtain⟨c0,c1,c2,c3⟩:=hbf.cells;clear hsz hbz hbf hgf;go_wp2_with fail;generalize (((w1.setCell ⟨w.heap.size+1,0,none⟩ (.int .i64 zaP.kind)).setCell ⟨w.heap.size+1,1,none⟩ (.int .i64 zaP.start)).setCell ⟨w.heap.size+1,2,none⟩ (.string zaP.lead)).setCell ⟨w.heap.size+1,3,none⟩ (.slice none 0 0)=WW at *;exact bodyPost_ret (v := .tuple #[.agg #[.int .i64 zaP.kind,.int .i64 zaP.start,.string zaP.lead,.slice none 0 0],.int .i64 1]) (by simp[results,Tryz.results56,go_sem,c0,c1,c2,c3]) rfl (by rw[HN.out];exact⟨_,rfl,⟨_,rfl,T.out⟩,HGF.out⟩)
 ·have HT:=zHd (zBu (HV0.out.grown HG1.out) (zuT hB))
  have HN:Hid (trimV m=(trimM m,0)):=zHd (by unfold trimV;rw[hB];rfl);clear hB;generalize trimM m=t at *;go_wp2_with fail;refine HT.out.mono ?_;intro e w2 h2;obtain⟨A2,k2,rfl,hsz,hg2⟩:=h2.open6;have hle:=HSZ1.out;have HGZ:=zHd (zaa HG1.out hg2);have hbz:=zao.grown HB2a.out hg2;clear h2 hg2 x0 x1 x2 x3;obtain⟨v0,v1,v2,v3⟩:=hbz.cells;simp only[zaP] at v0 v1 v2;have f0:=hbz.free 0;have f1:=hbz.free 1;have f2:=hbz.free 2;have f3:=hbz.free 3;obtain⟨hbf,hgf⟩:=zfM (n:=t) (v := .slice A2 t.states.length k2) hbz;have HGF:=zHd (zai (g:=w.heap.size+1) HGZ.out hgf (by omega));have T:=zHd ((hsz.kept (zgm hgf (by omega))).mono (C:=w.heap.size) (by omega));obtain⟨c0,c1,c2,c3⟩:=hbf.cells;clear hsz hbz hbf hgf;go_wp2_with fail;generalize (((w2.setCell ⟨w.heap.size+1,0,none⟩ (.int .i64 t.kind)).setCell ⟨w.heap.size+1,1,none⟩ (.int .i64 t.start)).setCell ⟨w.heap.size+1,2,none⟩ (.string t.lead)).setCell ⟨w.heap.size+1,3,none⟩ (.slice A2 t.states.length k2)=WW at *;exact bodyPost_ret (v := .tuple #[.agg #[.int .i64 t.kind,.int .i64 t.start,.string t.lead,.slice A2 t.states.length k2],.int .i64 0]) (by simp[results,Tryz.results56,go_sem,c0,c1,c2,c3]) rfl (by rw[HN.out];exact⟨_,rfl,⟨_,rfl,T.out⟩,HGF.out⟩)
open Go.RowKit
section
variable {k:Int}
theorem zFQ (hk:zad k){l:List zah}(h:zgp hk l){i:Nat}(hi:i<l.length):FitE (toE hk l i):=by
 have h1:=zjk hk (Nat.le_refl _) h.2 i hi 0 (by omega);rw[zdO _ _ _ _ _ (Nat.le_refl _) i 0 hi] at h1;exact h1
theorem zrj:Enters 58:=enters_of Tryz.func58 (by kernel_rfl) rfl
@[go_sem] theorem field_cal7 (k:Int) (w:World):(Instr.field 64 (.agg #[.int .i64 k,.string (zaf k),.string (oneT k)]) 0).run Tryz.prog w = .ok (.agg #[.int .i64 k,.string (zaf k),.string (oneT k)]) w:=by kernel_rfl
noncomputable def totE (hk:zad k)(l:List zah)(ld:ByteArray)(s0:Nat):El k:=(srE k hk).mul (vE hk ld) (toE hk l s0)
def ziy (hk:zad k)(l:List zah)(ld:ByteArray)(s0:Nat):Prop:=zgp hk l∧FitE (totE hk l ld s0)
theorem zyi (hk:zad k)(l:List zah)(us:List Value)(As:Option Addr)(cs g s0:Nat)(ld:ByteArray)(w:World)(hok:zcx k l)(hst:StsR w l us As cs)(hs0:s0<l.length)(hld:∃ v,Val k ld v)(hb:MBox w g k (s0:Int) ld As l.length cs) :
  Calls Tryz.prog 58 #[.pointer (some ⟨g,0,none⟩)] w (zbn (ziy hk l ld s0) (fun v w'=>v = .string (tx (totE hk l ld s0))) w):=by
 have hof:=fun w'=>zln k w';have hto:=fun(w':World) (hg:w.grownBy w' none)=>zqy hk l us As cs (s0:Int) ld w' hok (hst.grown hg);have hlt:=zlu hk hld
 have hmul:=fun(hf:zgp hk l) (w':World)=>(show Calls Tryz.prog 59 #[calV k,.string ld,.string (tx (toE hk l s0))] w' (zir (FitE (totE hk l ld s0)) (.string (tx (totE hk l ld s0))) w') from by
  have h:=znz hk hlt.2 (zFQ hk hf hs0) w';rw[← hlt.1] at h;exact h)
 have HO:=zHd hof;have HT:=zHd hto;have HM:=zHd hmul;have HN:=zHd (zAI hok.n60 (zAI hs0 hlt));obtain⟨x0,x1,x2,x3⟩:=hb;have d0:w.drew.cell? ⟨g,0,none⟩=some (.int .i64 k):=x0;have d1:w.drew.cell? ⟨g,1,none⟩=some (.int .i64 (s0:Int)):=x1;have d2:w.drew.cell? ⟨g,2,none⟩=some (.string ld):=x2;have d3:w.drew.cell? ⟨g,3,none⟩=some (.slice As l.length cs):=x3;have i1:(s0:Int)<(l.length:Int):=by omega
 have i2:(0:Int)≤(s0:Int):=by omega
 clear hof hto hmul hok hst hs0 hld hlt x0 x1 x2 x3;unfold calV at *;go_enter Tryz.func58,Tryz.ntmps58;go_upto_region 1 with(fail)
 refine wp_region_held_drew (S:=fun W':World=>W'.cell? ⟨g,0,none⟩=some (.int .i64 k)∧W'.cell? ⟨g,1,none⟩=some (.int .i64 (s0:Int))∧W'.cell? ⟨g,2,none⟩=some (.string ld)∧W'.cell? ⟨g,3,none⟩=some (.slice As l.length cs)) (by kernel_rfl) ⟨d0,d1,d2,d3⟩ (fun hHeld => ?_);refine zTk 0 (.pointer (some ⟨g,0,none⟩)) rfl hHeld ?_
 (try simp only[zA1,zA2,zA3,Act.put,zA4,zA5,zA6])
 refine zTk 1 (.int .i64 k) rfl hHeld ?_
 (try simp only[zA1,zA2,zA3,Act.put,zA4,zA5,zA6])
 refine zTk 4 (.pointer (some ⟨g,2,none⟩)) rfl hHeld ?_
 (try simp only[zA1,zA2,zA3,Act.put,zA4,zA5,zA6])
 refine zTk 5 (.string ld) rfl hHeld ?_
 (try simp only[zA1,zA2,zA3,Act.put,zA4,zA5,zA6])
 refine zTk 6 (.agg #[.int .i64 k,.int .i64 (s0:Int),.string ld,.slice As l.length cs]) rfl hHeld ?_
 (try simp only[zA1,zA2,zA3,Act.put,zA4,zA5,zA6])
 refine zTk 8 (.pointer (some ⟨g,1,none⟩)) rfl hHeld ?_
 (try simp only[zA1,zA2,zA3,Act.put,zA4,zA5,zA6])
 refine zTk 9 (.int .i64 (s0:Int)) rfl hHeld ?_
 (try simp only[zA1,zA2,zA3,Act.put,zA4,zA5,zA6])
 refine wpAnyH_ready (rs:=[2]) (by kernel_rfl) (by simp) ?_;refine AllReadyH.cons rfl (fun K hK => ?_) AllReadyH.nil
 go_simp
 refine(HO.out _).mono ?_;rintro e w1 ⟨rfl,hg1⟩;have S1:(fun W':World=>W'.cell? ⟨g,0,none⟩=some (.int .i64 k)∧W'.cell? ⟨g,1,none⟩=some (.int .i64 (s0:Int))∧W'.cell? ⟨g,2,none⟩=some (.string ld)∧W'.cell? ⟨g,3,none⟩=some (.slice As l.length cs)) w1:=⟨hg1.cell hHeld.1 (by simp),hg1.cell hHeld.2.1 (by simp),hg1.cell hHeld.2.2.1 (by simp),hg1.cell hHeld.2.2.2 (by simp)⟩;refine hK.out _ _ S1 (fun hHeld => ?_);clear hK K;have HG1:=zHd hg1;clear hg1;refine zTk 3 (.agg #[.int .i64 k,.string (zaf k),.string (oneT k)]) rfl hHeld ?_
 (try simp only[zA1,zA2,zA3,Act.put,zA4,zA5,zA6])
 refine wpAnyH_ready (rs:=[7]) (by kernel_rfl) (by simp) ?_;refine AllReadyH.cons rfl (fun K hK => ?_) AllReadyH.nil
 go_simp
 refine(HT.out _ (zaa (zae w none) HG1.out)).mono ?_;rintro e w2 (⟨hp2,v2,rfl,⟨g2,rfl,hgs2,hr2⟩,hg2⟩|⟨hn2,rfl,hg2⟩);rotate_left 1
 ·exact⟨rfl,.inr ⟨fun h=>hn2 h.1,rfl,zaa (zaa (zae w none) HG1.out) hg2⟩⟩
 have S2:(fun W':World=>W'.cell? ⟨g,0,none⟩=some (.int .i64 k)∧W'.cell? ⟨g,1,none⟩=some (.int .i64 (s0:Int))∧W'.cell? ⟨g,2,none⟩=some (.string ld)∧W'.cell? ⟨g,3,none⟩=some (.slice As l.length cs)) w2:=⟨hg2.cell hHeld.1 (by simp),hg2.cell hHeld.2.1 (by simp),hg2.cell hHeld.2.2.1 (by simp),hg2.cell hHeld.2.2.2 (by simp)⟩;refine hK.out _ _ S2 (fun hHeld => ?_);clear hK K;have rc:w2.cell? ⟨g2,s0,none⟩=some (.string (tx (toE hk l s0))):=by have h:=hr2.2 s0 HN.out.2.1;rw[Nat.zero_add] at h;exact h
 have H2:=zHd (zAI hp2 (zaa (zaa (zae w none) HG1.out) hg2));clear hp2 hgs2 hr2 hg2;refine zTk 10 (.pointer (some ⟨g2,s0,none⟩)) rfl hHeld ?_
 (try simp only[zA1,zA2,zA3,Act.put,zA4,zA5,zA6])
 refine wpAnyH_ready (rs:=[11]) (by kernel_rfl) (by simp) ?_;refine AllReadyH.cons rfl (fun K hK => ?_) AllReadyH.nil
 go_simp
 refine hK.out _ _ hHeld (fun hHeld => ?_);clear hK K;refine wpAnyH_ready (rs:=[12]) (by kernel_rfl) (by simp) ?_;refine AllReadyH.cons rfl (fun K hK => ?_) AllReadyH.nil
 go_simp
 refine(HM.out H2.out.1 _).mono ?_;rintro e w3 (⟨hp3,rfl,hg3⟩|⟨hn3,rfl,hg3⟩);rotate_left 1
 ·exact⟨rfl,.inr ⟨fun h=>hn3 h.2,rfl,zaa H2.out.2 hg3⟩⟩
 have S3:(fun W':World=>W'.cell? ⟨g,0,none⟩=some (.int .i64 k)∧W'.cell? ⟨g,1,none⟩=some (.int .i64 (s0:Int))∧W'.cell? ⟨g,2,none⟩=some (.string ld)∧W'.cell? ⟨g,3,none⟩=some (.slice As l.length cs)) w3:=⟨hg3.cell hHeld.1 (by simp),hg3.cell hHeld.2.1 (by simp),hg3.cell hHeld.2.2.1 (by simp),hg3.cell hHeld.2.2.2 (by simp)⟩;refine hK.out _ _ S3 (fun hHeld => ?_);clear hK K;have H3:=zHd (zAI hp3 hg3);clear hp3 hg3;refine wpAnyH_ready (rs:=[13]) (by kernel_rfl) (by simp) ?_;refine AllReadyH.cons rfl (fun K hK => ?_) AllReadyH.nil
 go_simp
 refine hK.out _ _ hHeld (fun hHeld => ?_);clear hK K;refine wpAnyH_done (by kernel_rfl) ?_ _;go_wp2;go_ret;exact .inl ⟨⟨H2.out.1,H3.out.1⟩,_,rfl,rfl,zaa H2.out.2 H3.out.2⟩
end
theorem zqI {m:Mach}(hv:validB m=true):(trimM m).states.length≤m.states.length:=by
 have h1:=(zdv (zdu hv)).2.1
 by_cases h:usefulL m=[]
 ·rw[zfa h]
  show 1≤_;exact h1
 ·rw[zdy h]
  unfold zaH usefulL;rw[List.length_map];refine Nat.le_trans (List.length_filter_le _ _) ?_;rw[List.length_range];exact Nat.le_refl _
def zkN (m:Mach)(w:World)(e:Ending)(w':World):Prop :=
 (checkC m≠0∧w.grownBy w' none∧e = .returned (.tuple #[.string ⟨#[]⟩,.int .i64 (checkC m)]))∨(checkC m=0∧∃ hk:zad m.kind,w.grownBy w' none ∧
  ((ziy hk (trimM m).states (trimM m).lead (trimM m).start.toNat∧e = .returned (.tuple #[.string (tx (totE hk (trimM m).states (trimM m).lead (trimM m).start.toNat)),.int .i64 0])) ∨
    (¬ ziy hk (trimM m).states (trimM m).lead (trimM m).start.toNat∧e = .returned (.tuple #[.string ⟨#[]⟩,.int .i64 2]))))
theorem zBw {w:World}{v:Value}{m:Mach}(hv:zcr w v m)(hf:zfp m):Calls Tryz.prog 20 #[v] w (zkN m w):=by
 have hmf:∀ (fn:Fn) (first cap:Array Value) (w:World),(Instr.makeFunc fn first cap).run Tryz.prog w = .ok (.func fn first cap) w:=fun _ _ _ _=>rfl;have hv0:=hv;obtain⟨u,rfl,hst⟩:=hv;obtain⟨A,cs,us,rfl,hsr⟩:=ziv hst;have hal:=zGA w (.cells #[.int .i64 m.kind,.int .i64 m.start,.string m.lead,.slice A m.states.length cs] 31) none;have hck:=zkL (w:=w.alloc (.cells #[.int .i64 m.kind,.int .i64 m.start,.string m.lead,.slice A m.states.length cs] 31)) (v := .agg #[.int .i64 m.kind,.int .i64 m.start,.string m.lead,.slice A m.states.length cs]) (m:=m) ⟨_,rfl,hst.below (zbX hal)⟩ hf;have htr:=fun(w1:World) (hg:w.grownBy w1 none)=>zBv (w:=w1) (v := .agg #[.int .i64 m.kind,.int .i64 m.start,.string m.lead,.slice A m.states.length cs]) (m:=m) ⟨_,rfl,hst.below (zbX hg)⟩ hf;obtain⟨x0,x1,x2,x3⟩:=MBox.new w m.kind m.start m.lead A m.states.length cs;have hbk:=zau w (.cells #[.int .i64 m.kind,.int .i64 m.start,.string m.lead,.slice A m.states.length cs] 31);have HC:=zHd hck;have HW:=zHd hal;have HT:=zHd htr;have HB:=zHd hbk;clear hck hal hsr hst hv0 hf htr hbk;unfold zkN;go_enter Tryz.func20,Tryz.ntmps20;go_wp2_with fail;refine HC.out.mono ?_;rintro e w1 ⟨rfl,hg1⟩;have y0:=hg1.cell x0 (by simp);have y1:=hg1.cell x1 (by simp);have y2:=hg1.cell x2 (by simp);have y3:=hg1.cell x3 (by simp);have hb1:=(hg1.block w.heap.size (by simp) (by simp)).trans HB.out;have HG:=zHd (zaa HW.out hg1);have HB1:=zHd hb1;clear hg1 HC x0 x1 x2 x3 hb1 HB HW;obtain⟨c,hc⟩:∃ c,checkC m=c:=⟨_,rfl⟩;rw[hc];have HCC:=zHd hc;clear hc
 by_cases h0:c=0
 ·subst h0
  obtain⟨hvalid,h60⟩:=zhZ HCC.out;have hok:=zdZ (zob hvalid);have hk0:=(zdZ hvalid).kind;have hlen:=zqI hvalid;have htv:trimV m=(trimM m,0):=by unfold trimV;rw[if_pos hvalid]
  have htk:=zjt m;obtain⟨t,ht⟩:∃ t,trimM m=t:=⟨_,rfl⟩;rw[ht] at hok hlen htv htk;have HTM:=zHd ht;clear ht;obtain⟨s0,hs0,hs1⟩:=hok.start;have HOK:=zHd (zAI hok (zAI hs1 (zAI hlen (zAI h60 (zAI hk0 (zAI htv htk))))));have HS0:=zHd hs0;clear hok hvalid h60 hk0 hlen htv htk hs1;go_wp2_with fail;refine(HT.out w1 HG.out).mono ?_;intro e w2 hq;rw[HOK.out.2.2.2.2.2.1] at hq;obtain⟨At,ct,rfl,hstn,hg2⟩:=hq.open6;rw[hs0];rw[HOK.out.2.2.2.2.2.2];have hb2:=(hg2.block w.heap.size (Array.getElem?_eq_some_iff.1 HB1.out).1 (by simp)).trans HB1.out;have q0:=cell_of_row w2 _ 0 _ _ (0,0) hb2;have q1:=cell_of_row w2 _ 1 _ _ (0,0) hb2;have q2:=cell_of_row w2 _ 2 _ _ (0,0) hb2;have q3:=cell_of_row w2 _ 3 _ _ (0,0) hb2;have z0:=frozen_of_row w2 _ 0 _ _ hb2;have z1:=frozen_of_row w2 _ 1 _ _ hb2;have z2:=frozen_of_row w2 _ 2 _ _ hb2;have z3:=frozen_of_row w2 _ 3 _ _ hb2;have H2:=zHd (zAI hstn (zAI hg2 hb2));clear hq hstn hg2 hb2 y0 y1 y2 y3 hs0;have hsg:w.grownBy w2 none:=zaa HG.out H2.out.2.1;have hset:=zhW w2 w.heap.size (.int .i64 m.kind) (.int .i64 (s0:Int)) (.string t.lead) (.slice At t.states.length ct);have hg3:=zai hsg hset (Nat.le_refl _);have hws:w.heap.size+1≤w1.heap.size:=by have:=(Array.getElem?_eq_some_iff.1 HB1.out).1;omega
  have hst3:=H2.out.1.kept ((zgm hset (by omega:w.heap.size<w1.heap.size)));obtain⟨A3,c3,us3,e3,hsr3⟩:=ziv hst3.sl;obtain⟨rfl,rfl⟩:At=A3∧ct=c3:=by simp at e3;exact e3
  have hrow3:=zqq (u0 := .int .i64 m.kind) (u1 := .int .i64 (s0:Int)) (u2 := .string t.lead) (u3 := .slice At t.states.length ct) rfl H2.out.2.2;obtain⟨W3,hW3⟩:∃ W3,W3=((((w2.setCell ⟨w.heap.size,0,none⟩ (.int .i64 m.kind)).setCell ⟨w.heap.size,1,none⟩ (.int .i64 (s0:Int))).setCell ⟨w.heap.size,2,none⟩ (.string t.lead)).setCell ⟨w.heap.size,3,none⟩ (.slice At t.states.length ct)):=⟨_,rfl⟩;rw[← hW3] at hg3 hst3 hsr3 hrow3;have HW3:=zHd hW3;have hbx:MBox W3 w.heap.size m.kind (s0:Int) t.lead At t.states.length ct:=⟨cell_of_row W3 _ 0 _ _ (0,0) hrow3,cell_of_row W3 _ 1 _ _ (0,0) hrow3,cell_of_row W3 _ 2 _ _ (0,0) hrow3,cell_of_row W3 _ 3 _ _ (0,0) hrow3⟩;have hal3:=zGA W3 (.cells #[.int .i64 0] 24) none;have hsts:=HOK.out.1.sts (by have:=HOK.out;omega);have hld:=HOK.out.1.lead;rw[HOK.out.2.2.2.2.2.2] at hsts hld;have h1:=zyi HOK.out.2.2.2.2.1 t.states us3 At ct w.heap.size s0 t.lead (W3.alloc (.cells #[.int .i64 0] 24)) hsts (hsr3.grown hal3) HOK.out.2.1 hld (hbx.grown hal3)
  have hat:=zuz (WB:=W3.heap.size) 58 zrj #[] #[.pointer (some ⟨w.heap.size,0,none⟩)] (ziy HOK.out.2.2.2.2.1 t.states t.lead s0) (fun v _=>v = .string (tx (totE HOK.out.2.2.2.2.1 t.states t.lead s0)))
   (fun v wa wb b hb hg e hq=>hq) W3 rfl (h1.mono (fun e w' h=>by
    rcases h with⟨hp,v,h1,rfl,h4⟩|h
    ·exact .inl ⟨hp,_,h1,⟨⟨_,rfl⟩,rfl⟩,h4⟩
    ·exact .inr h))
  rw[hW3] at hat;have HAT:=zHd hat;have HG3:=zHd hg3;clear hat h1 hal3 hsts hld hbx hrow3 hst3 hsr3 e3 hws hset hsg hg3 hW3;go_wp2_with fail;refine HAT.out.mono ?_;rintro e w4 (⟨hp,v,rfl,rfl,hg4⟩|⟨hn2,rfl,hg4⟩)
  ·rw[← HW3.out] at hg4
   have H4:=zHd (zAI hp (zaa HG3.out hg4));clear hp hg4;go_wp2;exact bodyPost_ret (v := .tuple #[.string (tx (totE HOK.out.2.2.2.2.1 t.states t.lead s0)),.int .i64 0]) (by simp[results,Tryz.results20,go_sem]) rfl (.inr ⟨HCC.out,HOK.out.2.2.2.2.1,H4.out.2,.inl ⟨by rw[HTM.out,HS0.out];exact H4.out.1,by rw[HTM.out,HS0.out];rfl⟩⟩)
  ·rw[← HW3.out] at hg4
   have H4:=zHd (zAI hn2 (zaa HG3.out hg4));clear hn2 hg4;go_wp2;exact bodyPost_ret (v := .tuple #[.string ⟨#[]⟩,.int .i64 2]) (by simp[results,Tryz.results20,go_sem]) rfl (.inr ⟨HCC.out,HOK.out.2.2.2.2.1,H4.out.2,.inr ⟨by rw[HTM.out,HS0.out];exact H4.out.1,rfl⟩⟩)
 ·have t1:(c == 0)=false:=by simpa using h0
  have t2:(c != 0)=true:=by simpa using h0
  have H0:=zHd h0;clear h0;go_wp2;exact bodyPost_ret (v := .tuple #[.string ⟨#[]⟩,.int .i64 c]) (by simp[results,Tryz.results20,go_sem]) rfl (.inl ⟨by rw[HCC.out];exact H0.out,HG.out,by rw[HCC.out]⟩)
open Go.RowKit
section
variable {k:Int}
theorem zmB (hk:zad k){n:Nat}{A0:Nat→Nat→El k}{G:Nat→Nat→ByteArray}{ln:Nat→Nat}(h5:n≤5)(hG:∀ i,i<n→∀ j,j<n→G i j=tx (A0 i j))(hf:∀ i,i<n→∀ j,j<n→FitE (A0 i j))
  (hs:∀ i,i<n→∀ j,j<n→Sh4 (A0 i j).1) (ten:ns n (fun x=>(nzL (srE k hk) (A0 x) n).length)≤10) (hl:∀ i,i<n→ln i=n) {w:World} {e:Ending} {w':World} (h:zfJ k n ln G w e w') :
  w.grownBy w' none∧∃ v,e = .returned (.tuple #[v,.int .i64 0])∧MatV w' v n n (stM (srE k hk) A0 n):=by
 obtain⟨hg,h⟩:=h;refine⟨hg,?_⟩;have hm:zfr k n ln G:=⟨hk,hl,fun i j hi hj=>⟨_,by rw[hG i hi j hj];exact zbI (hf i hi j hj)⟩⟩;rcases h with⟨hn,_⟩|⟨_,h60,_⟩|⟨_,_,hk2,A,hA,h⟩
 ·exact absurd hm hn
 ·omega
 ·have hAA:∀ i j,i<n→j<n→A i j=A0 i j:=fun i j hi hj=>zez (hA i hi j hj).2 (hf i hi j hj) (by rw[← (hA i hi j hj).1,hG i hi j hj])
  have hfew:Few (srE k hk) (fun v=>Sh4 v.1) A n (fun x=>nzL (srE k hk) (A0 x) n):=⟨h5,fun x y hx hy=>by rw[hAA x y hx hy,zAC,if_pos hy],fun x hx e he=>by
   obtain⟨h1,h2⟩:=zta _ _ he;rw[h2];exact hs x hx _ h1,fun x hx e he=>(zta _ _ he).1,ten⟩
  have hsf:=zAM hk hfew (Nat.le_refl n);rcases h with⟨_,v,h1,h2⟩|⟨hn,_⟩
  ·exact⟨v,h1,h2.congr (fun i hi j hj=>zpG (srE k hk) hAA hi hj)⟩
  ·exact absurd hsf hn
noncomputable def arcL (hk:zad k)(l:List MArc):List (Nat × El k):=l.map (fun a=>(a.t.toNat,vE hk a.w))
theorem zpB (hk:zad k)(l:List MArc)(d:Nat):∀ t,t≤l.length→mrgP hk (arcF hk l) (arcK l) t d=cs (srE k hk) ((arcL hk l).take t) d
 | 0,_=>rfl
 | t+1,ht=>by
  have ha:l[t]? = some (l[t]'(by omega)):=List.getElem?_eq_getElem (by omega)
  have e1:(arcL hk l).take (t+1)=(arcL hk l).take t++[(arcK l t,arcF hk l t)]:=by
   rw[List.take_add_one]
   congr 1
   unfold arcL;rw[List.getElem?_map,ha,zpt ha,zpu hk ha]
   rfl
  rw[e1,zlp,← zpB hk l d t (by omega)];show(srE k hk).add (mrgP hk (arcF hk l) (arcK l) t d) (if arcK l t=d then arcF hk l t else (srE k hk).zero)=_
  dsimp only
  split
  ·rfl
  ·exact(srE k hk).add_zero _
theorem zgP (hk:zad k)(l:List zah)(i d:Nat):arcM hk l i d=cs (srE k hk) (arcL hk (stA l i)) d:=by
 unfold arcM;rw[zpB hk _ d _ (Nat.le_refl _)]
 congr 1
 exact List.take_of_length_le (by unfold arcL;simp)
def zcN (a:ByteArray):Prop:=dgs7 a.data.toList≤4
theorem zoc (hk:zad k){a:ByteArray}(h:∃ v,Val k a v)(hs:zcN a):Sh4 (vE hk a).1:=by
 obtain⟨v,hv⟩:=h;rw[zxE hk hv];exact zGJ hv.e hs
structure LitM (k:Int)(l:List zah):Prop where
 n5:l.length≤5
 ten:ns l.length (fun i=>(stA l i).length)≤10
 arcs:∀ i,i<l.length→∀ a∈stA l i,zcN a.w
 fins:∀ i,i<l.length→zcN (stF l i)
theorem ztG (hk:zad k){l:List zah}(hl:LitM k l)(hok:zcx k l){i:Nat}(hi:i<l.length):Sh4 (finM hk l i).1:=by
 unfold finM finE
 split
 ·exact zms hk
 ·next hn=>exact zoc hk ((hok.fins i hi).resolve_left hn) (hl.fins i hi)
theorem zfb (hk:zad k){l:List zah}(hl:LitM k l)(hok:zcx k l):Few (srE k hk) (fun v=>Sh4 v.1) (arcM hk l) l.length (fun i=>arcL hk (stA l i)) where
 n5:=hl.n5
 a x y hx hy:=zgP hk l x y
 sh x hx e he:=by
  obtain⟨a,ha,rfl⟩:=List.mem_map.1 he;exact zoc hk ((hok.arcs x hx).1 a ha).2.2 (hl.arcs x hx a ha)
 lt x hx e he:=by
  obtain⟨a,ha,rfl⟩:=List.mem_map.1 he;have:=(hok.arcs x hx).1 a ha;show a.t.toNat<_
  omega
 ten:=by
  have e:(fun x=>(arcL hk (stA l x)).length)=fun i=>(stA l i).length:=by funext i;unfold arcL;simp
  rw[e];exact hl.ten
theorem zEw (f:Nat→Nat):∀ {n i:Nat},i<n→f i≤ns n f
 | n+1,i,h=>by
  show f i≤ns n f+f n
  by_cases e:i<n
  ·have:=zEw f e;omega
  ·rw[show i=n by omega];omega
theorem ztH (hk:zad k){l:List zah}(hl:LitM k l)(hok:zcx k l):zfL hk l:=fun i hi s hs=>by
 rw[zpB hk _ _ _ (by omega)];have h1:=zEw (fun i=>(stA l i).length) hi;have h2:=hl.ten;have ha:(stA l i)[s]? = some ((stA l i)[s]):=List.getElem?_eq_getElem hs;have h3:=(hok.arcs i hi).1 _ (List.mem_of_getElem? ha);have h5:=hl.n5;refine(zAB hk (fun e he=>(zfb hk hl hok).sh i hi e (List.mem_of_mem_take he)) ?_ ?_).fits (by omega)
 ·rw[List.length_take]
  unfold arcL;rw[List.length_map]
  omega
 ·rw[zpt ha];omega
theorem zBx (hk:zad k){l:List zah}(hl:LitM k l)(hok:zcx k l):zgp hk l:=⟨ztH hk hl hok,ztj hk (zfb hk hl hok) (fun x hx=>ztG hk hl hok hx) (Nat.le_refl _)⟩
end
open Go.RowKit
section
variable {k:Int}
theorem zwd (hk:zad k){m:Mach}{x y:Nat}(h:y ∉ zaF m x):arcM hk m.states x y=(srE k hk).zero:=by
 rw[zgP];refine zpk _ _ (fun e he => ?_);obtain⟨a,ha,rfl⟩:=List.mem_map.1 he;intro e2
 apply h
 cases hs:m.states[x]? with
 | none=>unfold stA at ha;rw[hs] at ha;cases ha
 | some s =>
  rw[zkC hs] at ha;rw[zhK hs];exact List.mem_map.2 ⟨a,ha,e2⟩
theorem zFR (hk:zad k){m:Mach}{x:Nat}(h:¬ isFin m x):finM hk m.states x=(srE k hk).zero:=by
 unfold finM finE;rw[if_pos];cases hs:m.states[x]? with
 | none=>unfold stF;rw[hs];rfl
 | some s =>
  rw[ziw hs]
  by_cases hz:s.fin.size=0
  ·exact ByteArray.ext (Array.eq_empty_of_size_eq_zero hz)
  ·exact absurd ⟨s,hs,hz⟩ h
theorem zkO (hk:zad k){m:Mach}{x:Nat}(hx:x<m.states.length)(h:¬ RFrom (zaQ m) (isFin m) x):toE hk m.states x=(srE k hk).zero:=by
 classical
 have key:=zed (srE k hk) (arcM hk m.states) (n:=m.states.length) (finM hk m.states) (fun j=>if RFrom (zaQ m) (isFin m) j then toE hk m.states j else (srE k hk).zero) (fun i hi => ?_) hx
 ·rw[if_neg h] at key
  exact(srE k hk).le_anti _ _ key ((srE k hk).zero_le _)
 ·try dsimp only
  by_cases hc:RFrom (zaQ m) (isFin m) i
  ·rw[if_pos hc]
   show(srE k hk).le _ (xsol (srE k hk) (arcM hk m.states) m.states.length (finM hk m.states) i);rw[zeM (srE k hk) (arcM hk m.states) m.states.length (finM hk m.states) hi];refine(srE k hk).add_mono _ _ _ _ ((srE k hk).le_refl _) (zgF _ (fun j hj=>(srE k hk).mul_mono _ _ _ ?_))
   by_cases hj2:RFrom (zaQ m) (isFin m) j
   ·rw[if_pos hj2];exact(srE k hk).le_refl _
   ·rw[if_neg hj2];exact(srE k hk).zero_le _
  ·rw[if_neg hc,zFR hk (fun hf=>hc (.start hf)),zgE _ (fun j hj => ?_),(srE k hk).add_zero]
   ·exact(srE k hk).le_refl _
   ·by_cases hj2:RFrom (zaQ m) (isFin m) j
    ·rw[zwd hk (fun hs=>hc (.step hj2 (zmx.2 hs))),(srE k hk).zero_mul]
    ·rw[if_neg hj2,(srE k hk).mul_zero]
def lsm {α:Type}(S:Sr α)(l:List Nat)(f:Nat→α):α:=sm S l.length (fun d=>f (l.getD d 0))
theorem zEb {α:Type}(S:Sr α)(l:List Nat)(x:Nat)(f:Nat→α):lsm S (l++[x]) f=S.add (lsm S l f) (f x):=by
 unfold lsm;rw[List.length_append];show S.add (sm S l.length _) (f ((l++[x]).getD l.length 0))=_;rw[zce,zal S (g:=fun d=>f (l.getD d 0)) (fun d hd=>by rw[zbq hd])]
theorem zqJ {α:Type}(S:Sr α)(p:Nat→Bool)(f:Nat→α):∀ n,(∀ j,j<n→p j=false→f j=S.zero)→sm S n f=lsm S ((List.range n).filter p) f
 | 0,_=>rfl
 | n+1,h=>by
  rw[List.range_succ,List.filter_append];show S.add (sm S n f) (f n)=_;rw[zqJ S p f n (fun j hj=>h j (by omega))];cases hp:p n
  ·rw[h n (by omega) hp,S.add_zero]
   simp[hp]
  ·rw[show[n].filter p=[n] by simp[hp],zEb]
theorem zwe (hk:zad k){L:List Nat}(hn:L.Nodup){d:Nat}(hd:d<L.length):∀ (l:List MArc),cs (srE k hk) (arcL hk (l.filterMap (zcv L))) d=cs (srE k hk) (arcL hk l) (L.getD d 0)
 | []=>rfl
 | a::l=>by
  have ih:=zwe hk hn hd l;have hgd:L.getD d 0=L[d]:=by rw[List.getD_eq_getElem?_getD,List.getElem?_eq_getElem hd];rfl
  show _=(if a.t.toNat=L.getD d 0 then _ else _)
  by_cases hm:a.t.toNat∈L
  ·rw[List.filterMap_cons,zAW hm]
   show(if ((L.idxOf a.t.toNat:Nat):Int).toNat=d then _ else _)=_;rw[Int.toNat_natCast]
   by_cases e:a.t.toNat=L.getD d 0
   ·have e2:L.idxOf a.t.toNat=d:=by rw[e,hgd];exact List.Nodup.idxOf_getElem hn d hd
    rw[if_pos e2,if_pos e];show(srE k hk).add (vE hk a.w) (cs (srE k hk) (arcL hk (l.filterMap (zcv L))) d)=_;rw[ih]
    rfl
   ·have e2:¬ L.idxOf a.t.toNat=d:=fun h=>e (by rw[hgd];subst h;exact(List.getElem_idxOf (List.idxOf_lt_length_of_mem hm)).symm)
    rw[if_neg e2,if_neg e];exact ih
  ·rw[List.filterMap_cons,zDH hm]
   have e:¬ a.t.toNat=L.getD d 0:=fun h=>hm (by rw[h,hgd];exact List.getElem_mem hd);rw[if_neg e];exact ih
theorem zgq {m:Mach}{L:List Nat}(hL:∀ x∈L,x<m.states.length){c:Nat}(hc:c<L.length):stA (zaH m L).states c=(stA m.states (L.getD c 0)).filterMap (zcv L)∧stF (zaH m L).states c=stF m.states (L.getD c 0):=by
 have hgd:L.getD c 0=L[c]:=by rw[List.getD_eq_getElem?_getD,List.getElem?_eq_getElem hc];rfl
 have hx:=hL L[c] (List.getElem_mem hc);have hs:m.states[L[c]]? = some m.states[L[c]]:=List.getElem?_eq_getElem hx
 have h:(zaH m L).states[c]? = some (zhl L (stOf m L[c])):=by
  unfold zaH;rw[List.getElem?_map,List.getElem?_eq_getElem hc]
  rfl
 rw[zkC h,ziw h,hgd,zkC hs,ziw hs,zfK hs];exact⟨rfl,rfl⟩
theorem ztI (hk:zad k){m:Mach}(hw:Wf m):totE hk (trimM m).states (trimM m).lead (trimM m).start.toNat=totE hk m.states m.lead m.start.toNat:=by
 unfold totE;have hst:m.start.toNat<m.states.length:=by have:=hw.start;omega
 by_cases hu:usefulL m=[]
 ·have hns:=(znT hw).1 hu
  rw[zkO hk hst (fun h=>hns ⟨.start rfl,h⟩),(srE k hk).mul_zero,zfa hu]
  have e:toE hk (zbC m.kind).states (zbC m.kind).start.toNat=(srE k hk).zero:=by
   refine zkO hk (m:=zbC m.kind) (by show(0:Int).toNat<1;decide) (fun h => ?_)
   have hno:∀ x,¬ isFin (zbC m.kind) x:=fun x ⟨s,hs,hz⟩=>by
    cases x with
    | zero=>simp[zbC] at hs;subst hs;exact hz rfl
    | succ x=>simp[zbC] at hs
   have hnr:∀ x,¬ RFrom (zaQ (zbC m.kind)) (isFin (zbC m.kind)) x:=fun x h=>by
    induction h with
    | start h=>exact hno _ h
    | step _ _ ih=>exact ih
   exact hnr _ h
  rw[e,(srE k hk).mul_zero]
 ·rw[zdy hu]
  have hsu:m.start.toNat∈usefulL m:=by
   obtain⟨x,r,hx⟩:∃ x r,usefulL m=x::r:=by
    cases h:usefulL m with
    | nil=>exact absurd h hu
    | cons x r=>exact⟨x,r,rfl⟩
   have:x∈usefulL m:=by rw[hx];simp
   exact(zcw hw).2 (zkA ((zcw hw).1 this))
  have hnd:(usefulL m).Nodup:=List.nodup_range.filter _
  have hlt:∀ x∈usefulL m,x<m.states.length:=fun x hx=>by
   unfold usefulL at hx;exact List.mem_range.1 (List.mem_filter.1 hx).1
  have hgd:∀ c,c<(usefulL m).length→(usefulL m).getD c 0∈usefulL m:=fun c hc=>by
   rw[List.getD_eq_getElem?_getD,List.getElem?_eq_getElem hc];exact List.getElem_mem hc
  have hout:∀ j,j<m.states.length→(∀ d,d<(usefulL m).length→(usefulL m).getD d 0≠j)→j ∉ usefulL m:=fun j hj h hm=>by
   obtain⟨d,hd,e⟩:=List.getElem_of_mem hm;refine h d hd ?_;rw[List.getD_eq_getElem?_getD,List.getElem?_eq_getElem hd];exact e
  have hA:∀ c d,c<(usefulL m).length→d<(usefulL m).length→arcM hk (zaH m (usefulL m)).states c d=arcM hk m.states ((usefulL m).getD c 0) ((usefulL m).getD d 0):=fun c d hc hd=>by
   rw[zgP,zgP,(zgq hlt hc).1,zwe hk hnd hd]
  have hpart:=zyA (srE k hk) (arcM hk m.states) (arcM hk (zaH m (usefulL m)).states) (n:=m.states.length) (k:=(usefulL m).length) (finM hk m.states) (finM hk (zaH m (usefulL m)).states) (fun c=>(usefulL m).getD c 0)
   (fun c hc=>hlt _ (hgd c hc))
   (fun c hc X hX=>by
    rw[zqJ (srE k hk) (fun j=>decide (j∈usefulL m)) _ m.states.length (fun j hj hp=>hX j hj (fun d hd e=>by
     have h1:=hgd d hd;rw[e] at h1;simp[h1] at hp))]
    have e:(List.range m.states.length).filter (fun j=>decide (j∈usefulL m))=usefulL m:=by
     conv=>rhs;unfold usefulL
     refine List.filter_congr (fun x hx => ?_);rw[decide_eq_decide];exact zcw hw
    rw[e];unfold lsm;exact zal _ (fun d hd=>by rw[hA c d hc hd]))
   (fun c hc=>by unfold finM;rw[(zgq hlt hc).2])
   (fun c hc j hj hj2=>by
    by_cases hs:j∈zaF m ((usefulL m).getD c 0)
    ·have hu1:=(zcw hw).1 (hgd c hc)
     have hd:=zkO hk hj (fun h=>hout j hj hj2 ((zcw hw).2 ⟨.step hu1.1 hs,h⟩));unfold toE at hd;rw[hd,(srE k hk).mul_zero]
    ·rw[zwd hk hs,(srE k hk).zero_mul])
   (fun c d hc hd e=>by
    try dsimp only at e
    rw[List.getD_eq_getElem?_getD,List.getElem?_eq_getElem hc,List.getD_eq_getElem?_getD,List.getElem?_eq_getElem hd] at e;have h1:=List.Nodup.idxOf_getElem hnd c hc;have h2:=List.Nodup.idxOf_getElem hnd d hd;have e3:(usefulL m)[c]=(usefulL m)[d]:=e;rw[e3] at h1;exact h1.symm.trans h2)
   (c:=(usefulL m).idxOf m.start.toNat) (List.idxOf_lt_length_of_mem hsu)
  have e1:(zaH m (usefulL m)).start.toNat=(usefulL m).idxOf m.start.toNat:=rfl;rw[e1]
  have e2:(usefulL m).getD ((usefulL m).idxOf m.start.toNat) 0=m.start.toNat:=by
   rw[List.getD_eq_getElem?_getD,List.getElem?_eq_getElem (List.idxOf_lt_length_of_mem hsu)];exact List.getElem_idxOf _
  rw[e2] at hpart;show(srE k hk).mul _ (xsol (srE k hk) (arcM hk (zaH m (usefulL m)).states) (zaH m (usefulL m)).states.length (finM hk (zaH m (usefulL m)).states) _)=_;rw[zdX,hpart]
  rfl
end
open Go.RowKit
section
variable {k:Int}
theorem ztJ {f g:Nat→Nat}:∀ {n:Nat},(∀ x,x<n→f x≤g x)→ns n f≤ns n g
 | 0,_=>Nat.le_refl _
 | n+1,h=>by
  show ns n f+f n≤ns n g+g n;have:=ztJ (f:=f) (g:=g) (n:=n) (fun x hx=>h x (by omega));have:=h n (by omega)
  omega
theorem zEc {m:Mach}(hv:validB m=true)(hl:LitM m.kind m.states):LitM (trimM m).kind (trimM m).states:=by
 have hw:=zho hv;rw[zjt]
 by_cases hu:usefulL m=[]
 ·rw[zfa hu]
  refine⟨by show 1≤5;omega,by show(0+0:Nat)≤10;omega,fun i hi a ha => ?_,fun i hi => ?_⟩
  ·obtain rfl:i=0:=by have:i<1:=hi;omega
   cases ha
  ·obtain rfl:i=0:=by have:i<1:=hi;omega
   show(([]:List UInt8).filter isDg).length≤4
   decide
 ·rw[zdy hu]
  have hlt:∀ x∈usefulL m,x<m.states.length:=fun x hx=>by
   unfold usefulL at hx;exact List.mem_range.1 (List.mem_filter.1 hx).1
  have hgd:∀ c,c<(usefulL m).length→(usefulL m).getD c 0∈usefulL m:=fun c hc=>by
   rw[List.getD_eq_getElem?_getD,List.getElem?_eq_getElem hc];exact List.getElem_mem hc
  have hlen:=zqI hv;rw[zdy hu,zdX] at hlen;refine⟨by rw[zdX];have:=hl.n5;omega,?_,fun i hi a ha => ?_,fun i hi => ?_⟩
  ·rw[zdX]
   have hpw:(usefulL m).Pairwise (· < ·):=List.pairwise_lt_range.filter _;have h1:=zpo (fun x=>(stA m.states x).length) (usefulL m) (usefulL m).length (Nat.le_refl _);rw[List.take_length] at h1;have h2:=znN (fun x=>(stA m.states x).length) m.states.length (usefulL m) hpw hlt
   have h3:ns (usefulL m).length (fun i=>(stA (zaH m (usefulL m)).states i).length)≤ns (usefulL m).length (fun c=>(stA m.states ((usefulL m).getD c 0)).length):=ztJ (fun c hc=>by
    rw[(zgq hlt hc).1];exact List.length_filterMap_le _ _)
   have h4:=hl.ten
   omega
  ·rw[zdX] at hi
   rw[(zgq hlt hi).1] at ha;obtain⟨b,hb,he⟩:=List.mem_filterMap.1 ha;unfold zcv at he
   split at he
   ·cases he
    exact hl.arcs _ (hlt _ (hgd i hi)) b hb
   ·cases he
  ·rw[zdX] at hi
   rw[(zgq hlt hi).2];exact hl.fins _ (hlt _ (hgd i hi))
theorem zuU (hk:zad k){l:List zah}(hl:LitM k l)(hok:zcx k l):zdE k hk (arcM hk l) (finM hk l) l.length (fun i=>arcL hk (stA l i)) :=
 ⟨hl.n5,(zfb hk hl hok).a,fun x hx e he=>⟨(zfb hk hl hok).lt x hx e he,(zfb hk hl hok).sh x hx e he⟩,(zfb hk hl hok).ten,fun x hx=>ztG hk hl hok hx⟩
theorem zFS (hk:zad k){l:List zah}{ld:ByteArray}{s0:Nat}(hl:LitM k l)(hok:zcx k l)(hld:∃ v,Val k ld v)(hs:zcN ld)(h0:s0<l.length):FitE (totE hk l ld s0) :=
 ((zuU hk hl hok).total (zoc hk hld hs).wide h0).fits (by omega)
theorem zBy {m:Mach}(hk:zad m.kind)(hv:validB m=true)(hl:LitM m.kind m.states)(hs:zcN m.lead):ziy hk (trimM m).states (trimM m).lead (trimM m).start.toNat:=by
 have hok:=zdZ hv;have hokt:=zdZ (zob hv);have hlt:=zEc hv hl;have e:=zjt m;have hst:zcx (trimM m).kind (trimM m).states:=hokt.sts (by have:=hlt.n5;omega);rw[e] at hlt hst;refine⟨zBx hk hlt hst,?_⟩;rw[ztI hk (zho hv)];obtain⟨s0,h1,h2⟩:=hok.start;exact zFS hk hl (hok.sts (by have:=hl.n5;omega)) hok.lead hs (by rw[h1];exact h2)
def zfY {α:Type}(M:Nat→List (Nat × α))(n x:Nat):List (Nat × α):=(List.range n).flatMap (fun i=>((M i).filter (fun e=>decide (e.1=x))).map (fun e=>(i,e.2)))
theorem zod {α:Type}(S:Sr α)(y:Nat):∀ (l m:List (Nat × α)),cs S (l++m) y=S.add (cs S l y) (cs S m y)
 | [],m=>(S.zero_add _).symm
 | e::l,m=>by
  show(if e.1=y then S.add e.2 (cs S (l++m) y) else cs S (l++m) y)=S.add (if e.1=y then S.add e.2 (cs S l y) else cs S l y) (cs S m y);rw[zod S y l m]
  split
  ·rw[S.add_assoc]
  ·rfl
theorem ztK {α:Type}(S:Sr α)(x i y:Nat):∀ (l:List (Nat × α)),cs S ((l.filter (fun e=>decide (e.1=x))).map (fun e=>(i,e.2))) y=if i=y then cs S l x else S.zero
 | []=>by show S.zero=if i=y then S.zero else S.zero;split <;> rfl
 | e::l=>by
  have ih:=ztK S x i y l
  by_cases h:e.1=x
  ·rw[List.filter_cons_of_pos (by simpa using h)]
   show(if i=y then S.add e.2 (cs S ((l.filter (fun e=>decide (e.1=x))).map (fun e=>(i,e.2))) y) else cs S ((l.filter (fun e=>decide (e.1=x))).map (fun e=>(i,e.2))) y)=if i=y then (if e.1=x then S.add e.2 (cs S l x) else cs S l x) else S.zero
   rw[ih,if_pos h]
   split
   ·rfl
   ·rfl
  ·rw[List.filter_cons_of_neg (by simpa using h),ih]
   show _=if i=y then (if e.1=x then S.add e.2 (cs S l x) else cs S l x) else S.zero
   rw[if_neg h]
theorem zwf {α:Type}(S:Sr α)(M:Nat→List (Nat × α))(x y:Nat):∀ n,cs S (zfY M n x) y=if y<n then cs S (M y) x else S.zero
 | 0=>rfl
 | n+1=>by
  have e:zfY M (n+1) x=zfY M n x++((M n).filter (fun e=>decide (e.1=x))).map (fun e=>(n,e.2)):=by
   unfold zfY;rw[List.range_succ,List.flatMap_append];simp
  rw[e,zod,zwf S M x y n,ztK]
  by_cases h:n=y
  ·subst h
   rw[if_pos rfl,if_neg (by omega),if_pos (by omega),S.zero_add]
  ·rw[if_neg h,S.add_zero]
   by_cases h2:y<n
   ·rw[if_pos h2,if_pos (by omega)]
   ·rw[if_neg h2,if_neg (by omega)]
theorem count_le {α:Type}:∀ (l:List (Nat × α)) (n:Nat),ns n (fun x=>(l.filter (fun e=>decide (e.1=x))).length)≤l.length
 | [],n=>by
  have:ns n (fun x=>(([]:List (Nat × α)).filter (fun e=>decide (e.1=x))).length)=0:=by
   induction n with
   | zero=>rfl
   | succ n ih=>show ns n _+0=0;rw[ih]
  omega
 | e::l,n=>by
  have ih:=count_le l n
  have h:∀ n,ns n (fun x=>((e::l).filter (fun e=>decide (e.1=x))).length)=ns n (fun x=>(l.filter (fun e=>decide (e.1=x))).length)+(if e.1<n then 1 else 0):=by
   intro n
   induction n with
   | zero=>rfl
   | succ n ih2 =>
    show ns n _+((e::l).filter (fun e=>decide (e.1=n))).length=ns n _+(l.filter (fun e=>decide (e.1=n))).length+_;rw[ih2]
    by_cases he:e.1=n
    ·rw[List.filter_cons_of_pos (by simpa using he),List.length_cons,if_neg (by omega),if_pos (by omega)]
     omega
    ·rw[List.filter_cons_of_neg (by simpa using he)]
     by_cases h3:e.1<n
     ·rw[if_pos h3,if_pos (by omega)];omega
     ·rw[if_neg h3,if_neg (by omega)];omega
  rw[h n,List.length_cons]
  split <;> omega
theorem zwg (f g:Nat→Nat):∀ n,ns n (fun x=>f x+g x)=ns n f+ns n g
 | 0=>rfl
 | n+1=>by
  show ns n (fun x=>f x+g x)+(f n+g n)=(ns n f+f n)+(ns n g+g n);rw[zwg f g n];omega
theorem zoe {α:Type}(M:Nat→List (Nat × α))(q:Nat):∀ n,ns q (fun x=>(zfY M n x).length)≤ns n (fun i=>(M i).length)
 | 0=>by
  have h:∀ q,ns q (fun x=>(zfY M 0 x).length)=0:=by
   intro q
   induction q with
   | zero=>rfl
   | succ q ih=>show ns q _+0=0;rw[ih]
  rw[h q];exact Nat.zero_le _
 | n+1=>by
  have ih:=zoe M q n
  have e:(fun x=>(zfY M (n+1) x).length)=fun x=>(zfY M n x).length+((M n).filter (fun e=>decide (e.1=x))).length:=by
   funext x
   unfold zfY;rw[List.range_succ,List.flatMap_append,List.length_append];simp
  rw[e,zwg];have:=count_le (M n) q;show _≤ns n (fun i=>(M i).length)+(M n).length
  omega
theorem zEd (hk:zad k){l:List zah}(hl:LitM k l)(hok:zcx k l):Few (srE k hk) (fun v=>Sh4 v.1) (fun x y=>arcM hk l y x) l.length (zfY (fun i=>arcL hk (stA l i)) l.length) where
 n5:=hl.n5
 a x y hx hy:=by rw[zwf,if_pos hy];exact zgP hk l y x
 sh x hx e he:=by
  obtain⟨i,hi,h⟩:=List.mem_flatMap.1 he;obtain⟨e2,h2,rfl⟩:=List.mem_map.1 h;exact(zfb hk hl hok).sh i (List.mem_range.1 hi) e2 (List.mem_filter.1 h2).1
 lt x hx e he:=by
  obtain⟨i,hi,h⟩:=List.mem_flatMap.1 he;obtain⟨e2,h2,rfl⟩:=List.mem_map.1 h;exact List.mem_range.1 hi
 ten:=Nat.le_trans (zoe _ _ _) (zfb hk hl hok).ten
theorem zEe (hk:zad k){l:List zah}{ld:ByteArray}{s0:Nat}(hl:LitM k l)(hok:zcx k l)(hld:∃ v,Val k ld v)(hs:zcN ld):zhn hk l ld s0 :=
 ⟨ztH hk hl hok,ztj hk (zEd hk hl hok) (fun x hx=>by
  unfold leadM
  split
  ·exact zoc hk hld hs
  ·exact zms hk) (Nat.le_refl _)⟩
end
open Go.RowKit
theorem k1:zad 1 := .inl rfl
theorem k2:zad 2 := .inr (.inl rfl)
theorem k3:zad 3 := .inr (.inr rfl)
def e1 (x:Rat):El 1:=⟨.inr x,by unfold hasE;rfl⟩
def e2 (x:Rat)(h:decide (0≤x)=true):El 2:=⟨.inr x,by show(decide ((2:Int)=1) || ((decide ((2:Int)=2) || decide ((2:Int)=3))&&decide (0≤x)))=true;rw[h];rfl⟩
def top1:El 1:=⟨.inl true,rfl⟩
def li0:ByteArray:=⟨#[48]⟩
def li1:ByteArray:=⟨#[49]⟩
def li2:ByteArray:=⟨#[50]⟩
def li3:ByteArray:=⟨#[51]⟩
def li4:ByteArray:=⟨#[52]⟩
def li6:ByteArray:=⟨#[54]⟩
def li7:ByteArray:=⟨#[55]⟩
def sInf:ByteArray:=⟨#[105,110,102]⟩
def sLow:ByteArray:=⟨#[45,105,110,102]⟩
theorem MatA.congr {w:World}{v:Value}{n m:Nat}{G R:Nat→Nat→ByteArray}(h:MatA w v n (fun _=>m) G)(e:∀ i,i<n→∀ j,j<m→G i j=R i j):MatA w v n (fun _=>m) R:=by
 obtain⟨rs,h1,h2⟩:=h;refine⟨rs,h1,fun i hi => ?_⟩;obtain⟨A,c,e1,e2,e3,e4⟩:=h2 i hi;refine⟨A,c,e1,e2,e3,fun j hj => ?_⟩;obtain⟨ad,q1,q2,q3⟩:=e4 j hj;exact⟨ad,q1,q2,q3.trans (by dsimp only;rw[e i hi j hj])⟩
def tab {α:Type}(a b c d:α)(i j:Nat):α:=if i=0 then (if j=0 then a else b) else (if j=0 then c else d)
theorem zFT {α:Type}{P:α→Prop}{a b c d:α}(h:P a∧P b∧P c∧P d)(i j:Nat):P (tab a b c d i j):=by
 unfold tab
 split <;> split
 ·exact h.1
 ·exact h.2.1
 ·exact h.2.2.1
 ·exact h.2.2.2
instance (v:Ext):Decidable (Fits v):=by
 rcases v with(_|_)|x
 ·exact .isTrue trivial
 ·exact .isTrue trivial
 ·show Decidable (zbd x);unfold zbd;infer_instance
instance (v:Ext):Decidable (Sh4 v):=by
 rcases v with(_|_)|x
 ·exact .isTrue trivial
 ·exact .isTrue trivial
 ·show Decidable (_≤4);infer_instance
instance {k:Int} (v:El k):Decidable (FitE v):=inferInstanceAs (Decidable (Fits v.1))
def A1:Nat→Nat→El 1:=tab (e1 1) (e1 2) top1 (e1 3)
def A2:Nat→Nat→El 2:=tab (e2 (1/2) (by decide +kernel)) (e2 (1/4) (by decide +kernel)) (e2 0 (by decide +kernel)) (e2 (1/3) (by decide +kernel))
def A3:Nat→Nat→El 1:=fun _ _=>e1 (-1)
def G1:Nat→Nat→ByteArray:=tab li1 li2 sInf li3
def G2:Nat→Nat→ByteArray:=tab ⟨#[49,47,50]⟩ ⟨#[49,47,52]⟩ li0 ⟨#[49,47,51]⟩
def G3:Nat→Nat→ByteArray:=fun _ _=>⟨#[45,49]⟩
def R1:Nat→Nat→ByteArray:=tab li0 li2 sInf li0
def R2:Nat→Nat→ByteArray:=tab li2 ⟨#[51,47,52]⟩ li0 ⟨#[51,47,50]⟩
def R3:Nat→Nat→ByteArray:=fun _ _=>sLow
theorem all2 {P:Nat→Nat→Prop}(h:P 0 0∧P 0 1∧P 1 0∧P 1 1):∀ i,i<2→∀ j,j<2→P i j:=fun i hi j hj=>by
 rcases (show i=0∨i=1 by omega) with rfl|rfl <;> rcases (show j=0∨j=1 by omega) with rfl|rfl
 ·exact h.1
 ·exact h.2.1
 ·exact h.2.2.1
 ·exact h.2.2.2
theorem all1 {P:Nat→Nat→Prop}(h:P 0 0):∀ i,i<1→∀ j,j<1→P i j:=fun i hi j hj=>by
 obtain rfl:i=0:=by omega
 obtain rfl:j=0:=by omega
 exact h
theorem ex1 {w:World}{e:Ending}{w':World}(h:zfJ 1 2 (fun _=>2) G1 w e w'):w.grownBy w' none∧∃ v,e = .returned (.tuple #[v,.int .i64 0])∧MatA w' v 2 (fun _=>2) R1:=by
 obtain⟨hg,v,h1,h2⟩:=zmB k1 (A0:=A1) (by omega) (all2 (by refine⟨?_,?_,?_,?_⟩ <;> decide +kernel)) (all2 (by refine⟨?_,?_,?_,?_⟩ <;> decide +kernel)) (all2 (by refine⟨?_,?_,?_,?_⟩ <;> decide +kernel)) (by decide +kernel) (fun _ _=>rfl) h;exact⟨hg,v,h1,h2.texts.congr (all2 (by refine⟨?_,?_,?_,?_⟩ <;> decide +kernel))⟩
theorem ex2 {w:World}{e:Ending}{w':World}(h:zfJ 2 2 (fun _=>2) G2 w e w'):w.grownBy w' none∧∃ v,e = .returned (.tuple #[v,.int .i64 0])∧MatA w' v 2 (fun _=>2) R2:=by
 obtain⟨hg,v,h1,h2⟩:=zmB k2 (A0:=A2) (by omega) (all2 (by refine⟨?_,?_,?_,?_⟩ <;> decide +kernel)) (all2 (by refine⟨?_,?_,?_,?_⟩ <;> decide +kernel)) (all2 (by refine⟨?_,?_,?_,?_⟩ <;> decide +kernel)) (by decide +kernel) (fun _ _=>rfl) h;exact⟨hg,v,h1,h2.texts.congr (all2 (by refine⟨?_,?_,?_,?_⟩ <;> decide +kernel))⟩
theorem ex3 {w:World}{e:Ending}{w':World}(h:zfJ 1 1 (fun _=>1) G3 w e w'):w.grownBy w' none∧∃ v,e = .returned (.tuple #[v,.int .i64 0])∧MatA w' v 1 (fun _=>1) R3:=by
 obtain⟨hg,v,h1,h2⟩:=zmB k1 (A0:=A3) (by omega) (all1 (by decide +kernel)) (all1 (by decide +kernel)) (all1 (by decide +kernel)) (by decide +kernel) (fun _ _=>rfl) h;exact⟨hg,v,h1,h2.texts.congr (all1 (by decide +kernel))⟩
def exM7:Mach:=⟨1,0,li1,[⟨⟨#[]⟩,[⟨1,1,li2,1⟩]⟩,⟨li4,[⟨2,1,li3,1⟩]⟩]⟩
theorem wgt7 {a:ByteArray}{x:Rat}(h:zax a x):wgtB 1 a=true:=zmo (v := .inr x) ⟨h,rfl⟩
theorem val7 {a:ByteArray}{x:Rat}(h:zax a x):Val 1 a (.inr x):=⟨h,rfl⟩
theorem r1:zax li1 1:=⟨by decide +kernel,by decide +kernel⟩
theorem r2:zax li2 2:=⟨by decide +kernel,by decide +kernel⟩
theorem r3:zax li3 3:=⟨by decide +kernel,by decide +kernel⟩
theorem r4:zax li4 4:=⟨by decide +kernel,by decide +kernel⟩
theorem zhP:validB exM7=true:=by
 unfold validB headB exM7 stB6 finB arcB zaW zeE;simp[wgt7 r1,wgt7 r2,wgt7 r3,wgt7 r4];exact .inl (by decide +kernel)
theorem zkP:checkC exM7=0:=by
 unfold checkC;rw[if_pos zhP]
 rfl
theorem zmC:zfp exM7:=⟨by decide +kernel,by decide +kernel,by decide +kernel,by decide +kernel,by decide +kernel⟩
theorem zkQ {x:Rat}{a:ByteArray}(h:zax a x):vE k1 a=e1 x:=Subtype.ext (zxE k1 (val7 h))
def Am:Nat→Nat→El 1:=tab top1 (e1 2) top1 (e1 3)
def Fm (i:Nat):El 1:=if i=0 then top1 else e1 4
theorem zEx:∀ i,i<2→∀ j,j<2→arcM k1 exM7.states i j=Am i j:=all2 (by
 refine⟨?_,?_,?_,?_⟩
 all_goals
  rw[zgP];unfold arcL stA exM7;simp[zkQ r2,zkQ r3]
  decide +kernel)
theorem zHn:∀ i,i<2→finM k1 exM7.states i=Fm i:=fun i hi=>by
 rcases (show i=0∨i=1 by omega) with rfl|rfl
 ·unfold finM finE stF exM7 Fm
  simp
  decide +kernel
 ·unfold finM finE stF exM7 Fm
  simp only[List.getElem?_cons_succ,List.getElem?_cons_zero,Option.map_some,Option.getD_some];rw[if_neg (by decide +kernel),zkQ r4]
  rfl
theorem ztL:toE k1 exM7.states 0=e1 6∧toE k1 exM7.states 1=e1 4:=by
 have h:=fun i (hi:i<2)=>ziA (srE 1 k1) (n:=2) (fun i j hi hj=>zEx i hi j hj) zHn hi;refine⟨(h 0 (by omega)).trans ?_,(h 1 (by omega)).trans ?_⟩ <;> decide +kernel
theorem ztM:frE k1 exM7.states li1 0 0=e1 1∧frE k1 exM7.states li1 0 1=e1 3:=by
 have hl:∀ i,i<2→leadM k1 li1 0 i=(if i=0 then e1 1 else top1):=fun i hi=>by
  unfold leadM;rw[zkQ r1]
  rfl
 have h:=fun i (hi:i<2)=>ziA (srE 1 k1) (n:=2) (A:=fun x y=>arcM k1 exM7.states y x) (B:=fun x y=>Am y x) (fun i j hi hj=>zEx j hj i hi) hl hi;refine⟨(h 0 (by omega)).trans ?_,(h 1 (by omega)).trans ?_⟩ <;> decide +kernel
theorem zpC:LitM exM7.kind exM7.states:=⟨by decide,by decide +kernel,fun i hi a ha=>by
  rcases (show i=0∨i=1 by have:i<2:=hi;omega) with rfl|rfl
  ·rw[List.mem_singleton.1 (show a∈[_] from ha)];unfold zcN;decide +kernel
  ·rw[List.mem_singleton.1 (show a∈[_] from ha)];unfold zcN;decide +kernel,fun i hi=>by
  rcases (show i=0∨i=1 by have:i<2:=hi;omega) with rfl|rfl
  ·unfold zcN;decide +kernel
  ·unfold zcN;decide +kernel⟩
theorem zwh:zcx 1 exM7.states:=(zdZ zhP).sts (by decide)
theorem zFU:totE k1 (trimM exM7).states (trimM exM7).lead (trimM exM7).start.toNat=e1 7:=by
 have h:=ztI (k:=1) k1 (m:=exM7) (zho zhP);rw[h];unfold totE;show(srE 1 k1).mul (vE k1 li1) (toE k1 exM7.states 0)=e1 7;rw[zkQ r1,ztL.1]
 decide +kernel
open Go.RowKit
theorem zjv (w:World)(a b:ByteArray):RowR (w.alloc (.cells #[.string a,.string b] 9)) (.slice (some ⟨w.heap.size,0,none⟩) 2 2) 2 (fun j => .string (if j=0 then a else b)) :=
 ⟨_,2,rfl,Nat.le_refl _,by unfold maxLen;omega,fun j hj=>⟨_,rfl,by simp,by
  rw[zbA,Nat.zero_add];rcases (show j=0∨j=1 by omega) with rfl|rfl
  ·exact zak w _ _ rfl
  ·exact zak w _ _ rfl⟩⟩
theorem zEf (w:World)(a:ByteArray):RowR (w.alloc (.cells #[.string a] 9)) (.slice (some ⟨w.heap.size,0,none⟩) 1 1) 1 (fun j => .string a) :=
 ⟨_,1,rfl,Nat.le_refl _,by unfold maxLen;omega,fun j hj=>⟨_,rfl,by simp,by
  rw[zbA,Nat.zero_add];obtain rfl:j=0:=by omega
  exact zak w _ _ rfl⟩⟩
theorem zhQ (w:World)(a b c d:ByteArray)(H1 H2:Nat)(h1:H1=w.heap.size+1)(h2:H2=w.heap.size+2) :
  MatA (((w.alloc (.cells #[.string a,.string b] 9)).alloc (.cells #[.string c,.string d] 9)).alloc (.cells #[.slice (some ⟨w.heap.size,0,none⟩) 2 2,.slice (some ⟨H1,0,none⟩) 2 2] 33)) (.slice (some ⟨H2,0,none⟩) 2 2) 2 (fun _=>2) (tab a b c d):=by
 subst h1 h2;have g1:=zGA (w.alloc (.cells #[.string a,.string b] 9)) (.cells #[.string c,.string d] 9) none;have g2:=zGA ((w.alloc (.cells #[.string a,.string b] 9)).alloc (.cells #[.string c,.string d] 9)) (.cells #[.slice (some ⟨w.heap.size,0,none⟩) 2 2,.slice (some ⟨w.heap.size+1,0,none⟩) 2 2] 33) none;have r1:=((zjv w a b).grown g1).grown g2;have r2:=(zjv (w.alloc (.cells #[.string a,.string b] 9)) c d).grown g2;have hs1:(w.alloc (.cells #[.string a,.string b] 9)).heap.size=w.heap.size+1:=by simp
 have hs2:((w.alloc (.cells #[.string a,.string b] 9)).alloc (.cells #[.string c,.string d] 9)).heap.size=w.heap.size+2:=by simp
 rw[hs1] at r2;refine⟨fun i=>if i=0 then .slice (some ⟨w.heap.size,0,none⟩) 2 2 else .slice (some ⟨w.heap.size+1,0,none⟩) 2 2,⟨_,2,rfl,Nat.le_refl _,by unfold maxLen;omega,fun j hj=>⟨_,rfl,by simp,?_⟩⟩,fun i hi => ?_⟩
 ·rw[zbA,Nat.zero_add,← hs2]
  rcases (show j=0∨j=1 by omega) with rfl|rfl
  ·exact zak _ _ _ rfl
  ·exact zak _ _ _ rfl
 ·unfold tab
  rcases (show i=0∨i=1 by omega) with rfl|rfl
  ·exact r1
  ·exact r2
theorem zqK (w:World)(a:ByteArray)(H1:Nat)(h1:H1=w.heap.size+1) :
  MatA ((w.alloc (.cells #[.string a] 9)).alloc (.cells #[.slice (some ⟨w.heap.size,0,none⟩) 1 1] 33)) (.slice (some ⟨H1,0,none⟩) 1 1) 1 (fun _=>1) (fun _ _=>a):=by
 subst h1;have g2:=zGA (w.alloc (.cells #[.string a] 9)) (.cells #[.slice (some ⟨w.heap.size,0,none⟩) 1 1] 33) none;have r1:=(zEf w a).grown g2;have hs1:(w.alloc (.cells #[.string a] 9)).heap.size=w.heap.size+1:=by simp
 refine⟨fun i => .slice (some ⟨w.heap.size,0,none⟩) 1 1,⟨_,1,rfl,Nat.le_refl _,by unfold maxLen;omega,fun j hj=>⟨_,rfl,by simp,?_⟩⟩,fun i hi=>r1⟩;rw[zbA,Nat.zero_add,← hs1];obtain rfl:j=0:=by omega
 exact zak _ _ _ rfl
theorem ztN {a b c d:ByteArray}(h:a.size≤9∧b.size≤9∧c.size≤9∧d.size≤9)(i j:Nat):(tab a b c d i j).size≤maxLen:=by
 have:=zFT (P:=fun x:ByteArray=>x.size≤9) h i j;unfold maxLen;omega
theorem zhp {W:World}{g k n:Nat}{xs:List Value}{t:TypeId}(h:W.heap[g]? = some (.cells xs.toArray t (0,0)))(hl:xs.length=n * k):Reads W W.heap.size k (some ⟨g,0,none⟩) n xs :=
 ⟨hl,fun _=>⟨_,rfl,(Array.getElem?_eq_some_iff.1 h).1,fun j u hu=>by
  rw[zbA,Nat.zero_add,cell_of_row W g _ _ _ (0,0) h,List.getElem?_toArray];exact hu⟩⟩
theorem zFV (w:World)(H:Nat)(hH:H=w.heap.size+2) :
  zcr ((((w.alloc (.cells #[.int .i64 1,.int .i64 1,.string li2,.int .i64 1] 59)).alloc (.cells #[.int .i64 2,.int .i64 1,.string li3,.int .i64 1] 59)).alloc (.cells #[.string ⟨#[]⟩,.slice (some ⟨w.heap.size,0,none⟩) 1 1,.string li4,.slice (some ⟨w.heap.size+1,0,none⟩) 1 1] 57)).alloc (.cells #[.int .i64 1,.int .i64 0,.string li1,.slice (some ⟨H,0,none⟩) 2 2] 31))
   (.agg #[.int .i64 1,.int .i64 0,.string li1,.slice (some ⟨H,0,none⟩) 2 2]) exM7:=by
 subst hH;have g1:=zGA (w.alloc (.cells #[.int .i64 1,.int .i64 1,.string li2,.int .i64 1] 59)) (.cells #[.int .i64 2,.int .i64 1,.string li3,.int .i64 1] 59) none;have g2:=zGA ((w.alloc (.cells #[.int .i64 1,.int .i64 1,.string li2,.int .i64 1] 59)).alloc (.cells #[.int .i64 2,.int .i64 1,.string li3,.int .i64 1] 59)) (.cells #[.string ⟨#[]⟩,.slice (some ⟨w.heap.size,0,none⟩) 1 1,.string li4,.slice (some ⟨w.heap.size+1,0,none⟩) 1 1] 57) none;have g3:=zGA (((w.alloc (.cells #[.int .i64 1,.int .i64 1,.string li2,.int .i64 1] 59)).alloc (.cells #[.int .i64 2,.int .i64 1,.string li3,.int .i64 1] 59)).alloc (.cells #[.string ⟨#[]⟩,.slice (some ⟨w.heap.size,0,none⟩) 1 1,.string li4,.slice (some ⟨w.heap.size+1,0,none⟩) 1 1] 57)) (.cells #[.int .i64 1,.int .i64 0,.string li1,.slice (some ⟨w.heap.size+2,0,none⟩) 2 2] 31) none;have b0:=zau w (.cells #[.int .i64 1,.int .i64 1,.string li2,.int .i64 1] 59);have b1:=zau (w.alloc (.cells #[.int .i64 1,.int .i64 1,.string li2,.int .i64 1] 59)) (.cells #[.int .i64 2,.int .i64 1,.string li3,.int .i64 1] 59);have b2:=zau ((w.alloc (.cells #[.int .i64 1,.int .i64 1,.string li2,.int .i64 1] 59)).alloc (.cells #[.int .i64 2,.int .i64 1,.string li3,.int .i64 1] 59)) (.cells #[.string ⟨#[]⟩,.slice (some ⟨w.heap.size,0,none⟩) 1 1,.string li4,.slice (some ⟨w.heap.size+1,0,none⟩) 1 1] 57);have z1:(w.alloc (.cells #[.int .i64 1,.int .i64 1,.string li2,.int .i64 1] 59)).heap.size=w.heap.size+1:=by simp
 have z2:((w.alloc (.cells #[.int .i64 1,.int .i64 1,.string li2,.int .i64 1] 59)).alloc (.cells #[.int .i64 2,.int .i64 1,.string li3,.int .i64 1] 59)).heap.size=w.heap.size+2:=by simp
 rw[z1] at b1;rw[z2] at b2;have c0:=(g3.block _ (by first|(simp;omega)|simp) (by simp)).trans ((g2.block _ (by first|(simp;omega)|simp) (by simp)).trans ((g1.block w.heap.size (by simp) (by simp)).trans b0));have c1:=(g3.block _ (by first|(simp;done)|(simp;omega)) (by simp)).trans ((g2.block (w.heap.size+1) (by simp) (by simp)).trans b1);have c2:=(g3.block (w.heap.size+2) (by simp) (by simp)).trans b2;refine⟨_,rfl,some ⟨w.heap.size+2,0,none⟩,2,[.slice (some ⟨w.heap.size,0,none⟩) 1 1,.slice (some ⟨w.heap.size+1,0,none⟩) 1 1],rfl,rfl,zhp c2 rfl,fun i s u hs hu => ?_⟩;have hi:i<2:=(List.getElem?_eq_some_iff.1 hs).1;rcases (show i=0∨i=1 by omega) with rfl|rfl
 ·simp only[exM7,List.getElem?_cons_zero,Option.some.injEq] at hs hu
  subst hs hu;exact⟨_,1,rfl,zhp (xs:=([⟨1,1,li2,1⟩]:List MArc).flatMap arcC) c0 rfl⟩
 ·simp only[exM7,List.getElem?_cons_succ,List.getElem?_cons_zero,Option.some.injEq] at hs hu
  subst hs hu;exact⟨_,1,rfl,zhp (xs:=([⟨2,1,li3,1⟩]:List MArc).flatMap arcC) c1 rfl⟩
theorem zFW (w:World)(H:Nat):MBox ((((w.alloc (.cells #[.int .i64 1,.int .i64 1,.string li2,.int .i64 1] 59)).alloc (.cells #[.int .i64 2,.int .i64 1,.string li3,.int .i64 1] 59)).alloc (.cells #[.string ⟨#[]⟩,.slice (some ⟨w.heap.size,0,none⟩) 1 1,.string li4,.slice (some ⟨w.heap.size+1,0,none⟩) 1 1] 57)).alloc (.cells #[.int .i64 1,.int .i64 0,.string li1,.slice (some ⟨H,0,none⟩) 2 2] 31)) (w.heap.size+3) 1 0 li1 (some ⟨H,0,none⟩) 2 2:=by
 have h:=MBox.new (((w.alloc (.cells #[.int .i64 1,.int .i64 1,.string li2,.int .i64 1] 59)).alloc (.cells #[.int .i64 2,.int .i64 1,.string li3,.int .i64 1] 59)).alloc (.cells #[.string ⟨#[]⟩,.slice (some ⟨w.heap.size,0,none⟩) 1 1,.string li4,.slice (some ⟨w.heap.size+1,0,none⟩) 1 1] 57)) 1 0 li1 (some ⟨H,0,none⟩) 2 2;rw[show(((w.alloc (.cells #[.int .i64 1,.int .i64 1,.string li2,.int .i64 1] 59)).alloc (.cells #[.int .i64 2,.int .i64 1,.string li3,.int .i64 1] 59)).alloc (.cells #[.string ⟨#[]⟩,.slice (some ⟨w.heap.size,0,none⟩) 1 1,.string li4,.slice (some ⟨w.heap.size+1,0,none⟩) 1 1] 57)).heap.size=w.heap.size+3 by simp] at h;exact h
theorem zwi {w:World}{v:Value}{f:Nat→El 1}{a b:ByteArray}(h:RowR w v 2 (txs f))(h0:tx (f 0)=a)(h1:tx (f 1)=b):RowR w v 2 (fun j => .string (if j=0 then a else b)):=by
 obtain⟨A,c,e1,e2,e3,e4⟩:=h;refine⟨A,c,e1,e2,e3,fun j hj => ?_⟩;obtain⟨ad,q1,q2,q3⟩:=e4 j hj;refine⟨ad,q1,q2,q3.trans ?_⟩;unfold txs;rcases (show j=0∨j=1 by omega) with rfl|rfl
 ·rw[h0];rfl
 ·rw[h1];rfl
theorem zFX {w:World}{e:Ending}{w':World}(h:ztA exM7 w e w'):w.grownBy w' none∧∃ v,e = .returned (.tuple #[v,.int .i64 0])∧RowR w' v 2 (fun j => .string (if j=0 then li6 else li4)):=by
 rcases h with⟨hn,_⟩|⟨_,hk,hg,⟨_,v,h1,h2⟩|⟨hn,_⟩⟩
 ·exact absurd zkP hn
 ·exact⟨hg,v,h1,zwi h2 (by rw[show toE hk exM7.states 0=e1 6 from ztL.1];decide +kernel) (by rw[show toE hk exM7.states 1=e1 4 from ztL.2];decide +kernel)⟩
 ·exact absurd (zBx k1 zpC zwh) hn
theorem zBz {w:World}{e:Ending}{w':World}(h:zmA exM7 w e w'):w.grownBy w' none∧∃ v,e = .returned (.tuple #[v,.int .i64 0])∧RowR w' v 2 (fun j => .string (if j=0 then li1 else li3)):=by
 rcases h with⟨hn,_⟩|⟨_,hk,hg,⟨_,v,h1,h2⟩|⟨hn,_⟩⟩
 ·exact absurd zkP hn
 ·exact⟨hg,v,h1,zwi h2 (by rw[show frE hk exM7.states exM7.lead exM7.start.toNat 0=e1 1 from ztM.1];decide +kernel) (by rw[show frE hk exM7.states exM7.lead exM7.start.toNat 1=e1 3 from ztM.2];decide +kernel)⟩
 ·exact absurd (zEe k1 (s0:=0) zpC zwh ⟨_,val7 r1⟩ (by unfold zcN;decide +kernel)) hn
theorem zEg {w:World}{e:Ending}{w':World}(h:zkN exM7 w e w'):w.grownBy w' none∧e = .returned (.tuple #[.string li7,.int .i64 0]):=by
 rcases h with⟨hn,_⟩|⟨_,hk,hg,⟨_,h1⟩|⟨hn,_⟩⟩
 ·exact absurd zkP hn
 ·refine⟨hg,h1.trans ?_⟩
  rw[show totE hk (trimM exM7).states (trimM exM7).lead (trimM exM7).start.toNat=e1 7 from zFU];exact congrArg (fun a=>Ending.returned (.tuple #[.string a,.int .i64 0])) (show tx (k:=1) (e1 7)=li7 by decide +kernel)
 ·exact absurd (zBy (m:=exM7) k1 zhP zpC (by unfold zcN;decide +kernel)) hn
theorem zia (n:Nat)(l:Nat→Nat)(X:Nat→Nat→ByteArray):ztr n n l l X X:=⟨rfl,fun _ _=>⟨rfl,fun _ _=>rfl⟩⟩
theorem zfu (w:World):Calls Tryz.prog 11 #[] w (fun e w'=>e = .returned (.bool true)∧w.grownBy w' none):=by
 go_enter Tryz.func11,Tryz.ntmps11;go_wp2_with fail;refine(zjm 1 2 (fun _=>2) G1 _ _ (by omega) (zhQ w li1 li2 sInf li3 _ _ rfl rfl) (ztN (by decide +kernel))).mono ?_;intro e w1 hq;obtain⟨hg,v1,rfl,hm1⟩:=ex1 hq;have H1:=zHd (zAI hm1 (zaa (zaa (zaa (zGA w (.cells #[.string li1,.string li2] 9) none) (zGA _ (.cells #[.string sInf,.string li3] 9) none)) (zGA _ _ none)) hg));clear hq hm1 hg;go_wp2_with fail;refine(zjm 2 2 (fun _=>2) G2 _ _ (by omega) (zhQ w1 ⟨#[49,47,50]⟩ ⟨#[49,47,52]⟩ li0 ⟨#[49,47,51]⟩ _ _ rfl rfl) (ztN (by decide +kernel))).mono ?_;intro e w2 hq;obtain⟨hg,v2,rfl,hm2⟩:=ex2 hq;have H2:=zHd (zAI hm2 (zaa (zaa (zaa (zGA w1 (.cells #[.string ⟨#[49,47,50]⟩,.string ⟨#[49,47,52]⟩] 9) none) (zGA _ (.cells #[.string li0,.string ⟨#[49,47,51]⟩] 9) none)) (zGA _ _ none)) hg));clear hq hm2 hg;go_wp2_with fail;refine(zjm 1 1 (fun _=>1) G3 _ _ (by omega) (zqK w2 ⟨#[45,49]⟩ _ rfl) (fun _ _=>by show(⟨#[45,49]⟩:ByteArray).size≤maxLen;decide +kernel)).mono ?_;intro e w3 hq;obtain⟨hg,v3,rfl,hm3⟩:=ex3 hq;have H3:=zHd (zAI hm3 (zaa (zaa (zGA w2 (.cells #[.string ⟨#[45,49]⟩] 9) none) (zGA _ _ none)) hg));clear hq hm3 hg;go_wp2_with fail;have hgm:=zaa (zaa (zaa (zGA w3 (.cells #[.int .i64 1,.int .i64 1,.string li2,.int .i64 1] 59) none) (zGA _ (.cells #[.int .i64 2,.int .i64 1,.string li3,.int .i64 1] 59) none)) (zGA _ (.cells #[.string ⟨#[]⟩,.slice (some ⟨w3.heap.size,0,none⟩) 1 1,.string li4,.slice (some ⟨w3.heap.size+1,0,none⟩) 1 1] 57) none)) (zGA _ (.cells #[.int .i64 1,.int .i64 0,.string li1,.slice (some ⟨w3.heap.size+1+1,0,none⟩) 2 2] 31) none);have hmv:=zFV w3 (w3.heap.size+1+1) rfl;have hbx:=zFW w3 (w3.heap.size+1+1);have HG:=zHd hgm;have HMV:=zHd hmv;have HBX:=zHd hbx;clear hgm hmv hbx;refine(zGU HMV.out zmC).mono ?_;intro e w4 hq;obtain⟨hg4,v4,rfl,hr4⟩:=zFX hq;obtain⟨x0,x1,x2,x3⟩:=HBX.out.grown hg4;have HMV4:=zHd (HMV.out.below (zbX hg4));have H4:=zHd (zAI hr4 (zaa HG.out hg4));have HBX4:=zHd (HBX.out.grown hg4);clear hq hr4 hg4 HMV HBX HG;go_wp2_with fail;refine(zDT HMV4.out zmC).mono ?_;intro e w5 hq;obtain⟨hg5,v5,rfl,hr5⟩:=zBz hq;obtain⟨y0,y1,y2,y3⟩:=HBX4.out.grown hg5;have HMV5:=zHd (HMV4.out.below (zbX hg5));have H5:=zHd (zAI hr5 hg5);clear hq hr5 hg5 HMV4 HBX4 x0 x1 x2 x3;go_wp2_with fail;refine(zBw HMV5.out zmC).mono ?_;intro e w6 hq;obtain⟨hg6,rfl⟩:=zEg hq;have H6:=zHd hg6;clear hq hg6 HMV5 y0 y1 y2 y3;go_wp2_with fail;have G6:=zHd (zaa (zaa (zaa H6.out (zGA w6 (.cells #[.string li0,.string li2] 9) none)) (zGA _ (.cells #[.string sInf,.string li0] 9) none)) (zGA _ (.cells #[.slice (some ⟨w6.heap.size,0,none⟩) 2 2,.slice (some ⟨w6.heap.size+1,0,none⟩) 2 2] 33) none));refine(zeu 2 2 (fun _=>2) (fun _=>2) R1 R1 _ _ _ (by omega) (by omega) (by intros;omega) (by intros;omega) (((((H1.out.1.grown H2.out.2).grown H3.out.2).grown H4.out.2).grown H5.out.2).grown G6.out) (zhQ w6 li0 li2 sInf li0 _ _ rfl rfl)).mono ?_;rintro e w7 ⟨b,rfl,hb,hg7⟩;obtain rfl:=hb.2 (zia 2 (fun _=>2) R1);have H7:=zHd (zaa G6.out hg7);clear hb hg7 G6;go_wp2_with fail;have G7:=zHd (zaa (zaa (zaa H7.out (zGA w7 (.cells #[.string li2,.string ⟨#[51,47,52]⟩] 9) none)) (zGA _ (.cells #[.string li0,.string ⟨#[51,47,50]⟩] 9) none)) (zGA _ (.cells #[.slice (some ⟨w7.heap.size,0,none⟩) 2 2,.slice (some ⟨w7.heap.size+1,0,none⟩) 2 2] 33) none));refine(zeu 2 2 (fun _=>2) (fun _=>2) R2 R2 _ _ _ (by omega) (by omega) (by intros;omega) (by intros;omega) ((((H2.out.1.grown H3.out.2).grown H4.out.2).grown H5.out.2).grown G7.out) (zhQ w7 li2 ⟨#[51,47,52]⟩ li0 ⟨#[51,47,50]⟩ _ _ rfl rfl)).mono ?_;rintro e w8 ⟨b,rfl,hb,hg8⟩;obtain rfl:=hb.2 (zia 2 (fun _=>2) R2);have H8:=zHd (zaa G7.out hg8);clear hb hg8 G7;go_wp2_with fail;have G8:=zHd (zaa (zaa H8.out (zGA w8 (.cells #[.string sLow] 9) none)) (zGA _ (.cells #[.slice (some ⟨w8.heap.size,0,none⟩) 1 1] 33) none));refine(zeu 1 1 (fun _=>1) (fun _=>1) R3 R3 _ _ _ (by omega) (by omega) (by intros;omega) (by intros;omega) (((H3.out.1.grown H4.out.2).grown H5.out.2).grown G8.out) (zqK w8 sLow _ rfl)).mono ?_;rintro e w9 ⟨b,rfl,hb,hg9⟩;obtain rfl:=hb.2 (zia 1 (fun _=>1) R3);have H9:=zHd (zaa G8.out hg9);clear hb hg9 G8;go_wp2_with fail;have G9:=zHd (zaa H9.out (zGA w9 (.cells #[.string li6,.string li4] 9) none));refine(zkD 2 2 (fun j=>if j=0 then li6 else li4) (fun j=>if j=0 then li6 else li4) _ _ _ (by omega) (by omega) ((H4.out.1.grown H5.out.2).grown G9.out) (zjv w9 li6 li4)).mono ?_;rintro e wa ⟨b,rfl,hb,hga⟩;obtain rfl:=hb.2 ⟨rfl,fun _ _=>rfl⟩;have HA:=zHd (zaa G9.out hga);clear hb hga G9;go_wp2_with fail;have GA:=zHd (zaa HA.out (zGA wa (.cells #[.string li1,.string li3] 9) none));refine(zkD 2 2 (fun j=>if j=0 then li1 else li3) (fun j=>if j=0 then li1 else li3) _ _ _ (by omega) (by omega) (H5.out.1.grown GA.out) (zjv wa li1 li3)).mono ?_;rintro e wb ⟨b,rfl,hb,hgb⟩;obtain rfl:=hb.2 ⟨rfl,fun _ _=>rfl⟩;have HB:=zHd (zaa GA.out hgb);clear hb hgb GA;go_wp2_with fail;rw[show(li7.toList == [55])=true by decide +kernel];exact bodyPost_ret (v := .bool true) (by simp[results,Tryz.results11,go_sem]) rfl ⟨rfl,zaa H1.out.2 (zaa H2.out.2 (zaa H3.out.2 (zaa H4.out.2 (zaa H5.out.2 HB.out))))⟩
end Go.Proofs.YtaogepcaoogpgaaGreatDoor
