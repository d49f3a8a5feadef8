/- W34 WA1 -/
import Derived.Test.YtaogepcaoogpgaaGreatDoorX25
import Derived.Test.YtaogepcaoogpgaaGreatDoorX24
set_option linter.unusedVariables false
set_option linter.unusedSimpArgs false
set_option maxRecDepth 100000
set_option maxHeartbeats 16000000
namespace Go.Proofs.YtaogepcaoogpgaaGreatDoor
noncomputable def trimM (m:Mach):Mach:=trimW (zbG m.kind) m
theorem zfb {m:Mach}(h:usefulL m=[]):trimM m=zbG m.kind:=by unfold trimM trimW;rw[if_pos h]
theorem zdC {m:Mach}(h:usefulL m≠[]):trimM m=zaH m (usefulL m):=by unfold trimM trimW;rw[if_neg h]
theorem zjC (m:Mach):(trimM m).kind=m.kind:=by
 by_cases h:usefulL m=[]
 ·rw[zfb h];rfl
 ·rw[zdC h];rfl
theorem zfQ {m:Mach}(h:validB m=true):Wf m:=by
 obtain⟨_,_,_,h1,h2,_⟩:=zdz (zdy h);refine⟨⟨h1,h2⟩,fun s hs a ha => ?_⟩;obtain⟨k,hk⟩:=List.mem_iff_getElem?.1 hs;have:=zgq ((zeB (zfs h hk)).2 a ha);exact⟨this.2.2.2.2.1,this.2.2.2.2.2.1⟩
theorem zvq {m:Mach}(h:validB m=true){s:zag}(hs:s∈m.states):finB m.kind s.fin=true∧∀ a∈s.arcs,arcB m.kind m.states.length a=true:=by
 obtain⟨k,hk⟩:=List.mem_iff_getElem?.1 hs;exact zeB (zfs h hk)
theorem zCd {k:Int}{n n':Nat}{a a':MArc}(h:arcB k n a=true)(hi:a'.i=a.i)(ho:a'.o=a.o)(hw:a'.w=a.w)(ht:0≤a'.t∧a'.t<(n':Int)):arcB k n' a'=true:=by
 obtain⟨h1,h2,h3,h4,h5,h6,h7⟩:=zgq h;unfold arcB;rw[hi,ho,hw,h7];simp only[Bool.and_true,decide_eq_true_eq]
 omega
theorem zEK {m n:Mach}(h:validB m=true)(hk:n.kind=m.kind)(hl:n.lead=m.lead)(h1:1≤n.states.length)(h2:n.states.length≤3000)(hs:0≤n.start∧n.start<(n.states.length:Int))(ha:zaY n.states≤30000)
  (hst:∀ s∈n.states,finB m.kind s.fin=true∧∀ a∈s.arcs,arcB m.kind n.states.length a=true):validB n=true:=by
 obtain⟨k1,_,_,_,_,k6⟩:=zdz (zdy h);unfold validB headB;rw[hk,hl,k1,k6];simp only[Bool.true_and,Bool.and_true,Bool.and_eq_true,decide_eq_true_eq,List.all_eq_true];refine⟨⟨⟨h1,h2,hs⟩,ha⟩,fun s hm => ?_⟩;unfold stB6;rw[(hst s hm).1];simp only[Bool.true_and,List.all_eq_true];exact(hst s hm).2
theorem zyN {k:Int}(h:zeD k=true):validB (zbG k)=true:=by
 have hk:=(zqB k).1 h;have hw:Wgt k (oneT k) (zgh k):=⟨zpB hk,by rcases hk with rfl|rfl|rfl <;> decide +kernel⟩;unfold validB headB zbG;simp only[h,zmJ hw];simp[zaY,stB6,finB]
theorem zjD (f:Nat→Nat):∀ (n:Nat) (l:List Nat),l.Nodup→(∀ x∈l,x<n)→(l.map f).sum≤((List.range n).map f).sum
 | 0,l,_,hb=>by
  cases l with
  | nil=>simp
  | cons x l=>exact absurd (hb x (List.mem_cons_self ..)) (by omega)
 | n+1,l,hn,hb=>by
  rw[List.range_succ,List.map_append,List.sum_append]
  by_cases h:n∈l
  ·have hp:=List.perm_cons_erase h
   have h1:=(hp.map f).sum_nat;rw[List.map_cons,List.sum_cons] at h1
   have h2:=zjD f n (l.erase n) (hn.erase n) (fun x hx=>by
    have h3:=(List.Nodup.mem_erase_iff hn).1 hx;have:=hb x h3.2;have:=h3.1
    omega)
   simp only[List.map_cons,List.map_nil,List.sum_cons,List.sum_nil]
   omega
  ·have h2:=zjD f n l hn (fun x hx=>by
    have:=hb x hx;have:x≠n:=fun e=>h (e ▸ hx)
    omega)
   omega
theorem zuc (m:Mach):(List.range m.states.length).map (stOf m)=m.states:=by
 apply List.ext_getElem?
 intro i;rw[List.getElem?_map]
 by_cases h:i<m.states.length
 ·rw[List.getElem?_range h]
  have hs:m.states[i]? = some m.states[i]:=List.getElem?_eq_getElem h;rw[hs];simp[zfL hs]
 ·rw[List.getElem?_eq_none (by simp;omega),List.getElem?_eq_none (by omega)];rfl
theorem zvr (m:Mach):zaY m.states=((List.range m.states.length).map (fun x=>(stOf m x).arcs.length)).sum:=by
 conv=>lhs;rw[← zuc m]
 unfold zaY;rw[List.map_map]
 rfl
theorem zCe {α:Type}(f g:α→Nat):∀ l:List α,(∀ x∈l,f x≤g x)→(l.map f).sum≤(l.map g).sum
 | [],_=>by simp
 | x::l,h=>by
  have h1:=h x (List.mem_cons_self ..);have h2:=zCe f g l (fun y hy=>h y (List.mem_cons_of_mem _ hy));simp only[List.map_cons,List.sum_cons]
  omega
theorem zEL {m:Mach}{x:Nat}(h:x<m.states.length):stOf m x∈m.states:=by
 have hs:m.states[x]? = some m.states[x]:=List.getElem?_eq_getElem h;rw[zfL hs];exact List.getElem_mem h
theorem zvs {m:Mach}{l:List Nat}(h:validB m=true)(hn:l.Nodup)(hb:∀ x∈l,x<m.states.length)(hs:m.start.toNat∈l):validB (zaH m l)=true:=by
 obtain⟨_,_,h3,_,_,_⟩:=zdz (zdy h);have hlen:(zaH m l).states.length=l.length:=zeb m l;have hshort:=zil hn hb;have hi:=zqK hs;refine zEK h rfl rfl (by rw[hlen];omega) (by rw[hlen];omega) ⟨by show 0≤((l.idxOf m.start.toNat:Nat):Int);omega,by rw[hlen];show((l.idxOf m.start.toNat:Nat):Int)<_;omega⟩ ?_ ?_
 ·refine Nat.le_trans ?_ (zjs h)
  rw[zvr m];refine Nat.le_trans ?_ (zjD (fun x=>(stOf m x).arcs.length) m.states.length l hn hb);unfold zaY zaH;rw[List.map_map];exact zCe _ _ l (fun x _=>List.length_filterMap_le _ _)
 ·intro s hm
  simp only[zaH,List.mem_map] at hm;obtain⟨x,hx,rfl⟩:=hm;have hv:=zvq h (zEL (hb x hx));refine⟨hv.1,fun a ha => ?_⟩;simp only[zhA,List.mem_filterMap] at ha;obtain⟨b,hb1,hb2⟩:=ha;unfold zcx at hb2
  split at hb2
  ·rename_i hin
   cases hb2;have:=zqK hin;exact zCd (hv.2 b hb1) rfl rfl rfl ⟨by show 0≤((l.idxOf b.t.toNat:Nat):Int);omega,by rw[hlen];show((l.idxOf b.t.toNat:Nat):Int)<_;omega⟩
  ·cases hb2
theorem zlc (m:Mach):∀ x∈usefulL m,x<m.states.length:=fun x hx=>List.mem_range.1 (List.mem_filter.1 hx).1
theorem zos {m:Mach}(hw:Wf m)(h:usefulL m≠[]):m.start.toNat∈usefulL m:=by
 rw[zcy hw]
 by_cases hu:zhz m m.start.toNat
 ·exact hu
 ·exact absurd ((zok hw).2 hu) h
theorem zot {m:Mach}(h:validB m=true):validB (trimM m)=true:=by
 by_cases hu:usefulL m=[]
 ·rw[zfb hu]
  exact zyN (zdz (zdy h)).1
 ·rw[zdC hu]
  exact zvs h (zkN m) (zlc m) (zos (zfQ h) hu)
def bare (s:zag):zag:=⟨ByteArray.empty,s.arcs⟩
open Go.RowKit
theorem zud (k:Int)(w:World):Calls Tryz.prog 146 #[.int .i64 k] w (zkH (zbG k) w):=by
 obtain⟨i0,hi,hz0,hz1,hz2⟩:=zcl zwu;have RO:=zHd (zjl k);have hb0:=zao.new w zaP (.slice none 0 0);have hg0:w.grownBy (w.alloc (.cells #[.int .i64 zaP.kind,.int .i64 zaP.start,.string zaP.lead,.slice none 0 0] 31)) none:=zGA _ _ _;have HP:=zHd (zmL hb0 hg0);clear hb0 hg0
 obtain⟨mk,hmk,hmg,hms⟩:∃ mk:World→World,(∀ w:World,(Instr.makeSlice 29 (.int .i64 1) (.int .i64 1)).run Tryz.prog w = .ok (.slice (some ⟨w.heap.size,0,none⟩) 1 1) (mk w))∧(∀ w:World,w.grownBy (mk w) none)∧∀ w:World,(mk w).heap[w.heap.size]? = some (.cells #[.string ByteArray.empty,.slice none 0 0] 57 (0,0)) :=
  ⟨fun w=>w.alloc (.cells #[.string ByteArray.empty,.slice none 0 0] 57),fun w=>run_makeSlice w 29 57 i0 _ Tryz.underlying29 hi hz0 .i64 .i64 1 1 (by decide) (by decide) (by rw[hz1];decide) (by rw[hz2];decide) (by decide) |>.trans (by rw[hz1,zGp];rfl),fun w=>zGA _ _ _,fun w=>by show(w.heap.push _)[w.heap.size]? = _;rw[Array.getElem?_push_size]⟩
 have HMS:=zHd hms;have HMG:=zHd hmg;clear hms hmg;go_enter Tryz.func146,Tryz.ntmps146;go_upto_region 1 with(fail)
 clear hi hz0 hz1 hz2;have hp:=HP.out.next_drew;unfold Place at hp;obtain⟨hp1,hp2⟩:=hp
 go_region_held3 (fun W'=>True) (trivial)
  (first
   | (go_at_call 34;refine(RO.out _).mono ?_;rintro e w5 ⟨rfl,hg5⟩;have s1:=zju w hg5 (by first|exact⟨hp1,hp2⟩|exact zju w (HMG.out _) ⟨hp1,hp2⟩);obtain⟨⟨q0,q1,q2,q3,f0,f1,f2,f3⟩,_⟩:=id s1;have s2:=zju w (HMG.out w5) s1;obtain⟨⟨r0,r1,r2,r3,e0,e1,e2,e3⟩,_⟩:=id s2))
 ·have P:=zof (n:=zbG k) (v := .slice (some ⟨w5.heap.size,0,none⟩) 1 1) s2
  have t3:=zqD ((P.2.2 w5.heap.size (by have:=s1.2.out.1.lt;omega) (Array.getElem?_eq_some_iff.1 (HMS.out w5)).1).trans (HMS.out w5)) (B:=w.heap.size) (by have:=s1.2.out.2.size;omega);simp only[zbG] at P t3;clear hp1 hp2 s1 q0 q1 q2 q3 f0 f1 f2 f3 s2 r0 r1 r2 r3 e0 e1 e2 e3;have T:=zHd t3;have T2:=zHd P.2.1;obtain⟨c0,c1,c2,c3⟩:=P.1.cells;simp only[] at c0 c1 c2 c3;clear P t3;go_wp2_with fail;generalize ((((mk w5).setCell ⟨w.heap.size,0,none⟩ (.int .i64 k)).setCell ⟨w.heap.size,1,none⟩ (.int .i64 0)).setCell ⟨w.heap.size,2,none⟩ (.string (oneT k))).setCell ⟨w.heap.size,3,none⟩ (.slice (some ⟨w5.heap.size,0,none⟩) 1 1)=WW at *;exact bodyPost_ret (v := .agg #[.int .i64 k,.int .i64 0,.string (oneT k),.slice (some ⟨w5.heap.size,0,none⟩) 1 1]) (by simp[results,Tryz.results146,go_sem,c0,c1,c2,c3]) rfl ⟨_,rfl,⟨_,rfl,T.out⟩,T2.out⟩
 ·have P:=zof (n:=zbG k) (v := .slice (some ⟨w.heap.size+1,0,none⟩) 1 1) s1
  have hs:=HMS.out (w.alloc (.cells #[.int .i64 0,.int .i64 0,.string ⟨#[]⟩,.slice none 0 0] 31)).drew;have hs2:=(hg5.block _ (Array.getElem?_eq_some_iff.1 hs).1 (by simp)).trans hs;rw[show(w.alloc (.cells #[.int .i64 0,.int .i64 0,.string ⟨#[]⟩,.slice none 0 0] 31)).drew.heap.size=w.heap.size+1 by simp] at hs2;have t3:=zqD ((P.2.2 (w.heap.size+1) (by omega) (Array.getElem?_eq_some_iff.1 hs2).1).trans hs2) (B:=w.heap.size) (by omega);simp only[zbG] at P t3;clear hs hs2;clear hp1 hp2 s1 q0 q1 q2 q3 f0 f1 f2 f3;have T:=zHd t3;have T2:=zHd P.2.1;obtain⟨c0,c1,c2,c3⟩:=P.1.cells;simp only[] at c0 c1 c2 c3;clear P t3;go_wp2_with fail;generalize (((w5.setCell ⟨w.heap.size,0,none⟩ (.int .i64 k)).setCell ⟨w.heap.size,1,none⟩ (.int .i64 0)).setCell ⟨w.heap.size,2,none⟩ (.string (oneT k))).setCell ⟨w.heap.size,3,none⟩ (.slice (some ⟨(w.heap.size+1),0,none⟩) 1 1)=WW at *;exact bodyPost_ret (v := .agg #[.int .i64 k,.int .i64 0,.string (oneT k),.slice (some ⟨(w.heap.size+1),0,none⟩) 1 1]) (by simp[results,Tryz.results146,go_sem,c0,c1,c2,c3]) rfl ⟨_,rfl,⟨_,rfl,T.out⟩,T2.out⟩
open Go.RowKit
theorem zvt {m:Mach}(h:validB m=true):Small m:=⟨zfQ h,zBl h,fun s hs=>zBm h hs⟩
theorem zCf {w:World}{v:Value}{m:Mach}(hv:zbX w v m)(hm:Small m):Calls Tryz.prog 100 #[v] w (zkH (trimM m) w):=by
 have hv0:=hv;obtain⟨u,rfl,hst0⟩:=hv;obtain⟨A,cap,us,rfl,hS0⟩:=StAt.of hst0;have hg:w.grownBy (w.alloc (.cells #[.int .i64 m.kind,.int .i64 m.start,.string m.lead,.slice A m.states.length cap] 31)) none:=zGA _ _ _;have hbx:=zao.new w m (.slice A m.states.length cap);have hg2:=zGA (w.alloc (.cells #[.int .i64 m.kind,.int .i64 m.start,.string m.lead,.slice A m.states.length cap] 31)) (.cells #[.int .i64 zaP.kind,.int .i64 zaP.start,.string zaP.lead,.slice none 0 0] 31) none;have hb2:=zao.new (w.alloc (.cells #[.int .i64 m.kind,.int .i64 m.start,.string m.lead,.slice A m.states.length cap] 31)) zaP (.slice none 0 0);have e1:(w.alloc (.cells #[.int .i64 m.kind,.int .i64 m.start,.string m.lead,.slice A m.states.length cap] 31)).heap.size=w.heap.size+1:=by simp
 rw[e1] at hb2;have hsz2:w.heap.size+2≤((w.alloc (.cells #[.int .i64 m.kind,.int .i64 m.start,.string m.lead,.slice A m.states.length cap] 31)).alloc (.cells #[.int .i64 zaP.kind,.int .i64 zaP.start,.string zaP.lead,.slice none 0 0] 31)).heap.size:=by simp
 have HSZ2:=zHd hsz2;have HV0:=zHd hv0;have HB1:=zHd (hbx.grown hg2);have HB2:=zHd hb2;have HG:=zHd (zaa hg hg2);obtain⟨x0,x1,x2,x3⟩:=zao.cells HB1.out;clear hbx hg hst0 hS0 hv0 hg2 hb2 e1 hsz2;have HM:=zHd hm;have HU:=zHd (zyK (HV0.out.grown HG.out) hm);clear hm;go_enter Tryz.func100,Tryz.ntmps100;go_wp2_with fail;refine HU.out.mono ?_;rintro e w1 ⟨lv,rfl,hl,hg1⟩;have HL:=zHd hl;obtain⟨Al,capl,rfl,hrl⟩:=hl;have HSZ1:Hid (w.heap.size+2≤w1.heap.size):=zHd (Nat.le_trans HSZ2.out hg1.size);have HG1:=zHd (zaa HG.out hg1);have HB1a:=zHd (zao.grown HB1.out hg1);have HB2a:=zHd (zao.grown HB2.out hg1);clear hg1 hrl HU HSZ2 HB1 HB2 HG x0 x1 x2 x3;obtain⟨x0,x1,x2,x3⟩:=zao.cells HB1a.out
 by_cases h0:usefulL m=[]
 ·have HT:=zHd (zfb h0)
  have n0:(usefulL m).length=0:=by rw[h0];rfl
  have HC:=zHd (zud m.kind w1);clear h0;rw[n0];go_wp2_with fail;refine HC.out.mono ?_;intro e w2 h2;obtain⟨A2,k2,rfl,hsz,hg2⟩:=h2.open6;have hle:=HSZ1.out;have HGZ:=zHd (zaa HG1.out hg2);have hbz:=zao.grown HB2a.out hg2;clear h2 hg2 x0 x1 x2 x3;obtain⟨v0,v1,v2,v3⟩:=hbz.cells;simp only[zaP] at v0 v1 v2;have f0:=hbz.free 0;have f1:=hbz.free 1;have f2:=hbz.free 2;have f3:=hbz.free 3;obtain⟨hbf,hgf⟩:=zfP (n:=(zbG m.kind)) (v := .slice A2 (zbG m.kind).states.length k2) hbz;have HGF:=zHd (zai (g:=w.heap.size+1) HGZ.out hgf (by omega));have T:=zHd ((hsz.kept (zgr hgf (by omega))).mono (C:=w.heap.size) (by omega));obtain⟨c0,c1,c2,c3⟩:=hbf.cells;clear hsz hbz hbf hgf;go_wp2_with fail;generalize (((w2.setCell ⟨w.heap.size+1,0,none⟩ (.int .i64 (zbG m.kind).kind)).setCell ⟨w.heap.size+1,1,none⟩ (.int .i64 (zbG m.kind).start)).setCell ⟨w.heap.size+1,2,none⟩ (.string (zbG m.kind).lead)).setCell ⟨w.heap.size+1,3,none⟩ (.slice A2 (zbG m.kind).states.length k2)=WW at *;exact bodyPost_ret (v := .agg #[.int .i64 (zbG m.kind).kind,.int .i64 (zbG m.kind).start,.string (zbG m.kind).lead,.slice A2 (zbG m.kind).states.length k2]) (by simp[results,Tryz.results100,go_sem,c0,c1,c2,c3]) rfl ⟨_,rfl,by rw[HT.out];exact⟨_,rfl,T.out⟩,HGF.out⟩
 ·have HT:=zHd (zdC h0)
  have n0:¬ (usefulL m).length=0:=fun e=>h0 (List.eq_nil_of_length_eq_zero e);have n1:¬ ((usefulL m).length:Int)=0:=by omega
  have HC:=zHd (zEJ (HV0.out.grown HG1.out) HM.out HL.out (zkN m) (zlc m) (zos HM.out.wf h0));clear h0;go_wp2_with fail;refine HC.out.mono ?_;intro e w2 h2;obtain⟨A2,k2,rfl,hsz,hg2⟩:=h2.open6;have hle:=HSZ1.out;have HGZ:=zHd (zaa HG1.out hg2);have hbz:=zao.grown HB2a.out hg2;clear h2 hg2 x0 x1 x2 x3;obtain⟨v0,v1,v2,v3⟩:=hbz.cells;simp only[zaP] at v0 v1 v2;have f0:=hbz.free 0;have f1:=hbz.free 1;have f2:=hbz.free 2;have f3:=hbz.free 3;obtain⟨hbf,hgf⟩:=zfP (n:=(zaH m (usefulL m))) (v := .slice A2 (zaH m (usefulL m)).states.length k2) hbz;have HGF:=zHd (zai (g:=w.heap.size+1) HGZ.out hgf (by omega));have T:=zHd ((hsz.kept (zgr hgf (by omega))).mono (C:=w.heap.size) (by omega));obtain⟨c0,c1,c2,c3⟩:=hbf.cells;clear hsz hbz hbf hgf;go_wp2_with fail;generalize (((w2.setCell ⟨w.heap.size+1,0,none⟩ (.int .i64 (zaH m (usefulL m)).kind)).setCell ⟨w.heap.size+1,1,none⟩ (.int .i64 (zaH m (usefulL m)).start)).setCell ⟨w.heap.size+1,2,none⟩ (.string (zaH m (usefulL m)).lead)).setCell ⟨w.heap.size+1,3,none⟩ (.slice A2 (zaH m (usefulL m)).states.length k2)=WW at *;exact bodyPost_ret (v := .agg #[.int .i64 (zaH m (usefulL m)).kind,.int .i64 (zaH m (usefulL m)).start,.string (zaH m (usefulL m)).lead,.slice A2 (zaH m (usefulL m)).states.length k2]) (by simp[results,Tryz.results100,go_sem,c0,c1,c2,c3]) rfl ⟨_,rfl,by rw[HT.out];exact⟨_,rfl,T.out⟩,HGF.out⟩
noncomputable def trimV (m:Mach):Mach × Int:=if validB m=true then (trimM m,0) else (zaP,1)
theorem zCg {w:World}{v:Value}{m:Mach}(hv:zbX w v m)(hf:zer m):Calls Tryz.prog 56 #[v] w (zyd (trimV m) w):=by
 have hval:=fun w' (h:w.grownBy w' none)=>zjA (hv.grown h) hf;have HV:=zHd hval;clear hval;have hv0:=hv;obtain⟨u,rfl,hst0⟩:=hv;obtain⟨A,cap,us,rfl,hS0⟩:=StAt.of hst0;have hg:w.grownBy (w.alloc (.cells #[.int .i64 m.kind,.int .i64 m.start,.string m.lead,.slice A m.states.length cap] 31)) none:=zGA _ _ _;have hbx:=zao.new w m (.slice A m.states.length cap);have hg2:=zGA (w.alloc (.cells #[.int .i64 m.kind,.int .i64 m.start,.string m.lead,.slice A m.states.length cap] 31)) (.cells #[.int .i64 zaP.kind,.int .i64 zaP.start,.string zaP.lead,.slice none 0 0] 31) none;have hb2:=zao.new (w.alloc (.cells #[.int .i64 m.kind,.int .i64 m.start,.string m.lead,.slice A m.states.length cap] 31)) zaP (.slice none 0 0);have e1:(w.alloc (.cells #[.int .i64 m.kind,.int .i64 m.start,.string m.lead,.slice A m.states.length cap] 31)).heap.size=w.heap.size+1:=by simp
 rw[e1] at hb2;have hsz2:w.heap.size+2≤((w.alloc (.cells #[.int .i64 m.kind,.int .i64 m.start,.string m.lead,.slice A m.states.length cap] 31)).alloc (.cells #[.int .i64 zaP.kind,.int .i64 zaP.start,.string zaP.lead,.slice none 0 0] 31)).heap.size:=by simp
 have HSZ2:=zHd hsz2;have HV0:=zHd hv0;have HB1:=zHd (hbx.grown hg2);have HB2:=zHd hb2;have HG:=zHd (zaa hg hg2);obtain⟨x0,x1,x2,x3⟩:=zao.cells HB1.out;clear hbx hg hst0 hS0 hv0 hg2 hb2 e1 hsz2;go_enter Tryz.func56,Tryz.ntmps56;go_wp2_with fail;refine(HV.out _ HG.out).mono ?_;rintro e w1 ⟨rfl,hg1⟩;have HSZ1:Hid (w.heap.size+2≤w1.heap.size):=zHd (Nat.le_trans HSZ2.out hg1.size);have HG1:=zHd (zaa HG.out hg1);have HB1a:=zHd (zao.grown HB1.out hg1);have HB2a:=zHd (zao.grown HB2.out hg1);clear hg1 HSZ2 HB1 HB2 HG x0 x1 x2 x3;obtain⟨x0,x1,x2,x3⟩:=zao.cells HB1a.out;cases hB:validB m
 ·have HN:Hid (trimV m=(zaP,1)):=zHd (by unfold trimV;rw[hB];rfl)
  have hle:=HSZ1.out;have HGZ:=HG1;have hbz:=HB2a.out;have hsz:=StN.nil w1 (w.heap.size+2);clear hB x0 x1 x2 x3;obtain⟨v0,v1,v2,v3⟩:=hbz.cells;have f0:=hbz.free 0;have f1:=hbz.free 1;have f2:=hbz.free 2;have f3:=hbz.free 3;obtain⟨hbf,hgf⟩:=zfP (n:=zaP) (v := .slice none 0 0) hbz;have HGF:=zHd (zai (g:=w.heap.size+1) HGZ.out hgf (by omega));have T:=zHd ((hsz.kept (zgr hgf (by omega))).mono (C:=w.heap.size) (by omega));obtain⟨c0,c1,c2,c3⟩:=hbf.cells;clear hsz hbz hbf hgf;go_wp2_with fail;generalize (((w1.setCell ⟨w.heap.size+1,0,none⟩ (.int .i64 zaP.kind)).setCell ⟨w.heap.size+1,1,none⟩ (.int .i64 zaP.start)).setCell ⟨w.heap.size+1,2,none⟩ (.string zaP.lead)).setCell ⟨w.heap.size+1,3,none⟩ (.slice none 0 0)=WW at *;exact bodyPost_ret (v := .tuple #[.agg #[.int .i64 zaP.kind,.int .i64 zaP.start,.string zaP.lead,.slice none 0 0],.int .i64 1]) (by simp[results,Tryz.results56,go_sem,c0,c1,c2,c3]) rfl (by rw[HN.out];exact⟨_,rfl,⟨_,rfl,T.out⟩,HGF.out⟩)
 ·have HT:=zHd (zCf (HV0.out.grown HG1.out) (zvt hB))
  have HN:Hid (trimV m=(trimM m,0)):=zHd (by unfold trimV;rw[hB];rfl);clear hB;generalize trimM m=t at *;go_wp2_with fail;refine HT.out.mono ?_;intro e w2 h2;obtain⟨A2,k2,rfl,hsz,hg2⟩:=h2.open6;have hle:=HSZ1.out;have HGZ:=zHd (zaa HG1.out hg2);have hbz:=zao.grown HB2a.out hg2;clear h2 hg2 x0 x1 x2 x3;obtain⟨v0,v1,v2,v3⟩:=hbz.cells;simp only[zaP] at v0 v1 v2;have f0:=hbz.free 0;have f1:=hbz.free 1;have f2:=hbz.free 2;have f3:=hbz.free 3;obtain⟨hbf,hgf⟩:=zfP (n:=t) (v := .slice A2 t.states.length k2) hbz;have HGF:=zHd (zai (g:=w.heap.size+1) HGZ.out hgf (by omega));have T:=zHd ((hsz.kept (zgr hgf (by omega))).mono (C:=w.heap.size) (by omega));obtain⟨c0,c1,c2,c3⟩:=hbf.cells;clear hsz hbz hbf hgf;go_wp2_with fail;generalize (((w2.setCell ⟨w.heap.size+1,0,none⟩ (.int .i64 t.kind)).setCell ⟨w.heap.size+1,1,none⟩ (.int .i64 t.start)).setCell ⟨w.heap.size+1,2,none⟩ (.string t.lead)).setCell ⟨w.heap.size+1,3,none⟩ (.slice A2 t.states.length k2)=WW at *;exact bodyPost_ret (v := .tuple #[.agg #[.int .i64 t.kind,.int .i64 t.start,.string t.lead,.slice A2 t.states.length k2],.int .i64 0]) (by simp[results,Tryz.results56,go_sem,c0,c1,c2,c3]) rfl (by rw[HN.out];exact⟨_,rfl,⟨_,rfl,T.out⟩,HGF.out⟩)
open Go.RowKit
section
variable {k:Int}
theorem zwE (hk:zad k){l:List zag}(h:zfv hk l){i:Nat}(hi:i<l.length):FitE (toE hk l i):=by
 have h1:=zgK hk (Nat.le_refl _) h.2 i hi 0 (by omega);rw[zdq _ _ _ _ _ (Nat.le_refl _) i 0 hi] at h1;exact h1
theorem zrD:Enters 58:=enters_of Tryz.func58 (by kernel_rfl) rfl
@[go_sem] theorem field_cal7 (k:Int) (w:World):(Instr.field 64 (.agg #[.int .i64 k,.string (zaf k),.string (oneT k)]) 0).run Tryz.prog w = .ok (.agg #[.int .i64 k,.string (zaf k),.string (oneT k)]) w:=by kernel_rfl
noncomputable def totE (hk:zad k)(l:List zag)(ld:ByteArray)(s0:Nat):El k:=(srE k hk).mul (vE hk ld) (toE hk l s0)
def ziL (hk:zad k)(l:List zag)(ld:ByteArray)(s0:Nat):Prop:=zfv hk l∧FitE (totE hk l ld s0)
theorem zyO (hk:zad k)(l:List zag)(us:List Value)(As:Option Addr)(cs g s0:Nat)(ld:ByteArray)(w:World)(hok:zcz k l)(hst:StsR w l us As cs)(hs0:s0<l.length)(hld:∃ v,Val k ld v)(hb:MBox w g k (s0:Int) ld As l.length cs) :
  Calls Tryz.prog 58 #[.pointer (some ⟨g,0,none⟩)] w (zbo (ziL hk l ld s0) (fun v w'=>v = .string (tx (totE hk l ld s0))) w):=by
 have hof:=fun w'=>zlI k w';have hto:=fun(w':World) (hg:w.grownBy w' none)=>zqQ hk l us As cs (s0:Int) ld w' hok (hst.grown hg);have hlt:=zic hk hld
 have hmul:=fun(hf:zfv hk l) (w':World)=>(show Calls Tryz.prog 59 #[calV k,.string ld,.string (tx (toE hk l s0))] w' (ziH (FitE (totE hk l ld s0)) (.string (tx (totE hk l ld s0))) w') from by
  have h:=znX hk hlt.2 (zwE hk hf hs0) w';rw[← hlt.1] at h;exact h)
 have HO:=zHd hof;have HT:=zHd hto;have HM:=zHd hmul;have HN:=zHd (zAI hok.n60 (zAI hs0 hlt));obtain⟨x0,x1,x2,x3⟩:=hb;have d0:w.drew.cell? ⟨g,0,none⟩=some (.int .i64 k):=x0;have d1:w.drew.cell? ⟨g,1,none⟩=some (.int .i64 (s0:Int)):=x1;have d2:w.drew.cell? ⟨g,2,none⟩=some (.string ld):=x2;have d3:w.drew.cell? ⟨g,3,none⟩=some (.slice As l.length cs):=x3;have i1:(s0:Int)<(l.length:Int):=by omega
 have i2:(0:Int)≤(s0:Int):=by omega
 clear hof hto hmul hok hst hs0 hld hlt x0 x1 x2 x3;unfold calV at *;go_enter Tryz.func58,Tryz.ntmps58;go_upto_region 1 with(fail)
 refine wp_region_held_drew (S:=fun W':World=>W'.cell? ⟨g,0,none⟩=some (.int .i64 k)∧W'.cell? ⟨g,1,none⟩=some (.int .i64 (s0:Int))∧W'.cell? ⟨g,2,none⟩=some (.string ld)∧W'.cell? ⟨g,3,none⟩=some (.slice As l.length cs)) (by kernel_rfl) ⟨d0,d1,d2,d3⟩ (fun hHeld => ?_);refine zTk 0 (.pointer (some ⟨g,0,none⟩)) rfl hHeld ?_
 (try simp only[zA1,zA2,zA3,Act.put,zA4,zA5,zA6])
 refine zTk 1 (.int .i64 k) rfl hHeld ?_
 (try simp only[zA1,zA2,zA3,Act.put,zA4,zA5,zA6])
 refine zTk 4 (.pointer (some ⟨g,2,none⟩)) rfl hHeld ?_
 (try simp only[zA1,zA2,zA3,Act.put,zA4,zA5,zA6])
 refine zTk 5 (.string ld) rfl hHeld ?_
 (try simp only[zA1,zA2,zA3,Act.put,zA4,zA5,zA6])
 refine zTk 6 (.agg #[.int .i64 k,.int .i64 (s0:Int),.string ld,.slice As l.length cs]) rfl hHeld ?_
 (try simp only[zA1,zA2,zA3,Act.put,zA4,zA5,zA6])
 refine zTk 8 (.pointer (some ⟨g,1,none⟩)) rfl hHeld ?_
 (try simp only[zA1,zA2,zA3,Act.put,zA4,zA5,zA6])
 refine zTk 9 (.int .i64 (s0:Int)) rfl hHeld ?_
 (try simp only[zA1,zA2,zA3,Act.put,zA4,zA5,zA6])
 refine wpAnyH_ready (rs:=[2]) (by kernel_rfl) (by simp) ?_;refine AllReadyH.cons rfl (fun K hK => ?_) AllReadyH.nil
 go_simp
 refine(HO.out _).mono ?_;rintro e w1 ⟨rfl,hg1⟩;have S1:(fun W':World=>W'.cell? ⟨g,0,none⟩=some (.int .i64 k)∧W'.cell? ⟨g,1,none⟩=some (.int .i64 (s0:Int))∧W'.cell? ⟨g,2,none⟩=some (.string ld)∧W'.cell? ⟨g,3,none⟩=some (.slice As l.length cs)) w1:=⟨hg1.cell hHeld.1 (by simp),hg1.cell hHeld.2.1 (by simp),hg1.cell hHeld.2.2.1 (by simp),hg1.cell hHeld.2.2.2 (by simp)⟩;refine hK.out _ _ S1 (fun hHeld => ?_);clear hK K;have HG1:=zHd hg1;clear hg1;refine zTk 3 (.agg #[.int .i64 k,.string (zaf k),.string (oneT k)]) rfl hHeld ?_
 (try simp only[zA1,zA2,zA3,Act.put,zA4,zA5,zA6])
 refine wpAnyH_ready (rs:=[7]) (by kernel_rfl) (by simp) ?_;refine AllReadyH.cons rfl (fun K hK => ?_) AllReadyH.nil
 go_simp
 refine(HT.out _ (zaa (zae w none) HG1.out)).mono ?_;rintro e w2 (⟨hp2,v2,rfl,⟨g2,rfl,hgs2,hr2⟩,hg2⟩|⟨hn2,rfl,hg2⟩);rotate_left 1
 ·exact⟨rfl,.inr ⟨fun h=>hn2 h.1,rfl,zaa (zaa (zae w none) HG1.out) hg2⟩⟩
 have S2:(fun W':World=>W'.cell? ⟨g,0,none⟩=some (.int .i64 k)∧W'.cell? ⟨g,1,none⟩=some (.int .i64 (s0:Int))∧W'.cell? ⟨g,2,none⟩=some (.string ld)∧W'.cell? ⟨g,3,none⟩=some (.slice As l.length cs)) w2:=⟨hg2.cell hHeld.1 (by simp),hg2.cell hHeld.2.1 (by simp),hg2.cell hHeld.2.2.1 (by simp),hg2.cell hHeld.2.2.2 (by simp)⟩;refine hK.out _ _ S2 (fun hHeld => ?_);clear hK K;have rc:w2.cell? ⟨g2,s0,none⟩=some (.string (tx (toE hk l s0))):=by have h:=hr2.2 s0 HN.out.2.1;rw[Nat.zero_add] at h;exact h
 have H2:=zHd (zAI hp2 (zaa (zaa (zae w none) HG1.out) hg2));clear hp2 hgs2 hr2 hg2;refine zTk 10 (.pointer (some ⟨g2,s0,none⟩)) rfl hHeld ?_
 (try simp only[zA1,zA2,zA3,Act.put,zA4,zA5,zA6])
 refine wpAnyH_ready (rs:=[11]) (by kernel_rfl) (by simp) ?_;refine AllReadyH.cons rfl (fun K hK => ?_) AllReadyH.nil
 go_simp
 refine hK.out _ _ hHeld (fun hHeld => ?_);clear hK K;refine wpAnyH_ready (rs:=[12]) (by kernel_rfl) (by simp) ?_;refine AllReadyH.cons rfl (fun K hK => ?_) AllReadyH.nil
 go_simp
 refine(HM.out H2.out.1 _).mono ?_;rintro e w3 (⟨hp3,rfl,hg3⟩|⟨hn3,rfl,hg3⟩);rotate_left 1
 ·exact⟨rfl,.inr ⟨fun h=>hn3 h.2,rfl,zaa H2.out.2 hg3⟩⟩
 have S3:(fun W':World=>W'.cell? ⟨g,0,none⟩=some (.int .i64 k)∧W'.cell? ⟨g,1,none⟩=some (.int .i64 (s0:Int))∧W'.cell? ⟨g,2,none⟩=some (.string ld)∧W'.cell? ⟨g,3,none⟩=some (.slice As l.length cs)) w3:=⟨hg3.cell hHeld.1 (by simp),hg3.cell hHeld.2.1 (by simp),hg3.cell hHeld.2.2.1 (by simp),hg3.cell hHeld.2.2.2 (by simp)⟩;refine hK.out _ _ S3 (fun hHeld => ?_);clear hK K;have H3:=zHd (zAI hp3 hg3);clear hp3 hg3;refine wpAnyH_ready (rs:=[13]) (by kernel_rfl) (by simp) ?_;refine AllReadyH.cons rfl (fun K hK => ?_) AllReadyH.nil
 go_simp
 refine hK.out _ _ hHeld (fun hHeld => ?_);clear hK K;refine wpAnyH_done (by kernel_rfl) ?_ _;go_wp2;go_ret;exact .inl ⟨⟨H2.out.1,H3.out.1⟩,_,rfl,rfl,zaa H2.out.2 H3.out.2⟩
end
theorem zra {m:Mach}(hv:validB m=true):(trimM m).states.length≤m.states.length:=by
 have h1:=(zdz (zdy hv)).2.1
 by_cases h:usefulL m=[]
 ·rw[zfb h]
  show 1≤_;exact h1
 ·rw[zdC h]
  unfold zaH usefulL;rw[List.length_map];refine Nat.le_trans (List.length_filter_le _ _) ?_;rw[List.length_range];exact Nat.le_refl _
def zld (m:Mach)(w:World)(e:Ending)(w':World):Prop :=
 (checkC m≠0∧w.grownBy w' none∧e = .returned (.tuple #[.string ⟨#[]⟩,.int .i64 (checkC m)]))∨(checkC m=0∧∃ hk:zad m.kind,w.grownBy w' none ∧
  ((ziL hk (trimM m).states (trimM m).lead (trimM m).start.toNat∧e = .returned (.tuple #[.string (tx (totE hk (trimM m).states (trimM m).lead (trimM m).start.toNat)),.int .i64 0])) ∨
    (¬ ziL hk (trimM m).states (trimM m).lead (trimM m).start.toNat∧e = .returned (.tuple #[.string ⟨#[]⟩,.int .i64 2]))))
theorem zrb {w:World}{v:Value}{m:Mach}(hv:zbX w v m)(hf:zer m):Calls Tryz.prog 20 #[v] w (zld m w):=by
 have hmf:∀ (fn:Fn) (first cap:Array Value) (w:World),(Instr.makeFunc fn first cap).run Tryz.prog w = .ok (.func fn first cap) w:=fun _ _ _ _=>rfl;have hv0:=hv;obtain⟨u,rfl,hst⟩:=hv;obtain⟨A,cs,us,rfl,hsr⟩:=zgY hst;have hal:=zGA w (.cells #[.int .i64 m.kind,.int .i64 m.start,.string m.lead,.slice A m.states.length cs] 31) none;have hck:=zlb (w:=w.alloc (.cells #[.int .i64 m.kind,.int .i64 m.start,.string m.lead,.slice A m.states.length cs] 31)) (v := .agg #[.int .i64 m.kind,.int .i64 m.start,.string m.lead,.slice A m.states.length cs]) (m:=m) ⟨_,rfl,hst.below (zbm hal)⟩ hf;have htr:=fun(w1:World) (hg:w.grownBy w1 none)=>zCg (w:=w1) (v := .agg #[.int .i64 m.kind,.int .i64 m.start,.string m.lead,.slice A m.states.length cs]) (m:=m) ⟨_,rfl,hst.below (zbm hg)⟩ hf;obtain⟨x0,x1,x2,x3⟩:=MBox.new w m.kind m.start m.lead A m.states.length cs;have hbk:=zau w (.cells #[.int .i64 m.kind,.int .i64 m.start,.string m.lead,.slice A m.states.length cs] 31);have HC:=zHd hck;have HW:=zHd hal;have HT:=zHd htr;have HB:=zHd hbk;clear hck hal hsr hst hv0 hf htr hbk;unfold zld;go_enter Tryz.func20,Tryz.ntmps20;go_wp2_with fail;refine HC.out.mono ?_;rintro e w1 ⟨rfl,hg1⟩;have y0:=hg1.cell x0 (by simp);have y1:=hg1.cell x1 (by simp);have y2:=hg1.cell x2 (by simp);have y3:=hg1.cell x3 (by simp);have hb1:=(hg1.block w.heap.size (by simp) (by simp)).trans HB.out;have HG:=zHd (zaa HW.out hg1);have HB1:=zHd hb1;clear hg1 HC x0 x1 x2 x3 hb1 HB HW;obtain⟨c,hc⟩:∃ c,checkC m=c:=⟨_,rfl⟩;rw[hc];have HCC:=zHd hc;clear hc
 by_cases h0:c=0
 ·subst h0
  obtain⟨hvalid,h60⟩:=zin HCC.out;have hok:=zcD (zot hvalid);have hk0:=(zcD hvalid).kind;have hlen:=zra hvalid;have htv:trimV m=(trimM m,0):=by unfold trimV;rw[if_pos hvalid]
  have htk:=zjC m;obtain⟨t,ht⟩:∃ t,trimM m=t:=⟨_,rfl⟩;rw[ht] at hok hlen htv htk;have HTM:=zHd ht;clear ht;obtain⟨s0,hs0,hs1⟩:=hok.start;have HOK:=zHd (zAI hok (zAI hs1 (zAI hlen (zAI h60 (zAI hk0 (zAI htv htk))))));have HS0:=zHd hs0;clear hok hvalid h60 hk0 hlen htv htk hs1;go_wp2_with fail;refine(HT.out w1 HG.out).mono ?_;intro e w2 hq;rw[HOK.out.2.2.2.2.2.1] at hq;obtain⟨At,ct,rfl,hstn,hg2⟩:=hq.open6;rw[hs0];rw[HOK.out.2.2.2.2.2.2];have hb2:=(hg2.block w.heap.size (Array.getElem?_eq_some_iff.1 HB1.out).1 (by simp)).trans HB1.out;have q0:=cell_of_row w2 _ 0 _ _ (0,0) hb2;have q1:=cell_of_row w2 _ 1 _ _ (0,0) hb2;have q2:=cell_of_row w2 _ 2 _ _ (0,0) hb2;have q3:=cell_of_row w2 _ 3 _ _ (0,0) hb2;have z0:=frozen_of_row w2 _ 0 _ _ hb2;have z1:=frozen_of_row w2 _ 1 _ _ hb2;have z2:=frozen_of_row w2 _ 2 _ _ hb2;have z3:=frozen_of_row w2 _ 3 _ _ hb2;have H2:=zHd (zAI hstn (zAI hg2 hb2));clear hq hstn hg2 hb2 y0 y1 y2 y3 hs0;have hsg:w.grownBy w2 none:=zaa HG.out H2.out.2.1;have hset:=zik w2 w.heap.size (.int .i64 m.kind) (.int .i64 (s0:Int)) (.string t.lead) (.slice At t.states.length ct);have hg3:=zai hsg hset (Nat.le_refl _);have hws:w.heap.size+1≤w1.heap.size:=by have:=(Array.getElem?_eq_some_iff.1 HB1.out).1;omega
  have hst3:=H2.out.1.kept ((zgr hset (by omega:w.heap.size<w1.heap.size)));obtain⟨A3,c3,us3,e3,hsr3⟩:=zgY hst3.sl;obtain⟨rfl,rfl⟩:At=A3∧ct=c3:=by simp at e3;exact e3
  have hrow3:=zqI (u0 := .int .i64 m.kind) (u1 := .int .i64 (s0:Int)) (u2 := .string t.lead) (u3 := .slice At t.states.length ct) rfl H2.out.2.2;obtain⟨W3,hW3⟩:∃ W3,W3=((((w2.setCell ⟨w.heap.size,0,none⟩ (.int .i64 m.kind)).setCell ⟨w.heap.size,1,none⟩ (.int .i64 (s0:Int))).setCell ⟨w.heap.size,2,none⟩ (.string t.lead)).setCell ⟨w.heap.size,3,none⟩ (.slice At t.states.length ct)):=⟨_,rfl⟩;rw[← hW3] at hg3 hst3 hsr3 hrow3;have HW3:=zHd hW3;have hbx:MBox W3 w.heap.size m.kind (s0:Int) t.lead At t.states.length ct:=⟨cell_of_row W3 _ 0 _ _ (0,0) hrow3,cell_of_row W3 _ 1 _ _ (0,0) hrow3,cell_of_row W3 _ 2 _ _ (0,0) hrow3,cell_of_row W3 _ 3 _ _ (0,0) hrow3⟩;have hal3:=zGA W3 (.cells #[.int .i64 0] 24) none;have hsts:=HOK.out.1.sts (by have:=HOK.out;omega);have hld:=HOK.out.1.lead;rw[HOK.out.2.2.2.2.2.2] at hsts hld;have h1:=zyO HOK.out.2.2.2.2.1 t.states us3 At ct w.heap.size s0 t.lead (W3.alloc (.cells #[.int .i64 0] 24)) hsts (hsr3.grown hal3) HOK.out.2.1 hld (hbx.grown hal3)
  have hat:=zvc (WB:=W3.heap.size) 58 zrD #[] #[.pointer (some ⟨w.heap.size,0,none⟩)] (ziL HOK.out.2.2.2.2.1 t.states t.lead s0) (fun v _=>v = .string (tx (totE HOK.out.2.2.2.2.1 t.states t.lead s0)))
   (fun v wa wb b hb hg e hq=>hq) W3 rfl (h1.mono (fun e w' h=>by
    rcases h with⟨hp,v,h1,rfl,h4⟩|h
    ·exact .inl ⟨hp,_,h1,⟨⟨_,rfl⟩,rfl⟩,h4⟩
    ·exact .inr h))
  rw[hW3] at hat;have HAT:=zHd hat;have HG3:=zHd hg3;clear hat h1 hal3 hsts hld hbx hrow3 hst3 hsr3 e3 hws hset hsg hg3 hW3;go_wp2_with fail;refine HAT.out.mono ?_;rintro e w4 (⟨hp,v,rfl,rfl,hg4⟩|⟨hn2,rfl,hg4⟩)
  ·rw[← HW3.out] at hg4
   have H4:=zHd (zAI hp (zaa HG3.out hg4));clear hp hg4;go_wp2;exact bodyPost_ret (v := .tuple #[.string (tx (totE HOK.out.2.2.2.2.1 t.states t.lead s0)),.int .i64 0]) (by simp[results,Tryz.results20,go_sem]) rfl (.inr ⟨HCC.out,HOK.out.2.2.2.2.1,H4.out.2,.inl ⟨by rw[HTM.out,HS0.out];exact H4.out.1,by rw[HTM.out,HS0.out];rfl⟩⟩)
  ·rw[← HW3.out] at hg4
   have H4:=zHd (zAI hn2 (zaa HG3.out hg4));clear hn2 hg4;go_wp2;exact bodyPost_ret (v := .tuple #[.string ⟨#[]⟩,.int .i64 2]) (by simp[results,Tryz.results20,go_sem]) rfl (.inr ⟨HCC.out,HOK.out.2.2.2.2.1,H4.out.2,.inr ⟨by rw[HTM.out,HS0.out];exact H4.out.1,rfl⟩⟩)
 ·have t1:(c == 0)=false:=by simpa using h0
  have t2:(c != 0)=true:=by simpa using h0
  have H0:=zHd h0;clear h0;go_wp2;exact bodyPost_ret (v := .tuple #[.string ⟨#[]⟩,.int .i64 c]) (by simp[results,Tryz.results20,go_sem]) rfl (.inl ⟨by rw[HCC.out];exact H0.out,HG.out,by rw[HCC.out]⟩)
end Go.Proofs.YtaogepcaoogpgaaGreatDoor
