/- W97 W59 -/
import Derived.Test.YtaogepcaoogpgaaGreatDoorX18
import Derived.Shelf.Spec.SlicesInsertGrow
set_option linter.unusedVariables false
set_option linter.unusedSimpArgs false
set_option maxRecDepth 100000
set_option maxHeartbeats 16000000
namespace Go.Proofs.YtaogepcaoogpgaaGreatDoor
open Go.RowKit
structure Own7 (w:World)(g n c:Nat)(zs:List Value):Prop where
 len:zs.length=n
 le:n≤c
 max:c≤maxLen
 row:∃ sp:List Value,n+sp.length=c∧w.heap[g]? = some (.cells (zs++sp).toArray 33 (0,0))
theorem Own7.lt {w:World}{g n c:Nat}{zs:List Value}(h:Own7 w g n c zs):g<w.heap.size:=by
 obtain⟨sp,_,h⟩:=h.row;exact(Array.getElem?_eq_some_iff.1 h).1
theorem Own7.keep {w w':World}{g n c:Nat}{zs:List Value}(h:Own7 w g n c zs)(hb:w'.heap[g]? = w.heap[g]?):Own7 w' g n c zs:=by
 obtain⟨sp,h1,h2⟩:=h.row;exact⟨h.len,h.le,h.max,sp,h1,hb.trans h2⟩
theorem Own7.grown {w w':World}{g n c:Nat}{zs:List Value}(h:Own7 w g n c zs)(hg:w.grownBy w' none):Own7 w' g n c zs:=h.keep (hg.block g h.lt (by simp))
theorem Own7.rowAt {w:World}{g n c:Nat}{zs:List Value}(h:Own7 w g n c zs):zam w g 0 n (fun j=>zs.getD j (.slice none 0 0)):=by
 refine⟨h.lt,fun j hj => ?_⟩;obtain⟨sp,h1,h2⟩:=h.row;have hl:=h.len;rw[Nat.zero_add,cell_of_row w g j _ _ (0,0) h2,List.getElem?_toArray,List.getElem?_append_left (by omega)]
 dsimp only
 rw[List.getD_eq_getElem?_getD,List.getElem?_eq_getElem (by omega)]
 rfl
def zlJ (n g:Nat)(u:Value)(zs:List Value)(w:World)(e:Ending)(w':World):Prop :=
 ∃ g' c',e = .returned (.slice (some ⟨g',0,none⟩) (n+1) c')∧Own7 w' g' (n+1) c' (u::zs)∧((g'=g∧0<n∧w.grownBy w' (some g))∨(w.heap.size≤g'∧w.grownBy w' none))
theorem zqE:∃ i0:TypeInfo,Tryz.prog.info? 33=some i0∧i0.zero=some (.slice none 0 0)∧i0.size=1∧i0.bytes=24:=info_parts zdx
theorem zvd (vb:Nat)(u:Value)(w:World)(hv:w.cell? ⟨vb,0,none⟩=some u)(h1:u.oneCell'=true) :
  Calls Tryz.prog 133 #[.slice none 0 0,.int .i64 0,.slice (some ⟨vb,0,none⟩) 1 1] w (zlJ 0 0 u [] w):=by
 obtain⟨i0,hi0,hz0,hzs,hzb⟩:=zqE
 have hsrc:Src Tryz.prog i0.size 22 (.slice (some ⟨vb,0,none⟩) 1 1) 1 [u] w:=by
  rw[hzs]
  exact Src.ofSlice w Tryz.underlying22 ⟨vb,0,none⟩ 1 1 [u] rfl (fun j x hj=>by
   obtain⟨hj1,rfl⟩:=List.getElem?_eq_some_iff.1 hj;obtain rfl:j=0:=by simpa using hj1
   exact hv) (fun x hx=>by rw[List.mem_singleton.1 hx];exact h1)
 have hold:(Builtin.firstCells i0.size 0 (.slice none 0 0)).run Tryz.prog w.drew = .ok ([]:List Value).toArray w.drew:=by
  rw[hzs];exact run_firstCells_none w.drew 1 0 0 0
 obtain⟨G,hG⟩:∃ G,G=grownCap w (0+1) 0 33:=⟨_,rfl⟩
 have hrun:∀ ty,(Builtin.append_ #[22,22] ty #[.slice none 0 0,.slice (some ⟨vb,0,none⟩) 1 1]).run Tryz.prog w = .ok (.slice (some ⟨w.heap.size,0,none⟩) (0+1) G) (w.drew.alloc (.cells (([]++[u]:List Value).toArray++Builtin.zeroCells (Value.slice none 0 0).cells (G - (0+1))) 33)):=fun ty=>by
  rw[hG];exact run_append_grow_src w 22 22 ty 33 i0 _ Tryz.underlying22 hi0 hz0 none 0 0 [] hold _ 1 [u] hsrc (by omega) (by omega) (by rw[hzb];exact growslice_fits (by omega) (by omega))
 have hGn:1≤G:=by rw[hG];exact grownCap_ge w _ _ _
 have hG63:G≤maxLen:=by
  rw[hG];exact grownCap_le_maxLen w (0+1) 0 33 (by unfold maxLen;omega)
 clear hG hsrc hold;have HG:=zHd (zAI hGn hG63);clear hGn hG63;go_enter Tryz.func133,Tryz.ntmps133;go_wp2_with (at_builtin;refine Lib.wpList_append_run _ rfl _ _ _ _ rfl _ _ rfl rfl _ _ (hrun _) ?_);go_ret;obtain⟨hGn,hG63⟩:=HG.out;refine⟨_,G,rfl,⟨rfl,hGn,hG63,List.replicate (G - 1) (.slice none 0 0),by simp;omega,?_⟩,.inr ⟨Nat.le_refl _,zaa (zae w none) (zGA _ _ none)⟩⟩;show(w.drew.alloc _).heap[w.drew.heap.size]? = _;rw[zau]
 congr 2
 apply Array.toList_inj.1
 show((#[u]++Builtin.zeroCells #[Value.slice none 0 0] (G - 1)):Array Value).toList=_;rw[Array.toList_append,zdm]
theorem zBp (w:World)(g off dLen dCap sLen sCap:Nat)(ad:Addr)(cur cs:List Value)(T:TypeId)(hg:w.heap[g]? = some (.cells cur.toArray T (0,0)))(hn:cs.length=Nat.min sLen dLen)
  (hsrc:∀ j v,cs[j]? = some v→w.cell? (ad.add j)=some v) (hfit:off+cs.length≤cur.length) (h1:∀ v∈cs,v.oneCell'=true) :
  ∃ w',(∀ ty,(Builtin.copy_ #[22,22] ty #[.slice (some ⟨g,off,none⟩) dLen dCap,.slice (some ad) sLen sCap]).run Tryz.prog w = .ok (goInt cs.length) w')∧w'.heap[g]? = some (.cells (splice cur off cs).toArray T (0,0))∧w.grownBy w' (some g):=by
 have hrun:=fun ty=>run_copy_row (P:=Tryz.prog) w 22 22 ty 33 g off dLen dCap ad sLen sCap cur.toArray T cs Tryz.underlying22 (by kernel_rfl) hg hn hsrc (by simpa using hfit) h1;refine⟨_,hrun,?_,⟨rfl,rfl,rfl,by simp,fun k _ hk=>setRow_other w g k _ (fun e=>hk (by rw[e]))⟩⟩;rw[setRow_heap w g _ _ T _ hg];simp[splice]
theorem zog {w:World}{g:Nat}{cur:List Value}{T:TypeId}(h:w.heap[g]? = some (.cells cur.toArray T (0,0))){j:Nat}{v:Value}(hj:cur[j]? = some v):w.cell? ⟨g,j,none⟩=some v:=by
 rw[cell_of_row w g j _ _ (0,0) h,List.getElem?_toArray,hj]
theorem zBq {w:World}{g:Nat}{cur:Array Value}{T:TypeId}(h:w.heap[g]? = some (.cells cur T (0,0))):w.shape? g=some (T,cur.size):=by unfold World.shape?;rw[h]
theorem zmh {w:World}{g k:Nat}{cur:Array Value}{T:TypeId}(h:w.heap[g]? = some (.cells cur T (0,0))):w.frozen? ⟨g,k,none⟩=false:=frozen_of_row w g k _ _ h
theorem ztC (n c g vb:Nat)(zs:List Value)(u:Value)(TB:TypeId)(w:World)(hn0:0<n)(hn:n≤10000)(hc:n+1≤c)(hown:Own7 w g n c zs)(hne:vb≠g)(hv:w.heap[vb]? = some (.cells #[u] TB (0,0)))(h1:u.oneCell'=true)(hz:∀ z∈zs,z.oneCell'=true) :
  Calls Tryz.prog 133 #[.slice (some ⟨g,0,none⟩) n c,.int .i64 0,.slice (some ⟨vb,0,none⟩) 1 1] w (zlJ n g u zs w):=by
 obtain⟨sp,hsp,hrow⟩:=hown.row;have hlen:=hown.len;have hmax:=hown.max
 obtain⟨s0,sp',rfl⟩:∃ s0 sp',sp=s0::sp':=by
  cases sp with
  | nil=>simp at hsp;omega
  | cons a b=>exact⟨a,b,rfl⟩
 have hvc:w.cell? ⟨vb,0,none⟩=some u:=cell_of_row w vb 0 _ _ (0,0) hv
 have hov:∀ lb cb,(callFunc 168 #[.slice (some ⟨vb,0,none⟩) 1 1,.slice (some ⟨g,1,none⟩) lb cb]).run Tryz.prog w = .ok (.value (.bool false)) w:=fun lb cb=>by
  rw[run_callFunc_extern Tryz.func168 (by kernel_rfl) (by kernel_rfl) (by kernel_rfl) (e:=Extern.SlicesOverlaps.overlaps #[22,22] #[4]) (by kernel_rfl),
   Lib.run_overlaps_apart w 22 4 33 Tryz.underlying22 1 Tryz.sizeOf33 ⟨vb,0,none⟩ ⟨g,1,none⟩ 1 1 lb cb hne TB 33 1 (zs++s0::sp').toArray.size (zBq hv) (zBq hrow) (by simp) (zmh hv) (zmh hv)]
  rfl
 have hrowd:w.drew.heap[g]? = some (.cells (zs++s0::sp').toArray 33 (0,0)):=hrow
 obtain⟨w1,hc1,hr1,hg1⟩:=zBp w.drew g 1 n (c - 1) (n+1) c ⟨g,0,none⟩ (zs++s0::sp') zs 33 hrowd (by rw[hlen];exact(Nat.min_eq_right (by omega)).symm) (fun j v hj=>by
  rw[zbF,Nat.zero_add];exact zog hrowd (by rw[List.getElem?_append_left (List.getElem?_eq_some_iff.1 hj).1,hj])) (by simp;omega) hz
 have hspl:splice (zs++s0::sp') 1 zs=((zs++s0::sp').take 1)++zs++sp':=by
  unfold splice;rw[List.append_assoc]
  congr 2
  rw[List.drop_append,List.drop_eq_nil_of_le (by omega),show 1+zs.length - zs.length=1 by omega]
  rfl
 rw[hspl] at hr1;have hv1:w1.cell? ⟨vb,0,none⟩=some u:=hg1.cell (show w.drew.cell? _=_ from hvc) (by simpa using hne)
 obtain⟨w2,hc2,hr2,hg2⟩:=zBp w1 g 0 (n+1) c 1 1 ⟨vb,0,none⟩ _ [u] 33 hr1 (by show 1=Nat.min 1 (n+1);exact(Nat.min_eq_left (by omega)).symm) (fun j v hj=>by
  obtain⟨hj1,rfl⟩:=List.getElem?_eq_some_iff.1 hj;obtain rfl:j=0:=by simpa using hj1
  rw[zbF];exact hv1) (by simp;omega) (fun x hx=>by rw[List.mem_singleton.1 hx];exact h1)
 have hspl2:splice (((zs++s0::sp').take 1)++zs++sp') 0 [u]=(u::zs)++sp':=by
  obtain⟨z0,zr,rfl⟩:∃ z0 zr,zs=z0::zr:=by
   cases zs with
   | nil=>simp at hlen;omega
   | cons a b=>exact⟨a,b,rfl⟩
  unfold splice;simp
 rw[hspl2] at hr2;have hnz:¬ (n:Int)=0:=by omega
 have hnz2:¬ n=0:=by omega
 have hi1:(n:Int)+1≤(c:Int):=by omega
 have hi2:¬ (c:Int)<(n:Int)+1:=by omega
 have hi3:¬ c=1:=by omega
 have hi4:(1:Int)≤(n:Int)+1:=by omega
 have hi5:(0:Int)≤(n:Int)+1:=by omega
 have hi6:¬ (n+1=1):=by omega
 have hi7:¬ (c=0):=by omega
 have hw2:IntKind.i64.wrap 1=1:=by decide
 have hw1:IntKind.i64.wrap ((n:Int)+1)=(n:Int)+1:=by rw[IntKind.wrap_i64];omega
 have HP:=zHd (zAI hr2 (zAI hg1 (zAI hg2 (zAI hsp (zAI hlen (zAI hc hmax))))));have HC1:=zHd hc1;have HC2:=zHd hc2;clear hspl hspl2 hr1 hr2 hg1 hg2 hrow hrowd hown hv hvc hv1 hsp hlen hmax hc1 hc2 hn0 hn hc hz;go_enter Tryz.func133,Tryz.ntmps133;have mixed:Tryz.prog.follows .mixedOrders=true:=by kernel_rfl
 go_wp2_with (simp only[hov])
 go_region_law_o (refine step_copy_runI rfl _ _ 22 22 rfl _ _ (by simp[Act.eval,Act.put]) (by simp[Act.eval,Act.put]) (HC1.out _) ?_)
 have hc2:=HC2.out 3;go_wp2;go_ret;obtain⟨hr2,hg1,hg2,hsp,hlen,hc,hmax⟩:=HP.out;exact⟨g,c,rfl,⟨by simp[hlen],hc,hmax,sp',by simp at hsp;omega,hr2⟩,.inl ⟨rfl,by omega,(zaa (zae w _) (zaa hg1 hg2))⟩⟩
theorem zBr (W:World)(g off dLen dCap sLen sCap:Nat)(ad:Addr)(cur cs:List Value)(hg:W.heap[g]? = some (.cells cur.toArray 33 (0,0)))(hn:cs.length=Nat.min sLen dLen)
  (hsrc:∀ j v,cs[j]? = some v→W.cell? (ad.add j)=some v) (hfit:off+cs.length≤cur.length) (h1:∀ v∈cs,v.oneCell'=true) :
  (∀ ty,(Builtin.copy_ #[22,22] ty #[.slice (some ⟨g,off,none⟩) dLen dCap,.slice (some ad) sLen sCap]).run Tryz.prog W = .ok (goInt cs.length) (W.setRow g (splice cur off cs).toArray)):=fun ty=>by
 have hrun:=run_copy_row (P:=Tryz.prog) W 22 22 ty 33 g off dLen dCap ad sLen sCap cur.toArray 33 cs Tryz.underlying22 (by kernel_rfl) hg hn hsrc (by simpa using hfit) h1;rw[hrun];simp[splice]
theorem zjN (W:World)(g:Nat)(row:Array Value):W.grownBy (W.setRow g row) (some g):=⟨rfl,rfl,rfl,by simp,fun k _ hk=>setRow_other W g k _ (fun e=>hk (by rw[e]))⟩
theorem ztD (n c g vb:Nat)(zs:List Value)(u:Value)(w:World)(hn0:0<n)(hn:n≤10000)(hc:c<n+1)(hown:Own7 w g n c zs)(hv:w.cell? ⟨vb,0,none⟩=some u)(hvb:vb<w.heap.size)(h1:u.oneCell'=true)(hz:∀ z∈zs,z.oneCell'=true) :
  Calls Tryz.prog 133 #[.slice (some ⟨g,0,none⟩) n c,.int .i64 0,.slice (some ⟨vb,0,none⟩) 1 1] w (zlJ n g u zs w):=by
 obtain⟨i0,hi0,hz0,hzs,hzb⟩:=zqE;obtain⟨sp,hsp,hrow⟩:=hown.row;have hlen:=hown.len;have hle:=hown.le;have hlt:=hown.lt;obtain rfl:c=n:=by omega
 have hold:(Builtin.firstCells i0.size 0 (.slice (some ⟨g,0,none⟩) 0 c)).run Tryz.prog w.drew = .ok ([]:List Value).toArray w.drew:=by
  rw[hzs];exact run_firstCells_some w.drew 1 0 ⟨g,0,none⟩ 0 c [] rfl (fun j v hj=>by simp at hj)
 obtain⟨G,hG⟩:∃ G,G=grownCap w (c+1) c 33:=⟨_,rfl⟩;have hGn:c+1≤G:=by rw[hG];exact grownCap_ge w _ _ _
 have hG63:G≤maxLen:=by
  rw[hG];exact grownCap_le_maxLen w (c+1) c 33 (by unfold maxLen;omega)
 have hrz:∀ ty,(Builtin.append_ #[22,3] ty #[.slice (some ⟨g,0,none⟩) 0 c,.int .i64 ((c:Int)+1)]).run Tryz.prog w =
   .ok (.slice (some ⟨w.heap.size,0,none⟩) (c+1) G) (w.drew.alloc (.cells (List.replicate G (.slice none 0 0)).toArray 33)):=fun ty=>by
  have h:=Lib.run_append_grow_zeros w 22 3 ty 33 i0 _ .i64 .i64 Tryz.underlying22 Tryz.underlying3 hi0 hz0 (some ⟨g,0,none⟩) 0 c [] hold (c+1) (by omega) (by omega) (by omega) (by omega) (by rw[hzb];omega) (by rw[hzb,Nat.zero_add];exact growslice_fits (by omega) (by omega));rw[Nat.zero_add,← hG] at h;rw[show(c:Int)+1=((c+1:Nat):Int) by omega,h]
  congr 3
  apply Array.toList_inj.1
  show((#[]++Builtin.zeroCells #[Value.slice none 0 0] (c+1)++Builtin.zeroCells #[Value.slice none 0 0] (G - (c+1))):Array Value).toList=_;rw[Array.toList_append,Array.toList_append,zdm,zdm];simp[hGn]
 have hrA:∀ W:World,W.heap=(w.drew.alloc (.cells (List.replicate G (.slice none 0 0)).toArray 33)).heap→W.heap[w.heap.size]? = some (.cells (List.replicate G (.slice none 0 0):List Value).toArray 33 (0,0)):=fun W hW=>by
  rw[hW];exact zau w.drew _
 have hold2:∀ W:World,W.heap=(w.drew.alloc (.cells (List.replicate G (.slice none 0 0)).toArray 33)).heap→∀ b j,b<w.heap.size→W.cell? ⟨b,j,none⟩=w.cell? ⟨b,j,none⟩:=fun W hW b j hb=>by
  refine zaq (ad:=⟨b,j,none⟩) ?_;rw[hW];exact(zGA w.drew _ none).block b hb (by simp)
 have hcA:∀ W:World,W.heap=(w.drew.alloc (.cells (List.replicate G (.slice none 0 0)).toArray 33)).heap→∀ ty,(Builtin.copy_ #[22,22] ty #[.slice (some ⟨w.heap.size,0,none⟩) (c+1) G,.slice (some ⟨vb,0,none⟩) 1 1]).run Tryz.prog W = .ok (goInt 1) (W.setRow w.heap.size (u::List.replicate (G - 1) (.slice none 0 0)).toArray):=fun W hW ty=>by
  have h:=zBr W w.heap.size 0 (c+1) G 1 1 ⟨vb,0,none⟩ (List.replicate G (.slice none 0 0)) [u] (hrA W hW) (by show 1=Nat.min 1 (c+1);exact(Nat.min_eq_left (by omega)).symm) (fun j v hj=>by
   obtain⟨hj1,rfl⟩:=List.getElem?_eq_some_iff.1 hj;obtain rfl:j=0:=by simpa using hj1
   rw[zbF,hold2 W hW vb _ hvb];exact hv) (by simp;omega) (fun x hx=>by rw[List.mem_singleton.1 hx];exact h1) ty
  rw[h]
  have e:splice (List.replicate G (.slice none 0 0)) 0 [u]=u::List.replicate (G - 1) (.slice none 0 0):=by
   unfold splice;simp
  rw[e]
  rfl
 have hcB:∀ W V:World,V.heap=(w.drew.alloc (.cells (List.replicate G (.slice none 0 0)).toArray 33)).heap→W.heap=(V.setRow w.heap.size (u::List.replicate (G - 1) (.slice none 0 0)).toArray).heap→∀ ty,(Builtin.copy_ #[22,22] ty #[.slice (some ⟨w.heap.size,1,none⟩) c (G - 1),.slice (some ⟨g,0,none⟩) c c]).run Tryz.prog W = .ok (goInt c) (W.setRow w.heap.size (u::(zs++List.replicate (G - (c+1)) (.slice none 0 0))).toArray):=fun W V hV hW ty=>by
  have hr:W.heap[w.heap.size]? = some (.cells (u::List.replicate (G - 1) (.slice none 0 0)).toArray 33 (0,0)):=by
   rw[hW,setRow_heap V w.heap.size _ _ 33 _ (hrA V hV)]
  have h:=zBr W w.heap.size 1 c (G - 1) c c ⟨g,0,none⟩ (u::List.replicate (G - 1) (.slice none 0 0)) zs hr (by rw[hlen];exact(Nat.min_self c).symm) (fun j v hj=>by
   rw[zbF,Nat.zero_add];have e1:W.cell? ⟨g,j,none⟩=V.cell? ⟨g,j,none⟩:=zaq (ad:=⟨g,j,none⟩) (by rw[hW];exact setRow_other V w.heap.size g _ (by show g≠w.heap.size;omega));rw[e1,hold2 V hV g j hlt];exact zog hrow (by rw[List.getElem?_append_left (List.getElem?_eq_some_iff.1 hj).1,hj])) (by simp;omega) hz ty
  rw[h,hlen]
  have e:splice (u::List.replicate (G - 1) (.slice none 0 0)) 1 zs=u::(zs++List.replicate (G - (c+1)) (.slice none 0 0)):=by
   unfold splice;simp[hlen];rw[show 1+c=c+1 by omega,List.drop_succ_cons,List.drop_replicate,show G - 1 - c=G - (c+1) by omega]
  rw[e]
 obtain⟨ROW,hROW⟩:∃ ROW:Array Value,ROW=(List.replicate G (.slice none 0 0):List Value).toArray:=⟨_,rfl⟩;rw[← hROW] at hrz;have hnz:¬ (c:Int)=0:=by omega
 have hnz2:¬ c=0:=by omega
 have hi1:(c:Int)<(c:Int)+1:=by omega
 have hi2:(0:Int)≤(c:Int)+1:=by omega
 have hi4:(1:Int)≤(c:Int)+1:=by omega
 have hi5:¬ G=0:=by omega
 have hi6:¬ G=1:=by omega
 have hw2:IntKind.i64.wrap 1=1:=by decide
 have hi7:(1:Int)≤((c+1:Nat):Int):=by omega
 have mixed:Tryz.prog.follows .mixedOrders=true:=by kernel_rfl
 have hw1:IntKind.i64.wrap ((c:Int)+1)=(c:Int)+1:=by rw[IntKind.wrap_i64];omega
 have HP:=zHd (zAI hGn (zAI hG63 (zAI hlen hlt)));have HA:=zHd hcA;have HB:=zHd hcB;have HR:=zHd hrA;have HRW:=zHd hROW;clear hold hG hrA hold2 hcA hcB hROW hown hrow hle hlt hsp hz hv;go_enter Tryz.func133,Tryz.ntmps133;have hca1:=HA.out (w.drew.alloc (.cells ROW 33)) (by rw[HRW.out]) 3;have hca2:=HA.out ((w.alloc (.cells ROW 33)).drew) (by rw[HRW.out];rfl) 3
 go_wp2_with (first
  | (at_builtin;refine Lib.wpList_append_run _ rfl _ _ _ _ rfl _ _ rfl rfl _ _ (hrz _) ?_))
 have hcb1:=HB.out (((w.alloc (.cells ROW 33)).drew.setRow w.heap.size (u::List.replicate (G - 1) (.slice none 0 0)).toArray).drew) (w.drew.alloc (.cells ROW 33)) (by rw[HRW.out]) rfl 3
 go_region_law_o (refine step_copy_runI rfl _ _ 22 22 rfl (.slice (some ⟨w.heap.size,1,none⟩) c (G - 1)) (.slice (some ⟨g,0,none⟩) c c) (by simp[Act.eval,Act.put]) (by simp[Act.eval,Act.put]) hcb1 ?_)
 go_wp2;go_ret;obtain⟨hGn,hG63,hlen,hlt⟩:=HP.out;have hr:=HR.out (w.drew.alloc (.cells ROW 33)) (by rw[HRW.out]);refine⟨_,G,rfl,⟨by simp[hlen],hGn,hG63,List.replicate (G - (c+1)) (.slice none 0 0),by simp;omega,?_⟩,.inr ⟨Nat.le_refl _,?_⟩⟩
 ·have hr2:((w.alloc (.cells ROW 33)).drew).heap[w.heap.size]? = some (.cells (List.replicate G (.slice none 0 0)).toArray 33 (0,0)):=hr
  have hr3:=setRow_heap ((w.alloc (.cells ROW 33)).drew) w.heap.size _ (u::List.replicate (G - 1) (.slice none 0 0)).toArray 33 _ hr2;exact setRow_heap (((w.alloc (.cells ROW 33)).drew.setRow w.heap.size (u::List.replicate (G - 1) (.slice none 0 0)).toArray).drew) w.heap.size _ _ 33 _ hr3
 ·refine zai (zaa (zai (zaa (zGA w _ none) (zae _ none)) (zjN _ _ _) (Nat.le_refl _)) (zae _ none)) (zjN _ _ _) (Nat.le_refl _)
open Go.RowKit
open Go.Lib (decDigits nDigits)
theorem zqF:∀ (xs ys:List (List UInt8)),xs.length=ys.length→(∀ x∈xs,(32:UInt8) ∉ x)→(∀ y∈ys,(32:UInt8) ∉ y)→Lib.join xs [32]=Lib.join ys [32]→xs=ys
 | [],[],_,_,_,_=>rfl
 | [],_::_,h,_,_,_=>by simp at h
 | _::_,[],h,_,_,_=>by simp at h
 | [x],[y],_,_,_,h=>by rw[Lib.join_one,Lib.join_one] at h;rw[h]
 | [x],_::_::_,h,_,_,_=>by simp at h
 | _::_::_,[y],h,_,_,_=>by simp at h
 | x::x2::xr,y::y2::yr,h,hx,hy,e=>by
  have e1:∀ (a b:List UInt8) (r:List (List UInt8)),Lib.join (a::b::r) [32]=a++32::Lib.join (b::r) [32]:=fun a b r=>by
   rw[Lib.join_cons,Lib.join_cons];unfold Lib.joinTail;simp
  rw[e1,e1] at e;have hxn:(32:UInt8) ∉ x:=hx x (by simp);have hyn:(32:UInt8) ∉ y:=hy y (by simp)
  have hsplit:∀ (a b p q:List UInt8),(32:UInt8) ∉ a→(32:UInt8) ∉ b→a++32::p=b++32::q→a=b∧p=q:=by
   intro a
   induction a with
   | nil =>
    intro b p q ha hb h;cases b with
    | nil=>simp at h;exact⟨rfl,h⟩
    | cons c r=>simp at h;exact absurd (by rw[← h.1];simp) hb
   | cons c r ih =>
    intro b p q ha hb h;cases b with
    | nil=>simp at h;exact absurd (by rw[h.1];simp) ha
    | cons d s =>
     simp at h;obtain⟨h1,h2⟩:=ih s p q (fun hm=>ha (List.mem_cons_of_mem _ hm)) (fun hm=>hb (List.mem_cons_of_mem _ hm)) h.2;exact⟨by rw[h.1,h1],h2⟩
  obtain⟨h1,h2⟩:=hsplit x y _ _ hxn hyn e;rw[h1,zqF (x2::xr) (y2::yr) (by simpa using h) (fun a ha=>hx a (List.mem_cons_of_mem _ ha)) (fun a ha=>hy a (List.mem_cons_of_mem _ ha)) h2]
theorem zkI (n:Nat):(32:UInt8) ∉ decDigits n:=fun h=>by
 have:=List.all_eq_true.1 (zgM n) 32 h
 revert this
 decide
theorem zkJ (v:Ext):(32:UInt8) ∉ (extT v).data.toList:=by
 rcases v with(_|_)|x
 ·decide
 ·decide
 ·show(32:UInt8) ∉ ratL x
  unfold ratL;intro h;rcases List.mem_append.1 h with h|h
  ·split at h
   ·revert h;decide
   ·cases h
  ·rcases List.mem_append.1 h with h|h
   ·exact zkI _ h
   ·split at h
    ·cases h
    ·rcases List.mem_cons.1 h with h|h
     ·revert h;decide
     ·exact zkI _ h
theorem zBs {v:Ext}(h:Fits v):(extT v).data.toList.length≤810:=by
 rcases v with(_|_)|x
 ·decide
 ·decide
 ·show(ratL x).length≤810
  obtain⟨h1,h2⟩:=h;unfold ratL;rw[List.length_append,List.length_append];have e1:(if x.num<0 then [45] else ([]:List UInt8)).length≤1:=by split <;> simp
  have e2:(if x.den=1 then ([]:List UInt8) else 47::decDigits x.den).length≤401:=by
   split
   ·simp
   ·rw[List.length_cons,Lib.decDigits_length];omega
  rw[Lib.decDigits_length]
  omega
theorem zBt:∀ (xs:List (List UInt8)),(∀ x∈xs,x.length≤810)→(Lib.join xs [32]).length≤811 * xs.length
 | [],_=>by simp[Lib.join_nil]
 | x::r,h=>by
  rw[Lib.join_cons,List.length_append];have h1:=h x (by simp)
  have h2:(Lib.joinTail [32] r).length≤811 * r.length:=by
   have hr:∀ y∈r,y.length≤810:=fun y hy=>h y (List.mem_cons_of_mem _ hy);clear h h1;unfold Lib.joinTail
   induction r with
   | nil=>simp
   | cons y s ih =>
    have:=ih (fun z hz=>hr z (List.mem_cons_of_mem _ hz));have:=hr y (by simp);simp at *
    omega
  rw[List.length_cons]
  omega
section
variable {k:Int}
def rowT (m:Nat)(f:Nat→El k):ByteArray:=⟨(Lib.join (((List.range m).map (fun j=>tx (f j))).map (·.data.toList)) [32]).toArray⟩
theorem zEj {m:Nat}{f g:Nat→El k}(hf:∀ j,j<m→FitE (f j))(hg:∀ j,j<m→FitE (g j))(h:rowT m f=rowT m g):∀ j,j<m→f j=g j:=by
 unfold rowT at h;have h1:=congrArg (fun b:ByteArray=>b.data.toList) h
 have h2:=zqF _ _ (by simp) (fun x hx=>by
  obtain⟨b,hb,rfl⟩:=List.mem_map.1 hx;obtain⟨j,_,rfl⟩:=List.mem_map.1 hb;exact zkJ _) (fun x hx=>by
  obtain⟨b,hb,rfl⟩:=List.mem_map.1 hx;obtain⟨j,_,rfl⟩:=List.mem_map.1 hb;exact zkJ _) h1
 intro j hj;have h3:=congrArg (fun l:List (List UInt8)=>l[j]?) h2;simp[hj] at h3;exact zdl (hf j hj) (hg j hj) (ByteArray.ext h3)
theorem zqG {m:Nat}{f:Nat→El k}(hf:∀ j,j<m→FitE (f j)):(Lib.join (((List.range m).map (fun j=>tx (f j))).map (·.data.toList)) [32]).length≤811 * m:=by
 have:=zBt (((List.range m).map (fun j=>tx (f j))).map (·.data.toList)) (fun x hx=>by
  obtain⟨b,hb,rfl⟩:=List.mem_map.1 hx;obtain⟨j,hj,rfl⟩:=List.mem_map.1 hb;exact zBs (hf j (List.mem_range.1 hj)))
 simpa using this
theorem ztE {m:Nat}{A:Nat→Nat→El k}{i:Nat}{n:Nat}(hA:∀ i,i<n→∀ j,j<m→FitE (A i j))(hi:i<n):∀ {R:List Nat},(∀ x∈R,x<n)→(R.map (fun x=>rowT m (A x))).findIdx? (fun t=>decide (t=rowT m (A i)))=R.findIdx? (fun x=>eqR m A x i):=by
 intro R hR;rw[List.findIdx?_map]
 induction R with
 | nil=>rfl
 | cons x r ih =>
  have hx:(fun t=>decide (t=rowT m (A i))) (rowT m (A x))=eqR m A x i:=by
   rw[Bool.eq_iff_iff]
   constructor
   ·intro h
    exact zfA.2 (zEj (hA x (hR x (by simp))) (hA i hi) (of_decide_eq_true h))
   ·intro h
    have:=zfA.1 h;refine decide_eq_true ?_;unfold rowT;rw[show(List.range m).map (fun j=>tx (A x j))=(List.range m).map (fun j=>tx (A i j)) from List.map_congr_left (fun j hj=>by rw[this j (List.mem_range.1 hj)])]
  rw[List.findIdx?_cons,List.findIdx?_cons,ih (fun y hy=>hR y (List.mem_cons_of_mem _ hy))];show(if (fun t=>decide (t=rowT m (A i))) (rowT m (A x))=true then _ else _)=_;rw[hx]
theorem zoh (eq:Nat→Nat→Bool)(i:Nat):scan eq (i+1)=match (scan eq i).1.findIdx? (fun j=>eq j i) with
  | some k=>((scan eq i).1,(scan eq i).2++[k])
  | none=>((scan eq i).1++[i],(scan eq i).2++[(scan eq i).1.length]):=rfl
theorem zyi {m:Nat}{A:Nat→Nat→El k}{i n:Nat}(hA:∀ i,i<n→∀ j,j<m→FitE (A i j))(hi:i<n)(h:rowT m (A i)∈(scan (eqR m A) i).1.map (fun x=>rowT m (A x))) :
  (scan (eqR m A) (i+1)).1=(scan (eqR m A) i).1∧(scan (eqR m A) (i+1)).2=(scan (eqR m A) i).2++[num7 ((scan (eqR m A) i).1.map (fun x=>rowT m (A x))) (rowT m (A i))]:=by
 have hs:=ziw (eq:=eqR m A) (fun i=>zfA.2 (fun _ _=>rfl)) i
 have hR:∀ x∈(scan (eqR m A) i).1,x<n:=fun x hx=>by
  obtain⟨j,hj,rfl⟩:=List.getElem_of_mem hx;have:=hs.rl j hj;rw[List.getD_eq_getElem?_getD,List.getElem?_eq_getElem hj] at this;simp at this;omega
 have hf:=ztE hA hi hR;unfold num7;rw[hf]
 have hne:(scan (eqR m A) i).1.findIdx? (fun x=>eqR m A x i)≠none:=by
  rw[← hf];intro hn;have:=List.findIdx?_eq_none_iff.1 hn _ h;simp at this
 obtain⟨q,hq⟩:=Option.ne_none_iff_exists'.1 hne;rw[zoh,hq];exact⟨rfl,rfl⟩
theorem zEk {m:Nat}{A:Nat→Nat→El k}{i n:Nat}(hA:∀ i,i<n→∀ j,j<m→FitE (A i j))(hi:i<n)(h:rowT m (A i) ∉ (scan (eqR m A) i).1.map (fun x=>rowT m (A x))) :
  (scan (eqR m A) (i+1)).1=(scan (eqR m A) i).1++[i]∧(scan (eqR m A) (i+1)).2=(scan (eqR m A) i).2++[(scan (eqR m A) i).1.length]:=by
 have hs:=ziw (eq:=eqR m A) (fun i=>zfA.2 (fun _ _=>rfl)) i
 have hR:∀ x∈(scan (eqR m A) i).1,x<n:=fun x hx=>by
  obtain⟨j,hj,rfl⟩:=List.getElem_of_mem hx;have:=hs.rl j hj;rw[List.getD_eq_getElem?_getD,List.getElem?_eq_getElem hj] at this;simp at this;omega
 have hf:=ztE hA hi hR
 have hne:(scan (eqR m A) i).1.findIdx? (fun x=>eqR m A x i)=none:=by
  rw[← hf];exact List.findIdx?_eq_none_iff.2 (fun x hx=>by simp;rintro rfl;exact h hx)
 rw[zoh,hne];exact⟨rfl,rfl⟩
def RowG (w:World)(v:Value)(m:Nat)(f:Nat→El k):Prop:=∃ g o c,v = .slice (some ⟨g,o,none⟩) m c∧m≤c∧c≤maxLen∧zam w g o m (txs f)
theorem RowG.grown {w w':World}{v:Value}{m:Nat}{f:Nat→El k}(h:RowG w v m f)(hg:w.grownBy w' none):RowG w' v m f:=by
 obtain⟨g,o,c,h1,h2,h3,h4⟩:=h;exact⟨g,o,c,h1,h2,h3,h4.grown hg⟩
theorem RowG.row {w:World}{v:Value}{m:Nat}{f:Nat→El k}(h:RowG w v m f):RowR w v m (txs f):=by
 obtain⟨g,o,c,rfl,h2,h3,h4⟩:=h;exact h4.row h2 h3
structure zdK (m n:Nat)(A:Nat→Nat→El k)(rs:Nat→Value)(w:World)(i:Nat)(rv cv:Value)(wr:World):Prop where
 le:i≤n
 gr:w.grownBy wr none
 nums:Nums wr w.heap.size ((scan (eqR m A) i).1.map (fun x=>rowT m (A x)))
 own1:wr.ownsRow (w.heap.size+1) 33 1 rv (scan (eqR m A) i).1.length ((scan (eqR m A) i).1.map rs)
 own2:wr.ownsRow (w.heap.size+1) 3 1 cv (scan (eqR m A) i).2.length ((scan (eqR m A) i).2.map (fun x => .int .i64 ((x:Nat):Int)))
 dis:rv.ownBlock=none∨cv.ownBlock=none∨rv.ownBlock≠cv.ownBlock
theorem zBu:∃ i0:TypeInfo,Tryz.prog.info? 33=some i0∧i0.zero=some (.slice none 0 0)∧i0.size=1∧i0.bytes=24:=info_parts zdx
theorem zBv:(Tryz.prog.info? 3).map (fun i=>(i.zero,i.size,i.bytes))=some (some (.int .i64 0),1,8):=by kernel_rfl
theorem zqH {w:World}{B n:Nat}{T:TypeId}{v:Value}{xs:List Value}(h:w.ownsRow B T 1 v n xs)(z:Value):RowR w v n (fun j=>xs.getD j z):=by
 obtain⟨hl,⟨rfl,rfl⟩|⟨g,c,cur,rfl,hb,hg,h1,h2,hs,ht⟩⟩:=h
 ·exact⟨none,0,rfl,Nat.le_refl _,by unfold maxLen;omega,fun j hj=>absurd hj (by omega)⟩
 ·refine⟨_,c,rfl,h1,h2,fun j hj=>⟨_,rfl,(Array.getElem?_eq_some_iff.1 hg).1,?_⟩⟩
  rw[zbF,Nat.zero_add,cell_of_row w g j _ _ (0,0) hg,← Array.getElem?_toList]
  dsimp only
  rw[← ht,List.getD_eq_getElem?_getD,List.getElem?_take_of_lt (by omega),List.getElem?_eq_getElem (by simp;omega)]
  rfl
theorem ztF {w w':World}(h:Below w.heap.size w w'):w.grownBy w' none:=⟨h.os,h.tape,h.output,h.size,fun i hi _=>h.block i hi⟩
theorem zdK.start (m n:Nat)(A:Nat→Nat→El k)(rs:Nat→Value)(w:World):zdK m n A rs w 0 (.slice none 0 0) (.slice none 0 0) (w.alloc (.map #[] 0)) :=
 ⟨Nat.zero_le _,zGA _ _ none,Nums.made w,⟨rfl,.inl ⟨rfl,rfl⟩⟩,⟨rfl,.inl ⟨rfl,rfl⟩⟩,.inl rfl⟩
theorem zdK.near {m n:Nat}{A:Nat→Nat→El k}{rs:Nat→Value}{w:World}{i:Nat}{rv cv:Value}{wr w':World}(h:zdK m n A rs w i rv cv wr)(hg:wr.grownBy w' none):zdK m n A rs w i rv cv w' :=
 ⟨h.le,zaa h.gr hg,h.nums.kept hg (by simp),h.own1.kept hg (by cases rv.ownBlock <;> simp),h.own2.kept hg (by cases cv.ownBlock <;> simp),h.dis⟩
theorem zjv {w w1 w2:World}{B n:Nat}{T:TypeId}{v:Value}{xs:List Value}(h:w1.ownsRow B T 1 v n xs)(hB:w.heap.size≤B)(h1:w.grownBy w1 none)(h2:w1.grownBy w2 v.ownBlock):w.grownBy w2 none:=by
 rcases h.2 with⟨rfl,_⟩|⟨g,c,cur,rfl,hb,_⟩
 ·exact zaa h1 h2
 ·exact zai h1 h2 (by show w.heap.size≤g;omega)
theorem zBw {a b:Option Nat}(h:a=none∨b=none∨a≠b):b=none∨b≠a:=by
 rcases h with h|h|h
 ·subst h
  cases b <;> simp
 ·exact .inl h
 ·exact .inr (Ne.symm h)
theorem zmM {W:World}{B:Nat}{T:TypeId}{n:Nat}{xs:List Value}{v x v':Value}{H:Nat}(h:v.ownBlock=none∨x.ownBlock=none∨v.ownBlock≠x.ownBlock)(hx:W.ownsRow B T 1 x n xs)(hH:W.heap.size≤H)
  (hat:v'.ownBlock=v.ownBlock∨v'.ownBlock=some H):v'.ownBlock=none∨x.ownBlock=none∨v'.ownBlock≠x.ownBlock:=by
 rcases hat with e1|e1
 ·rw[e1];exact h
 ·rw[e1]
  refine .inr ?_;cases hb:x.ownBlock with
  | none=>exact .inl rfl
  | some g =>
   refine .inr ?_;have:=(hx.lt g hb).2;simp
   omega
theorem zdK.row {m n:Nat}{A:Nat→Nat→El k}{rs:Nat→Value}{w:World}{i:Nat}{rv cv:Value}{wr:World}(h:zdK m n A rs w i rv cv wr){w5 w6:World}{o:Obj}{rv':Value}
  (hst:Nums w5 w.heap.size ((scan (eqR m A) i).1.map (fun x=>rowT m (A x))++[rowT m (A i)])) (hg5:wr.grownBy w5 (some w.heap.size))
  (hown:w6.ownsRow (w.heap.size+1) 33 1 rv' ((scan (eqR m A) i).1.length+1) ((scan (eqR m A) i).1.map rs++[rs i])) (hg6:(w5.alloc o).grownBy w6 rv.ownBlock) (hat:rv'.ownBlock=rv.ownBlock∨rv'.ownBlock=some (w5.alloc o).heap.size) :
  w.grownBy w6 none∧Nums w6 w.heap.size ((scan (eqR m A) i).1.map (fun x=>rowT m (A x))++[rowT m (A i)]) ∧
   w6.ownsRow (w.heap.size+1) 3 1 cv (scan (eqR m A) i).2.length ((scan (eqR m A) i).2.map (fun x => .int .i64 ((x:Nat):Int)))∧(rv'.ownBlock=none∨cv.ownBlock=none∨rv'.ownBlock≠cv.ownBlock):=by
 have hne:∀ {T:TypeId} {v:Value} {n:Nat} {xs:List Value},wr.ownsRow (w.heap.size+1) T 1 v n xs→v.ownBlock=none∨v.ownBlock≠some w.heap.size:=fun {T v n xs} hv=>by
  cases hb:v.ownBlock with
  | none=>exact .inl rfl
  | some g=>have:=(hv.lt g hb).1;right;simp;omega
 have o1:=(h.own1.kept hg5 (hne h.own1)).alloc o;have o2:=(h.own2.kept hg5 (hne h.own2)).alloc o;have hgw:w.grownBy (w5.alloc o) none:=zaa (zai h.gr hg5 (Nat.le_refl _)) (zGA _ _ none);refine⟨zjv o1 (by omega) hgw hg6,(hst.kept (zGA _ o none) (by simp)).kept hg6 ?_,o2.kept hg6 (zBw h.dis),zmM h.dis o2 (Nat.le_refl _) hat⟩;cases hb:rv.ownBlock with
 | none=>simp
 | some g=>have:=(h.own1.lt g hb).1;simp;omega
theorem ztG (n m:Nat)(A:Nat→Nat→El k)(rs:Nat→Value)(av:Value)(w:World)(hn:n≤10000)(hm:m≤10000)(ha:RowR w av n rs)(hr:∀ i,i<n→RowG w (rs i) m (A i))(hA:∀ i,i<n→∀ j,j<m→FitE (A i j)) :
  Calls Tryz.prog 74 #[av] w fun e w'=>∃ rv cv,e = .returned (.tuple #[rv,cv])∧zdK m n A rs w n rv cv w':=by
 obtain⟨Ad,c,rfl,ha1,ha2,ha3⟩:=ha;obtain⟨i0,hi,hz0,hz1,hz2⟩:=zBu;obtain⟨i1,hj,hy0,hy1,hy2⟩:=info_parts zBv
 have hjoin:∀ i,i<n→∀ w',w.grownBy w' none→Calls Tryz.prog 130 #[rs i,.string ⟨#[32]⟩] w' fun e w2=>e = .returned (.string (rowT m (A i)))∧w'.grownBy w2 none:=fun i hi w' hg=>by
  obtain⟨g,o,c,e,h1,h2,h3⟩:=(hr i hi).grown hg;rw[e]
  have h:=Tryz.sh_Join g o c ((List.range m).map (fun j=>tx (A i j))) ⟨#[32]⟩ w' (fun j x hx=>by
   obtain⟨hj1,rfl⟩:=List.getElem?_eq_some_iff.1 hx;simp at hj1;rw[h3.2 j hj1];simp[txs]) h3.1 (by simp;omega) (by simpa using h1) (by
   have:=zqG (m:=m) (hA i hi);show(Lib.join _ [32]).length≤_
   omega)
  rw[show((List.range m).map (fun j=>tx (A i j))).length=m by simp] at h;exact h.mono (fun e w2 ⟨h1,h2⟩=>⟨h1,ztF h2⟩)
 have hmm:∀ w:World,(Instr.makeMap 120 none).run Tryz.prog w = .ok (.map (some w.heap.size)) (w.alloc (.map #[] 0)):=fun w=>run_makeMap _ w;have HA:=zHd ha3;have HJ:=zHd hjoin;have HN:=zHd (zAI hn hm);have HF:=zHd hA
 have hre:∀ i,i<n→∃ g o c,rs i = .slice (some ⟨g,o,none⟩) m c:=fun i hi=>by
  obtain⟨g,o,c,e,_⟩:=hr i hi;exact⟨g,o,c,e⟩
 have HRE:=zHd hre;clear ha1 ha2 ha3 hr hA hn hm hjoin hre;go_enter Tryz.func74,Tryz.ntmps74;go_wp2
 go_loopw [2,3,13] (fun rv cv iv wr=>∃ i:Nat,iv = .int .i64 (i:Int)∧zdK m n A rs w i rv cv wr) (fun _ _ iv _=>n - (intOf iv).toNat)
 case atStart=>exact⟨0,rfl,zdK.start m n A rs w⟩
 case round =>
  obtain⟨i,rfl,hinv⟩:=hrel
  by_cases hin:i<n
  ·obtain⟨ad,rfl,hb,hc⟩:=HA.out i hin
   have hc2:wr.cell? (ad.add i)=some (rs i):=(zaq (ad:=ad.add i) (by rw[zaj];exact hinv.gr.block ad.block hb (by simp))).trans hc;have t1:decide (i<n)=true:=by simpa using hin
   have t1':decide ((i:Int)<(n:Int))=true:=by simpa using hin
   have hit:(i:Int)<(n:Int):=by omega
   have n1:IntKind.i64.wrap ((i:Int)+1)=(i:Int)+1:=by have:=HN.out;rw[IntKind.wrap_i64];omega
   obtain⟨g3,o3,c3,hrs3⟩:=HRE.out i hin;have hcall:=HJ.out i hin wr hinv.gr;rw[hrs3] at hc2 hcall;have HI:=zHd (zAI hin hinv);have HCALL:=zHd hcall;have HRS:=zHd hrs3;clear hin hinv hb hc hcall hrs3;go_wp2_with fail;refine HCALL.out.mono ?_;rintro e w1 ⟨rfl,hg1⟩;have hinv1:=HI.out.2.near hg1
   have hsz:(rowT m (A i)).size≤maxLen:=by
    have h1:=zqG (m:=m) (HF.out i HI.out.1);have h2:=HN.out;show(rowT m (A i)).data.size≤maxLen;unfold rowT maxLen;simp only[List.size_toArray]
    omega
   have hlook:=hinv1.nums.look_ok hsz;have hs:=ziw (eq:=eqR m A) (fun i=>zfA.2 (fun _ _=>rfl)) i
   by_cases hmem:rowT m (A i)∈(scan (eqR m A) i).1.map (fun x=>rowT m (A x))
   ·obtain⟨q1,q2⟩:=zyi HF.out HI.out.1 hmem
    rw[decide_eq_true hmem] at hlook;obtain⟨z,hzz⟩:∃ z,z=num7 ((scan (eqR m A) i).1.map (fun x=>rowT m (A x))) (rowT m (A i)):=⟨_,rfl⟩;rw[← hzz] at hlook q2;have hown2:=hinv1.own2;have H1:=zHd (zAI hinv1 (zAI q1 q2));have HS:=zHd hs;clear hinv1 q1 q2 hg1 hmem hzz hs hsz;go_wp2_with (at_builtin;refine wpList_append_own_at _ rfl _ _ 51 rfl (w.heap.size+1) 3 i1 (.int .i64 0) 1 8 Tryz.underlying51 hj hy0 hy1 hy2 rfl (by decide) _ _ _ rfl (hown2.alloc _) ⟨w1.heap.size,0,none⟩ 1 1 [.int .i64 ((z:Nat):Int)] rfl rfl ?c1 ?c2 ?c3 ?c4 ?c5 ?_)
    case c1 =>
     intro j u hu;obtain⟨hj1,rfl⟩:=List.getElem?_eq_some_iff.1 hu;obtain rfl:j=0:=by simpa using hj1
     exact zak _ _ _ rfl
    case c2=>intro u hu;rw[List.mem_singleton.1 hu];rfl
    case c3=>have:=HS.out.len;have:=HN.out;have:=HI.out.1;unfold maxLen;omega
    case c4=>have:=HS.out.len;have:=HN.out;have:=HI.out.1;omega
    case c5=>have:=H1.out.1.gr.size;have:=H1.out.1.nums.lt;simp;omega
    intro v' w5 hown' hgrow _ hat;have H5:=zHd (zAI hown' (zAI hgrow (zAI hown2 hat)));clear hown' hgrow hown2 hat;go_wp2;obtain⟨hinv1,q1,q2⟩:=H1.out;obtain⟨hown',hgrow,hown2,hat⟩:=H5.out;have hgw:w.grownBy w5 none:=zjv (hown2.alloc _) (by omega) (zaa hinv1.gr (zGA _ _ none)) hgrow;refine⟨⟨i+1,by simp,HI.out.1,hgw,?_,?_,?_,?_⟩,by have:=HI.out.1;simp[intOf];omega⟩
    ·rw[q1]
     refine(hinv1.nums.kept (zGA _ _ none) (by simp)).kept hgrow ?_;cases hb:u3.ownBlock with
     | none=>simp
     | some g=>have:=(hown2.lt g hb).1;simp;omega
    ·rw[q1]
     refine(hinv1.own1.alloc _).kept hgrow ?_;rcases hinv1.dis with h|h|h
     ·exact .inl h
     ·rw[h];cases u2.ownBlock <;> simp
     ·exact .inr h
    ·rw[q2,List.length_append,List.map_append];exact hown'
    ·rcases zmM (v:=u3) (x:=u2) (v':=v') (by rcases hinv1.dis with h|h|h;exact .inr (.inl h);exact .inl h;exact .inr (.inr (Ne.symm h))) (hinv1.own1.alloc (.cells #[.int .i64 ((z:Nat):Int)] 3)) (by simp) hat with h|h|h
     ·exact .inr (.inl h)
     ·exact .inl h
     ·exact .inr (.inr (Ne.symm h))
   ·obtain⟨q1,q2⟩:=zEk HF.out HI.out.1 hmem
    rw[decide_eq_false hmem] at hlook;obtain⟨w2,hst,hm2,hg2⟩:=hinv1.nums.store hsz hmem (by rw[List.length_map];have:=hs.le;have:=HI.out.1;have:=HN.out;unfold maxLen;omega);rw[List.length_map] at hst;have hown1:=hinv1.own1
    have hne1:u2.ownBlock=none∨u2.ownBlock≠some w.heap.size:=by
     cases hb:u2.ownBlock with
     | none=>exact .inl rfl
     | some g=>have:=(hown1.lt g hb).1;right;simp;omega
    have hown1':=hown1.kept hg2 hne1
    obtain⟨A0,c0,hrl⟩:∃ A0 c0,u2 = .slice A0 (scan (eqR m A) i).1.length c0:=by
     rcases hown1.2 with⟨e,e2⟩|⟨g,c,cur,e,_⟩
     ·exact⟨_,_,by rw[e,e2]⟩
     ·exact⟨_,_,e⟩
    have hKn:(scan (eqR m A) i).1.length≤10000:=by have:=hs.le;have:=HI.out.1;have:=HN.out.1;omega
    have hCn:(scan (eqR m A) i).2.length≤10000:=by have:=hs.len;have:=HI.out.1;have:=HN.out.1;omega
    have hbase1:w.heap.size+1≤w2.heap.size:=by have:=hm2.lt;omega
    have hrowF:=fun(w6:World) (rv':Value) h1 h2 h3=>hinv1.row (w5:=w2) (w6:=w6) (o := .cells #[.slice (some ⟨g3,o3,none⟩) m c3] 33) (rv':=rv') hm2 hg2 h1 h2 h3;rw[HRS.out] at hrowF;have H1:=zHd (zAI q1 q2);have HS:=zHd hs;have HRF:=zHd hrowF;have HK:=zHd (zAI hKn (zAI hCn hbase1));have HG12:=zHd hg2;obtain⟨K,hKe⟩:∃ K,K=(scan (eqR m A) i).1.length:=⟨_,rfl⟩;have HKE:=zHd hKe;rw[← hKe] at hst hrl hown1';subst hrl;clear hinv1 q1 q2 hg1 hmem hs hsz hm2 hg2 hown1 hne1 hrowF hKn hCn hbase1 hKe;go_wp2_with (at_builtin;refine wpList_append_own_at _ rfl _ _ 22 rfl (w.heap.size+1) 33 i0 (.slice none 0 0) 1 24 Tryz.underlying22 hi hz0 hz1 hz2 rfl (by decide) _ _ _ rfl (hown1'.alloc _) ⟨w2.heap.size,0,none⟩ 1 1 [.slice (some ⟨g3,o3,none⟩) m c3] rfl rfl ?c1 ?c2 ?c3 ?c4 ?c5 ?_)
    case c1 =>
     intro j u hu;obtain⟨hj1,rfl⟩:=List.getElem?_eq_some_iff.1 hu;obtain rfl:j=0:=by simpa using hj1
     exact zak _ _ _ rfl
    case c2=>intro u hu;rw[List.mem_singleton.1 hu];rfl
    case c3=>have:=HK.out.1;have:=HKE.out;unfold maxLen;omega
    case c4=>have:=HK.out.1;have:=HKE.out;omega
    case c5=>have:=HK.out.2.2;simp;omega
    intro v' w5 hown' hgrow _ hat;rw[HKE.out] at hown';obtain⟨hgw,hnum,hown2,hdis⟩:=HRF.out w5 v' hown' hgrow (by simpa using hat);have hsz5:w.heap.size+1≤w5.heap.size:=by have:=hnum.lt;omega
    have H5:=zHd (zAI hown' (zAI hgw (zAI hnum hdis)));have H52:=zHd hown2;have HSZ:=zHd hsz5;clear hown' hgrow hown2 hat hgw hnum hdis hsz5 hown1';go_wp2_with (at_builtin;refine wpList_append_own_at _ rfl _ _ 51 rfl (w.heap.size+1) 3 i1 (.int .i64 0) 1 8 Tryz.underlying51 hj hy0 hy1 hy2 rfl (by decide) _ _ _ rfl (H52.out.alloc _) ⟨w5.heap.size,0,none⟩ 1 1 [.int .i64 ((K:Nat):Int)] rfl rfl ?d1 ?d2 ?d3 ?d4 ?d5 ?_)
    case d1 =>
     intro j u hu;obtain⟨hj1,rfl⟩:=List.getElem?_eq_some_iff.1 hu;obtain rfl:j=0:=by simpa using hj1
     exact zak _ _ _ rfl
    case d2=>intro u hu;rw[List.mem_singleton.1 hu];rfl
    case d3=>have:=HK.out.2.1;unfold maxLen;omega
    case d4=>have:=HK.out.2.1;omega
    case d5=>have:=HSZ.out;simp;omega
    intro v2 w6 hown6 hgrow6 _ hat6;have H6:=zHd (zAI hown6 (zAI hgrow6 hat6));clear hown6 hgrow6 hat6;go_wp2;obtain⟨q1,q2⟩:=H1.out;obtain⟨hown1,hgw,hnum,hdis⟩:=H5.out;obtain⟨hown6,hgrow6,hat6⟩:=H6.out;have hgw6:w.grownBy w6 none:=zjv (H52.out.alloc _) (by omega) (zaa hgw (zGA _ _ none)) hgrow6;refine⟨⟨i+1,by simp,HI.out.1,hgw6,?_,?_,?_,?_⟩,by have:=HI.out.1;simp[intOf];omega⟩
    ·rw[q1,List.map_append]
     refine(hnum.kept (zGA _ _ none) (by simp)).kept hgrow6 ?_;cases hb:u3.ownBlock with
     | none=>simp
     | some g=>have:=(H52.out.lt g hb).1;simp;omega
    ·rw[q1,List.length_append,List.map_append]
     show w6.ownsRow _ _ 1 v' _ (_++[rs i]);rw[HRS.out];refine(hown1.alloc _).kept hgrow6 ?_;rcases hdis with h|h|h
     ·exact .inl h
     ·rw[h];cases v'.ownBlock <;> simp
     ·exact .inr h
    ·rw[q2,List.length_append,List.map_append,← HKE.out];exact hown6
    ·rcases zmM (v:=u3) (x:=v') (v':=v2) (by rcases hdis with h|h|h;exact .inr (.inl h);exact .inl h;exact .inr (.inr (Ne.symm h))) (hown1.alloc (.cells #[.int .i64 ((K:Nat):Int)] 3)) (by simp) hat6 with h|h|h
     ·exact .inr (.inl h)
     ·exact .inl h
     ·exact .inr (.inr (Ne.symm h))
  ·have hle:=hinv.le
   obtain rfl:i=n:=by omega
   have t1:decide (i<i)=false:=by simp
   have t1':decide ((i:Int)<(i:Int))=false:=by simp
   have HI:=zHd hinv;clear hinv hin hle;go_wp2;exact bodyPost_ret (v := .tuple #[u2,u3]) (by simp[results,Tryz.results74,go_sem]) rfl ⟨_,_,rfl,HI.out⟩
end
end Go.Proofs.YtaogepcaoogpgaaGreatDoor
