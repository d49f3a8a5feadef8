/- W37 WA6 WA8 WA9 WB1 -/
import Derived.Test.YtaogepcaoogpgaaGreatDoorTie
import Derived.Test.YtaogepcaoogpgaaGreatDoorCards
import Derived.Deep.DeepHandedRow
import Derived.Test.YtaogepcaoogpgaaGreatDoorX27
set_option linter.unusedVariables false
set_option linter.unusedSimpArgs false
set_option maxRecDepth 100000
set_option maxHeartbeats 16000000
namespace Go.Proofs.YtaogepcaoogpgaaGreatDoor
open Go.ChangeShapes Go.WideShapes Go.ChangeAt Go.RowKit Go.Lib
theorem own:ownKnob Tryz.prog.godebug=none:=by kernel_rfl
def putCells (cs:Array Value):Obj→Obj
 | .cells _ t frozen => .cells cs t frozen
 | o=>o
mutual
def zul:DataW Unit→List Value
 | .lit (.int k n)=>[.int k n]
 | .agg parts=>zwL parts
 | _=>[]
def zwL:List (DataW Unit)→List Value
 | []=>[]
 | d::r=>zul d++zwL r
end
noncomputable def laidWorld (os:Os):World :=
 { World.holding Tryz.prog os ⟨#[],#[],[]⟩ with heap:=((World.holding Tryz.prog os ⟨#[],#[],[]⟩).heap.modify 3 (putCells (zul Rows.laid_unicode_utf8_first).toArray)).modify 4 (putCells (zul Rows.laid_unicode_utf8_acceptRanges).toArray) }
theorem zjG {H:Type}{enc:TypeId × Value→H}{P:Program}{f:Func}{s:ChangeSpec}{apart fresh handsOn:Bool}{W W':World}{args:Array Value}{v:Value}{ds gs:List (DataW H)}{before pa pv:List MemPlace}
  (hW:DataW.Whole enc P f.params.toList s.vars apart W args.toList ds gs before)
  (hres:∀ (b:Nat) (sp:Nat→Bool) (hd:Bool),DataW.TrodAll enc P W' b sp hd f.resultTypes.toList (v.resultList f.resultTypes.size) (s.fn H (ds++gs)).results [])
  (hargs:DataW.TrodAll enc P W' 0 (fun b=>decide (b<W.heap.size)) true f.params.toList args.toList (s.fn H (ds++gs)).args pa)
  (hvars:DataW.TrodVars enc P W' (fun b=>decide (b<W.heap.size)) s.vars (s.fn H (ds++gs)).vars pv)
  (hb:Below W.heap.size W W'):s.post enc P f apart fresh handsOn false W args v W' :=
 ⟨ds,gs,before,[],pa,pv,hW,hres _ _ _,hargs,hvars,hb.frame _,fun h=>by cases h⟩
open Go.ChangeShapes Go.WideShapes Go.ChangeAt Go.RowKit Go.Lib
theorem zgL {H:Type}{enc:TypeId × Value→H}{W W':World}{t:TypeId}{v:Value}{d:DataW H}{p:List MemPlace}(hr:Tryz.prog.readableRec t=true)(hrow:t<Tryz.prog.types.size)
  (h:DataW.Trod enc Tryz.prog W 0 (fun _=>true) true t v d p) (hb:Below W.heap.size W W') (hlt:∀ x∈p,x.block<W.heap.size) :
  DataW.Trod enc Tryz.prog W' 0 (fun b=>decide (b<W.heap.size)) true t v d p:=Below.trod (by kernel_rfl) hr hrow h hb hlt
open Go.RowKit
def e3 (x:Rat)(h:decide (0≤x)=true):El 3:=⟨.inr x,by show(decide ((3:Int)=1) || ((decide ((3:Int)=2) || decide ((3:Int)=3))&&decide (0≤x)))=true;rw[h];rfl⟩
def K2:Nat→Nat→El 2:=fun _ _=>e2 1 (by decide +kernel)
open Go.RowKit
def TxOk (k:Int)(a:ByteArray):Prop:=(∃ u:El k,FitE u∧a=tx u)∨a=⟨#[]⟩
theorem zre (k:Int):zfU k ⟨#[]⟩:=fun v h=>by
 rcases v with(_|_)|x
 ·exact absurd (show(⟨#[]⟩:ByteArray)=lowS from h) (by decide)
 ·exact absurd (show(⟨#[]⟩:ByteArray)=infS from h) (by decide)
 ·exact absurd (show zay ⟨#[]⟩ x from h) (fun h=>by have h1:=(zhG h).n;revert h1;decide +kernel)
theorem ziM {k:Int}{u:El k}(h:FitE u):(tx u).size≤maxLen:=by
 have:=zlE h;obtain⟨v,hv⟩:=u;rcases v with(_|_)|x
 ·exact zpx
 ·exact zpw
 ·exact zgR (show zay _ x from this)
theorem zbT {w w':World}(o:Option Nat)(h:w.grownBy w' none):w.grownBy w' o:=⟨h.os,h.tape,h.output,h.size,fun i hi _=>h.block i hi (by simp)⟩
theorem zlN {w:World}{b:Nat}{u0 u1 v:Value}{T:TypeId}(h:w.heap[b]? = some (.cells #[u0,u1] T (0,0))):(w.setCell ⟨b,1,none⟩ v).heap[b]? = some (.cells #[u0,v] T (0,0)):=by
 rw[heap_setCell_same w b 1 _ _ v h]
 rfl
def zum (k:Int)(b:Nat)(bad:Bool)(op:(hk:zad k)→El k→El k→El k)(a c:ByteArray)(w:World)(e:Ending)(w':World):Prop :=
 ∃ (S:ByteArray) (bad':Bool),e = .returned (.string S)∧w.grownBy w' (some b)∧w'.heap[b]? = some (.cells #[.int .i64 k,.bool bad'] 45 (0,0))∧TxOk k S ∧
  (bad'=false→bad=false∧∃ (hk:zad k) (u v:El k),FitE u∧FitE v∧a=tx u∧c=tx v∧FitE (op hk u v)∧S=tx (op hk u v))
theorem zES (k:Int){a c:ByteArray}(ha:TxOk k a)(hc:TxOk k c):∃ (S:ByteArray) (E:Int),SOp 70 k a c (.tuple #[.string S,.int .i64 E])∧TxOk k S ∧
  (E=0→∃ (hk:zad k) (u v:El k),FitE u∧FitE v∧a=tx u∧c=tx v∧FitE ((srE k hk).add u v)∧S=tx ((srE k hk).add u v)):=by
 have hn:=zre k;have h0:(⟨#[]⟩:ByteArray).size≤maxLen:=by decide
 rcases zgi k a with⟨_,hva⟩|hna
 ·rcases zgi k c with⟨_,hvc⟩|hnc
  ·obtain⟨u,fu,rfl⟩:∃ u:El k,FitE u∧a=tx u:=by
    rcases ha with h|rfl
    ·exact h
    ·exact absurd hva.has (by rw[hn _ hva.e];simp)
   obtain⟨v,fv,rfl⟩:∃ u:El k,FitE u∧c=tx u:=by
    rcases hc with h|rfl
    ·exact h
    ·exact absurd hvc.has (by rw[hn _ hvc.e];simp)
   have hk:zad k:=(zby fu).kind;have hop:=zqt (zby fu) (zby fv)
   by_cases hf:FitE ((srE k hk).add u v)
   ·refine⟨tx ((srE k hk).add u v),0,?_,.inl ⟨_,hf,rfl⟩,fun _=>⟨hk,u,v,fu,fv,rfl,rfl,hf,rfl⟩⟩
    rw[← zfF (zlE hf)];exact hop
   ·refine⟨⟨#[]⟩,2,?_,.inr rfl,fun h=>absurd h (by decide)⟩
    rw[← zhw hf];exact hop
  ·have hs:c=⟨#[]⟩:=by
    rcases hc with⟨u,fu,rfl⟩|h
    ·exact absurd (zby fu).has (by rw[hnc _ (zby fu).e];simp)
    ·exact h
   subst hs
   obtain⟨u,fu,rfl⟩:∃ u:El k,FitE u∧a=tx u:=by
    rcases ha with h|rfl
    ·exact h
    ·exact absurd hva.has (by rw[hn _ hva.e];simp)
   exact⟨_,1,zqs (ziM fu) h0 (.inr hn),.inr rfl,fun h=>absurd h (by decide)⟩
 ·have hs:a=⟨#[]⟩:=by
   rcases ha with⟨u,fu,rfl⟩|h
   ·exact absurd (zby fu).has (by rw[hna _ (zby fu).e];simp)
   ·exact h
  subst hs
  have hcs:c.size≤maxLen:=by
   rcases hc with⟨u,fu,rfl⟩|rfl
   ·exact ziM fu
   ·exact h0
  exact⟨_,1,zqs h0 hcs (.inl hn),.inr rfl,fun h=>absurd h (by decide)⟩
theorem zun (k:Int)(b:Nat)(bad:Bool)(a c:ByteArray)(w:World)(hb:w.heap[b]? = some (.cells #[.int .i64 k,.bool bad] 45 (0,0)))(ha:TxOk k a)(hc:TxOk k c) :
  Calls Tryz.prog 38 #[.pointer (some ⟨b,0,none⟩),.string a,.string c] w (zum k b bad (fun hk=>(srE k hk).add) a c w):=by
 obtain⟨S,E,hop,hS,hE⟩:=zES k ha hc;have HOP:=zHd hop;have HS:=zHd hS;have HE:=zHd hE;have HB:=zHd hb;have d0:=cell_of_row w b 0 _ _ (0,0) hb;have d1:=cell_of_row w b 1 _ _ (0,0) hb;have z1:=frozen_of_row w b 1 _ _ hb;have z0:=frozen_of_row w b 0 _ _ hb;clear hop hS hE hb ha hc;go_enter Tryz.func38,Tryz.ntmps38;go_wp2_with fail;refine(HOP.out w).mono ?_;rintro e w1 ⟨rfl,hg1⟩;have e0:=hg1.cell d0 (by simp);have e1:=hg1.cell d1 (by simp);have hb1:=(hg1.block b (Array.getElem?_eq_some_iff.1 HB.out).1 (by simp)).trans HB.out;have y1:=frozen_of_row w1 b 1 _ _ hb1;have HB1:=zHd hb1;have HG:=zHd hg1;clear hb1 hg1 d0 d1 z0 z1;go_wp2_with fail
 ·exact bodyPost_ret (v := .string S) (by simp[results,Tryz.results38,go_sem]) rfl ⟨S,true,rfl,zaa (zbT (some b) HG.out) (zac _ _ _),(zlN HB1.out),HS.out,fun h=>absurd h (by decide)⟩
 ·exact bodyPost_ret (v := .string S) (by simp[results,Tryz.results38,go_sem]) rfl ⟨S,E != 0,rfl,zaa (zbT (some b) HG.out) (zac _ _ _),(zlN HB1.out),HS.out,fun h=>⟨by first|assumption|simp_all,HE.out (by simpa using h)⟩⟩
theorem zCk (k:Int){a c:ByteArray}(ha:TxOk k a)(hc:TxOk k c):∃ (S:ByteArray) (E:Int),SOp 67 k a c (.tuple #[.string S,.int .i64 E])∧TxOk k S ∧
  (E=0→∃ (hk:zad k) (u v:El k),FitE u∧FitE v∧a=tx u∧c=tx v∧FitE ((srE k hk).mul u v)∧S=tx ((srE k hk).mul u v)):=by
 have hn:=zre k;have h0:(⟨#[]⟩:ByteArray).size≤maxLen:=by decide
 rcases zgi k a with⟨_,hva⟩|hna
 ·rcases zgi k c with⟨_,hvc⟩|hnc
  ·obtain⟨u,fu,rfl⟩:∃ u:El k,FitE u∧a=tx u:=by
    rcases ha with h|rfl
    ·exact h
    ·exact absurd hva.has (by rw[hn _ hva.e];simp)
   obtain⟨v,fv,rfl⟩:∃ u:El k,FitE u∧c=tx u:=by
    rcases hc with h|rfl
    ·exact h
    ·exact absurd hvc.has (by rw[hn _ hvc.e];simp)
   have hk:zad k:=(zby fu).kind;have hop:=znV (zby fu) (zby fv)
   by_cases hf:FitE ((srE k hk).mul u v)
   ·refine⟨tx ((srE k hk).mul u v),0,?_,.inl ⟨_,hf,rfl⟩,fun _=>⟨hk,u,v,fu,fv,rfl,rfl,hf,rfl⟩⟩
    rw[← zfF (zlE hf)];exact hop
   ·refine⟨⟨#[]⟩,2,?_,.inr rfl,fun h=>absurd h (by decide)⟩
    rw[← zhw hf];exact hop
  ·have hs:c=⟨#[]⟩:=by
    rcases hc with⟨u,fu,rfl⟩|h
    ·exact absurd (zby fu).has (by rw[hnc _ (zby fu).e];simp)
    ·exact h
   subst hs
   obtain⟨u,fu,rfl⟩:∃ u:El k,FitE u∧a=tx u:=by
    rcases ha with h|rfl
    ·exact h
    ·exact absurd hva.has (by rw[hn _ hva.e];simp)
   exact⟨_,1,znU (ziM fu) h0 (.inr hn),.inr rfl,fun h=>absurd h (by decide)⟩
 ·have hs:a=⟨#[]⟩:=by
   rcases ha with⟨u,fu,rfl⟩|h
   ·exact absurd (zby fu).has (by rw[hna _ (zby fu).e];simp)
   ·exact h
  subst hs
  have hcs:c.size≤maxLen:=by
   rcases hc with⟨u,fu,rfl⟩|rfl
   ·exact ziM fu
   ·exact h0
  exact⟨_,1,znU h0 hcs (.inl hn),.inr rfl,fun h=>absurd h (by decide)⟩
theorem zgx (k:Int)(b:Nat)(bad:Bool)(a c:ByteArray)(w:World)(hb:w.heap[b]? = some (.cells #[.int .i64 k,.bool bad] 45 (0,0)))(ha:TxOk k a)(hc:TxOk k c) :
  Calls Tryz.prog 35 #[.pointer (some ⟨b,0,none⟩),.string a,.string c] w (zum k b bad (fun hk=>(srE k hk).mul) a c w):=by
 obtain⟨S,E,hop,hS,hE⟩:=zCk k ha hc;have HOP:=zHd hop;have HS:=zHd hS;have HE:=zHd hE;have HB:=zHd hb;have d0:=cell_of_row w b 0 _ _ (0,0) hb;have d1:=cell_of_row w b 1 _ _ (0,0) hb;have z1:=frozen_of_row w b 1 _ _ hb;have z0:=frozen_of_row w b 0 _ _ hb;clear hop hS hE hb ha hc;go_enter Tryz.func35,Tryz.ntmps35;go_wp2_with fail;refine(HOP.out w).mono ?_;rintro e w1 ⟨rfl,hg1⟩;have e0:=hg1.cell d0 (by simp);have e1:=hg1.cell d1 (by simp);have hb1:=(hg1.block b (Array.getElem?_eq_some_iff.1 HB.out).1 (by simp)).trans HB.out;have y1:=frozen_of_row w1 b 1 _ _ hb1;have HB1:=zHd hb1;have HG:=zHd hg1;clear hb1 hg1 d0 d1 z0 z1;go_wp2_with fail
 ·exact bodyPost_ret (v := .string S) (by simp[results,Tryz.results35,go_sem]) rfl ⟨S,true,rfl,zaa (zbT (some b) HG.out) (zac _ _ _),(zlN HB1.out),HS.out,fun h=>absurd h (by decide)⟩
 ·exact bodyPost_ret (v := .string S) (by simp[results,Tryz.results35,go_sem]) rfl ⟨S,E != 0,rfl,zaa (zbT (some b) HG.out) (zac _ _ _),(zlN HB1.out),HS.out,fun h=>⟨by first|assumption|simp_all,HE.out (by simpa using h)⟩⟩
open Go.RowKit
theorem zET {α:Type}(S:Sr α)(A:Nat→Nat→α)(n i j:Nat):stM S (fun a b=>A b a) n i j=stM S A n j i:=by
 unfold stM;rw[zdF]
 congr 1
 unfold idm
 by_cases h:i=j
 ·subst h;rfl
 ·rw[if_neg h,if_neg (fun e=>h e.symm)]
theorem zHF {k:Int}(hk:zad k)(l:List zag)(ld:ByteArray){s0 i:Nat}(hs:s0<l.length):frE hk l ld s0 i=(srE k hk).mul (vE hk ld) (stM (srE k hk) (arcM hk l) l.length s0 i):=by
 unfold frE xsol
 have e:∀ m,m<l.length→(srE k hk).mul (stM (srE k hk) (fun x y=>arcM hk l y x) l.length i m) (leadM hk ld s0 m)=(srE k hk).mul (idm (srE k hk) s0 m) ((srE k hk).mul (vE hk ld) (stM (srE k hk) (arcM hk l) l.length m i)):=fun m _=>by
  rw[zET];unfold leadM idm
  by_cases h:m=s0
  ·subst h
   rw[if_pos rfl,if_pos rfl,(srE k hk).one_mul,(srE k hk).mul_comm]
  ·rw[if_neg h,if_neg (fun e=>h e.symm),(srE k hk).mul_zero,(srE k hk).zero_mul]
 rw[zal (srE k hk) e];exact zhf (srE k hk) (fun m=>(srE k hk).mul (vE hk ld) (stM (srE k hk) (arcM hk l) l.length m i)) hs
theorem zGH {k:Int}(hk:zad k)(l:List zag)(ld:ByteArray){s0:Nat}(hs:s0<l.length):totE hk l ld s0=sm (srE k hk) l.length (fun j=>(srE k hk).mul (frE hk l ld s0 j) (finM hk l j)):=by
 unfold totE toE xsol;rw[zGN];exact zal (srE k hk) (fun m _=>by rw[zHF hk l ld hs])
open Go.RowKit
theorem zGI {w:World}{b o:Nat}{v:Value}(h:w.cell? ⟨b,o,none⟩=some v):b<w.heap.size:=by
 by_cases hb:b<w.heap.size
 ·exact hb
 ·exfalso
  unfold World.cell? at h;simp[Array.getElem?_eq_none (by omega:w.heap.size≤b)] at h
theorem ziq {w w':World}{b:Nat}(h:w.grownBy w' (some b))(hb:w.heap.size≤b):w.grownBy w' none:=⟨h.os,h.tape,h.output,h.size,fun i hi _=>h.block i hi (by simp;omega)⟩
theorem zHG {k:Int}(hk:zad k){l:List zag}{ld:ByteArray}{s0:Nat}(h:zeL hk l ld s0):∀ i,i<l.length→FitE (frE hk l ld s0 i):=fun i hi=>by
 have h1:=zgK hk (Nat.le_refl _) h.2 i hi 0 (by omega);rw[zdq _ _ _ _ _ (Nat.le_refl _) i 0 hi] at h1;exact h1
theorem zuo {w:World}{v:Value}{m:Mach}(hv:zbX w v m)(hf:zer m):Calls Tryz.prog 9 #[v] w (zab (.bool true) w):=by
 obtain⟨u,rfl,hst⟩:=hv;obtain⟨A,cs,us,rfl,hsr⟩:=zgY hst;have hal:=zGA w (.cells #[.int .i64 m.kind,.int .i64 m.start,.string m.lead,.slice A m.states.length cs] 31) none;have HMV:=zHd (show zbX (w.alloc (.cells #[.int .i64 m.kind,.int .i64 m.start,.string m.lead,.slice A m.states.length cs] 31)) (.agg #[.int .i64 m.kind,.int .i64 m.start,.string m.lead,.slice A m.states.length cs]) m from⟨_,rfl,hst.below (zbm hal)⟩);have hbx:=MBox.new w m.kind m.start m.lead A m.states.length cs;have HBX:=zHd hbx;obtain⟨x0,x1,x2,x3⟩:=hbx;have hsr1:=hsr.grown hal;have HW:=zHd hal;have HS:=zHd hsr1;have HF:=zHd hf;clear hal hsr hsr1 hst hf;go_enter Tryz.func9,Tryz.ntmps9
 by_cases h9:m.states.length≤9
 rotate_left 1
 ·have t1:decide ((9:Int)<(m.states.length:Int))=true:=by simp;omega
  have t2:(9:Int)<(m.states.length:Int):=by omega
  go_wp2_with fail;refine(zav _).mono ?_;rintro e w1 ⟨rfl,hg1⟩;have HG1:=zHd (zaa HW.out hg1);clear hg1;go_wp2;go_ret;exact⟨rfl,HG1.out⟩
 ·have t1:decide ((9:Int)<(m.states.length:Int))=false:=by simp;omega
  have t2:¬ (9:Int)<(m.states.length:Int):=by omega
  go_wp2_with fail;refine(zjA HMV.out HF.out).mono ?_;rintro e w1 ⟨rfl,hg1⟩;generalize hW0:w.alloc (.cells #[.int .i64 m.kind,.int .i64 m.start,.string m.lead,.slice A m.states.length cs] 31)=W0 at *;obtain⟨y0,y1,y2,y3⟩:=HBX.out.grown hg1;have HB1:=zHd (HBX.out.grown hg1);have HM1:=zHd (HMV.out.below (zbm hg1));have HS1:=zHd (HS.out.grown hg1);have HW1:=zHd (zaa HW.out hg1);clear hg1 hW0 x0 x1 x2 x3 HBX HMV HS HW;cases hB:validB m
  ·clear hB
   go_wp2_with fail;refine(zav _).mono ?_;rintro e w2 ⟨rfl,hg2⟩;have HG2:=zHd (zaa HW1.out hg2);clear hg2;go_wp2;go_ret;exact⟨rfl,HG2.out⟩
  ·have hck:checkC m=0:=by
    unfold checkC;rw[if_pos hB,if_neg (by omega)]
   have HV:=zHd hB;have HCK:=zHd hck;clear hB hck;go_wp2_with fail;refine(zBO HM1.out HF.out).mono ?_;intro e w2 hq;rcases hq with⟨hn,_⟩|⟨_,hk,hg2,h2⟩
   ·exact absurd HCK.out hn
   have HK:=zHd hk;have HB2:=zHd (HB1.out.grown hg2);have HM2:=zHd (HM1.out.below (zbm hg2));have HS2:=zHd (HS1.out.grown hg2);have HW2:=zHd (zaa HW1.out hg2);obtain⟨x0,x1,x2,x3⟩:=HB1.out.grown hg2;clear hg2 y0 y1 y2 y3 HB1 HM1 HS1 HW1
   have hto:∃ tv te,e = .returned (.tuple #[tv,.int .i64 te])∧(te=0→RowR w2 tv m.states.length (txs (toE hk m.states))∧zfv hk m.states):=by
    rcases h2 with⟨hp,tv,rfl,hr⟩|⟨_,rfl⟩
    ·exact⟨tv,0,rfl,fun _=>⟨hr,hp⟩⟩
    ·exact⟨_,2,rfl,fun h=>absurd h (by decide)⟩
   obtain⟨tv,te,rfl,hte⟩:=hto;have HT:=zHd hte;clear hte h2;go_wp2_with fail;refine(ztZ HM2.out HF.out).mono ?_;intro e w3 hq;rcases hq with⟨hn,_⟩|⟨_,hk',hg3,h3⟩
   ·exact absurd HCK.out hn
   have HB3:=zHd (HB2.out.grown hg3);have HM3:=zHd (HM2.out.below (zbm hg3));have HS3:=zHd (HS2.out.grown hg3);have HW3:=zHd (zaa HW2.out hg3);obtain⟨y0,y1,y2,y3⟩:=HB2.out.grown hg3;have HG3:=zHd hg3;clear hg3 x0 x1 x2 x3 HB2 HM2 HS2 HW2
   have hfr:∃ fv fe,e = .returned (.tuple #[fv,.int .i64 fe])∧(fe=0→RowR w3 fv m.states.length (txs (frE hk m.states m.lead m.start.toNat))∧zeL hk m.states m.lead m.start.toNat):=by
    rcases h3 with⟨hp,tv,rfl,hr⟩|⟨_,rfl⟩
    ·exact⟨tv,0,rfl,fun _=>⟨hr,hp⟩⟩
    ·exact⟨_,2,rfl,fun h=>absurd h (by decide)⟩
   obtain⟨fv,fe,rfl,hfe⟩:=hfr;have HFR:=zHd hfe;clear hfe h3;go_wp2_with fail;refine(zrb HM3.out HF.out).mono ?_;intro e w4 hq;rcases hq with⟨hn,_⟩|⟨_,hk'',hg4,h4⟩
   ·exact absurd HCK.out hn
   have HB4:=zHd (HB3.out.grown hg4);have HS4:=zHd (HS3.out.grown hg4);have HW4:=zHd (zaa HW3.out hg4);obtain⟨x0,x1,x2,x3⟩:=HB3.out.grown hg4;have HG4:=zHd hg4;clear hg4 y0 y1 y2 y3 HB3 HM3 HS3 HW3;have hwf:=zfQ HV.out
   have htt:∃ T ee,e = .returned (.tuple #[.string T,.int .i64 ee])∧(ee=0→T=tx (totE hk m.states m.lead m.start.toNat)∧FitE (totE hk m.states m.lead m.start.toNat)):=by
    rcases h4 with⟨hp,rfl⟩|⟨_,rfl⟩
    ·exact⟨_,0,rfl,fun _=>⟨by rw[zjE hk hwf],by have:=hp.2;rw[zjE hk hwf] at this;exact this⟩⟩
    ·exact⟨_,2,rfl,fun h=>absurd h (by decide)⟩
   obtain⟨T,ee,rfl,hee⟩:=htt;have HTT:=zHd hee;clear hee h4
   by_cases c1:te=0
   rotate_left 1
   ·have u1:(te != 0)=true:=by simpa using c1
    go_wp2_with fail;refine(zav _).mono ?_;rintro e w5 ⟨rfl,hg5⟩;have HG5:=zHd (zaa HW4.out hg5);clear hg5;go_wp2;go_ret;exact⟨rfl,HG5.out⟩
   ·subst c1
    by_cases c2:fe=0
    rotate_left 1
    ·have u1:(fe != 0)=true:=by simpa using c2
     go_wp2_with fail;refine(zav _).mono ?_;rintro e w5 ⟨rfl,hg5⟩;have HG5:=zHd (zaa HW4.out hg5);clear hg5;go_wp2;go_ret;exact⟨rfl,HG5.out⟩
    ·subst c2
     by_cases c3:ee=0
     rotate_left 1
     ·have u1:(ee != 0)=true:=by simpa using c3
      go_wp2_with fail;refine(zav _).mono ?_;rintro e w5 ⟨rfl,hg5⟩;have HG5:=zHd (zaa HW4.out hg5);clear hg5;go_wp2;go_ret;exact⟨rfl,HG5.out⟩
     ·subst c3
      obtain⟨rfl,hTf⟩:=HTT.out rfl;have HRT:=zHd (((HT.out rfl).1.grown HG3.out).grown HG4.out);have HRF:=zHd ((HFR.out rfl).1.grown HG4.out);have hsh1:∃ At ct,tv = .slice At m.states.length ct:=by obtain⟨At,ct,e,_⟩:=HRT.out;exact⟨At,ct,e⟩
      have hsh2:∃ At ct,fv = .slice At m.states.length ct:=by obtain⟨At,ct,e,_⟩:=HRF.out;exact⟨At,ct,e⟩
      obtain⟨At,ct,rfl⟩:=hsh1;obtain⟨Af,cf,rfl⟩:=hsh2;have n1:((m.states.length:Int) != (m.states.length:Int))=false:=by simp
      have HFROM:=zHd (HFR.out rfl).2;have HTO:=zHd (HT.out rfl).2;clear HTT HT HFR HG3 HG4;have hgA:=zGA w4 (.cells #[.int .i64 m.kind,.bool false] 45) none;obtain⟨z0,z1,z2,z3⟩:=HB4.out.grown hgA;have hsb:=zau w4 (.cells #[.int .i64 m.kind,.bool false] 45)
      have hlt:w.heap.size<w4.heap.size:=(HW4.out.size |> fun h=>by
       have:=x0;exact(zGI this))
      have HSB:=zHd hsb;have HGA:=zHd hgA;clear hsb hgA;go_wp2_with fail;refine(zqr _ _).mono ?_;rintro e w5 ⟨rfl,hg5⟩;have hsb5:=(hg5.block _ (Array.getElem?_eq_some_iff.1 HSB.out).1 (by simp)).trans HSB.out;obtain⟨y0,y1,y2,y3⟩:=(HB4.out.grown HGA.out).grown hg5;have HB5:=zHd ((HB4.out.grown HGA.out).grown hg5);have HS5:=zHd ((HS4.out.grown HGA.out).grown hg5);have HT5:=zHd ((HRT.out.grown HGA.out).grown hg5);have HF5:=zHd ((HRF.out.grown HGA.out).grown hg5);have HW5:=zHd (zaa (zaa HW4.out HGA.out) hg5);have HSB5:=zHd hsb5;have HLT:=zHd (zAI hlt (show w4.heap.size<w5.heap.size by have h1:=HGA.out.size;have h2:=hg5.size;have h3:=(Array.getElem?_eq_some_iff.1 hsb5).1;omega));have H45:=zHd (zaa HGA.out hg5);have HFIT:=zHd (zHG hk HFROM.out);clear x0 x1 x2 x3 z0 z1 z2 z3 hg5 hsb5 hlt HGA HSB HB4 HS5 HT5 HF5 HW4;generalize hsz:w4.heap.size=sb at *;have HSZ:=zHd hsz;clear hsz;generalize hgb:w.heap.size=gb at *;have HGB:=zHd hgb;clear hgb;go_wp2_with fail;obtain⟨s0,hs0,hs1⟩:=(zcD HV.out).start;have hs2:m.start.toNat=s0:=by omega
      have HS0:=zHd (zAI hs0 (zAI hs1 hs2));have HTF:=zHd hTf;have H9:=zHd h9;clear hs0 hs1 hs2 hTf y0 y1 y2 y3
      go_loopw [10,11] (fun uv iv wr=>∃ (i:Nat) (u:ByteArray) (bad:Bool),i≤m.states.length∧uv = .string u∧iv = .int .i64 (i:Int)∧w5.grownBy wr (some sb)∧wr.heap[sb]? = some (.cells #[.int .i64 m.kind,.bool bad] 45 (0,0))∧TxOk m.kind u ∧
       (bad=false→u=tx (sm (srE m.kind hk) i (fun j=>(srE m.kind hk).mul (frE hk m.states m.lead m.start.toNat j) (finM hk m.states j)))∧FitE (sm (srE m.kind hk) i (fun j=>(srE m.kind hk).mul (frE hk m.states m.lead m.start.toNat j) (finM hk m.states j))))) (fun _ iv _=>m.states.length - (intOf iv).toNat)
      case atStart=>exact⟨0,_,false,Nat.zero_le _,rfl,rfl,World.grownBy.refl _ _,HSB5.out,.inl ⟨(srE m.kind hk).zero,zcJ hk,(zeY hk).symm⟩,fun _=>⟨(zeY hk).symm,zcJ hk⟩⟩
      case round =>
       obtain⟨i,u,bad,hi,rfl,rfl,hg,hsb,hu,hbad⟩:=hrel;have y0:=hg.cell HB5.out.1 (by have:=HLT.out;simp;omega);have y1:=hg.cell HB5.out.2.1 (by have:=HLT.out;simp;omega);have y2:=hg.cell HB5.out.2.2.1 (by have:=HLT.out;simp;omega);have y3:=hg.cell HB5.out.2.2.2 (by have:=HLT.out;simp;omega)
       by_cases hin:i<m.states.length
       ·have u1:decide (i<m.states.length)=true:=by simpa using hin
        have u1':decide ((i:Int)<(m.states.length:Int))=true:=by simpa using hin
        have hit:(i:Int)<(m.states.length:Int):=by omega
        have hi0:(0:Int)≤(i:Int):=by omega
        have nw:IntKind.i64.wrap ((i:Int)+1)=(i:Int)+1:=by have:=H9.out;rw[IntKind.wrap_i64];omega
        have hg4:=zaa (zbT (some sb) H45.out) hg;obtain⟨ad,s,uu,rfl,hbl,hls,hus,hsa,hsl⟩:=HS4.out.at_ i hin;rw[HSZ.out] at hbl;have q0:wr.cell? (ad.add (i * 2))=some (.string s.fin):=hg4.cell hsa.c0 (by rw[zaj];simp;omega);obtain⟨Af',cf',ef,_,_,hf3⟩:=HRF.out;obtain⟨rfl,rfl⟩:Af'=Af∧cf'=cf:=by simp at ef;exact⟨ef.1.symm,ef.2.symm⟩
        obtain⟨fd,rfl,hfb,hfc⟩:=hf3 i hin;rw[HSZ.out] at hfb;have q1:wr.cell? (fd.add i)=some (txs (frE hk m.states m.lead m.start.toNat) i):=hg4.cell hfc (by rw[zaj];simp;omega);unfold txs at q1;have hfin:finM hk m.states i=finE hk s.fin:=by unfold finM;rw[zgs hls]
        have hfo:s.fin=⟨#[]⟩∨∃ v,Val m.kind s.fin v:=by have:=(zcD HV.out).fins i hin;rw[zgs hls] at this;exact this
        have hne1:¬ ad.block=sb:=by omega
        have hne2:¬ fd.block=sb:=by omega
        have hne3:¬ gb=sb:=by have:=HLT.out;omega
        have HI:=zHd (zAI hin (zAI hg (zAI hsb (zAI hu hbad))));have HFI:=zHd hfin;have HNE:=zHd (zAI hne1 (zAI hne2 hne3));clear hi hin hg hsb hu hbad hg4 hbl hls hus hsa hsl hfb hfc hfin hf3 ef
        by_cases hfe:s.fin=⟨#[]⟩
        ·have HFE:=zHd hfe
         rw[hfe] at q0;clear hfe hfo;go_wp2_with fail
         have e:sm (srE m.kind hk) (i+1) (fun j=>(srE m.kind hk).mul (frE hk m.states m.lead m.start.toNat j) (finM hk m.states j))=sm (srE m.kind hk) i (fun j=>(srE m.kind hk).mul (frE hk m.states m.lead m.start.toNat j) (finM hk m.states j)):=by
          show(srE m.kind hk).add _ ((srE m.kind hk).mul _ (finM hk m.states i))=_;rw[HFI.out,show finE hk s.fin=(srE m.kind hk).zero by unfold finE;rw[if_pos HFE.out],(srE m.kind hk).mul_zero,(srE m.kind hk).add_zero]
         refine⟨⟨i+1,u,bad,HI.out.1,rfl,by simp,HI.out.2.1,HI.out.2.2.1,HI.out.2.2.2.1,fun hb => ?_⟩,by have:=HI.out.1;simp[intOf];omega⟩;rw[e];exact HI.out.2.2.2.2 hb
        ·have hfv:=hfo.resolve_left hfe
         obtain⟨ev,fv⟩:=zic hk hfv;have hF:finM hk m.states i=vE hk s.fin:=by rw[HFI.out];unfold finE;rw[if_neg hfe]
         have f1:(s.fin.toList == [])=false:=by
          rw[Bool.eq_false_iff];intro h;have h2:=eq_of_beq h;rw[Lib.toList_data] at h2;exact hfe (ByteArray.ext (Array.toList_inj.1 (by rw[h2])))
         have HEV:=zHd ev;have HFVV:=zHd fv;have HFF:=zHd hF;clear hfe hfo hfv ev fv hF;have d0:wr.drew.cell? (ad.add (i * 2))=some (.string s.fin):=q0;have d1:wr.drew.cell? (fd.add i)=some (.string (tx (frE hk m.states m.lead m.start.toNat i))):=q1;have d3:wr.drew.cell? ⟨gb,3,none⟩=some (.slice (some ad) m.states.length cs):=y3;have hti:=zgx m.kind sb bad (tx (frE hk m.states m.lead m.start.toNat i)) s.fin wr.drew HI.out.2.2.1 (.inl ⟨_,HFIT.out i HI.out.1,rfl⟩) (.inl ⟨_,HFVV.out,HEV.out⟩);have HTI:=zHd hti;clear hti;go_upto_region 16 with(fail)
         go_region_held2 (fun W'=>W'.cell? (ad.add (i * 2))=some (.string s.fin)∧W'.cell? (fd.add i)=some (.string (tx (frE hk m.states m.lead m.start.toNat i)))∧W'.cell? ⟨gb,3,none⟩=some (.slice (some ad) m.states.length cs)) (first|exact⟨d0,d1,d3⟩|exact S6|exact S7|go_keep)
          (first
          | (go_at_call 35;refine HTI.out.mono ?_;rintro e w6 ⟨S1,b1,rfl,hg6,hb6,hk6,hv6⟩;have S6:(fun W':World=>W'.cell? (ad.add (i * 2))=some (.string s.fin)∧W'.cell? (fd.add i)=some (.string (tx (frE hk m.states m.lead m.start.toNat i)))∧W'.cell? ⟨gb,3,none⟩=some (.slice (some ad) m.states.length cs)) w6:=⟨hg6.cell d0 (by rw[zaj];have:=HNE.out;simp;omega),hg6.cell d1 (by rw[zaj];have:=HNE.out;simp;omega),hg6.cell d3 (by have:=HNE.out;simp;omega)⟩;have H6:=zHd (zAI hg6 (zAI hb6 (zAI hk6 hv6)));clear hg6 hb6 hk6 hv6)
          | (go_at_call 38;refine(zun m.kind sb b1 u S1 w6 H6.out.2.1 HI.out.2.2.2.1 H6.out.2.2.1).mono ?_;rintro e w7 ⟨S2,b2,rfl,hg7,hb7,hk7,hv7⟩;have S7:(fun W':World=>W'.cell? (ad.add (i * 2))=some (.string s.fin)∧W'.cell? (fd.add i)=some (.string (tx (frE hk m.states m.lead m.start.toNat i)))∧W'.cell? ⟨gb,3,none⟩=some (.slice (some ad) m.states.length cs)) w7:=⟨hg7.cell S6.1 (by rw[zaj];have:=HNE.out;simp;omega),hg7.cell S6.2.1 (by rw[zaj];have:=HNE.out;simp;omega),hg7.cell S6.2.2 (by have:=HNE.out;simp;omega)⟩;have H7:=zHd (zAI hg7 (zAI hb7 (zAI hk7 hv7)));clear hg7 hb7 hk7 hv7))
         all_goals
          go_wp2_with fail;refine⟨⟨i+1,S2,b2,HI.out.1,rfl,by simp,zaa (zaa (zaa HI.out.2.1 (zae wr (some sb))) H6.out.1) H7.out.1,H7.out.2.1,H7.out.2.2.1,fun hb => ?_⟩,by have:=HI.out.1;simp[intOf];omega⟩;obtain⟨hb1,hk1,u1,v1,fu1,fv1,eu,ev,ff,e1⟩:=H7.out.2.2.2 hb;obtain⟨hb0,hk2,u2,v2,fu2,fv2,eu2,ev2,ff2,e2⟩:=H6.out.2.2.2 hb1;obtain⟨hu,hf⟩:=HI.out.2.2.2.2 hb0;have i1:=zdl fu1 hf (eu.symm.trans hu);have i2:=zdl fu2 (HFIT.out i HI.out.1) eu2.symm;have i3:=zdl fv2 HFVV.out (ev2.symm.trans HEV.out);have i4:=zdl fv1 ff2 (ev.symm.trans e2)
          have e:sm (srE m.kind hk) (i+1) (fun j=>(srE m.kind hk).mul (frE hk m.states m.lead m.start.toNat j) (finM hk m.states j))=(srE m.kind hk1).add u1 v1:=by
           show(srE m.kind hk).add (sm (srE m.kind hk) i (fun j=>(srE m.kind hk).mul (frE hk m.states m.lead m.start.toNat j) (finM hk m.states j))) ((srE m.kind hk).mul (frE hk m.states m.lead m.start.toNat i) (finM hk m.states i))=_;rw[i1,i4,i2,i3,HFF.out]
          rw[e];exact⟨e1,ff⟩
       ·obtain rfl:i=m.states.length:=by omega
        have u1:decide (m.states.length<m.states.length)=false:=by simp
        have u1':decide ((m.states.length:Int)<(m.states.length:Int))=false:=by simp
        have hg4:=zaa (zbT (some sb) H45.out) hg;obtain⟨At',ct',ef,_,_,hf3⟩:=HRT.out;obtain⟨rfl,rfl⟩:At'=At∧ct'=ct:=by simp at ef;exact⟨ef.1.symm,ef.2.symm⟩
        obtain⟨fd,rfl,hfb,hfc⟩:=hf3 s0 HS0.out.2.1;rw[HSZ.out] at hfb;have q1:wr.cell? (fd.add s0)=some (txs (toE hk m.states) s0):=hg4.cell hfc (by rw[zaj];simp;omega);unfold txs at q1;have hne2:¬ fd.block=sb:=by omega
        have hne3:¬ gb=sb:=by have:=HLT.out;omega
        have hs0i:(s0:Int)<(m.states.length:Int):=by have:=HS0.out.2.1;omega
        have hs00:(0:Int)≤(s0:Int):=by omega
        have HI:=zHd (zAI hg (zAI hsb (zAI hu hbad)));have HNE:=zHd (zAI hne2 hne3);have hto:=zwE hk HTO.out HS0.out.2.1;obtain⟨ev,fv⟩:=zic hk (zcD HV.out).lead;have d1:wr.drew.cell? (fd.add s0)=some (.string (tx (toE hk m.states s0))):=q1;have d2:wr.drew.cell? ⟨gb,2,none⟩=some (.string m.lead):=y2;have d3:wr.drew.cell? ⟨gb,1,none⟩=some (.int .i64 (s0:Int)):=by rw[← HS0.out.1];exact y1
        have hti:=zgx m.kind sb bad m.lead (tx (toE hk m.states s0)) wr.drew hsb (.inl ⟨_,fv,ev⟩) (.inl ⟨_,hto,rfl⟩);have HTI:=zHd hti;have HEV:=zHd ev;have HFVV:=zHd fv;have HTOF:=zHd hto;clear hi hin hg hsb hu hbad hg4 hfb hfc hf3 ef hti ev fv hto y0 y1 y2 q1;go_upto_region 17 with(fail)
        go_region_held2 (fun W'=>W'.cell? (fd.add s0)=some (.string (tx (toE hk m.states s0)))∧W'.cell? ⟨gb,2,none⟩=some (.string m.lead)∧W'.cell? ⟨gb,1,none⟩=some (.int .i64 (s0:Int))) (first|exact⟨d1,d2,d3⟩|exact S6|go_keep)
         (first
         | (go_at_call 35;refine HTI.out.mono ?_;rintro e w6 ⟨S1,b1,rfl,hg6,hb6,hk6,hv6⟩;have S6:(fun W':World=>W'.cell? (fd.add s0)=some (.string (tx (toE hk m.states s0)))∧W'.cell? ⟨gb,2,none⟩=some (.string m.lead)∧W'.cell? ⟨gb,1,none⟩=some (.int .i64 (s0:Int))) w6:=⟨hg6.cell d1 (by rw[zaj];have:=HNE.out;simp;omega),hg6.cell d2 (by have:=HNE.out;simp;omega),hg6.cell d3 (by have:=HNE.out;simp;omega)⟩;have H6:=zHd (zAI hg6 (zAI hb6 (zAI hk6 hv6)));clear hg6 hb6 hk6 hv6))
        all_goals
         have hgW:w5.grownBy w6 (some sb):=zaa (zaa HI.out.1 (zae wr (some sb))) H6.out.1;have hgw:w.grownBy w6 none:=ziq (zaa (zbT (some sb) HW5.out) hgW) (by have:=HLT.out;have:=HGB.out;omega);have p1:=cell_of_row w6 sb 1 _ _ (0,0) H6.out.2.1;have HGW:=zHd hgw;clear hgW hgw;cases b1
         ·obtain⟨hb0,hk2,u2,v2,fu2,fv2,eu2,ev2,ff2,e2⟩:=H6.out.2.2.2 rfl
          obtain⟨hu,hf⟩:=HI.out.2.2.2 hb0;have j2:=zdl fu2 HFVV.out (eu2.symm.trans HEV.out);have j3:=zdl fv2 HTOF.out ev2.symm;have hu':u=tx (totE hk m.states m.lead m.start.toNat):=by rw[hu,← zGH hk m.states m.lead (s0:=m.start.toNat) (by have:=HS0.out.2.2;have:=HS0.out.2.1;omega)]
          have hv':S1=tx (totE hk m.states m.lead m.start.toNat):=by rw[e2,j2,j3];unfold totE;rw[HS0.out.2.2]
          rw[hv',hu'];clear hb0 fu2 fv2 eu2 ev2 ff2 e2 hu hf j2 j3 hu' hv';go_wp2_with fail;refine(zav _).mono ?_;rintro e w7 ⟨rfl,hg7⟩;have HG7:=zHd (zaa HGW.out hg7);clear hg7;go_wp2;go_ret;exact⟨rfl,HG7.out⟩
         ·go_wp2_with fail
          refine(zav _).mono ?_;rintro e w7 ⟨rfl,hg7⟩;have HG7:=zHd (zaa HGW.out hg7);clear hg7;go_wp2;go_ret;exact⟨rfl,HG7.out⟩
end Go.Proofs.YtaogepcaoogpgaaGreatDoor
